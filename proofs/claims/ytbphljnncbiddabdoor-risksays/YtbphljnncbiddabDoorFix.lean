/-
  Package fix by contracts: what each of its functions returns.
-/
import Derived.Test.YtbphljnncbiddabDoorProg
import Derived.Test.YtbphljnncbiddabDoorNum
import Derived.WalkKit
import Derived.ProofKit
import Derived.Below
import Derived.BigQuiet
import Derived.Deep.QuietTactic
import Derived.WalkLawsBesides
import Derived.Outline
namespace Go.Proofs.YtbphljnncbiddabDoor.Fix
open Go.RowKit Go.Proofs.YtbphljnncbiddabDoor.Num

theorem hide {p : Prop} (h : p) : Hid p := h
theorem unhide {p : Prop} (h : Hid p) : p := h

theorem within_any (n lo hi : Int) (w : World) :
    Calls Tryd.prog 47 #[.int .i64 n, .int .i64 lo, .int .i64 hi] w fun e w' => e = .returned (.bool (betw lo n hi)) ∧ w' = w := by
  by_cases h1 : lo ≤ n
  · by_cases h2 : n ≤ hi
    · rw [betw_mk ⟨h1, h2⟩]
      go_enter Tryd.func47, Tryd.ntmps47
      go_wp2
      go_ret
      exact ⟨rfl, rfl⟩
    · rw [betw_no (by omega)]
      go_enter Tryd.func47, Tryd.ntmps47
      go_wp2
      go_ret
      exact ⟨rfl, rfl⟩
  · rw [betw_no (by omega)]
    go_enter Tryd.func47, Tryd.ntmps47
    go_wp2
    go_ret
    exact ⟨rfl, rfl⟩

theorem money_any (n : Int) (w : World) :
    Calls Tryd.prog 44 #[.int .i64 n] w fun e w' => e = .returned (.bool (money n)) ∧ w' = w := by
  go_enter Tryd.func44, Tryd.ntmps44
  go_wp2_with (go_at_call 47; refine (within_any _ _ _ _).mono ?_; rintro e w' ⟨rfl, rfl⟩)
  go_ret
  exact ⟨rfl, rfl⟩

theorem divide_any (n b : Int) (up : Bool) (w : World) (hn : -10000000000000000 ≤ n ∧ n ≤ 10000000000000000) (hb : 1 ≤ b) (hb2 : b ≤ 10000) :
    Calls Tryd.prog 61 #[.int .i64 n, .int .i64 b, .bool up] w fun e w' => e = .returned (.int .i64 (divUp n b up)) ∧ ∃ k, w' = w.drewN k := by
  obtain ⟨n1, n2⟩ := hn
  have ⟨q1, q2⟩ := tdiv_bd (b := b) ⟨n1, n2⟩
  have hz : (b == 0) = false := by simp; omega
  cases up
  · by_cases h : n.tmod b < 0
    · have H := hide (tdiv_down_left hb h)
      go_enter Tryd.func61, Tryd.ntmps61
      go_wp2
      go_quiet (fail)
      go_wp2
      go_ret
      exact ⟨by rw [← unhide H]; rfl, _, rfl⟩
    · have H := hide (tdiv_down_none hb h)
      go_enter Tryd.func61, Tryd.ntmps61
      go_wp2
      go_quiet (fail)
      go_wp2
      go_ret
      exact ⟨by rw [← unhide H]; rfl, _, rfl⟩
  · by_cases h : 0 < n.tmod b
    · have H := hide (tdiv_up_left hb h)
      go_enter Tryd.func61, Tryd.ntmps61
      go_wp2
      go_quiet (fail)
      go_wp2
      go_ret
      exact ⟨by rw [← unhide H]; rfl, _, rfl⟩
    · have H := hide (tdiv_up_none hb h)
      go_enter Tryd.func61, Tryd.ntmps61
      go_wp2
      go_quiet (fail)
      go_wp2
      go_ret
      exact ⟨by rw [← unhide H]; rfl, _, rfl⟩

theorem part_range (n a b : Int) (up : Bool) (w : World) (h : money n = false ∨ betw (-10000) a 10000 = false ∨ betw 1 b 10000 = false) :
    Calls Tryd.prog 48 #[.int .i64 n, .int .i64 a, .int .i64 b, .bool up] w fun e w' => e = .returned (.tuple #[.int .i64 0, .int .i64 3]) ∧ w' = w := by
  cases hm : money n
  · go_enter Tryd.func48, Tryd.ntmps48
    go_wp2_with (go_at_call 44; refine (money_any _ _).mono ?_; rintro e w' ⟨rfl, rfl⟩)
    go_ret2
    exact ⟨rfl, rfl⟩
  · cases ha : betw (-10000) a 10000
    · go_enter Tryd.func48, Tryd.ntmps48
      go_wp2_with (first | (go_at_call 44; refine (money_any _ _).mono ?_; rintro e w' ⟨rfl, rfl⟩) | (go_at_call 47; refine (within_any _ _ _ _).mono ?_; rintro e w' ⟨rfl, rfl⟩))
      go_ret2
      exact ⟨rfl, rfl⟩
    · have hb : betw 1 b 10000 = false := by rcases h with h | h | h <;> simp_all
      clear h
      go_enter Tryd.func48, Tryd.ntmps48
      go_wp2_with (first | (go_at_call 44; refine (money_any _ _).mono ?_; rintro e w' ⟨rfl, rfl⟩) | (go_at_call 47; refine (within_any _ _ _ _).mono ?_; rintro e w' ⟨rfl, rfl⟩))
      go_ret2
      exact ⟨rfl, rfl⟩

theorem part_in (n a b : Int) (up : Bool) (w : World) (hm : money n = true) (ha : betw (-10000) a 10000 = true) (hb : betw 1 b 10000 = true) (q : Bool) (hq : money (divUp (n * a) b up) = q) :
    Calls Tryd.prog 48 #[.int .i64 n, .int .i64 a, .int .i64 b, .bool up] w fun e w' => e = .returned (.tuple #[.int .i64 (if q = true then divUp (n * a) b up else 0), .int .i64 (if q = true then 0 else 7)]) ∧ ∃ k, w' = w.drewN k := by
  have HB := hide (mul_bd (money_true hm) (betw_true ha))
  obtain ⟨b1, b2⟩ := betw_true hb
  obtain ⟨p1, p2⟩ := mul_bd (money_true hm) (betw_true ha)
  cases q
  · go_enter Tryd.func48, Tryd.ntmps48
    go_wp2_with (first | (go_at_call 44; refine (money_any _ _).mono ?_; rintro e w' ⟨rfl, rfl⟩) | (go_at_call 47; refine (within_any _ _ _ _).mono ?_; rintro e w' ⟨rfl, rfl⟩) | (go_at_call 61; refine (divide_any _ _ _ _ (unhide HB) b1 b2).mono ?_; rintro e w' ⟨rfl, kk, rfl⟩))
    go_ret2
    exact ⟨rfl, _, rfl⟩
  · go_enter Tryd.func48, Tryd.ntmps48
    go_wp2_with (first | (go_at_call 44; refine (money_any _ _).mono ?_; rintro e w' ⟨rfl, rfl⟩) | (go_at_call 47; refine (within_any _ _ _ _).mono ?_; rintro e w' ⟨rfl, rfl⟩) | (go_at_call 61; refine (divide_any _ _ _ _ (unhide HB) b1 b2).mono ?_; rintro e w' ⟨rfl, kk, rfl⟩))
    go_ret2
    exact ⟨rfl, _, rfl⟩

theorem part_any (n a b : Int) (up : Bool) (w : World) :
    Calls Tryd.prog 48 #[.int .i64 n, .int .i64 a, .int .i64 b, .bool up] w fun e w' => e = .returned (.tuple #[.int .i64 (partR n a b up).1, .int .i64 (partR n a b up).2]) ∧ ∃ k, w' = w.drewN k := by
  by_cases h : money n = true ∧ betw (-10000) a 10000 = true ∧ betw 1 b 10000 = true
  · refine (part_in n a b up w h.1 h.2.1 h.2.2 _ rfl).mono ?_
    rintro e w' ⟨rfl, hk⟩
    refine ⟨?_, hk⟩
    unfold partR
    rw [if_pos h]
    cases money (divUp (n * a) b up) <;> rfl
  · refine (part_range n a b up w ?_).mono ?_
    · cases hm : money n
      · exact .inl rfl
      · cases ha : betw (-10000) a 10000
        · exact .inr (.inl rfl)
        · cases hb : betw 1 b 10000
          · exact .inr (.inr rfl)
          · exact absurd ⟨hm, ha, hb⟩ h
    · rintro e w' ⟨rfl, rfl⟩
      unfold partR
      rw [if_neg h]
      exact ⟨rfl, 0, rfl⟩

theorem worth_no (q p : Int) (w : World) (h : betw (-1000) q 1000 = false ∨ betw 0 p 10000 = false) :
    Calls Tryd.prog 27 #[.int .i64 q, .int .i64 p] w fun e w' => e = .returned (.tuple #[.int .i64 0, .int .i64 3]) ∧ w' = w := by
  cases hq : betw (-1000) q 1000
  · go_enter Tryd.func27, Tryd.ntmps27
    go_wp2_with (go_at_call 47; refine (within_any _ _ _ _).mono ?_; rintro e w' ⟨rfl, rfl⟩)
    go_ret2
    exact ⟨rfl, rfl⟩
  · have hp : betw 0 p 10000 = false := by rcases h with h | h <;> simp_all
    clear h
    go_enter Tryd.func27, Tryd.ntmps27
    go_wp2_with (go_at_call 47; refine (within_any _ _ _ _).mono ?_; rintro e w' ⟨rfl, rfl⟩)
    go_ret2
    exact ⟨rfl, rfl⟩
theorem worth_yes (q p : Int) (w : World) (hq : betw (-1000) q 1000 = true) (hp : betw 0 p 10000 = true) :
    Calls Tryd.prog 27 #[.int .i64 q, .int .i64 p] w fun e w' => e = .returned (.tuple #[.int .i64 (q * p), .int .i64 0]) ∧ w' = w := by
  have ⟨m1, m2⟩ := mul_bd (n := q) (a := p) (by have := betw_true hq; omega) (by have := betw_true hp; omega)
  go_enter Tryd.func27, Tryd.ntmps27
  go_wp2_with (go_at_call 47; refine (within_any _ _ _ _).mono ?_; rintro e w' ⟨rfl, rfl⟩)
  go_ret2
  exact ⟨rfl, rfl⟩
theorem worth_any (q p : Int) (w : World) :
    Calls Tryd.prog 27 #[.int .i64 q, .int .i64 p] w fun e w' => e = .returned (.tuple #[.int .i64 (worthR q p).1, .int .i64 (worthR q p).2]) ∧ w' = w := by
  by_cases h : betw (-1000) q 1000 = true ∧ betw 0 p 10000 = true
  · refine (worth_yes q p w h.1 h.2).mono ?_
    rintro e w' ⟨rfl, rfl⟩
    unfold worthR
    rw [if_pos h]
    exact ⟨rfl, rfl⟩
  · refine (worth_no q p w ?_).mono ?_
    · cases hq : betw (-1000) q 1000
      · exact .inl rfl
      · cases hp : betw 0 p 10000
        · exact .inr rfl
        · exact absurd ⟨hq, hp⟩ h
    · rintro e w' ⟨rfl, rfl⟩
      unfold worthR
      rw [if_neg h]
      exact ⟨rfl, rfl⟩

theorem ret_int {a b : Int} (h : a = b) : Ending.returned (.int .i64 a) = .returned (.int .i64 b) := by rw [h]
theorem middle_any (a b c : Int) (w : World) :
    Calls Tryd.prog 38 #[.int .i64 a, .int .i64 b, .int .i64 c] w fun e w' => e = .returned (.int .i64 (middleR a b c)) ∧ w' = w := by
  go_enter Tryd.func38, Tryd.ntmps38
  go_wp2
  all_goals
    go_ret
    refine ⟨ret_int ?_, rfl⟩
    unfold middleR
    omega

/-- a slice of ints that is read: nothing, or so many cells. -/
def Row (w : World) (a : Option Addr) (xs : List Int) : Prop :=
  xs = [] ∨ ∃ b off, a = some ⟨b, off, none⟩ ∧ ∀ i, i < xs.length → w.cell? ⟨b, off + i, none⟩ = some (.int .i64 (xs.getD i 0))

theorem ret_two {a b c d : Int} (h : (a, b) = (c, d)) : Ending.returned (.tuple #[.int .i64 a, .int .i64 b]) = .returned (.tuple #[.int .i64 c, .int .i64 d]) := by
  cases h; rfl
theorem drop_get (xs : List Int) (k : Nat) (h : k < xs.length) : xs.drop k = xs.getD k 0 :: xs.drop (k + 1) := by
  rw [List.drop_eq_getElem_cons h]; simp [h]

set_option maxHeartbeats 400000 in
theorem add_some (b off cap : Nat) (xs : List Int) (w : World) (hm : xs.length ≤ maxLen)
    (hc : ∀ i, i < xs.length → w.cell? ⟨b, off + i, none⟩ = some (.int .i64 (xs.getD i 0))) :
    Calls Tryd.prog 41 #[.slice (some ⟨b, off, none⟩) xs.length cap] w fun e w' => e = .returned (.tuple #[.int .i64 (addFrom 0 xs).1, .int .i64 (addFrom 0 xs).2]) ∧ w' = w := by
  unfold maxLen at hm
  go_enter Tryd.func41, Tryd.ntmps41
  go_wp2
  go_loop [4, 9] (fun t i => ∃ (k : Nat) (s : Int), k ≤ xs.length ∧ i = .int .i64 k ∧ t = .int .i64 s ∧ money s = true ∧ addFrom 0 xs = addFrom s (xs.drop k)) (fun _ i => xs.length - (intOf i).toNat)
  case atStart => exact ⟨0, 0, Nat.zero_le _, rfl, rfl, rfl, rfl⟩
  case round =>
    obtain ⟨k, s, hk, rfl, rfl, hs, ha⟩ := hrel
    have ⟨s1, s2⟩ := money_true hs
    by_cases hlt : k < xs.length
    · have hcell := hc k hlt
      rw [drop_get xs k hlt] at ha
      have HA := hide ha
      clear ha hc
      generalize hx : xs.getD k 0 = x at *
      clear hx
      cases hmx : money x
      · have HF := hide ((unhide HA).trans (addFrom_range hmx))
        go_wp2_with (go_at_call 44; refine (money_any _ _).mono ?_; rintro e w' ⟨rfl, rfl⟩)
        go_ret2
        exact ⟨by rw [unhide HF]; rfl, rfl⟩
      · have ⟨x1, x2⟩ := money_true hmx
        cases hsx : money (s + x)
        · have HF := hide ((unhide HA).trans (addFrom_full hmx hsx))
          go_wp2_with (go_at_call 44; refine (money_any _ _).mono ?_; rintro e w' ⟨rfl, rfl⟩)
          go_ret2
          exact ⟨by rw [unhide HF]; rfl, rfl⟩
        · have HF := hide ((unhide HA).trans (addFrom_on hmx hsx))
          go_wp2_with (go_at_call 44; refine (money_any _ _).mono ?_; rintro e w' ⟨rfl, rfl⟩)
          go_round
          case rel => exact ⟨k + 1, s + x, by omega, by go_num, rfl, hsx, unhide HF⟩
          case measure => simp [intOf]; omega
    · have HF : Hid (addFrom 0 xs = (s, 0)) := by rw [ha, List.drop_eq_nil_of_le (by omega)]; exact addFrom_nil s
      clear ha hc
      go_wp2
      go_ret2
      exact ⟨by rw [unhide HF]; rfl, rfl⟩

theorem add_none (a : Option Addr) (cap : Nat) (w : World) :
    Calls Tryd.prog 41 #[.slice a 0 cap] w fun e w' => e = .returned (.tuple #[.int .i64 0, .int .i64 0]) ∧ w' = w := by
  go_enter Tryd.func41, Tryd.ntmps41
  go_wp2
  go_loop [4, 9] (fun t i => i = .int .i64 0 ∧ t = .int .i64 0) (fun _ _ => 0)
  case atStart => exact ⟨rfl, rfl⟩
  case round =>
    obtain ⟨rfl, rfl⟩ := hrel
    go_wp2
    go_ret2
    exact ⟨rfl, rfl⟩

theorem add_any (a : Option Addr) (len cap : Nat) (xs : List Int) (w : World) (hl : xs.length = len) (hm : len ≤ maxLen) (hr : Row w a xs) :
    Calls Tryd.prog 41 #[.slice a len cap] w fun e w' => e = .returned (.tuple #[.int .i64 (addFrom 0 xs).1, .int .i64 (addFrom 0 xs).2]) ∧ w' = w := by
  subst hl
  rcases hr with rfl | ⟨b, off, rfl, hc⟩
  · exact add_none a cap w
  · exact add_some b off cap xs w hm hc

end Go.Proofs.YtbphljnncbiddabDoor.Fix
