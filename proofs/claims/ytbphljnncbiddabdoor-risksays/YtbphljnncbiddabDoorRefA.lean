/-
  The reference's chapter 1 by contracts: what each of its functions returns.
-/
import Derived.Test.YtbphljnncbiddabDoorFix
namespace Go.Proofs.YtbphljnncbiddabDoor.RefA
open Go.RowKit Go.Proofs.YtbphljnncbiddabDoor.Num Go.Proofs.YtbphljnncbiddabDoor.Fix

theorem isMoney_any (n : Int) (w : World) :
    Calls Tryd.prog 49 #[.int .i64 n] w fun e w' => e = .returned (.bool (money n)) ∧ w' = w := by
  by_cases h1 : -1000000000000 ≤ n
  · by_cases h2 : n ≤ 1000000000000
    · rw [money_mk ⟨h1, h2⟩]
      go_enter Tryd.func49, Tryd.ntmps49
      go_wp2
      go_ret
      exact ⟨rfl, rfl⟩
    · rw [money_no (by omega)]
      go_enter Tryd.func49, Tryd.ntmps49
      go_wp2
      go_ret
      exact ⟨rfl, rfl⟩
  · rw [money_no (by omega)]
    go_enter Tryd.func49, Tryd.ntmps49
    go_wp2
    go_ret
    exact ⟨rfl, rfl⟩

set_option maxHeartbeats 400000 in
theorem addAll_some (b off cap : Nat) (xs : List Int) (w : World) (hm : xs.length ≤ maxLen)
    (hc : ∀ i, i < xs.length → w.cell? ⟨b, off + i, none⟩ = some (.int .i64 (xs.getD i 0))) :
    Calls Tryd.prog 50 #[.slice (some ⟨b, off, none⟩) xs.length cap] w fun e w' => e = .returned (.tuple #[.int .i64 (addFrom 0 xs).1, .int .i64 (addFrom 0 xs).2]) ∧ w' = w := by
  unfold maxLen at hm
  go_enter Tryd.func50, Tryd.ntmps50
  go_wp2
  go_loop [4, 9] (fun t i => ∃ (k : Nat) (s : Int), k ≤ xs.length ∧ i = .int .i64 k ∧ t = .int .i64 s ∧ money s = true ∧ addFrom 0 xs = addFrom s (xs.drop k)) (fun _ i => xs.length - (intOf i).toNat)
  case atStart => exact ⟨0, 0, Nat.zero_le _, rfl, rfl, rfl, rfl⟩
  case round =>
    obtain ⟨k, s, hk, rfl, rfl, hs, ha⟩ := hrel
    have ⟨s1, s2⟩ := money_true hs
    by_cases hlt : k < xs.length
    · have hcell := hc k hlt
      rw [drop_get xs k hlt] at ha
      have HA := hide ha
      clear ha hc
      generalize hx : xs.getD k 0 = x at *
      clear hx
      cases hmx : money x
      · have HF := hide ((unhide HA).trans (addFrom_range hmx))
        go_wp2_with (go_at_call 49; refine (isMoney_any _ _).mono ?_; rintro e w' ⟨rfl, rfl⟩)
        go_ret2
        exact ⟨by rw [unhide HF]; rfl, rfl⟩
      · have ⟨x1, x2⟩ := money_true hmx
        cases hsx : money (s + x)
        · have HF := hide ((unhide HA).trans (addFrom_full hmx hsx))
          go_wp2_with (go_at_call 49; refine (isMoney_any _ _).mono ?_; rintro e w' ⟨rfl, rfl⟩)
          go_ret2
          exact ⟨by rw [unhide HF]; rfl, rfl⟩
        · have HF := hide ((unhide HA).trans (addFrom_on hmx hsx))
          go_wp2_with (go_at_call 49; refine (isMoney_any _ _).mono ?_; rintro e w' ⟨rfl, rfl⟩)
          go_round
          case rel => exact ⟨k + 1, s + x, by omega, by go_num, rfl, hsx, unhide HF⟩
          case measure => simp [intOf]; omega
    · have HF : Hid (addFrom 0 xs = (s, 0)) := by rw [ha, List.drop_eq_nil_of_le (by omega)]; exact addFrom_nil s
      clear ha hc
      go_wp2
      go_ret2
      exact ⟨by rw [unhide HF]; rfl, rfl⟩

theorem addAll_none (a : Option Addr) (cap : Nat) (w : World) :
    Calls Tryd.prog 50 #[.slice a 0 cap] w fun e w' => e = .returned (.tuple #[.int .i64 0, .int .i64 0]) ∧ w' = w := by
  go_enter Tryd.func50, Tryd.ntmps50
  go_wp2
  go_loop [4, 9] (fun t i => i = .int .i64 0 ∧ t = .int .i64 0) (fun _ _ => 0)
  case atStart => exact ⟨rfl, rfl⟩
  case round =>
    obtain ⟨rfl, rfl⟩ := hrel
    go_wp2
    go_ret2
    exact ⟨rfl, rfl⟩

theorem addAll_any (a : Option Addr) (len cap : Nat) (xs : List Int) (w : World) (hl : xs.length = len) (hm : len ≤ maxLen) (hr : Row w a xs) :
    Calls Tryd.prog 50 #[.slice a len cap] w fun e w' => e = .returned (.tuple #[.int .i64 (addFrom 0 xs).1, .int .i64 (addFrom 0 xs).2]) ∧ w' = w := by
  subst hl
  rcases hr with rfl | ⟨b, off, rfl, hc⟩
  · exact addAll_none a cap w
  · exact addAll_some b off cap xs w hm hc


theorem floor_way {n b : Int} (hb : 1 ≤ b) : (n < n.tdiv b * b → n.tdiv b - 1 = n / b) ∧ (¬ n < n.tdiv b * b → n.tdiv b = n / b) := by
  have e := Int.mul_tdiv_add_tmod n b
  have l := Int.tmod_lt_of_pos n (b := b) (by omega)
  have g := Int.lt_tmod_of_pos n (b := b) (by omega)
  have c : n.tdiv b * b = b * n.tdiv b := Int.mul_comm _ _
  constructor
  · intro h
    exact (ediv_of (by omega) (by rw [Int.mul_sub]; omega) (by rw [Int.mul_sub]; omega)).symm
  · intro h
    exact (ediv_of (by omega) (by omega) (by omega)).symm

theorem tdiv_mul_bd {n b : Int} (h : -10000000000000000 ≤ n ∧ n ≤ 10000000000000000) (hb : 1 ≤ b) (hb2 : b ≤ 10000) :
    -10000000000020000 ≤ n.tdiv b * b ∧ n.tdiv b * b ≤ 10000000000020000 := by
  have e := Int.mul_tdiv_add_tmod n b
  have l := Int.tmod_lt_of_pos n (b := b) (by omega)
  have g := Int.lt_tmod_of_pos n (b := b) (by omega)
  have c : n.tdiv b * b = b * n.tdiv b := Int.mul_comm _ _
  omega

theorem floor_any (n b : Int) (w : World) (hn : -10000000000000000 ≤ n ∧ n ≤ 10000000000000000) (hb : 1 ≤ b) (hb2 : b ≤ 10000) :
    Calls Tryd.prog 35 #[.int .i64 n, .int .i64 b] w fun e w' => e = .returned (.int .i64 (n / b)) ∧ w' = w := by
  have fw := floor_way (n := n) hb
  have H1 := hide fw.1
  have H2 := hide fw.2
  clear fw
  obtain ⟨t1, t2⟩ := tdiv_mul_bd hn hb hb2
  obtain ⟨n1, n2⟩ := hn
  have ⟨q1, q2⟩ := tdiv_bd (b := b) ⟨n1, n2⟩
  have hz : (b == 0) = false := by simp; omega
  by_cases h : n < n.tdiv b * b
  · have H := hide (unhide H1 h)
    clear H1 H2
    go_enter Tryd.func35, Tryd.ntmps35
    go_wp2
    go_ret
    exact ⟨by rw [← unhide H]; rfl, rfl⟩
  · have H := hide (unhide H2 h)
    clear H1 H2
    go_enter Tryd.func35, Tryd.ntmps35
    go_wp2
    go_ret
    exact ⟨by rw [← unhide H]; rfl, rfl⟩

theorem worthOf_no (q p : Int) (w : World) (h : betw (-1000) q 1000 = false ∨ betw 0 p 10000 = false) :
    Calls Tryd.prog 33 #[.int .i64 q, .int .i64 p] w fun e w' => e = .returned (.tuple #[.int .i64 0, .int .i64 3]) ∧ w' = w := by
  by_cases q1 : q < -1000
  · clear h
    go_enter Tryd.func33, Tryd.ntmps33
    go_wp2
    go_ret2
    exact ⟨rfl, rfl⟩
  · by_cases q2 : 1000 < q
    · clear h
      go_enter Tryd.func33, Tryd.ntmps33
      go_wp2
      go_ret2
      exact ⟨rfl, rfl⟩
    · have hp : p < 0 ∨ 10000 < p := by
        rcases h with h | h
        · have := betw_false h; omega
        · exact betw_false h
      clear h
      by_cases p1 : p < 0
      · clear hp
        go_enter Tryd.func33, Tryd.ntmps33
        go_wp2
        go_ret2
        exact ⟨rfl, rfl⟩
      · have p2 : 10000 < p := by omega
        clear hp
        go_enter Tryd.func33, Tryd.ntmps33
        go_wp2
        go_ret2
        exact ⟨rfl, rfl⟩
theorem worthOf_yes (q p : Int) (w : World) (hq : betw (-1000) q 1000 = true) (hp : betw 0 p 10000 = true) :
    Calls Tryd.prog 33 #[.int .i64 q, .int .i64 p] w fun e w' => e = .returned (.tuple #[.int .i64 (q * p), .int .i64 0]) ∧ w' = w := by
  have ⟨m1, m2⟩ := mul_bd (n := q) (a := p) (by have := betw_true hq; omega) (by have := betw_true hp; omega)
  obtain ⟨q1, q2⟩ := betw_true hq
  obtain ⟨p1, p2⟩ := betw_true hp
  go_enter Tryd.func33, Tryd.ntmps33
  go_wp2
  go_ret2
  exact ⟨rfl, rfl⟩
theorem worthOf_any (q p : Int) (w : World) :
    Calls Tryd.prog 33 #[.int .i64 q, .int .i64 p] w fun e w' => e = .returned (.tuple #[.int .i64 (worthR q p).1, .int .i64 (worthR q p).2]) ∧ w' = w := by
  by_cases h : betw (-1000) q 1000 = true ∧ betw 0 p 10000 = true
  · refine (worthOf_yes q p w h.1 h.2).mono ?_
    rintro e w' ⟨rfl, rfl⟩
    unfold worthR
    rw [if_pos h]
    exact ⟨rfl, rfl⟩
  · refine (worthOf_no q p w ?_).mono ?_
    · cases hq : betw (-1000) q 1000
      · exact .inl rfl
      · cases hp : betw 0 p 10000
        · exact .inr rfl
        · exact absurd ⟨hq, hp⟩ h
    · rintro e w' ⟨rfl, rfl⟩
      unfold worthR
      rw [if_neg h]
      exact ⟨rfl, rfl⟩
end Go.Proofs.YtbphljnncbiddabDoor.RefA
