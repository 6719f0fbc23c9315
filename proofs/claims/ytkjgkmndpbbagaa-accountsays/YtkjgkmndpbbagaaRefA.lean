/-
  The reference's chapter 1 by contracts: what each of its functions returns.
-/
import Derived.Test.YtkjgkmndpbbagaaFix
namespace Go.Proofs.Ytkjgkmndpbbagaa.RefA
open Go.RowKit Go.Proofs.Ytkjgkmndpbbagaa.Num Go.Proofs.Ytkjgkmndpbbagaa.Fix

theorem isMoney_any (n : Int) (w : World) :
    Calls Try.prog 24 #[.int .i64 n] w fun e w' => e = .returned (.bool (money n)) ∧ w' = w := by
  by_cases h1 : -1000000000000 ≤ n
  · by_cases h2 : n ≤ 1000000000000
    · rw [money_mk ⟨h1, h2⟩]
      go_enter Try.func24, Try.ntmps24
      go_wp2
      go_ret
      exact ⟨rfl, rfl⟩
    · rw [money_no (by omega)]
      go_enter Try.func24, Try.ntmps24
      go_wp2
      go_ret
      exact ⟨rfl, rfl⟩
  · rw [money_no (by omega)]
    go_enter Try.func24, Try.ntmps24
    go_wp2
    go_ret
    exact ⟨rfl, rfl⟩

set_option maxHeartbeats 400000 in
theorem addAll_some (b off cap : Nat) (xs : List Int) (w : World) (hm : xs.length ≤ maxLen)
    (hc : ∀ i, i < xs.length → w.cell? ⟨b, off + i, none⟩ = some (.int .i64 (xs.getD i 0))) :
    Calls Try.prog 19 #[.slice (some ⟨b, off, none⟩) xs.length cap] w fun e w' => e = .returned (.tuple #[.int .i64 (addFrom 0 xs).1, .int .i64 (addFrom 0 xs).2]) ∧ w' = w := by
  unfold maxLen at hm
  go_enter Try.func19, Try.ntmps19
  go_wp2
  go_loop [4, 9] (fun t i => ∃ (k : Nat) (s : Int), k ≤ xs.length ∧ i = .int .i64 k ∧ t = .int .i64 s ∧ money s = true ∧ addFrom 0 xs = addFrom s (xs.drop k)) (fun _ i => xs.length - (intOf i).toNat)
  case atStart => exact ⟨0, 0, Nat.zero_le _, rfl, rfl, rfl, rfl⟩
  case round =>
    obtain ⟨k, s, hk, rfl, rfl, hs, ha⟩ := hrel
    have ⟨s1, s2⟩ := money_true hs
    by_cases hlt : k < xs.length
    · have hcell := hc k hlt
      rw [drop_get xs k hlt] at ha
      have HA := hide ha
      clear ha hc
      generalize hx : xs.getD k 0 = x at *
      clear hx
      cases hmx : money x
      · have HF := hide ((unhide HA).trans (addFrom_range hmx))
        go_wp2_with (go_at_call 24; refine (isMoney_any _ _).mono ?_; rintro e w' ⟨rfl, rfl⟩)
        go_ret2
        exact ⟨by rw [unhide HF]; rfl, rfl⟩
      · have ⟨x1, x2⟩ := money_true hmx
        cases hsx : money (s + x)
        · have HF := hide ((unhide HA).trans (addFrom_full hmx hsx))
          go_wp2_with (go_at_call 24; refine (isMoney_any _ _).mono ?_; rintro e w' ⟨rfl, rfl⟩)
          go_ret2
          exact ⟨by rw [unhide HF]; rfl, rfl⟩
        · have HF := hide ((unhide HA).trans (addFrom_on hmx hsx))
          go_wp2_with (go_at_call 24; refine (isMoney_any _ _).mono ?_; rintro e w' ⟨rfl, rfl⟩)
          go_round
          case rel => exact ⟨k + 1, s + x, by omega, by go_num, rfl, hsx, unhide HF⟩
          case measure => simp [intOf]; omega
    · have HF : Hid (addFrom 0 xs = (s, 0)) := by rw [ha, List.drop_eq_nil_of_le (by omega)]; exact addFrom_nil s
      clear ha hc
      go_wp2
      go_ret2
      exact ⟨by rw [unhide HF]; rfl, rfl⟩

theorem addAll_none (a : Option Addr) (cap : Nat) (w : World) :
    Calls Try.prog 19 #[.slice a 0 cap] w fun e w' => e = .returned (.tuple #[.int .i64 0, .int .i64 0]) ∧ w' = w := by
  go_enter Try.func19, Try.ntmps19
  go_wp2
  go_loop [4, 9] (fun t i => i = .int .i64 0 ∧ t = .int .i64 0) (fun _ _ => 0)
  case atStart => exact ⟨rfl, rfl⟩
  case round =>
    obtain ⟨rfl, rfl⟩ := hrel
    go_wp2
    go_ret2
    exact ⟨rfl, rfl⟩

theorem addAll_any (a : Option Addr) (len cap : Nat) (xs : List Int) (w : World) (hl : xs.length = len) (hm : len ≤ maxLen) (hr : Row w a xs) :
    Calls Try.prog 19 #[.slice a len cap] w fun e w' => e = .returned (.tuple #[.int .i64 (addFrom 0 xs).1, .int .i64 (addFrom 0 xs).2]) ∧ w' = w := by
  subst hl
  rcases hr with rfl | ⟨b, off, rfl, hc⟩
  · exact addAll_none a cap w
  · exact addAll_some b off cap xs w hm hc


theorem floor_way {n b : Int} (hb : 1 ≤ b) : (n < n.tdiv b * b → n.tdiv b - 1 = n / b) ∧ (¬ n < n.tdiv b * b → n.tdiv b = n / b) := by
  have e := Int.mul_tdiv_add_tmod n b
  have l := Int.tmod_lt_of_pos n (b := b) (by omega)
  have g := Int.lt_tmod_of_pos n (b := b) (by omega)
  have c : n.tdiv b * b = b * n.tdiv b := Int.mul_comm _ _
  constructor
  · intro h
    exact (ediv_of (by omega) (by rw [Int.mul_sub]; omega) (by rw [Int.mul_sub]; omega)).symm
  · intro h
    exact (ediv_of (by omega) (by omega) (by omega)).symm

theorem tdiv_mul_bd {n b : Int} (h : -10000000000000000 ≤ n ∧ n ≤ 10000000000000000) (hb : 1 ≤ b) (hb2 : b ≤ 10000) :
    -10000000000020000 ≤ n.tdiv b * b ∧ n.tdiv b * b ≤ 10000000000020000 := by
  have e := Int.mul_tdiv_add_tmod n b
  have l := Int.tmod_lt_of_pos n (b := b) (by omega)
  have g := Int.lt_tmod_of_pos n (b := b) (by omega)
  have c : n.tdiv b * b = b * n.tdiv b := Int.mul_comm _ _
  omega

theorem floor_any (n b : Int) (w : World) (hn : -10000000000000000 ≤ n ∧ n ≤ 10000000000000000) (hb : 1 ≤ b) (hb2 : b ≤ 10000) :
    Calls Try.prog 71 #[.int .i64 n, .int .i64 b] w fun e w' => e = .returned (.int .i64 (n / b)) ∧ w' = w := by
  have fw := floor_way (n := n) hb
  have H1 := hide fw.1
  have H2 := hide fw.2
  clear fw
  obtain ⟨t1, t2⟩ := tdiv_mul_bd hn hb hb2
  obtain ⟨n1, n2⟩ := hn
  have ⟨q1, q2⟩ := tdiv_bd (b := b) ⟨n1, n2⟩
  have hz : (b == 0) = false := by simp; omega
  by_cases h : n < n.tdiv b * b
  · have H := hide (unhide H1 h)
    clear H1 H2
    go_enter Try.func71, Try.ntmps71
    go_wp2
    go_ret
    exact ⟨by rw [← unhide H]; rfl, rfl⟩
  · have H := hide (unhide H2 h)
    clear H1 H2
    go_enter Try.func71, Try.ntmps71
    go_wp2
    go_ret
    exact ⟨by rw [← unhide H]; rfl, rfl⟩

theorem partOf_range (n a b : Int) (up : Bool) (w : World) (h : money n = false ∨ betw (-10000) a 10000 = false ∨ betw 1 b 10000 = false) :
    Calls Try.prog 20 #[.int .i64 n, .int .i64 a, .int .i64 b, .bool up] w fun e w' => e = .returned (.tuple #[.int .i64 0, .int .i64 3]) ∧ w' = w := by
  cases hm : money n
  · clear h
    go_enter Try.func20, Try.ntmps20
    go_wp2_with (first | (go_at_call 24; refine (isMoney_any _ _).mono ?_; rintro e w' ⟨rfl, rfl⟩))
    go_ret2
    exact ⟨rfl, rfl⟩
  · have h' : betw (-10000) a 10000 = false ∨ betw 1 b 10000 = false := by rcases h with h | h | h <;> simp_all
    clear h
    by_cases a1 : a < -10000
    · clear h'
      go_enter Try.func20, Try.ntmps20
      go_wp2_with (first | (go_at_call 24; refine (isMoney_any _ _).mono ?_; rintro e w' ⟨rfl, rfl⟩))
      go_ret2
      exact ⟨rfl, rfl⟩
    · by_cases a2 : 10000 < a
      · clear h'
        go_enter Try.func20, Try.ntmps20
        go_wp2_with (first | (go_at_call 24; refine (isMoney_any _ _).mono ?_; rintro e w' ⟨rfl, rfl⟩))
        go_ret2
        exact ⟨rfl, rfl⟩
      · have hb : b < 1 ∨ 10000 < b := by
          rcases h' with h | h
          · have := betw_false h; omega
          · exact betw_false h
        clear h'
        by_cases b1 : b < 1
        · clear hb
          go_enter Try.func20, Try.ntmps20
          go_wp2_with (first | (go_at_call 24; refine (isMoney_any _ _).mono ?_; rintro e w' ⟨rfl, rfl⟩))
          go_ret2
          exact ⟨rfl, rfl⟩
        · have b2 : 10000 < b := by omega
          clear hb
          go_enter Try.func20, Try.ntmps20
          go_wp2_with (first | (go_at_call 24; refine (isMoney_any _ _).mono ?_; rintro e w' ⟨rfl, rfl⟩))
          go_ret2
          exact ⟨rfl, rfl⟩

theorem ediv_bd {m b : Int} (h : -10000000000000000 ≤ m ∧ m ≤ 10000000000000000) (hb : 1 ≤ b) : -10000000000000000 ≤ m / b ∧ m / b ≤ 10000000000000000 := by
  constructor
  · apply Int.le_ediv_of_mul_le (by omega)
    have : (10000000000000000 : Int) * 1 ≤ 10000000000000000 * b := Int.mul_le_mul_of_nonneg_left hb (by decide)
    rw [Int.neg_mul]; omega
  · by_cases p : 0 ≤ m
    · have := Int.ediv_le_self b p; omega
    · have := Int.ediv_neg_of_neg_of_pos (a := m) (b := b) (by omega) (by omega); omega

theorem partOf_down (n a b : Int) (w : World) (hm : money n = true) (ha : betw (-10000) a 10000 = true) (hb : betw 1 b 10000 = true) (q : Bool) (hq : money ((n * a) / b) = q) :
    Calls Try.prog 20 #[.int .i64 n, .int .i64 a, .int .i64 b, .bool false] w fun e w' => e = .returned (.tuple #[.int .i64 (if q = true then (n * a) / b else 0), .int .i64 (if q = true then 0 else 7)]) ∧ w' = w := by
  have HB := hide (mul_bd (money_true hm) (betw_true ha))
  obtain ⟨b1, b2⟩ := betw_true hb
  obtain ⟨a1, a2⟩ := betw_true ha
  obtain ⟨p1, p2⟩ := mul_bd (money_true hm) (betw_true ha)
  cases q
  · go_enter Try.func20, Try.ntmps20
    go_wp2_with (first | (go_at_call 24; refine (isMoney_any _ _).mono ?_; rintro e w' ⟨rfl, rfl⟩) | (go_at_call 71; refine (floor_any _ _ _ (unhide HB) b1 b2).mono ?_; rintro e w' ⟨rfl, rfl⟩))
    go_ret2
    exact ⟨rfl, rfl⟩
  · go_enter Try.func20, Try.ntmps20
    go_wp2_with (first | (go_at_call 24; refine (isMoney_any _ _).mono ?_; rintro e w' ⟨rfl, rfl⟩) | (go_at_call 71; refine (floor_any _ _ _ (unhide HB) b1 b2).mono ?_; rintro e w' ⟨rfl, rfl⟩))
    go_ret2
    exact ⟨rfl, rfl⟩

theorem partOf_up (n a b : Int) (w : World) (hm : money n = true) (ha : betw (-10000) a 10000 = true) (hb : betw 1 b 10000 = true) (q : Bool) (hq : money (-((-n * a) / b)) = q) :
    Calls Try.prog 20 #[.int .i64 n, .int .i64 a, .int .i64 b, .bool true] w fun e w' => e = .returned (.tuple #[.int .i64 (if q = true then -((-n * a) / b) else 0), .int .i64 (if q = true then 0 else 7)]) ∧ w' = w := by
  have HB := hide (mul_bd (money_true hm) (betw_true ha))
  have mm : -1000000000000 ≤ -n ∧ -n ≤ 1000000000000 := by have := money_true hm; omega
  have HC := hide (mul_bd mm (betw_true ha))
  obtain ⟨b1, b2⟩ := betw_true hb
  obtain ⟨a1, a2⟩ := betw_true ha
  obtain ⟨n1, n2⟩ := money_true hm
  obtain ⟨p1, p2⟩ := mul_bd (money_true hm) (betw_true ha)
  obtain ⟨r1, r2⟩ := mul_bd mm (betw_true ha)
  obtain ⟨e1, e2⟩ := ediv_bd (unhide HC) b1
  clear mm
  cases q
  · go_enter Try.func20, Try.ntmps20
    go_wp2_with fail
    refine (isMoney_any _ _).mono ?_
    rintro e w' ⟨rfl, rfl⟩
    go_wp2_with fail
    refine (floor_any _ _ _ (unhide HB) b1 b2).mono ?_
    rintro e w' ⟨rfl, rfl⟩
    go_wp2_with fail
    refine (floor_any _ _ _ (unhide HC) b1 b2).mono ?_
    rintro e w' ⟨rfl, rfl⟩
    go_wp2_with (go_at_call 24; refine (isMoney_any _ _).mono ?_; rintro e w' ⟨rfl, rfl⟩)
    go_ret2
    exact ⟨rfl, rfl⟩
  · go_enter Try.func20, Try.ntmps20
    go_wp2_with fail
    refine (isMoney_any _ _).mono ?_
    rintro e w' ⟨rfl, rfl⟩
    go_wp2_with fail
    refine (floor_any _ _ _ (unhide HB) b1 b2).mono ?_
    rintro e w' ⟨rfl, rfl⟩
    go_wp2_with fail
    refine (floor_any _ _ _ (unhide HC) b1 b2).mono ?_
    rintro e w' ⟨rfl, rfl⟩
    go_wp2_with (go_at_call 24; refine (isMoney_any _ _).mono ?_; rintro e w' ⟨rfl, rfl⟩)
    go_ret2
    exact ⟨rfl, rfl⟩

theorem partOf_any (n a b : Int) (up : Bool) (w : World) :
    Calls Try.prog 20 #[.int .i64 n, .int .i64 a, .int .i64 b, .bool up] w fun e w' => e = .returned (.tuple #[.int .i64 (partR n a b up).1, .int .i64 (partR n a b up).2]) ∧ w' = w := by
  by_cases h : money n = true ∧ betw (-10000) a 10000 = true ∧ betw 1 b 10000 = true
  · cases up
    · refine (partOf_down n a b w h.1 h.2.1 h.2.2 _ rfl).mono ?_
      rintro e w' ⟨rfl, rfl⟩
      refine ⟨?_, rfl⟩
      unfold partR
      rw [if_pos h, show divUp (n * a) b false = n * a / b from rfl]
      cases money (n * a / b) <;> rfl
    · refine (partOf_up n a b w h.1 h.2.1 h.2.2 _ rfl).mono ?_
      rintro e w' ⟨rfl, rfl⟩
      refine ⟨?_, rfl⟩
      unfold partR
      rw [if_pos h, show divUp (n * a) b true = -(-(n * a) / b) from rfl, Int.neg_mul]
      cases money (-(-(n * a) / b)) <;> rfl
  · refine (partOf_range n a b up w ?_).mono ?_
    · cases hm : money n
      · exact .inl rfl
      · cases ha : betw (-10000) a 10000
        · exact .inr (.inl rfl)
        · cases hb : betw 1 b 10000
          · exact .inr (.inr rfl)
          · exact absurd ⟨hm, ha, hb⟩ h
    · rintro e w' ⟨rfl, rfl⟩
      unfold partR
      rw [if_neg h]
      exact ⟨rfl, rfl⟩

theorem worthOf_no (q p : Int) (w : World) (h : betw (-1000) q 1000 = false ∨ betw 0 p 10000 = false) :
    Calls Try.prog 21 #[.int .i64 q, .int .i64 p] w fun e w' => e = .returned (.tuple #[.int .i64 0, .int .i64 3]) ∧ w' = w := by
  by_cases q1 : q < -1000
  · clear h
    go_enter Try.func21, Try.ntmps21
    go_wp2
    go_ret2
    exact ⟨rfl, rfl⟩
  · by_cases q2 : 1000 < q
    · clear h
      go_enter Try.func21, Try.ntmps21
      go_wp2
      go_ret2
      exact ⟨rfl, rfl⟩
    · have hp : p < 0 ∨ 10000 < p := by
        rcases h with h | h
        · have := betw_false h; omega
        · exact betw_false h
      clear h
      by_cases p1 : p < 0
      · clear hp
        go_enter Try.func21, Try.ntmps21
        go_wp2
        go_ret2
        exact ⟨rfl, rfl⟩
      · have p2 : 10000 < p := by omega
        clear hp
        go_enter Try.func21, Try.ntmps21
        go_wp2
        go_ret2
        exact ⟨rfl, rfl⟩
theorem worthOf_yes (q p : Int) (w : World) (hq : betw (-1000) q 1000 = true) (hp : betw 0 p 10000 = true) :
    Calls Try.prog 21 #[.int .i64 q, .int .i64 p] w fun e w' => e = .returned (.tuple #[.int .i64 (q * p), .int .i64 0]) ∧ w' = w := by
  have ⟨m1, m2⟩ := mul_bd (n := q) (a := p) (by have := betw_true hq; omega) (by have := betw_true hp; omega)
  obtain ⟨q1, q2⟩ := betw_true hq
  obtain ⟨p1, p2⟩ := betw_true hp
  go_enter Try.func21, Try.ntmps21
  go_wp2
  go_ret2
  exact ⟨rfl, rfl⟩
theorem worthOf_any (q p : Int) (w : World) :
    Calls Try.prog 21 #[.int .i64 q, .int .i64 p] w fun e w' => e = .returned (.tuple #[.int .i64 (worthR q p).1, .int .i64 (worthR q p).2]) ∧ w' = w := by
  by_cases h : betw (-1000) q 1000 = true ∧ betw 0 p 10000 = true
  · refine (worthOf_yes q p w h.1 h.2).mono ?_
    rintro e w' ⟨rfl, rfl⟩
    unfold worthR
    rw [if_pos h]
    exact ⟨rfl, rfl⟩
  · refine (worthOf_no q p w ?_).mono ?_
    · cases hq : betw (-1000) q 1000
      · exact .inl rfl
      · cases hp : betw 0 p 10000
        · exact .inr rfl
        · exact absurd ⟨hq, hp⟩ h
    · rintro e w' ⟨rfl, rfl⟩
      unfold worthR
      rw [if_neg h]
      exact ⟨rfl, rfl⟩
end Go.Proofs.Ytkjgkmndpbbagaa.RefA
