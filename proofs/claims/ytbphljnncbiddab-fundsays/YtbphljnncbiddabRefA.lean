/-
  The reference's chapter 1 by contracts: what each of its functions returns.
-/
import Derived.Test.YtbphljnncbiddabFix
namespace Go.Proofs.Ytbphljnncbiddab.RefA
open Go.RowKit Go.Proofs.Ytbphljnncbiddab.Num Go.Proofs.Ytbphljnncbiddab.Fix

theorem isMoney_any (n : Int) (w : World) :
    Calls Try.prog 17 #[.int .i64 n] w fun e w' => e = .returned (.bool (money n)) ∧ w' = w := by
  by_cases h1 : -1000000000000 ≤ n
  · by_cases h2 : n ≤ 1000000000000
    · rw [money_mk ⟨h1, h2⟩]
      go_enter Try.func17, Try.ntmps17
      go_wp2
      go_ret
      exact ⟨rfl, rfl⟩
    · rw [money_no (by omega)]
      go_enter Try.func17, Try.ntmps17
      go_wp2
      go_ret
      exact ⟨rfl, rfl⟩
  · rw [money_no (by omega)]
    go_enter Try.func17, Try.ntmps17
    go_wp2
    go_ret
    exact ⟨rfl, rfl⟩





theorem floor_way {n b : Int} (hb : 1 ≤ b) : (n < n.tdiv b * b → n.tdiv b - 1 = n / b) ∧ (¬ n < n.tdiv b * b → n.tdiv b = n / b) := by
  have e := Int.mul_tdiv_add_tmod n b
  have l := Int.tmod_lt_of_pos n (b := b) (by omega)
  have g := Int.lt_tmod_of_pos n (b := b) (by omega)
  have c : n.tdiv b * b = b * n.tdiv b := Int.mul_comm _ _
  constructor
  · intro h
    exact (ediv_of (by omega) (by rw [Int.mul_sub]; omega) (by rw [Int.mul_sub]; omega)).symm
  · intro h
    exact (ediv_of (by omega) (by omega) (by omega)).symm

theorem tdiv_mul_bd {n b : Int} (h : -10000000000000000 ≤ n ∧ n ≤ 10000000000000000) (hb : 1 ≤ b) (hb2 : b ≤ 10000) :
    -10000000000020000 ≤ n.tdiv b * b ∧ n.tdiv b * b ≤ 10000000000020000 := by
  have e := Int.mul_tdiv_add_tmod n b
  have l := Int.tmod_lt_of_pos n (b := b) (by omega)
  have g := Int.lt_tmod_of_pos n (b := b) (by omega)
  have c : n.tdiv b * b = b * n.tdiv b := Int.mul_comm _ _
  omega

theorem floor_any (n b : Int) (w : World) (hn : -10000000000000000 ≤ n ∧ n ≤ 10000000000000000) (hb : 1 ≤ b) (hb2 : b ≤ 10000) :
    Calls Try.prog 23 #[.int .i64 n, .int .i64 b] w fun e w' => e = .returned (.int .i64 (n / b)) ∧ w' = w := by
  have fw := floor_way (n := n) hb
  have H1 := hide fw.1
  have H2 := hide fw.2
  clear fw
  obtain ⟨t1, t2⟩ := tdiv_mul_bd hn hb hb2
  obtain ⟨n1, n2⟩ := hn
  have ⟨q1, q2⟩ := tdiv_bd (b := b) ⟨n1, n2⟩
  have hz : (b == 0) = false := by simp; omega
  by_cases h : n < n.tdiv b * b
  · have H := hide (unhide H1 h)
    clear H1 H2
    go_enter Try.func23, Try.ntmps23
    go_wp2
    go_ret
    exact ⟨by rw [← unhide H]; rfl, rfl⟩
  · have H := hide (unhide H2 h)
    clear H1 H2
    go_enter Try.func23, Try.ntmps23
    go_wp2
    go_ret
    exact ⟨by rw [← unhide H]; rfl, rfl⟩

theorem worthOf_no (q p : Int) (w : World) (h : betw (-1000) q 1000 = false ∨ betw 0 p 10000 = false) :
    Calls Try.prog 22 #[.int .i64 q, .int .i64 p] w fun e w' => e = .returned (.tuple #[.int .i64 0, .int .i64 3]) ∧ w' = w := by
  by_cases q1 : q < -1000
  · clear h
    go_enter Try.func22, Try.ntmps22
    go_wp2
    go_ret2
    exact ⟨rfl, rfl⟩
  · by_cases q2 : 1000 < q
    · clear h
      go_enter Try.func22, Try.ntmps22
      go_wp2
      go_ret2
      exact ⟨rfl, rfl⟩
    · have hp : p < 0 ∨ 10000 < p := by
        rcases h with h | h
        · have := betw_false h; omega
        · exact betw_false h
      clear h
      by_cases p1 : p < 0
      · clear hp
        go_enter Try.func22, Try.ntmps22
        go_wp2
        go_ret2
        exact ⟨rfl, rfl⟩
      · have p2 : 10000 < p := by omega
        clear hp
        go_enter Try.func22, Try.ntmps22
        go_wp2
        go_ret2
        exact ⟨rfl, rfl⟩
theorem worthOf_yes (q p : Int) (w : World) (hq : betw (-1000) q 1000 = true) (hp : betw 0 p 10000 = true) :
    Calls Try.prog 22 #[.int .i64 q, .int .i64 p] w fun e w' => e = .returned (.tuple #[.int .i64 (q * p), .int .i64 0]) ∧ w' = w := by
  have ⟨m1, m2⟩ := mul_bd (n := q) (a := p) (by have := betw_true hq; omega) (by have := betw_true hp; omega)
  obtain ⟨q1, q2⟩ := betw_true hq
  obtain ⟨p1, p2⟩ := betw_true hp
  go_enter Try.func22, Try.ntmps22
  go_wp2
  go_ret2
  exact ⟨rfl, rfl⟩
theorem worthOf_any (q p : Int) (w : World) :
    Calls Try.prog 22 #[.int .i64 q, .int .i64 p] w fun e w' => e = .returned (.tuple #[.int .i64 (worthR q p).1, .int .i64 (worthR q p).2]) ∧ w' = w := by
  by_cases h : betw (-1000) q 1000 = true ∧ betw 0 p 10000 = true
  · refine (worthOf_yes q p w h.1 h.2).mono ?_
    rintro e w' ⟨rfl, rfl⟩
    unfold worthR
    rw [if_pos h]
    exact ⟨rfl, rfl⟩
  · refine (worthOf_no q p w ?_).mono ?_
    · cases hq : betw (-1000) q 1000
      · exact .inl rfl
      · cases hp : betw 0 p 10000
        · exact .inr rfl
        · exact absurd ⟨hq, hp⟩ h
    · rintro e w' ⟨rfl, rfl⟩
      unfold worthR
      rw [if_neg h]
      exact ⟨rfl, rfl⟩
end Go.Proofs.Ytbphljnncbiddab.RefA
