/-
  At the bankrupt price nothing is lacking, and a step further something is: plain mathematics.
-/
import Derived.Test.YtkdkdhpllffjnabDoorRmBank
namespace Go.Proofs.YtkdkdhpllffjnabDoor.Rm
open Go.Proofs.YtkdkdhpllffjnabDoor.Num Go.Proofs.YtkdkdhpllffjnabDoor.AcP Go.Proofs.YtkdkdhpllffjnabDoor.RkP

theorem add_err : ∀ (l : List Int) (s : Int), (∀ x ∈ l, money x = true) → (addFrom s l).2 = 0 ∨ (addFrom s l).2 = 7
  | [], s, _ => .inl rfl
  | x :: l, s, h => by
    simp only [addFrom]
    rw [if_pos (h x (by simp))]
    split
    · exact add_err l _ (fun y hy => h y (by simp [hy]))
    · exact .inr rfl
theorem worths_some : ∀ (ps ms : List Int), (∀ i, i < ps.length → betw (-1000) (ps.getD i 0) 1000 = true ∧ betw 0 (ms.getD i 0) 10000 = true) → ∃ l, worths ps ms = some l ∧ ∀ x ∈ l, money x = true
  | [], ms, _ => ⟨[], by simp [worths], by simp⟩
  | p :: ps, [], _ => ⟨[], by simp [worths], by simp⟩
  | p :: ps, m :: ms, h => by
    have h0 : betw (-1000) p 1000 = true ∧ betw 0 m 10000 = true := by simpa using h 0 (by simp)
    obtain ⟨l, h1, h2⟩ := worths_some ps ms (fun i hi => by simpa using h (i + 1) (by simpa using hi))
    refine ⟨p * m :: l, ?_, ?_⟩
    · simp only [worths]
      rw [if_pos h0, h1]
      rfl
    · intro x hx
      rcases List.mem_cons.1 hx with rfl | hx
      · have := money_true (Ac.cost_money h0.1 h0.2)
        exact money_mk (by omega)
      · exact h2 x hx
theorem equity_set {id bal : Int} {pos marks : List Int} {k : Nat} {v : Int} (h : (equityR id bal pos marks).2 = 0) (hk : k < pos.length) (hv : betw 0 v 10000 = true) :
    (equityR id bal pos (marks.set k v)).2 = 0 ∨ (equityR id bal pos (marks.set k v)).2 = 7 := by
  obtain ⟨f0, f1, f2, f3⟩ := equity_facts h
  obtain ⟨a1, a2, a3, a4, a5⟩ := accErr_ok f0
  unfold equityR
  rw [if_pos (by simpa using f0)]
  obtain ⟨l, h1, h2⟩ := worths_some pos (marks.set k v) (fun i hi => by
    obtain ⟨c1, c2⟩ := f3 i hi
    refine ⟨c1, ?_⟩
    by_cases hik : i = k
    · subst hik
      simp only [List.getD_eq_getElem?_getD]
      rw [List.getElem?_set_self (by omega)]
      exact hv
    · simp only [List.getD_eq_getElem?_getD] at c2 ⊢
      rw [List.getElem?_set_ne (fun e => hik e.symm)]
      exact c2)
  rw [h1]
  exact add_err (bal :: l) 0 (by
    intro x hx
    rcases List.mem_cons.1 hx with rfl | hx
    · exact a4
    · exact h2 x hx)
theorem equity_shift {id bal : Int} {pos marks : List Int} {k : Nat} {v n n' : Int} (h : equityR id bal pos marks = (n, 0)) (h' : equityR id bal pos (marks.set k v) = (n', 0)) (hk : k < pos.length) :
    n' = n - pos.getD k 0 * marks.getD k 0 + pos.getD k 0 * v := by
  obtain ⟨-, e⟩ := equity_ok h
  obtain ⟨-, e'⟩ := equity_ok h'
  rcases e with ⟨x, m, rfl, rfl, rfl⟩ | ⟨x, y, m, j, rfl, rfl, rfl⟩
  · have : k = 0 := by simpa using hk
    subst this
    rcases e' with ⟨x', m', e1, e2, rfl⟩ | ⟨x', y', m', j', e1, e2, rfl⟩
    · cases e1
      have : v = m' := by simpa using e2
      subst this
      simp
    · cases e1
  · have : k = 0 ∨ k = 1 := by simp at hk; omega
    rcases this with rfl | rfl
    · rcases e' with ⟨x', m', e1, e2, rfl⟩ | ⟨x', y', m', j', e1, e2, rfl⟩
      · cases e1
      · cases e1
        obtain ⟨rfl, rfl⟩ : v = m' ∧ j = j' := by simpa using e2
        simp
        omega
    · rcases e' with ⟨x', m', e1, e2, rfl⟩ | ⟨x', y', m', j', e1, e2, rfl⟩
      · cases e1
      · cases e1
        obtain ⟨rfl, rfl⟩ : m = m' ∧ v = j' := by simpa using e2
        simp
/-- the price that isn't held at an end is the one at which just nothing is lacking. -/
theorem even_up_of {rest q : Int} (h1 : 0 < q) (h2 : q ≤ 1000) (h3 : 1 < middleR 1 (evenR rest q) 10000) (h4 : middleR 1 (evenR rest q) 10000 < 10000) :
    0 ≤ rest + q * middleR 1 (evenR rest q) 10000 ∧ rest + q * (middleR 1 (evenR rest q) 10000 - 1) < 0 := by
  have e : middleR 1 (evenR rest q) 10000 = evenR rest q := by unfold middleR at *; omega
  rw [e] at h3 h4 ⊢
  unfold evenR at *
  rw [if_pos h1] at *
  unfold divUp at *
  rw [if_pos rfl, Int.neg_neg] at *
  have hm : middleR (-1000000000000) rest 1000000000000 = rest := by
    have l := ediv_lo (n := middleR (-1000000000000) rest 1000000000000) (b := q) h1
    have lo : q * (-10000) ≤ q * (middleR (-1000000000000) rest 1000000000000 / q) := Int.mul_le_mul_of_nonneg_left (by omega) (by omega)
    have hi : q * (middleR (-1000000000000) rest 1000000000000 / q) ≤ q * (-1) := Int.mul_le_mul_of_nonneg_left (by omega) (by omega)
    unfold middleR at *
    omega
  rw [hm] at *
  have l := ediv_lo (n := rest) (b := q) h1
  rw [Int.mul_sub, Int.mul_neg]
  omega
theorem even_down_of {rest q : Int} (h1 : q < 0) (h2 : -1000 ≤ q) (h3 : 1 < middleR 1 (evenR rest q) 10000) (h4 : middleR 1 (evenR rest q) 10000 < 10000) :
    0 ≤ rest + q * middleR 1 (evenR rest q) 10000 ∧ rest + q * (middleR 1 (evenR rest q) 10000 + 1) < 0 := by
  have e : middleR 1 (evenR rest q) 10000 = evenR rest q := by unfold middleR at *; omega
  rw [e] at h3 h4 ⊢
  unfold evenR at *
  rw [if_neg (by omega)] at *
  unfold divUp at *
  rw [if_neg (by decide)] at *
  obtain ⟨r, hr, hr1, hr2⟩ : ∃ r, q = -r ∧ 0 < r ∧ r ≤ 1000 := ⟨-q, by omega, by omega, by omega⟩
  subst hr
  rw [Int.neg_neg] at *
  have hm : middleR (-1000000000000) rest 1000000000000 = rest := by
    have l := ediv_lo (n := middleR (-1000000000000) rest 1000000000000) (b := r) hr1
    have lo : r * 1 ≤ r * (middleR (-1000000000000) rest 1000000000000 / r) := Int.mul_le_mul_of_nonneg_left (by omega) (by omega)
    have hi : r * (middleR (-1000000000000) rest 1000000000000 / r) ≤ r * 10000 := Int.mul_le_mul_of_nonneg_left (by omega) (by omega)
    unfold middleR at *
    omega
  rw [hm] at *
  have l := ediv_lo (n := rest) (b := r) hr1
  rw [Int.mul_add, Int.neg_mul]
  omega

theorem mar_order : ∀ (ps ms : List Int) (x y a b : Int), 0 ≤ y → y ≤ x → marFrom x y ps ms = (a, b, 0) → 0 ≤ b ∧ b ≤ a
  | [], ms, x, y, a, b, h1, h2, h => by
    rw [marFrom_end] at h
    obtain ⟨rfl, rfl, -⟩ := by simpa using h
    exact ⟨h1, h2⟩
  | p :: ps, [], x, y, a, b, h1, h2, h => by
    simp only [marFrom] at h
    obtain ⟨rfl, rfl, -⟩ := by simpa using h
    exact ⟨h1, h2⟩
  | p :: ps, m :: ms, x, y, a, b, h1, h2, h => by
    simp only [marFrom] at h
    split at h
    · rename_i hm
      have hw : 0 ≤ max p (-p) * m := Int.mul_nonneg (by omega) (betw_true hm).1
      have := goO_bd hw
      have := goO_beg hw
      exact mar_order ps ms _ _ a b (by omega) (by omega) h
    · simp at h
theorem margins_order {id bal : Int} {pos marks : List Int} {x y : Int} (h : marginsR id bal pos marks = (x, y, 0)) : 0 ≤ y ∧ y ≤ x := by
  unfold marginsR at h
  split at h
  · exact mar_order pos marks 0 0 x y (Int.le_refl _) (Int.le_refl _) h
  · rename_i he
    simp only [Prod.mk.injEq] at h
    exact absurd h.2.2 he
end Go.Proofs.YtkdkdhpllffjnabDoor.Rm
