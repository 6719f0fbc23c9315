/-
  A greater position wants no less, of either sign as much: plain mathematics.
-/
import Derived.Test.YtkdkdhpllffjnabDoorRkP
namespace Go.Proofs.YtkdkdhpllffjnabDoor.RkP
open Go.Proofs.YtkdkdhpllffjnabDoor.Num Go.Proofs.YtkdkdhpllffjnabDoor.AcP

theorem mar_neg : ∀ (ps ms : List Int) (x y : Int), marFrom x y (ps.map fun p => -p) ms = marFrom x y ps ms
  | [], ms, x, y => by simp
  | p :: ps, [], x, y => by simp [marFrom]
  | p :: ps, m :: ms, x, y => by
    simp only [List.map_cons, marFrom]
    rw [show max (-p) (- -p) = max p (-p) by omega]
    split
    · exact mar_neg ps ms _ _
    · rfl
theorem all_neg (ps : List Int) : (ps.map fun p => -p).all pos1 = ps.all pos1 := by
  induction ps with
  | nil => rfl
  | cons p ps ih =>
    simp only [List.map_cons, List.all_cons, ih]
    congr 1
    unfold pos1 betw
    simp only [decide_eq_decide]
    omega
theorem err_neg (id bal : Int) (ps : List Int) (m : Int) : accErr id bal (ps.map fun p => -p) m = accErr id bal ps m := by
  unfold accErr
  rw [all_neg, List.length_map]
theorem margins_neg (id bal : Int) (ps ms : List Int) : marginsR id bal (ps.map fun p => -p) ms = marginsR id bal ps ms := by
  unfold marginsR
  rw [err_neg, mar_neg]

theorem ofH_up {w w' n m : Int} (h : 0 ≤ w) (hw : w ≤ w') (hn : 0 ≤ n) (hm : n ≤ m) : ofH w n ≤ ofH w' m := by
  have h1 : w * n ≤ w' * m := Int.mul_le_mul hw hm hn (by omega)
  unfold ofH divUp
  rw [if_pos rfl, if_pos rfl]
  omega
theorem tier_up {w w' : Int} (hw : w ≤ w') : (tierR w).2.1 ≤ (tierR w').2.1 ∧ (tierR w).2.2 ≤ (tierR w').2.2 := by
  unfold tierR
  split
  · rw [if_pos (by omega)]; decide
  · split
    · split
      · decide
      · rw [if_pos (by omega)]; decide
    · split
      · decide
      · split <;> decide
theorem beg_up {w w' : Int} (h : 0 ≤ w) (hw : w ≤ w') : beg w ≤ beg w' := ofH_up h hw (tier_bd w).1 (tier_up hw).1
theorem goO_up {w w' : Int} (h : 0 ≤ w) (hw : w ≤ w') : goO w ≤ goO w' := ofH_up h hw (tier_bd w).2.2.1 (tier_up hw).2
theorem abs_mul_up {p v m : Int} (hm : 0 ≤ m) (hv : max p (-p) ≤ max v (-v)) : 0 ≤ max p (-p) * m ∧ max p (-p) * m ≤ max v (-v) * m :=
  ⟨Int.mul_nonneg (by omega) hm, Int.mul_le_mul_of_nonneg_right hv hm⟩

theorem mar_up : ∀ (ps ms : List Int) (x y x' y' a b : Int), x ≤ x' → y ≤ y' → marFrom x y ps ms = (a, b, 0) → ∃ a' b', marFrom x' y' ps ms = (a', b', 0) ∧ a ≤ a' ∧ b ≤ b'
  | [], ms, x, y, x', y', a, b, h1, h2, h => by
    rw [marFrom_end] at h
    obtain ⟨rfl, rfl, -⟩ := by simpa using h
    exact ⟨x', y', marFrom_end, h1, h2⟩
  | p :: ps, [], x, y, x', y', a, b, h1, h2, h => by
    simp only [marFrom] at h ⊢
    obtain ⟨rfl, rfl, -⟩ := by simpa using h
    exact ⟨x', y', rfl, h1, h2⟩
  | p :: ps, m :: ms, x, y, x', y', a, b, h1, h2, h => by
    simp only [marFrom] at h ⊢
    split at h
    · rename_i hm
      rw [if_pos hm]
      exact mar_up ps ms _ _ _ _ a b (by omega) (by omega) h
    · simp at h
theorem mar_set : ∀ (ps ms : List Int) (k : Nat) (v x y x' y' a b : Int), x ≤ x' → y ≤ y' → k < ps.length → max (ps.getD k 0) (-(ps.getD k 0)) ≤ max v (-v) → marFrom x y ps ms = (a, b, 0) → ∃ a' b', marFrom x' y' (ps.set k v) ms = (a', b', 0) ∧ a ≤ a' ∧ b ≤ b'
  | [], ms, k, v, x, y, x', y', a, b, h1, h2, hk, hv, h => by simp at hk
  | p :: ps, [], k, v, x, y, x', y', a, b, h1, h2, hk, hv, h => by
    obtain ⟨rfl, rfl, -⟩ := by simpa [marFrom] using h
    cases k with
    | zero => exact ⟨x', y', by simp [marFrom], h1, h2⟩
    | succ k => exact ⟨x', y', by simp [marFrom], h1, h2⟩
  | p :: ps, m :: ms, k, v, x, y, x', y', a, b, h1, h2, hk, hv, h => by
    simp only [marFrom] at h
    split at h
    · rename_i hm
      have hm0 := (betw_true hm).1
      cases k with
      | zero =>
        simp only [List.set_cons_zero, marFrom]
        rw [if_pos hm]
        have hv' : max p (-p) ≤ max v (-v) := by simpa using hv
        obtain ⟨c1, c2⟩ := abs_mul_up hm0 hv'
        have := beg_up c1 c2
        have := goO_up c1 c2
        exact mar_up ps ms _ _ _ _ a b (by omega) (by omega) h
      | succ k =>
        simp only [List.set_cons_succ, marFrom]
        rw [if_pos hm]
        exact mar_set ps ms k v _ _ _ _ a b (by omega) (by omega) (by simpa using hk) (by simpa using hv) h
    · simp at h
theorem margins_set {id bal : Int} {pos marks : List Int} {k : Nat} {v a b : Int} (h : marginsR id bal pos marks = (a, b, 0)) (hk : k < pos.length) (hv : max (pos.getD k 0) (-(pos.getD k 0)) ≤ max v (-v)) (hv2 : betw (-1000) v 1000 = true) :
    ∃ a' b', marginsR id bal (pos.set k v) marks = (a', b', 0) ∧ a ≤ a' ∧ b ≤ b' := by
  unfold marginsR at h ⊢
  split at h
  · rename_i he
    obtain ⟨a1, a2, a3, a4, a5⟩ := accErr_ok he
    rw [if_pos (accErr_mk a1 a2 (by simpa using a3) a4 (all_set a5 hv2))]
    exact mar_set pos marks k v 0 0 0 0 a b (Int.le_refl _) (Int.le_refl _) hk hv h
  · rename_i he
    simp only [Prod.mk.injEq] at h
    exact absurd h.2.2 he
end Go.Proofs.YtkdkdhpllffjnabDoor.RkP
