/-
  An account without positions: what it is worth, wants, and whether it is sound.
-/
import Derived.Test.YtkdkdhpllffjnabDoorRkP
namespace Go.Proofs.YtkdkdhpllffjnabDoor.RkP
open Go.Proofs.YtkdkdhpllffjnabDoor.Num Go.Proofs.YtkdkdhpllffjnabDoor.AcP

theorem mar_none : ∀ (k : Nat) (marks : List Int) (l : List Int), worths (List.replicate k 0) marks = some l → marFrom 0 0 (List.replicate k 0) marks = (0, 0, 0) ∧ ∀ x ∈ l, x = 0
  | 0, marks, l, h => by
    refine ⟨by simp [marFrom], ?_⟩
    have : l = [] := by simpa [worths] using h.symm
    subst this
    intro x hx; cases hx
  | k + 1, [], l, h => by
    refine ⟨by simp [marFrom, List.replicate_succ], ?_⟩
    have : l = [] := by simpa [worths, List.replicate_succ] using h.symm
    subst this
    intro x hx; cases hx
  | k + 1, m :: ms, l, h => by
    rw [List.replicate_succ] at h ⊢
    simp only [worths] at h
    split at h
    · rename_i hc
      cases hw : worths (List.replicate k 0) ms with
      | none => rw [hw] at h; cases h
      | some l' =>
        rw [hw] at h
        obtain ⟨h1, h2⟩ := mar_none k ms l' hw
        have hl : l = 0 * m :: l' := by simpa using h.symm
        subst hl
        refine ⟨?_, ?_⟩
        · rw [marFrom_on hc.2]
          have e : max (0 : Int) (-0) * m = 0 := by simp
          rw [e]
          have e1 : (0 : Int) + beg 0 = 0 := by decide
          have e2 : (0 : Int) + goO 0 = 0 := by decide
          rw [e1, e2]
          exact h1
        · intro x hx
          rcases List.mem_cons.1 hx with rfl | hx
          · simp
          · exact h2 x hx
    · cases h
theorem add_zeros (s : Int) (hs : money s = true) : ∀ (l : List Int), (∀ x ∈ l, x = 0) → addFrom s l = (s, 0)
  | [], _ => rfl
  | x :: l, h => by
    have : x = 0 := h x (by simp)
    subst this
    rw [addFrom_on (by decide) (by simpa using hs)]
    rw [show s + 0 = s by omega]
    exact add_zeros s hs l (fun y hy => h y (by simp [hy]))
theorem flat_all {id bal : Int} {marks : List Int} {k : Nat} (h : (equityR id bal (List.replicate k 0) marks).2 = 0) :
    equityR id bal (List.replicate k 0) marks = (bal, 0) ∧ marginsR id bal (List.replicate k 0) marks = (0, 0, 0) ∧ soundR id bal (List.replicate k 0) marks = (decide (0 ≤ bal), decide (0 ≤ bal), 0) := by
  have key : equityR id bal (List.replicate k 0) marks = (bal, 0) ∧ marginsR id bal (List.replicate k 0) marks = (0, 0, 0) := by
    unfold equityR marginsR at *
    by_cases he : accErr id bal (List.replicate k 0) marks.length = 0
    · rw [if_pos he] at h ⊢
      rw [if_pos he]
      obtain ⟨a1, a2, a3, a4, a5⟩ := accErr_ok he
      cases hw : worths (List.replicate k 0) marks with
      | none => rw [hw] at h; simp at h
      | some l =>
        obtain ⟨h1, h2⟩ := mar_none k marks l hw
        rw [hw] at h
        refine ⟨?_, h1⟩
        simp only []
        rw [addFrom_on a4 (by simpa using a4), show (0 : Int) + bal = bal by omega]
        exact add_zeros bal a4 l h2
    · rw [if_neg he] at h
      exact absurd h he
  refine ⟨key.1, key.2, ?_⟩
  unfold soundR
  rw [key.1, key.2]
  rfl
end Go.Proofs.YtkdkdhpllffjnabDoor.RkP
