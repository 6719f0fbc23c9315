/-
  The closed fact of chapter 1: some parts, a sum, a middle one.
-/
import Derived.Test.YtlielpgekhaicaaFix
namespace Go.Proofs.Ytlielpgekhaicaa.Reck
open Go.RowKit Go.Proofs.Ytlielpgekhaicaa.Num Go.Proofs.Ytlielpgekhaicaa.Fix

theorem grown_drewN {a w : World} (h : Grown a w) (n : Nat) : Grown a (w.drewN n) := by
  induction n with
  | zero => exact h
  | succ n ih => exact ih.drew
theorem grown_of_drewN {a w : World} {n : Nat} (h : Grown (a.drewN n) w) : Grown a w := h
theorem below_of_drewN {B : Nat} {a w : World} {n : Nat} (h : Below B (a.drewN n) w) : Below B a w := (below_drewN (Below.refl _ _) n).trans h

set_option maxHeartbeats 400000 in
theorem reckoned_any (w : World) :
    Calls Try.prog 14 #[] w fun e w' => e = .returned (.bool true) ∧ Below w.heap.size w w' ∧ Grown w w' := by
  go_enter Try.func14, Try.ntmps14
  go_wp2_with fail
  refine (part_any _ _ _ _ _).mono ?_
  rintro e w' ⟨rfl, k1, rfl⟩
  rw [show partR 7 1 2 true = (4, 0) by decide]
  go_wp2_with fail
  refine (part_any _ _ _ _ _).mono ?_
  rintro e w' ⟨rfl, k2, rfl⟩
  rw [show partR (-7) 1 2 true = (-3, 0) by decide]
  go_wp2_with fail
  refine (part_any _ _ _ _ _).mono ?_
  rintro e w' ⟨rfl, k3, rfl⟩
  rw [show partR (-7) 1 2 false = (-4, 0) by decide]
  go_wp2_with fail
  refine (add_any _ 3 3 [1, 2, 3] _ rfl (by decide) ?_).mono ?_
  · refine .inr ⟨_, _, rfl, ?_⟩
    intro i hi
    rw [World.cell?_alloc_at _ _ _ _ (by simp)]
    match i, hi with
    | 0, _ => rfl
    | 1, _ => rfl
    | 2, _ => rfl
  rintro e w' ⟨rfl, rfl⟩
  rw [show addFrom 0 [1, 2, 3] = (6, 0) by decide]
  go_wp2_with fail
  refine (middle_any _ _ _ _).mono ?_
  rintro e w' ⟨rfl, rfl⟩
  rw [show middleR 3 1 2 = 2 by decide]
  go_wp2
  go_ret
  exact ⟨rfl, (below_drewN (Below.refl _ _) _).alloc (by simp) _, (grown_drewN (Grown.refl _) _).alloc _ _⟩
end Go.Proofs.Ytlielpgekhaicaa.Reck
