/-
  AccountEven, walked.
-/
import Derived.Test.YtbphljnncbiddabDoorAc5
namespace Go.Proofs.YtbphljnncbiddabDoor.Ac
open Go.RowKit Go.Proofs.YtbphljnncbiddabDoor.Num Go.Proofs.YtbphljnncbiddabDoor.Fix Go.Proofs.YtbphljnncbiddabDoor.AcP Go.Proofs.YtbphljnncbiddabDoor.Adds

theorem equal_any (p p2 : Option Addr) (n c n2 c2 : Nat) (xs ys : List Int) (w : World) (hl : xs.length = n) (hl2 : ys.length = n2) (hn : n ≤ 140737488351232) (hn2 : n2 ≤ 140737488351232) (h : Row w p xs) (h' : Row w p2 ys) :
    Calls Tryd.prog 16 #[.slice p n c, .slice p2 n2 c2] w fun e w' => e = .returned (.bool (decide (xs = ys))) ∧ ∃ q, w' = w.drewN q := by
  by_cases hnn : n = n2
  · subst hnn
    rcases h with rfl | ⟨b, off, rfl, hc⟩
    · have h0 : n = 0 := by simpa using hl.symm
      subst h0
      obtain rfl : ys = [] := List.eq_nil_of_length_eq_zero hl2
      refine (Tryd.slices_Equal_int_empty _ _ _ _ _ _ (by omega)).mono ?_
      rintro e w' ⟨rfl, rfl⟩
      exact ⟨rfl, 0, rfl⟩
    · rcases h' with rfl | ⟨b2, off2, rfl, hc2⟩
      · have h0 : n = 0 := by simpa using hl2.symm
        subst h0
        obtain rfl : xs = [] := List.eq_nil_of_length_eq_zero hl
        refine (Tryd.slices_Equal_int_empty _ _ _ _ _ _ (by omega)).mono ?_
        rintro e w' ⟨rfl, rfl⟩
        exact ⟨rfl, 0, rfl⟩
      · refine (Tryd.slices_Equal_int b off n c b2 off2 n c2 xs ys w (by omega) (by omega) (by omega) (by omega) hc hc2).mono ?_
        rintro e w' ⟨rfl, q, rfl⟩
        refine ⟨?_, q, rfl⟩
        rw [List.take_of_length_le (by omega), List.take_of_length_le (by omega)]
        by_cases e : xs = ys
        · simp [e]
        · simp [e]
  · refine (Tryd.slices_Equal_int_lens _ _ _ _ _ _ _ hnn).mono ?_
    rintro e w' ⟨rfl, rfl⟩
    have : ¬ xs = ys := fun e => hnn (by rw [← hl, ← hl2, e])
    exact ⟨by simp [this], 0, rfl⟩

end Go.Proofs.YtbphljnncbiddabDoor.Ac
