/-
  Two lists of fills, alike or not.
-/
import Derived.Test.YtbphljnncbiddaaMtMat
import Derived.Test.YtbphljnncbiddaaShelfE
import Derived.Test.YtbphljnncbiddaaBkSame
namespace Go.Proofs.Ytbphljnncbiddaa.Bk
open Go.RowKit Go.Sort Go.Maps Go.Proofs.Ytbphljnncbiddaa.Mix

theorem neqF : NeqAt Try.prog 74 (fun x => .agg (encF x).toArray) (fun x y => decide (x = y)) := by
  refine ⟨fun x y w => ?_, GuardAt.agg _ (by kernel_rfl)⟩
  have u3 := Try.underlying3
  have a3 := Try.isAgg3
  have z3 := Try.sizeOf3
  have hS : Try.prog.underlying 74 = some (.struct (Try.prog.fieldsOf 74)) := by kernel_rfl
  have hp : Try.prog.stoodInHeld 74 = false := by kernel_rfl
  obtain ⟨a, b, c, d, q, r, s⟩ := x
  obtain ⟨a', b', c', d', q', r', s'⟩ := y
  simp only [encF]
  rw [run_neq_struct, show (10000 : Nat) = 9999 + 1 from rfl, run_equalIn_agg w 9999 74 _ _ hS hp]
  simp only [Program.fieldsOf, Try.underlying74]
  go_simp
  by_cases h1 : a = a' <;> by_cases h2 : b = b' <;> by_cases h3 : c = c' <;> by_cases h4 : d = d' <;> by_cases h5 : q = q' <;> by_cases h6 : r = r' <;> by_cases h7 : s = s' <;> simp [h1, h2, h3, h4, h5, h6, h7]

theorem allEqF : ∀ xs : List Fil, Lib.allEq (fun x y => decide (x = y)) xs xs = true
  | [] => by simp [Lib.allEq]
  | x :: xs => by simp [Lib.allEq, allEqF xs]

set_option maxRecDepth 100000 in
theorem equalF_none (p p' : Option Addr) (c c' : Nat) (w : World) :
    Calls Try.prog 53 #[.slice p 0 c, .slice p' 0 c'] w fun e w' => e = .returned (.bool true) ∧ ∃ k, w' = w.drewN k := by
  go_enter Try.func53, Try.ntmps53
  go_wp2
  refine wp_loop_rounds 1 ?_
  rw [rounds_succ]
  go_wp2
  go_ret
  exact ⟨rfl, 0, rfl⟩

theorem equalF_same (p p' : Option Addr) (c c' : Nat) (F : List Fil) (w : World) (h : FV w p c F) (h' : FV w p' c' F) (hn : F.length ≤ 1000) :
    Calls Try.prog 53 #[.slice p F.length c, .slice p' F.length c'] w fun e w' => e = .returned (.bool true) ∧ Below w.heap.size w w' := by
  have hb : ∀ k, Below w.heap.size w (w.drewN k) := fun k => below_drewN (Below.refl _ w) k
  by_cases hx : F = []
  · subst hx
    exact (equalF_none p p' c c' w).mono fun _ _ ⟨he, k, hk⟩ => ⟨he, hk ▸ hb k⟩
  · rcases h.row with h | ⟨b, off, rfl, hc⟩
    · exact absurd h hx
    · rcases h'.row with h' | ⟨b', off', rfl, hc'⟩
      · exact absurd h' hx
      · have cell : ∀ (b off : Nat), (∀ j u, (flatF F)[j]? = some u → w.cell? ⟨b, off + j, none⟩ = some u) → ∀ j, j < F.length → ∀ i v, (encF F[j]!)[i]? = some v → w.cell? ⟨b, off + j * 7 + i, none⟩ = some v := fun b off hc j hj i v hv => by
          have hi : i < 7 := by have := (List.getElem?_eq_some_iff.1 hv).1; rwa [encF_length] at this
          rw [Nat.add_assoc]
          exact hc _ v ((flatF_get F j i hj hi).trans hv)
        have hcon := AnyQ.slices_Equal Try.equalE 7 Try.isAgg74 Try.sizeOf74 encF encF_length (fun x y => decide (x = y)) neqF b off F.length c b' off' F.length c' F F w (Nat.le_refl _) (Nat.le_refl _) (by omega) (by omega) (cell b off hc) (cell b' off' hc')
        rw [List.take_length, allEqF] at hcon
        exact hcon.mono fun _ _ ⟨he, k, hk⟩ => ⟨he, hk ▸ hb k⟩
end Go.Proofs.Ytbphljnncbiddaa.Bk
