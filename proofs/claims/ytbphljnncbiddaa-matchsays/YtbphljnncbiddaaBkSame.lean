/-
  Package book by contracts: Same, Best.
-/
import Derived.Test.YtbphljnncbiddaaBkFind
import Derived.Laws.StructEq
namespace Go.Proofs.Ytbphljnncbiddaa.Bk
open Go.RowKit Go.Sort Go.Maps Go.Proofs.Ytbphljnncbiddaa.Mix

theorem neqO : NeqAt Try.prog 44 (fun x => .agg (enc x).toArray) (fun x y => decide (x = y)) := by
  refine ⟨fun x y w => ?_, GuardAt.agg _ (by kernel_rfl)⟩
  have u3 := Try.underlying3
  have a3 := Try.isAgg3
  have z3 := Try.sizeOf3
  have hS : Try.prog.underlying 44 = some (.struct (Try.prog.fieldsOf 44)) := by kernel_rfl
  have hp : Try.prog.stoodInHeld 44 = false := by kernel_rfl
  obtain ⟨a, b, c, d, q⟩ := x
  obtain ⟨a', b', c', d', q'⟩ := y
  simp only [enc, oid, oac, osd, opr, oqt]
  rw [run_neq_struct, show (10000 : Nat) = 9999 + 1 from rfl, run_equalIn_agg w 9999 44 _ _ hS hp]
  simp only [Program.fieldsOf, Try.underlying44]
  go_simp
  by_cases h1 : a = a' <;> by_cases h2 : b = b' <;> by_cases h3 : c = c' <;> by_cases h4 : d = d' <;> by_cases h5 : q = q' <;> simp [h1, h2, h3, h4, h5]

theorem allEq_same : ∀ xs ys : List Odr, Lib.allEq (fun x y => decide (x = y)) xs ys = decide (xs = ys)
  | [], [] => by simp [Lib.allEq]
  | [], y :: ys => by simp [Lib.allEq]
  | x :: xs, [] => by simp [Lib.allEq]
  | x :: xs, y :: ys => by
    simp only [Lib.allEq, allEq_same xs ys, List.cons.injEq]
    by_cases h1 : x = y <;> by_cases h2 : xs = ys <;> simp [h1, h2]

set_option maxRecDepth 100000 in
theorem equal_len (p p' : Option Addr) (n m c c' : Nat) (w : World) (h : n ≠ m) :
    Calls Try.prog 84 #[.slice p n c, .slice p' m c'] w fun e w' => e = .returned (.bool false) ∧ ∃ k, w' = w.drewN k := by
  have hnm : ¬ (n : Int) = (m : Int) := by omega
  have hb : ((n : Int) == (m : Int)) = false := by simp; omega
  go_enter Try.func84, Try.ntmps84
  go_wp2
  go_ret
  exact ⟨rfl, 0, rfl⟩

set_option maxRecDepth 100000 in
theorem equal_none (p p' : Option Addr) (c c' : Nat) (w : World) :
    Calls Try.prog 84 #[.slice p 0 c, .slice p' 0 c'] w fun e w' => e = .returned (.bool true) ∧ ∃ k, w' = w.drewN k := by
  go_enter Try.func84, Try.ntmps84
  go_wp2
  refine wp_loop_rounds 1 ?_
  rw [rounds_succ]
  go_wp2
  go_ret
  exact ⟨rfl, 0, rfl⟩

theorem equal_any (p p' : Option Addr) (c c' : Nat) (xs ys : List Odr) (w : World) (h : ORow w p xs) (h' : ORow w p' ys) (hn : xs.length ≤ 140737488351232) (hn' : ys.length ≤ 140737488351232) :
    Calls Try.prog 84 #[.slice p xs.length c, .slice p' ys.length c'] w fun e w' => e = .returned (.bool (decide (xs = ys))) ∧ ∃ k, w' = w.drewN k := by
  by_cases hl : xs.length = ys.length
  · by_cases hx : xs = []
    · subst hx
      have hy : ys = [] := List.eq_nil_of_length_eq_zero (by simpa using hl.symm)
      subst hy
      exact equal_none p p' c c' w
    · have hy : ys ≠ [] := fun e => hx (List.eq_nil_of_length_eq_zero (by rw [hl, e]; rfl))
      rcases h with h | ⟨b, off, rfl, hc⟩
      · exact absurd h hx
      · rcases h' with h' | ⟨b', off', rfl, hc'⟩
        · exact absurd h' hy
        · have hcon := AnyQ.slices_Equal Try.equalB 5 Try.isAgg44 Try.sizeOf44 enc enc_length (fun x y => decide (x = y)) neqO b off xs.length c b' off' ys.length c' xs ys w (Nat.le_refl _) (Nat.le_refl _) (by omega) (by omega) hc hc'
          rw [List.take_length, List.take_length, allEq_same] at hcon
          exact hcon
  · have := equal_len p p' xs.length ys.length c c' w hl
    rw [decide_eq_false (fun e => hl (by rw [e]))]
    exact this

set_option maxHeartbeats 1000000 in
theorem same_any (p p' r r' : Option Addr) (c c' d d' : Nat) (b1 a1 b2 a2 : List Odr) (w : World) (h : ORow w p b1) (h' : ORow w p' a1) (k : ORow w r b2) (k' : ORow w r' a2)
    (n1 : b1.length ≤ 140737488351232) (n2 : a1.length ≤ 140737488351232) (n3 : b2.length ≤ 140737488351232) (n4 : a2.length ≤ 140737488351232) :
    Calls Try.prog 41 #[.agg #[.slice p b1.length c, .slice p' a1.length c'], .agg #[.slice r b2.length d, .slice r' a2.length d']] w fun e w' => e = .returned (.bool (decide (b1 = b2 ∧ a1 = a2))) ∧ Below w.heap.size w w' := by
  have hb0 : ∀ o1 o2, Below w.heap.size w ((w.alloc o1).alloc o2) := fun o1 o2 => ((Below.refl _ w).alloc (Nat.le_refl _) _).alloc (by simp) _
  have E1 := hide (fun W hW => equal_any p r c d b1 b2 W (orow_below h hW) (orow_below k hW) n1 n3)
  have E2 := hide (fun W hW => equal_any p' r' c' d' a1 a2 W (orow_below h' hW) (orow_below k' hW) n2 n4)
  clear h h' k k'
  generalize b1.length = l1 at E1 n1 ⊢
  generalize a1.length = l2 at E2 n2 ⊢
  generalize b2.length = l3 at E1 n3 ⊢
  generalize a2.length = l4 at E2 n4 ⊢
  by_cases hb : b1 = b2
  · rw [decide_eq_true hb] at E1
    rw [show decide (b1 = b2 ∧ a1 = a2) = decide (a1 = a2) by simp [hb]]
    generalize decide (a1 = a2) = t at E2 ⊢
    go_enter Try.func41, Try.ntmps41
    go_wp2_with fail
    refine (E1.out _ (hb0 _ _)).mono ?_
    rintro e w1 ⟨rfl, k1, rfl⟩
    go_wp2_with fail
    refine (E2.out _ ?_).mono ?_
    · exact (hb0 _ _).trans ⟨rfl, rfl, rfl, Nat.le_refl _, fun _ _ => rfl⟩
    rintro e w2 ⟨rfl, k2, rfl⟩
    go_wp2
    go_ret
    exact ⟨rfl, (hb0 _ _).trans ⟨rfl, rfl, rfl, Nat.le_refl _, fun _ _ => rfl⟩⟩
  · rw [decide_eq_false hb] at E1
    rw [decide_eq_false (fun e => hb e.1)]
    go_enter Try.func41, Try.ntmps41
    go_wp2_with fail
    refine (E1.out _ (hb0 _ _)).mono ?_
    rintro e w1 ⟨rfl, k1, rfl⟩
    go_wp2
    go_ret
    exact ⟨rfl, (hb0 _ _).trans ⟨rfl, rfl, rfl, Nat.le_refl _, fun _ _ => rfl⟩⟩
end Go.Proofs.Ytbphljnncbiddaa.Bk
