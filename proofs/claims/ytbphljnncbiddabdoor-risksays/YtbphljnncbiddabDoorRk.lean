/-
  Package risk by contracts: the tiers, parts of a hundred.
-/
import Derived.Test.YtbphljnncbiddabDoorAc4
import Derived.Test.YtbphljnncbiddabDoorRkP
import Derived.LoopN
namespace Go.Proofs.YtbphljnncbiddabDoor.Rk
open Go.RowKit Go.Proofs.YtbphljnncbiddabDoor.Num Go.Proofs.YtbphljnncbiddabDoor.Fix Go.Proofs.YtbphljnncbiddabDoor.AcP Go.Proofs.YtbphljnncbiddabDoor.RkP Go.Proofs.YtbphljnncbiddabDoor.Ac

/-- the program's table of tiers, as it lies. -/
def tab : List Int := [0, 10, 5, 100000, 20, 10, 1000000, 50, 25]
def Laid (w : World) : Prop := ∀ i, i < 9 → w.cell? ⟨0, i, none⟩ = some (.int .i64 (tab.getD i 0))
theorem Laid.below {w w' : World} {B : Nat} (h : Laid w) (hb : Below B w w') (hB : 0 < B) : Laid w' := fun i hi => (hb.cell hB).trans (h i hi)
theorem Laid.size {w : World} (h : Laid w) : 0 < w.heap.size := World.block_lt_of_cell? _ _ (h 0 (by decide))
theorem Laid.next {w w' : World} (h : Laid w) (hb : Below w.heap.size w w') : Laid w' := h.below hb h.size
/-- the whole table, as it is read. -/
abbrev tabV : Value := .agg #[.int .i64 0, .int .i64 10, .int .i64 5, .int .i64 100000, .int .i64 20, .int .i64 10, .int .i64 1000000, .int .i64 50, .int .i64 25]
theorem tab0 (W : World) : (Instr.index 70 tabV (.int .i64 0)).run Tryd.prog W = .ok (.agg #[.int .i64 0, .int .i64 10, .int .i64 5]) W := by kernel_rfl
theorem tab1 (W : World) : (Instr.index 70 tabV (.int .i64 1)).run Tryd.prog W = .ok (.agg #[.int .i64 100000, .int .i64 20, .int .i64 10]) W := by kernel_rfl
theorem tab2 (W : World) : (Instr.index 70 tabV (.int .i64 2)).run Tryd.prog W = .ok (.agg #[.int .i64 1000000, .int .i64 50, .int .i64 25]) W := by kernel_rfl


set_option maxHeartbeats 1000000 in
set_option maxRecDepth 100000 in
theorem tierOf_any (wth : Int) (w : World) (h : Laid w) :
    Calls Tryd.prog 28 #[.int .i64 wth] w fun e w' => e = .returned (.agg #[.int .i64 (tierR wth).1, .int .i64 (tierR wth).2.1, .int .i64 (tierR wth).2.2]) ∧ Below w.heap.size w w' := by
  have c0 := h 0 (by decide)
  have c1 := h 1 (by decide)
  have c2 := h 2 (by decide)
  have c3 := h 3 (by decide)
  have c4 := h 4 (by decide)
  have c5 := h 5 (by decide)
  have c6 := h 6 (by decide)
  have c7 := h 7 (by decide)
  have c8 := h 8 (by decide)
  simp only [tab, List.getD_cons_zero, List.getD_cons_succ] at c0 c1 c2 c3 c4 c5 c6 c7 c8
  have hz := h.size
  have i0 := tab0
  have i1 := tab1
  have i2 := tab2
  clear h
  by_cases h1 : 0 < wth
  · by_cases h2 : 100000 < wth
    · by_cases h3 : 1000000 < wth
      · have e : tierR wth = (1000000, 50, 25) := by unfold tierR; first | (rw [if_pos (by omega)]) | (rw [if_neg (by omega), if_pos (by omega)]) | (rw [if_neg (by omega), if_neg (by omega)])
        rw [e]
        clear e
        go_enter Tryd.func28, Tryd.ntmps28
        go_wp2
        refine wp_loop_rounds 4 ?_
        rw [rounds_succ]
        go_wp2
        rw [rounds_succ]
        go_wp2
        rw [rounds_succ]
        go_wp2
        rw [rounds_succ]
        go_wp2
        refine bodyPost_ret (v := .agg #[.int .i64 1000000, .int .i64 50, .int .i64 25]) (by simp [results, Tryd.results28, go_sem]) rfl ⟨rfl, ?_⟩
        exact (below4 _ _ _ _ _).alloc (by simp; omega) _
      · have e : tierR wth = (100000, 20, 10) := by unfold tierR; first | (rw [if_pos (by omega)]) | (rw [if_neg (by omega), if_pos (by omega)]) | (rw [if_neg (by omega), if_neg (by omega)])
        rw [e]
        clear e
        go_enter Tryd.func28, Tryd.ntmps28
        go_wp2
        refine wp_loop_rounds 4 ?_
        rw [rounds_succ]
        go_wp2
        rw [rounds_succ]
        go_wp2
        rw [rounds_succ]
        go_wp2
        rw [rounds_succ]
        go_wp2
        refine bodyPost_ret (v := .agg #[.int .i64 100000, .int .i64 20, .int .i64 10]) (by simp [results, Tryd.results28, go_sem]) rfl ⟨rfl, ?_⟩
        exact (below4 _ _ _ _ _).alloc (by simp; omega) _
    · have h3 : ¬ 1000000 < wth := by omega
      have e : tierR wth = (0, 10, 5) := by unfold tierR; first | (rw [if_pos (by omega)]) | (rw [if_neg (by omega), if_pos (by omega)]) | (rw [if_neg (by omega), if_neg (by omega)])
      rw [e]
      clear e
      go_enter Tryd.func28, Tryd.ntmps28
      go_wp2
      refine wp_loop_rounds 4 ?_
      rw [rounds_succ]
      go_wp2
      rw [rounds_succ]
      go_wp2
      rw [rounds_succ]
      go_wp2
      rw [rounds_succ]
      go_wp2
      refine bodyPost_ret (v := .agg #[.int .i64 0, .int .i64 10, .int .i64 5]) (by simp [results, Tryd.results28, go_sem]) rfl ⟨rfl, ?_⟩
      exact (below4 _ _ _ _ _).alloc (by simp; omega) _
  · have h2 : ¬ 100000 < wth := by omega
    have h3 : ¬ 1000000 < wth := by omega
    have e : tierR wth = (0, 10, 5) := by unfold tierR; first | (rw [if_pos (by omega)]) | (rw [if_neg (by omega), if_pos (by omega)]) | (rw [if_neg (by omega), if_neg (by omega)])
    rw [e]
    clear e
    go_enter Tryd.func28, Tryd.ntmps28
    go_wp2
    refine wp_loop_rounds 4 ?_
    rw [rounds_succ]
    go_wp2
    rw [rounds_succ]
    go_wp2
    rw [rounds_succ]
    go_wp2
    rw [rounds_succ]
    go_wp2
    refine bodyPost_ret (v := .agg #[.int .i64 0, .int .i64 10, .int .i64 5]) (by simp [results, Tryd.results28, go_sem]) rfl ⟨rfl, ?_⟩
    exact (below4 _ _ _ _ _).alloc (by simp; omega) _

theorem ofHundred_any (x n : Int) (w : World) (h : 0 ≤ x) (h2 : x ≤ 10000000) (hn : 0 ≤ n) (hn2 : n ≤ 100) :
    Calls Tryd.prog 29 #[.int .i64 x, .int .i64 n] w fun e w' => e = .returned (.int .i64 (ofH x n)) ∧ ∃ k, w' = w.drewN k := by
  have P := hide (fun W => part_any x n 100 true W)
  rw [part_ofH h h2 hn hn2] at P
  clear h h2 hn hn2
  go_enter Tryd.func29, Tryd.ntmps29
  go_wp2_with fail
  refine (P.out _).mono ?_
  rintro e w' ⟨rfl, k, rfl⟩
  go_wp2
  go_ret
  exact ⟨rfl, _, rfl⟩
end Go.Proofs.YtbphljnncbiddabDoor.Rk
