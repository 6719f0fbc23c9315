/-
  AccountFlat, walked.
-/
import Derived.Test.YtkdkdhpllffjnabDoorRk2
import Derived.Test.YtkdkdhpllffjnabDoorRkFlatP
import Derived.Test.YtkdkdhpllffjnabDoorAc5
namespace Go.Proofs.YtkdkdhpllffjnabDoor.Rk
open Go.RowKit Go.Proofs.YtkdkdhpllffjnabDoor.Num Go.Proofs.YtkdkdhpllffjnabDoor.Fix Go.Proofs.YtkdkdhpllffjnabDoor.AcP Go.Proofs.YtkdkdhpllffjnabDoor.RkP Go.Proofs.YtkdkdhpllffjnabDoor.Ac

theorem make_ints (k : Nat) (hk : k ≤ 1000) : ∃ cs : Array Value, (∀ W : World, (Instr.makeSlice 23 (.int .i64 (k : Int)) (.int .i64 (k : Int))).run Tryd.prog W = .ok (.slice (some ⟨W.heap.size, 0, none⟩) k k) (W.alloc (.cells cs 3))) ∧ ∀ i, i < k → cs[i]? = some (.int .i64 0) := by
  obtain ⟨i0, hi, hz0, hz1, hz2⟩ := info_parts (show (Tryd.prog.info? 3).map (fun i => (i.zero, i.size, i.bytes)) = some (some (.int .i64 0), 1, 8) by kernel_rfl)
  refine ⟨madeCells (Value.int .i64 0).cells (k * 1), fun W => ?_, fun i h => ?_⟩
  · have := run_makeSlice W 23 3 i0 (.int .i64 0) Tryd.underlying23 hi hz0 .i64 .i64 k k (by omega) (Int.le_refl _) (by rw [hz1]; simp; omega) (by rw [hz2]; omega) (by omega)
    rw [hz1] at this
    simpa only [Int.toNat_natCast] using this
  · simp [madeCells, Value.cells, h]
    rw [show i % 1 = 0 by omega]
    rfl

set_option maxHeartbeats 2000000 in
set_option maxRecDepth 100000 in
theorem flat_any (id bal : Int) (p2 : Option Addr) (n c : Nat) (marks : List Int) (w : World) (hl : marks.length = n) (hL : Laid w) (h : Row w p2 marks) :
    Calls Tryd.prog 5 #[.int .i64 id, .int .i64 bal, .slice p2 n c] w fun e w' => e = .returned (.bool true) ∧ Below w.heap.size w w' := by
  obtain ⟨k, hk, hk9⟩ : ∃ k : Nat, min (n : Int) 9 = (k : Int) ∧ k ≤ 9 := ⟨min n 9, by omega, by omega⟩
  obtain ⟨cs, MK, hcs⟩ := make_ints k (by omega)
  have RW : Hid (Row ((w.alloc (.cells cs 3)).alloc (accO id bal (some ⟨w.heap.size, 0, none⟩) k k)) (some ⟨w.heap.size, 0, none⟩) (List.replicate k 0)) := by
    refine .inr ⟨_, _, rfl, fun i hi => ?_⟩
    simp at hi
    rw [Nat.zero_add]
    rw [show (List.replicate k (0 : Int)).getD i 0 = 0 by simp [List.getD_eq_getElem?_getD, hi]]
    exact cell_alloc (new_cell w _ _ i _ (hcs i hi)) _
  have EQ := hide (fun W hW hR => equity_any id bal (some ⟨w.heap.size, 0, none⟩) p2 k k n c (List.replicate k 0) marks W (by simp) hl (by omega) hR (row_below h hW))
  have MA := hide (fun W hW hR => margins_any id bal (some ⟨w.heap.size, 0, none⟩) p2 k k n c (List.replicate k 0) marks W (by simp) hl (by omega) (hL.next hW) hR (row_below h hW))
  have SO := hide (fun W hW hR => sound_any id bal (some ⟨w.heap.size, 0, none⟩) p2 k k n c (List.replicate k 0) marks W (by simp) hl (by omega) (hL.next hW) hR (row_below h hW))
  have FA := hide (flat_all (id := id) (bal := bal) (marks := marks) (k := k))
  clear hcs hl hL h
  by_cases he : (equityR id bal (List.replicate k 0) marks).2 = 0
  · obtain ⟨f1, f2, f3⟩ := FA.out he
    rw [f1] at EQ
    rw [f2] at MA
    rw [f3] at SO
    clear f1 f2 f3 he FA
    go_enter Tryd.func5, Tryd.ntmps5
    go_wp2_with fail
    refine (EQ.out _ (below_alloc2 _ _ _) RW.out).mono ?_
    rintro e W1 ⟨rfl, hb1⟩
    have B1 := hide ((below_alloc2 w (.cells cs 3) (accO id bal (some ⟨w.heap.size, 0, none⟩) k k)).trans (hb1.mono (by simp; omega)))
    have RW1 := hide (row_below RW.out hb1)
    have b0 := cell_in hb1 (new_cell2 w _ _ _ 0 _ rfl) (by simp)
    have b1 := cell_in hb1 (new_cell2 w _ _ _ 1 _ rfl) (by simp)
    have b2 := cell_in hb1 (new_cell2 w _ _ _ 2 _ rfl) (by simp)
    clear hb1
    go_wp2_with fail
    refine (counted_any _).mono ?_
    rintro e W2 ⟨rfl, hb2⟩
    have B2 := hide (B1.out.trans (hb2.mono B1.out.size))
    have RW2 := hide (row_below RW1.out hb2)
    have b0 := cell_in hb2 b0 (World.block_lt_of_cell? _ _ b0)
    have b1 := cell_in hb2 b1 (World.block_lt_of_cell? _ _ b1)
    have b2 := cell_in hb2 b2 (World.block_lt_of_cell? _ _ b2)
    clear hb2
    go_wp2_with fail
    refine (MA.out _ B2.out RW2.out).mono ?_
    rintro e W3 ⟨rfl, hb3⟩
    have B3 := hide (B2.out.trans (hb3.mono B2.out.size))
    have RW3 := hide (row_below RW2.out hb3)
    have b0 := cell_in hb3 b0 (World.block_lt_of_cell? _ _ b0)
    have b1 := cell_in hb3 b1 (World.block_lt_of_cell? _ _ b1)
    have b2 := cell_in hb3 b2 (World.block_lt_of_cell? _ _ b2)
    clear hb3
    go_wp2_with fail
    refine (SO.out _ B3.out RW3.out).mono ?_
    rintro e W4 ⟨rfl, hb4⟩
    have B4 := hide (B3.out.trans (hb4.mono B3.out.size))
    clear hb4
    go_wp2
    go_ret
    exact ⟨by simp, B4.out⟩
  · generalize equityR id bal (List.replicate k 0) marks = E at he EQ
    obtain ⟨q, r⟩ := E
    simp only [] at he EQ
    clear FA MA SO
    go_enter Tryd.func5, Tryd.ntmps5
    go_wp2_with fail
    refine (EQ.out _ (below_alloc2 _ _ _) RW.out).mono ?_
    rintro e W1 ⟨rfl, hb1⟩
    have B1 := hide ((below_alloc2 w (.cells cs 3) (accO id bal (some ⟨w.heap.size, 0, none⟩) k k)).trans (hb1.mono (by simp; omega)))
    have RW1 := hide (row_below RW.out hb1)
    have b0 := cell_in hb1 (new_cell2 w _ _ _ 0 _ rfl) (by simp)
    have b1 := cell_in hb1 (new_cell2 w _ _ _ 1 _ rfl) (by simp)
    have b2 := cell_in hb1 (new_cell2 w _ _ _ 2 _ rfl) (by simp)
    clear hb1
    go_wp2_with fail
    refine (counted_any _).mono ?_
    rintro e W2 ⟨rfl, hb2⟩
    have B2 := hide (B1.out.trans (hb2.mono B1.out.size))
    clear hb2
    go_wp2_with fail
    refine (counted_any _).mono ?_
    rintro e W3 ⟨rfl, hb3⟩
    go_wp2
    go_ret
    exact ⟨rfl, B2.out.trans (hb3.mono B2.out.size)⟩
end Go.Proofs.YtkdkdhpllffjnabDoor.Rk
