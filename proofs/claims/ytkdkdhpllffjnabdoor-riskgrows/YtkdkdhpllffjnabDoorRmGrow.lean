/-
  RiskGrows, walked.
-/
import Derived.Test.YtkdkdhpllffjnabDoorRmBank
import Derived.Test.YtkdkdhpllffjnabDoorRmGrowP
import Derived.Test.YtkdkdhpllffjnabDoorRefC
namespace Go.Proofs.YtkdkdhpllffjnabDoor.Rm
open Go.RowKit Go.Proofs.YtkdkdhpllffjnabDoor.Num Go.Proofs.YtkdkdhpllffjnabDoor.Fix Go.Proofs.YtkdkdhpllffjnabDoor.AcP Go.Proofs.YtkdkdhpllffjnabDoor.RkP Go.Proofs.YtkdkdhpllffjnabDoor.Ac Go.Proofs.YtkdkdhpllffjnabDoor.Rk

theorem below_drew {B : Nat} {a w : World} (h : Below B a w) : Below B a w.drew := h.trans ⟨rfl, rfl, rfl, Nat.le_refl _, fun _ _ => rfl⟩
theorem cell_after {W : World} {s g i : Nat} {u : Value} (h : W.cell? ⟨s, i, none⟩ = some u) (hg : s < g) (v : Value) (o : Obj) : (((W.setCell ⟨g, 0, none⟩ v).alloc o).drew).cell? ⟨s, i, none⟩ = some u :=
  cell_alloc (w := W.setCell ⟨g, 0, none⟩ v) ((World.cell?_setCell_other _ _ _ _ (by intro e; cases e; omega)).trans h) o

set_option maxHeartbeats 2000000 in
set_option maxRecDepth 100000 in
theorem grows_bad (id bal : Int) (p p2 : Option Addr) (n c n2 c2 : Nat) (pos marks : List Int) (mk more : Int) (w : World) (hl : pos.length = n) (hl2 : marks.length = n2) (hn : n ≤ 140737488351232) (hL : Laid w) (h : Row w p pos) (h' : Row w p2 marks)
    (hbad : ¬ (marginsR id bal pos marks).2.2 = 0 ∨ mk < 0 ∨ (n : Int) ≤ mk) :
    Calls Tryd.prog 6 #[accV id bal p n c, .slice p2 n2 c2, .int .i64 mk, .int .i64 more] w fun e w' => e = .returned (.bool true) ∧ Below w.heap.size w w' := by
  have MA := hide (fun W hW => margins_any id bal p p2 n c n2 c2 pos marks W hl hl2 hn (hL.next hW) (row_below h hW) (row_below h' hW))
  have WE := hide (fun W hW => weighed_any W (hL.next hW))
  clear hL h h' hl hl2
  generalize marginsR id bal pos marks = M at MA hbad
  obtain ⟨x, y, m⟩ := M
  simp only [] at MA hbad
  by_cases hm : m = 0
  · subst hm
    by_cases h0 : mk < 0
    · clear hbad
      go_enter Tryd.func6, Tryd.ntmps6
      go_wp2_with fail
      refine (MA.out _ (below_alloc w _)).mono ?_
      rintro e W1 ⟨rfl, hb1⟩
      have B1 := hide ((below_alloc w (accO id bal p n c)).trans (hb1.mono (by simp)))
      have b0 := cell_in hb1 (new_cell w _ _ 0 _ rfl) (by simp)
      have b1 := cell_in hb1 (new_cell w _ _ 1 _ rfl) (by simp)
      have b2 := cell_in hb1 (new_cell w _ _ 2 _ rfl) (by simp)
      clear hb1
      go_wp2_with fail
      refine (WE.out _ B1.out).mono ?_
      rintro e W2 ⟨rfl, hb2⟩
      have B2 := hide (B1.out.trans (hb2.mono B1.out.size))
      have b0 := cell_in hb2 b0 (World.block_lt_of_cell? _ _ b0)
      have b1 := cell_in hb2 b1 (World.block_lt_of_cell? _ _ b1)
      have b2 := cell_in hb2 b2 (World.block_lt_of_cell? _ _ b2)
      clear hb2
      go_wp2_with fail
      refine (WE.out _ B2.out).mono ?_
      rintro e W3 ⟨rfl, hb3⟩
      go_wp2
      go_ret
      exact ⟨rfl, B2.out.trans (hb3.mono B2.out.size)⟩
    · have h1 : (n : Int) ≤ mk := by
        rcases hbad with h | h | h
        · exact absurd rfl h
        · exact absurd h h0
        · exact h
      clear hbad
      go_enter Tryd.func6, Tryd.ntmps6
      go_wp2_with fail
      refine (MA.out _ (below_alloc w _)).mono ?_
      rintro e W1 ⟨rfl, hb1⟩
      have B1 := hide ((below_alloc w (accO id bal p n c)).trans (hb1.mono (by simp)))
      have b0 := cell_in hb1 (new_cell w _ _ 0 _ rfl) (by simp)
      have b1 := cell_in hb1 (new_cell w _ _ 1 _ rfl) (by simp)
      have b2 := cell_in hb1 (new_cell w _ _ 2 _ rfl) (by simp)
      clear hb1
      go_wp2_with fail
      refine (WE.out _ B1.out).mono ?_
      rintro e W2 ⟨rfl, hb2⟩
      have B2 := hide (B1.out.trans (hb2.mono B1.out.size))
      have b0 := cell_in hb2 b0 (World.block_lt_of_cell? _ _ b0)
      have b1 := cell_in hb2 b1 (World.block_lt_of_cell? _ _ b1)
      have b2 := cell_in hb2 b2 (World.block_lt_of_cell? _ _ b2)
      clear hb2
      go_wp2_with fail
      refine (WE.out _ B2.out).mono ?_
      rintro e W3 ⟨rfl, hb3⟩
      go_wp2
      go_ret
      exact ⟨rfl, B2.out.trans (hb3.mono B2.out.size)⟩
  · clear hbad
    go_enter Tryd.func6, Tryd.ntmps6
    go_wp2_with fail
    refine (MA.out _ (below_alloc w _)).mono ?_
    rintro e W1 ⟨rfl, hb1⟩
    have B1 := hide ((below_alloc w (accO id bal p n c)).trans (hb1.mono (by simp)))
    have b0 := cell_in hb1 (new_cell w _ _ 0 _ rfl) (by simp)
    have b1 := cell_in hb1 (new_cell w _ _ 1 _ rfl) (by simp)
    have b2 := cell_in hb1 (new_cell w _ _ 2 _ rfl) (by simp)
    clear hb1
    go_wp2_with fail
    refine (WE.out _ B1.out).mono ?_
    rintro e W2 ⟨rfl, hb2⟩
    have B2 := hide (B1.out.trans (hb2.mono B1.out.size))
    have b0 := cell_in hb2 b0 (World.block_lt_of_cell? _ _ b0)
    have b1 := cell_in hb2 b1 (World.block_lt_of_cell? _ _ b1)
    have b2 := cell_in hb2 b2 (World.block_lt_of_cell? _ _ b2)
    clear hb2
    go_wp2_with fail
    refine (WE.out _ B2.out).mono ?_
    rintro e W3 ⟨rfl, hb3⟩
    go_wp2
    go_ret
    exact ⟨rfl, B2.out.trans (hb3.mono B2.out.size)⟩

set_option maxHeartbeats 2000000 in
set_option maxRecDepth 100000 in
theorem grows_1 (id bal : Int) (b off bb off2 : Nat) (c c2 : Nat) (x m more : Int) (X Y : Int) (w : World) (hL : Laid w) (h : Row w (some ⟨b, off, none⟩) [x]) (h' : Row w (some ⟨bb, off2, none⟩) [m])
    (hx : betw (-1000) x 1000 = true) (hM : marginsR id bal [x] [m] = (X, Y, 0)) :
    Calls Tryd.prog 6 #[accV id bal (some ⟨b, off, none⟩) 1 c, .slice (some ⟨bb, off2, none⟩) 1 c2, .int .i64 0, .int .i64 more] w fun e w' => e = .returned (.bool true) ∧ Below w.heap.size w w' := by
  obtain ⟨x1, x2⟩ := betw_true hx
  have MA := hide (fun W hW => margins_any id bal (some ⟨b, off, none⟩) (some ⟨bb, off2, none⟩) 1 c 1 c2 [x] [m] W rfl rfl (by decide) (hL.next hW) (row_below h hW) (row_below h' hW))
  rw [hM] at MA
  have MA2 := hide (fun (W : World) (hW : Below w.heap.size w W) q c' (z : Int) (hR : Row W q [z]) => margins_any id bal q (some ⟨bb, off2, none⟩) 1 c' 1 c2 [z] [m] W rfl rfl (by decide) (hL.next hW) hR (row_below h' hW))
  have WE := hide (fun W hW => weighed_any W (hL.next hW))
  have OA := hide (fun W hW => ownAccount_any id bal (some ⟨b, off, none⟩) 1 c [x] W rfl (by decide) (fun e => by cases e) (row_below h hW))
  have NG := hide ((margins_neg id bal [x] [m]).trans hM)
  have ST := hide (fun v h1 h2 => margins_set (k := 0) (v := v) hM (by simp) h1 h2)
  have cx : w.cell? ⟨b, off, none⟩ = some (.int .i64 x) := by
    rcases h with h | ⟨b', off', e, hc⟩
    · cases h
    · cases e
      exact hc 0 (by simp)
  have CX := hide cx
  clear hL h h' hM hx cx
  let p : Option Addr := some ⟨b, off, none⟩
  let n : Nat := 1
  go_enter Tryd.func6, Tryd.ntmps6
  go_wp2_with fail
  refine (MA.out _ (below_alloc w _)).mono ?_
  rintro e W1 ⟨rfl, hb1⟩
  have B1 := hide ((below_alloc w (accO id bal p n c)).trans (hb1.mono (by simp)))
  have b0 := cell_in hb1 (new_cell w _ _ 0 _ rfl) (by simp)
  have b1 := cell_in hb1 (new_cell w _ _ 1 _ rfl) (by simp)
  have b2 := cell_in hb1 (new_cell w _ _ 2 _ rfl) (by simp)
  clear hb1
  go_wp2_with fail
  refine (WE.out _ B1.out).mono ?_
  rintro e W2 ⟨rfl, hb2⟩
  have B2 := hide (B1.out.trans (hb2.mono B1.out.size))
  have b0 := cell_in hb2 b0 (World.block_lt_of_cell? _ _ b0)
  have b1 := cell_in hb2 b1 (World.block_lt_of_cell? _ _ b1)
  have b2 := cell_in hb2 b2 (World.block_lt_of_cell? _ _ b2)
  clear hb2
  go_wp2_with fail
  refine (OA.out _ B2.out).mono ?_
  rintro e W3 ⟨v, rfl, own, hb3⟩
  obtain ⟨g, cap, rfl, hg, hg2⟩ := own_slice own (by decide)
  have g0 : W3.cell? ⟨g, 0, none⟩ = some (.int .i64 x) := own_cell own (by decide)
  have g1 : W3.frozen? ⟨g, 0, none⟩ = false := own.frozenAt 0
  have B3 := hide (B2.out.trans (hb3.mono B2.out.size))
  have b0' := b0
  have b0 := cell_in hb3 b0 (World.block_lt_of_cell? _ _ b0)
  have b1 := cell_in hb3 b1 (World.block_lt_of_cell? _ _ b1)
  have b2 := cell_in hb3 b2 (World.block_lt_of_cell? _ _ b2)
  have hgw : Hid (w.heap.size < g) := Nat.lt_of_lt_of_le (World.block_lt_of_cell? _ _ b0') hg
  clear hb3 own
  go_wp2_with fail
  refine wp_loop_rounds 2 ?_
  rw [rounds_succ]
  go_wp2
  go_region
  go_wp2
  rw [rounds_succ]
  go_wp2_with fail
  have B4 := hide (below_drew ((B3.out.setCell (p := ⟨g, 0, none⟩) (Nat.le_of_lt hgw.out) (.int .i64 (-x))).alloc (Nat.le_trans B3.out.size (by simp)) (accO id bal (some ⟨g, 0, none⟩) 1 cap)))
  have R4 : Hid (Row (((W3.setCell ⟨g, 0, none⟩ (.int .i64 (-x))).alloc (accO id bal (some ⟨g, 0, none⟩) 1 cap)).drew) (some ⟨g, 0, none⟩) [-x]) := by
    refine .inr ⟨_, _, rfl, fun i hi => ?_⟩
    match i, hi with
    | 0, _ => exact cell_alloc (World.cell?_setCell_same' _ _ _ (by rw [g0]; rfl)) _
  have b0 := cell_after b0 hgw.out (.int .i64 (-x)) (accO id bal (some ⟨g, 0, none⟩) 1 cap)
  have b1 := cell_after b1 hgw.out (.int .i64 (-x)) (accO id bal (some ⟨g, 0, none⟩) 1 cap)
  have b2 := cell_after b2 hgw.out (.int .i64 (-x)) (accO id bal (some ⟨g, 0, none⟩) 1 cap)
  generalize ((W3.setCell ⟨g, 0, none⟩ (.int .i64 (-x))).alloc (accO id bal (some ⟨g, 0, none⟩) 1 cap)).drew = W4 at B4 R4 b0 b1 b2 ⊢
  refine (MA2.out W4 B4.out (some ⟨g, 0, none⟩) cap (-x) R4.out).mono ?_
  have NG' : marginsR id bal [-x] [m] = (X, Y, 0) := NG.out
  rw [NG']
  rintro e W5 ⟨rfl, hb5⟩
  have B5 := hide (B4.out.trans (hb5.mono B4.out.size))
  have b0 := cell_in hb5 b0 (World.block_lt_of_cell? _ _ b0)
  have b1 := cell_in hb5 b1 (World.block_lt_of_cell? _ _ b1)
  have b2 := cell_in hb5 b2 (World.block_lt_of_cell? _ _ b2)
  have cx := cell_in B5.out CX.out (World.block_lt_of_cell? _ _ CX.out)
  clear hb5 R4 B4 NG' g0 g1 hg hg2 hgw NG
  go_wp2_with fail
  refine (OA.out _ B5.out).mono ?_
  rintro e W6 ⟨v, rfl, own, hb6⟩
  obtain ⟨g, cap, rfl, hg, hg2⟩ := own_slice own (by decide)
  have g0 : W6.cell? ⟨g, 0, none⟩ = some (.int .i64 x) := own_cell own (by decide)
  have g1 : W6.frozen? ⟨g, 0, none⟩ = false := own.frozenAt 0
  have B6 := hide (B5.out.trans (hb6.mono B5.out.size))
  have hgw : Hid (w.heap.size < g) := Nat.lt_of_lt_of_le (World.block_lt_of_cell? _ _ b0) hg
  have g2 : g ≠ W6.heap.size := by omega
  clear hb6 own b0 b1 b2 cx
  go_wp2_with fail
  refine (Own.at_any more (1000 - max x (-x) + 1) _ (by omega) (by omega)).mono ?_
  rintro e W7 ⟨rfl, hW7⟩
  rw [hW7]
  clear hW7
  have hr := Own.at_bd more (1000 - max x (-x) + 1) (by omega)
  obtain ⟨r3, r4⟩ := hr
  generalize more % (1000 - max x (-x) + 1) = a at r3 r4 ⊢
  by_cases hneg : x < 0
  · obtain ⟨X', Y', hM2, u1, u2⟩ := ST.out (x + -a) (by simp; omega) (betw_mk (by omega))
    have hM2' : marginsR id bal [(x + -a)] [m] = (X', Y', 0) := hM2
    have HM := hide hM2'
    clear hM2 hM2' ST
    go_wp2_with fail
    have B7 := hide ((B6.out.setCell (p := ⟨g, 0, none⟩) (Nat.le_of_lt hgw.out) (.int .i64 (x + -a))).alloc (Nat.le_trans B6.out.size (by simp)) (accO id bal (some ⟨g, 0, none⟩) 1 cap))
    have R7 : Hid (Row ((W6.setCell ⟨g, 0, none⟩ (.int .i64 (x + -a))).alloc (accO id bal (some ⟨g, 0, none⟩) 1 cap)) (some ⟨g, 0, none⟩) [(x + -a)]) := by
      refine .inr ⟨_, _, rfl, fun i hi => ?_⟩
      match i, hi with
      | 0, _ => exact cell_alloc (World.cell?_setCell_same' _ _ _ (by rw [g0]; rfl)) _
    refine (MA2.out _ B7.out (some ⟨g, 0, none⟩) cap (x + -a) R7.out).mono ?_
    rw [HM.out]
    rintro e W8 ⟨rfl, hb8⟩
    have B8 := hide (B7.out.trans (hb8.mono B7.out.size))
    clear hb8 R7 B7 HM
    go_wp2
    go_ret
    exact ⟨rfl, B8.out⟩
  · obtain ⟨X', Y', hM2, u1, u2⟩ := ST.out (x + a) (by simp; omega) (betw_mk (by omega))
    have hM2' : marginsR id bal [(x + a)] [m] = (X', Y', 0) := hM2
    have HM := hide hM2'
    clear hM2 hM2' ST
    go_wp2_with fail
    have B7 := hide ((B6.out.setCell (p := ⟨g, 0, none⟩) (Nat.le_of_lt hgw.out) (.int .i64 (x + a))).alloc (Nat.le_trans B6.out.size (by simp)) (accO id bal (some ⟨g, 0, none⟩) 1 cap))
    have R7 : Hid (Row ((W6.setCell ⟨g, 0, none⟩ (.int .i64 (x + a))).alloc (accO id bal (some ⟨g, 0, none⟩) 1 cap)) (some ⟨g, 0, none⟩) [(x + a)]) := by
      refine .inr ⟨_, _, rfl, fun i hi => ?_⟩
      match i, hi with
      | 0, _ => exact cell_alloc (World.cell?_setCell_same' _ _ _ (by rw [g0]; rfl)) _
    refine (MA2.out _ B7.out (some ⟨g, 0, none⟩) cap (x + a) R7.out).mono ?_
    rw [HM.out]
    rintro e W8 ⟨rfl, hb8⟩
    have B8 := hide (B7.out.trans (hb8.mono B7.out.size))
    clear hb8 R7 B7 HM
    go_wp2
    go_ret
    exact ⟨rfl, B8.out⟩
end Go.Proofs.YtkdkdhpllffjnabDoor.Rm
