/-
  RiskGrows, walked: two markets.
-/
import Derived.Test.YtkdkdhpllffjnabDoorRmGrow
namespace Go.Proofs.YtkdkdhpllffjnabDoor.Rm
open Go.RowKit Go.Proofs.YtkdkdhpllffjnabDoor.Num Go.Proofs.YtkdkdhpllffjnabDoor.Fix Go.Proofs.YtkdkdhpllffjnabDoor.AcP Go.Proofs.YtkdkdhpllffjnabDoor.RkP Go.Proofs.YtkdkdhpllffjnabDoor.Ac Go.Proofs.YtkdkdhpllffjnabDoor.Rk


theorem cell_after2 {W : World} {s g i : Nat} {u : Value} (h : W.cell? ⟨s, i, none⟩ = some u) (hg : s < g) (v v' : Value) (o : Obj) : ((((W.setCell ⟨g, 0, none⟩ v).setCell ⟨g, 1, none⟩ v').alloc o).drew.drew).cell? ⟨s, i, none⟩ = some u :=
  cell_alloc (w := (W.setCell ⟨g, 0, none⟩ v).setCell ⟨g, 1, none⟩ v') ((World.cell?_setCell_other _ _ _ _ (by intro e; cases e; omega)).trans ((World.cell?_setCell_other _ _ _ _ (by intro e; cases e; omega)).trans h)) o
theorem row_two {W : World} {g : Nat} {x y : Int} {q : Option Addr} (hq : q = some ⟨g, 0, none⟩) (h0 : W.cell? ⟨g, 0, none⟩ = some (.int .i64 x)) (h1 : W.cell? ⟨g, 1, none⟩ = some (.int .i64 y)) : Row W q [x, y] := by
  subst hq
  refine .inr ⟨_, _, rfl, fun i hi => ?_⟩
  match i, hi with
  | 0, _ => exact h0
  | 1, _ => exact h1
theorem two_neg {W : World} {g : Nat} {x y : Int} (h0 : W.cell? ⟨g, 0, none⟩ = some (.int .i64 x)) (h1 : W.cell? ⟨g, 1, none⟩ = some (.int .i64 y)) (u v : Value) :
    ((W.setCell ⟨g, 0, none⟩ u).setCell ⟨g, 1, none⟩ v).cell? ⟨g, 0, none⟩ = some u ∧ ((W.setCell ⟨g, 0, none⟩ u).setCell ⟨g, 1, none⟩ v).cell? ⟨g, 1, none⟩ = some v := by
  have a0 : (W.setCell ⟨g, 0, none⟩ u).cell? ⟨g, 0, none⟩ = some u := World.cell?_setCell_same' _ _ _ (by rw [h0]; rfl)
  have a1 : (W.setCell ⟨g, 0, none⟩ u).cell? ⟨g, 1, none⟩ = some (.int .i64 y) := (World.cell?_setCell_other _ _ _ _ (by intro e; cases e)).trans h1
  exact ⟨(World.cell?_setCell_other _ _ _ _ (by intro e; cases e)).trans a0, World.cell?_setCell_same' _ _ _ (by rw [a1]; rfl)⟩

set_option maxHeartbeats 4000000 in
set_option maxRecDepth 100000 in
theorem grows_20 (id bal : Int) (b off bb off2 : Nat) (c c2 : Nat) (x y m k more : Int) (X Y : Int) (w : World) (hL : Laid w) (h : Row w (some ⟨b, off, none⟩) [x, y]) (h' : Row w (some ⟨bb, off2, none⟩) [m, k])
    (hx : betw (-1000) x 1000 = true) (hy : betw (-1000) y 1000 = true) (hM : marginsR id bal [x, y] [m, k] = (X, Y, 0)) :
    Calls Tryd.prog 6 #[accV id bal (some ⟨b, off, none⟩) 2 c, .slice (some ⟨bb, off2, none⟩) 2 c2, .int .i64 0, .int .i64 more] w fun e w' => e = .returned (.bool true) ∧ Below w.heap.size w w' := by
  obtain ⟨x1, x2⟩ := betw_true hx
  obtain ⟨y1, y2⟩ := betw_true hy
  have MA := hide (fun W hW => margins_any id bal (some ⟨b, off, none⟩) (some ⟨bb, off2, none⟩) 2 c 2 c2 [x, y] [m, k] W rfl rfl (by decide) (hL.next hW) (row_below h hW) (row_below h' hW))
  rw [hM] at MA
  have MA2 := hide (fun (W : World) (hW : Below w.heap.size w W) q c' (z u : Int) (hR : Row W q [z, u]) => margins_any id bal q (some ⟨bb, off2, none⟩) 2 c' 2 c2 [z, u] [m, k] W rfl rfl (by decide) (hL.next hW) hR (row_below h' hW))
  have WE := hide (fun W hW => weighed_any W (hL.next hW))
  have OA := hide (fun W hW => ownAccount_any id bal (some ⟨b, off, none⟩) 2 c [x, y] W rfl (by decide) (fun e => by cases e) (row_below h hW))
  have NG := hide ((margins_neg id bal [x, y] [m, k]).trans hM)
  have ST := hide (fun v h1 h2 => margins_set (k := 0) (v := v) hM (by simp) h1 h2)
  have cx : w.cell? ⟨b, off, none⟩ = some (.int .i64 x) := by
    rcases h with h | ⟨b', off', e, hc⟩
    · cases h
    · cases e
      exact hc 0 (by simp)
  have CX := hide cx
  clear hL h h' hM hx hy cx
  let p : Option Addr := some ⟨b, off, none⟩
  let n : Nat := 2
  go_enter Tryd.func6, Tryd.ntmps6
  go_wp2_with fail
  refine (MA.out _ (below_alloc w _)).mono ?_
  rintro e W1 ⟨rfl, hb1⟩
  have B1 := hide ((below_alloc w (accO id bal p n c)).trans (hb1.mono (by simp)))
  have b0 := cell_in hb1 (new_cell w _ _ 0 _ rfl) (by simp)
  have b1 := cell_in hb1 (new_cell w _ _ 1 _ rfl) (by simp)
  have b2 := cell_in hb1 (new_cell w _ _ 2 _ rfl) (by simp)
  clear hb1
  go_wp2_with fail
  refine (WE.out _ B1.out).mono ?_
  rintro e W2 ⟨rfl, hb2⟩
  have B2 := hide (B1.out.trans (hb2.mono B1.out.size))
  have b0 := cell_in hb2 b0 (World.block_lt_of_cell? _ _ b0)
  have b1 := cell_in hb2 b1 (World.block_lt_of_cell? _ _ b1)
  have b2 := cell_in hb2 b2 (World.block_lt_of_cell? _ _ b2)
  clear hb2
  go_wp2_with fail
  refine (OA.out _ B2.out).mono ?_
  rintro e W3 ⟨v, rfl, own, hb3⟩
  obtain ⟨g, cap, rfl, hg, hg2⟩ := own_slice own (by decide)
  have g0 : W3.cell? ⟨g, 0, none⟩ = some (.int .i64 x) := own_cell own (by decide)
  have g1 : W3.frozen? ⟨g, 0, none⟩ = false := own.frozenAt 0
  have g2 : W3.cell? ⟨g, 1, none⟩ = some (.int .i64 y) := own_cell own (by decide)
  have g3 : W3.frozen? ⟨g, 1, none⟩ = false := own.frozenAt 1
  have B3 := hide (B2.out.trans (hb3.mono B2.out.size))
  have b0' := b0
  have b0 := cell_in hb3 b0 (World.block_lt_of_cell? _ _ b0)
  have b1 := cell_in hb3 b1 (World.block_lt_of_cell? _ _ b1)
  have b2 := cell_in hb3 b2 (World.block_lt_of_cell? _ _ b2)
  have hgw : Hid (w.heap.size < g) := Nat.lt_of_lt_of_le (World.block_lt_of_cell? _ _ b0') hg
  clear hb3 own b0'
  go_wp2_with fail
  refine wp_loop_rounds 3 ?_
  rw [rounds_succ]
  go_wp2
  go_region
  go_wp2
  rw [rounds_succ]
  go_wp2
  go_region
  go_wp2
  rw [rounds_succ]
  go_wp2_with fail
  have tn := two_neg g0 g2 (.int .i64 (-x)) (.int .i64 (-y))
  have B4 := hide (below_drew (below_drew (((B3.out.setCell (p := ⟨g, 0, none⟩) (Nat.le_of_lt hgw.out) (.int .i64 (-x))).setCell (p := ⟨g, 1, none⟩) (Nat.le_of_lt hgw.out) (.int .i64 (-y))).alloc (Nat.le_trans B3.out.size (by simp)) (accO id bal (some ⟨g, 0, none⟩) 2 cap))))
  have R4 : Hid (Row ((((W3.setCell ⟨g, 0, none⟩ (.int .i64 (-x))).setCell ⟨g, 1, none⟩ (.int .i64 (-y))).alloc (accO id bal (some ⟨g, 0, none⟩) 2 cap)).drew.drew) (some ⟨g, 0, none⟩) [-x, -y]) := row_two rfl (cell_alloc tn.1 _) (cell_alloc tn.2 _)
  have b0 := cell_after2 b0 hgw.out (.int .i64 (-x)) (.int .i64 (-y)) (accO id bal (some ⟨g, 0, none⟩) 2 cap)
  have b1 := cell_after2 b1 hgw.out (.int .i64 (-x)) (.int .i64 (-y)) (accO id bal (some ⟨g, 0, none⟩) 2 cap)
  have b2 := cell_after2 b2 hgw.out (.int .i64 (-x)) (.int .i64 (-y)) (accO id bal (some ⟨g, 0, none⟩) 2 cap)
  generalize (((W3.setCell ⟨g, 0, none⟩ (.int .i64 (-x))).setCell ⟨g, 1, none⟩ (.int .i64 (-y))).alloc (accO id bal (some ⟨g, 0, none⟩) 2 cap)).drew.drew = W4 at B4 R4 b0 b1 b2 ⊢
  refine (MA2.out W4 B4.out (some ⟨g, 0, none⟩) cap (-x) (-y) R4.out).mono ?_
  have NG' : marginsR id bal [-x, -y] [m, k] = (X, Y, 0) := NG.out
  rw [NG']
  rintro e W5 ⟨rfl, hb5⟩
  have B5 := hide (B4.out.trans (hb5.mono B4.out.size))
  have b0 := cell_in hb5 b0 (World.block_lt_of_cell? _ _ b0)
  have b1 := cell_in hb5 b1 (World.block_lt_of_cell? _ _ b1)
  have b2 := cell_in hb5 b2 (World.block_lt_of_cell? _ _ b2)
  have cx := cell_in B5.out CX.out (World.block_lt_of_cell? _ _ CX.out)
  clear hb5 R4 B4 NG' g0 g1 g2 g3 tn hg hg2 hgw NG
  go_wp2_with fail
  refine (OA.out _ B5.out).mono ?_
  rintro e W6 ⟨v, rfl, own, hb6⟩
  obtain ⟨g, cap, rfl, hg, hg2⟩ := own_slice own (by decide)
  have g0 : W6.cell? ⟨g, 0, none⟩ = some (.int .i64 x) := own_cell own (by decide)
  have g1 : W6.frozen? ⟨g, 0, none⟩ = false := own.frozenAt 0
  have g2 : W6.cell? ⟨g, 1, none⟩ = some (.int .i64 y) := own_cell own (by decide)
  have g3 : W6.frozen? ⟨g, 1, none⟩ = false := own.frozenAt 1
  have B6 := hide (B5.out.trans (hb6.mono B5.out.size))
  have hgw : Hid (w.heap.size < g) := Nat.lt_of_lt_of_le (World.block_lt_of_cell? _ _ b0) hg
  have g4 : g ≠ W6.heap.size := by omega
  clear hb6 own b0 b1 b2 cx
  go_wp2_with fail
  refine (Own.at_any more (1000 - max x (-x) + 1) _ (by omega) (by omega)).mono ?_
  rintro e W7 ⟨rfl, hW7⟩
  rw [hW7]
  clear hW7
  have hr := Own.at_bd more (1000 - max x (-x) + 1) (by omega)
  obtain ⟨r3, r4⟩ := hr
  generalize more % (1000 - max x (-x) + 1) = a at r3 r4 ⊢
  by_cases hneg : x < 0
  · obtain ⟨X', Y', hM2, u1, u2⟩ := ST.out (x + -a) (by simp; omega) (betw_mk (by omega))
    have hM2' : marginsR id bal [x + -a, y] [m, k] = (X', Y', 0) := hM2
    have HM := hide hM2'
    clear hM2 hM2' ST
    go_wp2_with fail
    have B7 := hide ((B6.out.setCell (p := ⟨g, 0, none⟩) (Nat.le_of_lt hgw.out) (.int .i64 (x + -a))).alloc (Nat.le_trans B6.out.size (by simp)) (accO id bal (some ⟨g, 0, none⟩) 2 cap))
    have R7 : Hid (Row ((W6.setCell ⟨g, 0, none⟩ (.int .i64 (x + -a))).alloc (accO id bal (some ⟨g, 0, none⟩) 2 cap)) (some ⟨g, 0, none⟩) [x + -a, y]) := by
      refine row_two rfl (cell_alloc ?_ _) (cell_alloc ?_ _)
      · first
          | exact World.cell?_setCell_same' _ _ _ (by rw [g0]; rfl)
          | exact (World.cell?_setCell_other _ _ _ _ (by intro e; cases e)).trans g0
      · first
          | exact World.cell?_setCell_same' _ _ _ (by rw [g2]; rfl)
          | exact (World.cell?_setCell_other _ _ _ _ (by intro e; cases e)).trans g2
    refine (MA2.out _ B7.out (some ⟨g, 0, none⟩) cap _ _ R7.out).mono ?_
    rw [HM.out]
    rintro e W8 ⟨rfl, hb8⟩
    have B8 := hide (B7.out.trans (hb8.mono B7.out.size))
    clear hb8 R7 B7 HM
    go_wp2
    go_ret
    exact ⟨rfl, B8.out⟩
  · obtain ⟨X', Y', hM2, u1, u2⟩ := ST.out (x + a) (by simp; omega) (betw_mk (by omega))
    have hM2' : marginsR id bal [x + a, y] [m, k] = (X', Y', 0) := hM2
    have HM := hide hM2'
    clear hM2 hM2' ST
    go_wp2_with fail
    have B7 := hide ((B6.out.setCell (p := ⟨g, 0, none⟩) (Nat.le_of_lt hgw.out) (.int .i64 (x + a))).alloc (Nat.le_trans B6.out.size (by simp)) (accO id bal (some ⟨g, 0, none⟩) 2 cap))
    have R7 : Hid (Row ((W6.setCell ⟨g, 0, none⟩ (.int .i64 (x + a))).alloc (accO id bal (some ⟨g, 0, none⟩) 2 cap)) (some ⟨g, 0, none⟩) [x + a, y]) := by
      refine row_two rfl (cell_alloc ?_ _) (cell_alloc ?_ _)
      · first
          | exact World.cell?_setCell_same' _ _ _ (by rw [g0]; rfl)
          | exact (World.cell?_setCell_other _ _ _ _ (by intro e; cases e)).trans g0
      · first
          | exact World.cell?_setCell_same' _ _ _ (by rw [g2]; rfl)
          | exact (World.cell?_setCell_other _ _ _ _ (by intro e; cases e)).trans g2
    refine (MA2.out _ B7.out (some ⟨g, 0, none⟩) cap _ _ R7.out).mono ?_
    rw [HM.out]
    rintro e W8 ⟨rfl, hb8⟩
    have B8 := hide (B7.out.trans (hb8.mono B7.out.size))
    clear hb8 R7 B7 HM
    go_wp2
    go_ret
    exact ⟨rfl, B8.out⟩
set_option maxHeartbeats 4000000 in
set_option maxRecDepth 100000 in
theorem grows_21 (id bal : Int) (b off bb off2 : Nat) (c c2 : Nat) (x y m k more : Int) (X Y : Int) (w : World) (hL : Laid w) (h : Row w (some ⟨b, off, none⟩) [x, y]) (h' : Row w (some ⟨bb, off2, none⟩) [m, k])
    (hx : betw (-1000) x 1000 = true) (hy : betw (-1000) y 1000 = true) (hM : marginsR id bal [x, y] [m, k] = (X, Y, 0)) :
    Calls Tryd.prog 6 #[accV id bal (some ⟨b, off, none⟩) 2 c, .slice (some ⟨bb, off2, none⟩) 2 c2, .int .i64 1, .int .i64 more] w fun e w' => e = .returned (.bool true) ∧ Below w.heap.size w w' := by
  obtain ⟨x1, x2⟩ := betw_true hx
  obtain ⟨y1, y2⟩ := betw_true hy
  have MA := hide (fun W hW => margins_any id bal (some ⟨b, off, none⟩) (some ⟨bb, off2, none⟩) 2 c 2 c2 [x, y] [m, k] W rfl rfl (by decide) (hL.next hW) (row_below h hW) (row_below h' hW))
  rw [hM] at MA
  have MA2 := hide (fun (W : World) (hW : Below w.heap.size w W) q c' (z u : Int) (hR : Row W q [z, u]) => margins_any id bal q (some ⟨bb, off2, none⟩) 2 c' 2 c2 [z, u] [m, k] W rfl rfl (by decide) (hL.next hW) hR (row_below h' hW))
  have WE := hide (fun W hW => weighed_any W (hL.next hW))
  have OA := hide (fun W hW => ownAccount_any id bal (some ⟨b, off, none⟩) 2 c [x, y] W rfl (by decide) (fun e => by cases e) (row_below h hW))
  have NG := hide ((margins_neg id bal [x, y] [m, k]).trans hM)
  have ST := hide (fun v h1 h2 => margins_set (k := 1) (v := v) hM (by simp) h1 h2)
  have cx : w.cell? ⟨b, off + 1, none⟩ = some (.int .i64 y) := by
    rcases h with h | ⟨b', off', e, hc⟩
    · cases h
    · cases e
      exact hc 1 (by simp)
  have CX := hide cx
  clear hL h h' hM hx hy cx
  let p : Option Addr := some ⟨b, off, none⟩
  let n : Nat := 2
  go_enter Tryd.func6, Tryd.ntmps6
  go_wp2_with fail
  refine (MA.out _ (below_alloc w _)).mono ?_
  rintro e W1 ⟨rfl, hb1⟩
  have B1 := hide ((below_alloc w (accO id bal p n c)).trans (hb1.mono (by simp)))
  have b0 := cell_in hb1 (new_cell w _ _ 0 _ rfl) (by simp)
  have b1 := cell_in hb1 (new_cell w _ _ 1 _ rfl) (by simp)
  have b2 := cell_in hb1 (new_cell w _ _ 2 _ rfl) (by simp)
  clear hb1
  go_wp2_with fail
  refine (WE.out _ B1.out).mono ?_
  rintro e W2 ⟨rfl, hb2⟩
  have B2 := hide (B1.out.trans (hb2.mono B1.out.size))
  have b0 := cell_in hb2 b0 (World.block_lt_of_cell? _ _ b0)
  have b1 := cell_in hb2 b1 (World.block_lt_of_cell? _ _ b1)
  have b2 := cell_in hb2 b2 (World.block_lt_of_cell? _ _ b2)
  clear hb2
  go_wp2_with fail
  refine (OA.out _ B2.out).mono ?_
  rintro e W3 ⟨v, rfl, own, hb3⟩
  obtain ⟨g, cap, rfl, hg, hg2⟩ := own_slice own (by decide)
  have g0 : W3.cell? ⟨g, 0, none⟩ = some (.int .i64 x) := own_cell own (by decide)
  have g1 : W3.frozen? ⟨g, 0, none⟩ = false := own.frozenAt 0
  have g2 : W3.cell? ⟨g, 1, none⟩ = some (.int .i64 y) := own_cell own (by decide)
  have g3 : W3.frozen? ⟨g, 1, none⟩ = false := own.frozenAt 1
  have B3 := hide (B2.out.trans (hb3.mono B2.out.size))
  have b0' := b0
  have b0 := cell_in hb3 b0 (World.block_lt_of_cell? _ _ b0)
  have b1 := cell_in hb3 b1 (World.block_lt_of_cell? _ _ b1)
  have b2 := cell_in hb3 b2 (World.block_lt_of_cell? _ _ b2)
  have hgw : Hid (w.heap.size < g) := Nat.lt_of_lt_of_le (World.block_lt_of_cell? _ _ b0') hg
  clear hb3 own b0'
  go_wp2_with fail
  refine wp_loop_rounds 3 ?_
  rw [rounds_succ]
  go_wp2
  go_region
  go_wp2
  rw [rounds_succ]
  go_wp2
  go_region
  go_wp2
  rw [rounds_succ]
  go_wp2_with fail
  have tn := two_neg g0 g2 (.int .i64 (-x)) (.int .i64 (-y))
  have B4 := hide (below_drew (below_drew (((B3.out.setCell (p := ⟨g, 0, none⟩) (Nat.le_of_lt hgw.out) (.int .i64 (-x))).setCell (p := ⟨g, 1, none⟩) (Nat.le_of_lt hgw.out) (.int .i64 (-y))).alloc (Nat.le_trans B3.out.size (by simp)) (accO id bal (some ⟨g, 0, none⟩) 2 cap))))
  have R4 : Hid (Row ((((W3.setCell ⟨g, 0, none⟩ (.int .i64 (-x))).setCell ⟨g, 1, none⟩ (.int .i64 (-y))).alloc (accO id bal (some ⟨g, 0, none⟩) 2 cap)).drew.drew) (some ⟨g, 0, none⟩) [-x, -y]) := row_two rfl (cell_alloc tn.1 _) (cell_alloc tn.2 _)
  have b0 := cell_after2 b0 hgw.out (.int .i64 (-x)) (.int .i64 (-y)) (accO id bal (some ⟨g, 0, none⟩) 2 cap)
  have b1 := cell_after2 b1 hgw.out (.int .i64 (-x)) (.int .i64 (-y)) (accO id bal (some ⟨g, 0, none⟩) 2 cap)
  have b2 := cell_after2 b2 hgw.out (.int .i64 (-x)) (.int .i64 (-y)) (accO id bal (some ⟨g, 0, none⟩) 2 cap)
  generalize (((W3.setCell ⟨g, 0, none⟩ (.int .i64 (-x))).setCell ⟨g, 1, none⟩ (.int .i64 (-y))).alloc (accO id bal (some ⟨g, 0, none⟩) 2 cap)).drew.drew = W4 at B4 R4 b0 b1 b2 ⊢
  refine (MA2.out W4 B4.out (some ⟨g, 0, none⟩) cap (-x) (-y) R4.out).mono ?_
  have NG' : marginsR id bal [-x, -y] [m, k] = (X, Y, 0) := NG.out
  rw [NG']
  rintro e W5 ⟨rfl, hb5⟩
  have B5 := hide (B4.out.trans (hb5.mono B4.out.size))
  have b0 := cell_in hb5 b0 (World.block_lt_of_cell? _ _ b0)
  have b1 := cell_in hb5 b1 (World.block_lt_of_cell? _ _ b1)
  have b2 := cell_in hb5 b2 (World.block_lt_of_cell? _ _ b2)
  have cx := cell_in B5.out CX.out (World.block_lt_of_cell? _ _ CX.out)
  clear hb5 R4 B4 NG' g0 g1 g2 g3 tn hg hg2 hgw NG
  go_wp2_with fail
  refine (OA.out _ B5.out).mono ?_
  rintro e W6 ⟨v, rfl, own, hb6⟩
  obtain ⟨g, cap, rfl, hg, hg2⟩ := own_slice own (by decide)
  have g0 : W6.cell? ⟨g, 0, none⟩ = some (.int .i64 x) := own_cell own (by decide)
  have g1 : W6.frozen? ⟨g, 0, none⟩ = false := own.frozenAt 0
  have g2 : W6.cell? ⟨g, 1, none⟩ = some (.int .i64 y) := own_cell own (by decide)
  have g3 : W6.frozen? ⟨g, 1, none⟩ = false := own.frozenAt 1
  have B6 := hide (B5.out.trans (hb6.mono B5.out.size))
  have hgw : Hid (w.heap.size < g) := Nat.lt_of_lt_of_le (World.block_lt_of_cell? _ _ b0) hg
  have g4 : g ≠ W6.heap.size := by omega
  clear hb6 own b0 b1 b2 cx
  go_wp2_with fail
  refine (Own.at_any more (1000 - max y (-y) + 1) _ (by omega) (by omega)).mono ?_
  rintro e W7 ⟨rfl, hW7⟩
  rw [hW7]
  clear hW7
  have hr := Own.at_bd more (1000 - max y (-y) + 1) (by omega)
  obtain ⟨r3, r4⟩ := hr
  generalize more % (1000 - max y (-y) + 1) = a at r3 r4 ⊢
  by_cases hneg : y < 0
  · obtain ⟨X', Y', hM2, u1, u2⟩ := ST.out (y + -a) (by simp; omega) (betw_mk (by omega))
    have hM2' : marginsR id bal [x, y + -a] [m, k] = (X', Y', 0) := hM2
    have HM := hide hM2'
    clear hM2 hM2' ST
    go_wp2_with fail
    have B7 := hide ((B6.out.setCell (p := ⟨g, 1, none⟩) (Nat.le_of_lt hgw.out) (.int .i64 (y + -a))).alloc (Nat.le_trans B6.out.size (by simp)) (accO id bal (some ⟨g, 0, none⟩) 2 cap))
    have R7 : Hid (Row ((W6.setCell ⟨g, 1, none⟩ (.int .i64 (y + -a))).alloc (accO id bal (some ⟨g, 0, none⟩) 2 cap)) (some ⟨g, 0, none⟩) [x, y + -a]) := by
      refine row_two rfl (cell_alloc ?_ _) (cell_alloc ?_ _)
      · first
          | exact World.cell?_setCell_same' _ _ _ (by rw [g0]; rfl)
          | exact (World.cell?_setCell_other _ _ _ _ (by intro e; cases e)).trans g0
      · first
          | exact World.cell?_setCell_same' _ _ _ (by rw [g2]; rfl)
          | exact (World.cell?_setCell_other _ _ _ _ (by intro e; cases e)).trans g2
    refine (MA2.out _ B7.out (some ⟨g, 0, none⟩) cap _ _ R7.out).mono ?_
    rw [HM.out]
    rintro e W8 ⟨rfl, hb8⟩
    have B8 := hide (B7.out.trans (hb8.mono B7.out.size))
    clear hb8 R7 B7 HM
    go_wp2
    go_ret
    exact ⟨rfl, B8.out⟩
  · obtain ⟨X', Y', hM2, u1, u2⟩ := ST.out (y + a) (by simp; omega) (betw_mk (by omega))
    have hM2' : marginsR id bal [x, y + a] [m, k] = (X', Y', 0) := hM2
    have HM := hide hM2'
    clear hM2 hM2' ST
    go_wp2_with fail
    have B7 := hide ((B6.out.setCell (p := ⟨g, 1, none⟩) (Nat.le_of_lt hgw.out) (.int .i64 (y + a))).alloc (Nat.le_trans B6.out.size (by simp)) (accO id bal (some ⟨g, 0, none⟩) 2 cap))
    have R7 : Hid (Row ((W6.setCell ⟨g, 1, none⟩ (.int .i64 (y + a))).alloc (accO id bal (some ⟨g, 0, none⟩) 2 cap)) (some ⟨g, 0, none⟩) [x, y + a]) := by
      refine row_two rfl (cell_alloc ?_ _) (cell_alloc ?_ _)
      · first
          | exact World.cell?_setCell_same' _ _ _ (by rw [g0]; rfl)
          | exact (World.cell?_setCell_other _ _ _ _ (by intro e; cases e)).trans g0
      · first
          | exact World.cell?_setCell_same' _ _ _ (by rw [g2]; rfl)
          | exact (World.cell?_setCell_other _ _ _ _ (by intro e; cases e)).trans g2
    refine (MA2.out _ B7.out (some ⟨g, 0, none⟩) cap _ _ R7.out).mono ?_
    rw [HM.out]
    rintro e W8 ⟨rfl, hb8⟩
    have B8 := hide (B7.out.trans (hb8.mono B7.out.size))
    clear hb8 R7 B7 HM
    go_wp2
    go_ret
    exact ⟨rfl, B8.out⟩

theorem grows_any (id bal : Int) (p p2 : Option Addr) (n c n2 c2 : Nat) (pos marks : List Int) (mk more : Int) (w : World) (hl : pos.length = n) (hl2 : marks.length = n2) (hn : n ≤ 140737488351232) (hL : Laid w) (h : Row w p pos) (h' : Row w p2 marks) :
    Calls Tryd.prog 6 #[accV id bal p n c, .slice p2 n2 c2, .int .i64 mk, .int .i64 more] w fun e w' => e = .returned (.bool true) ∧ Below w.heap.size w w' := by
  by_cases hbad : ¬ (marginsR id bal pos marks).2.2 = 0 ∨ mk < 0 ∨ (n : Int) ≤ mk
  · exact grows_bad id bal p p2 n c n2 c2 pos marks mk more w hl hl2 hn hL h h' hbad
  · have hm : (marginsR id bal pos marks).2.2 = 0 := Classical.byContradiction fun e => hbad (.inl e)
    have h0 : ¬ mk < 0 := fun e => hbad (.inr (.inl e))
    have h1 : ¬ (n : Int) ≤ mk := fun e => hbad (.inr (.inr e))
    have he : accErr id bal pos marks.length = 0 := by
      unfold marginsR at hm
      split at hm
      · assumption
      · exact hm
    obtain ⟨a1, a2, a3, a4, a5⟩ := accErr_ok he
    have hlen : marks.length = pos.length := by omega
    obtain ⟨X, Y, hM⟩ : ∃ X Y, marginsR id bal pos marks = (X, Y, 0) := ⟨_, _, by rw [← hm]⟩
    clear hm hbad
    rcases few he with ⟨x, rfl, -⟩ | ⟨x, y, rfl, -⟩
    · match marks, hlen with
      | [m], _ =>
        subst hl hl2
        rcases h with h | ⟨b, off, rfl, hc⟩
        · cases h
        rcases h' with h' | ⟨bb, off2, rfl, hc'⟩
        · cases h'
        have hmk : mk = 0 := by simp at h1; omega
        subst hmk
        exact grows_1 id bal b off bb off2 c c2 x m more X Y w hL (.inr ⟨b, off, rfl, hc⟩) (.inr ⟨bb, off2, rfl, hc'⟩) (all_at (k := 0) a5 (by simp)) hM
    · match marks, hlen with
      | [m, k], _ =>
        subst hl hl2
        rcases h with h | ⟨b, off, rfl, hc⟩
        · cases h
        rcases h' with h' | ⟨bb, off2, rfl, hc'⟩
        · cases h'
        have hmk : mk = 0 ∨ mk = 1 := by simp at h1; omega
        rcases hmk with rfl | rfl
        · exact grows_20 id bal b off bb off2 c c2 x y m k more X Y w hL (.inr ⟨b, off, rfl, hc⟩) (.inr ⟨bb, off2, rfl, hc'⟩) (all_at (k := 0) a5 (by simp)) (all_at (k := 1) a5 (by simp)) hM
        · exact grows_21 id bal b off bb off2 c c2 x y m k more X Y w hL (.inr ⟨b, off, rfl, hc⟩) (.inr ⟨bb, off2, rfl, hc'⟩) (all_at (k := 0) a5 (by simp)) (all_at (k := 1) a5 (by simp)) hM
end Go.Proofs.YtkdkdhpllffjnabDoor.Rm
