/-
  RiskHolds, walked: where there is a price of bankruptcy (A).
-/
import Derived.Test.YtkdkdhpllffjnabDoorRmHold
namespace Go.Proofs.YtkdkdhpllffjnabDoor.Rm
open Go.RowKit Go.Proofs.YtkdkdhpllffjnabDoor.Num Go.Proofs.YtkdkdhpllffjnabDoor.Fix Go.Proofs.YtkdkdhpllffjnabDoor.AcP Go.Proofs.YtkdkdhpllffjnabDoor.RkP Go.Proofs.YtkdkdhpllffjnabDoor.Ac Go.Proofs.YtkdkdhpllffjnabDoor.Rk

set_option maxHeartbeats 8000000 in
set_option maxRecDepth 100000 in
theorem holds_A (p p' : Option Addr) (nb c na c' : Nat) (idx last : Int) (id bal : Int) (b off : Nat) (mp : Option Addr) (n ac mc : Nat) (k : Nat) (w : World) (mv me x y : Int) (bp : Int) (pos marks : List Int) (q : Int)
    (i1 : me = 0 → 1 ≤ idx) (i2 : me = 0 → idx ≤ 10000) (hmv : me = 0 → 1 ≤ mv ∧ idx - idx.tdiv 20 ≤ mv ∧ mv ≤ idx + idx.tdiv 20) (y1 : 0 ≤ y) (y2 : y ≤ x) (hme : me = 0)
    (KN : Hid (k < n)) (ML : Hid (marks.length = n)) (CQ : Hid (w.cell? ⟨b, off + k, none⟩ = some (.int .i64 q))) (hq : ¬ q = 0) (hqv : pos.getD k 0 = q) (BR : Broke id bal pos marks k bp)
    (MK : Hid (∀ W, Below w.heap.size w W → Calls Tryd.prog 18 #[mktV p p' nb c na c' idx last] W fun e w' => e = .returned (.tuple #[.int .i64 mv, .int .i64 me]) ∧ Below W.heap.size W w'))
    (MA : Hid (∀ W, Below w.heap.size w W → Calls Tryd.prog 8 #[accV id bal (some ⟨b, off, none⟩) n ac, .slice mp n mc] W fun e w' => e = .returned (.tuple #[.int .i64 x, .int .i64 y, .int .i64 0]) ∧ Below W.heap.size W w'))
    (WE : Hid (∀ W, Below w.heap.size w W → Calls Tryd.prog 15 #[] W fun e w' => e = .returned (.bool true) ∧ Below W.heap.size W w'))
    (SO : Hid (∀ W, Below w.heap.size w W → Calls Tryd.prog 9 #[accV id bal (some ⟨b, off, none⟩) n ac, .slice mp n mc] W fun e w' => e = .returned (.tuple #[.bool true, .bool true, .int .i64 0]) ∧ Below W.heap.size W w'))
    (BA : Hid (∀ W, Below w.heap.size w W → Calls Tryd.prog 10 #[accV id bal (some ⟨b, off, none⟩) n ac, .slice mp n mc, .int .i64 (k : Int)] W fun e w' => e = .returned (.tuple #[.int .i64 bp, .int .i64 0]) ∧ Below W.heap.size W w'))
    (CL : Hid (∀ W, Below w.heap.size w W → Calls Tryd.prog 21 #[.slice mp n mc] W fun e w' => ∃ v, e = .returned v ∧ w'.ownsRow W.heap.size 3 1 v n (marks.map (Value.int .i64)) ∧ Below W.heap.size W w'))
    (EQ : Hid (∀ (W : World) (ms : List Int) (mq : Option Addr) (cq : Nat), Below w.heap.size w W → ms.length = n → Row W mq ms → Calls Tryd.prog 22 #[accV id bal (some ⟨b, off, none⟩) n ac, .slice mq n cq] W fun e w' => e = .returned (.tuple #[.int .i64 (equityR id bal pos ms).1, .int .i64 (equityR id bal pos ms).2]) ∧ Below W.heap.size W w')) :
    Calls Tryd.prog 4 #[mktV p p' nb c na c' idx last, accV id bal (some ⟨b, off, none⟩) n ac, .slice mp n mc, .int .i64 (k : Int)] w fun e w' => e = .returned (.bool true) ∧ Below w.heap.size w w' := by
  let ap : Option Addr := some ⟨b, off, none⟩
  obtain ⟨lo, hi, at1, non, up, down⟩ := BR
  have N0 : Hid (0 < n) := Nat.lt_of_le_of_lt (Nat.zero_le _) KN.out
  have hkn : (k : Int) < (n : Int) := by have := KN.out; omega
  rw [hqv] at up down
  have UP := hide up
  have DOWN := hide down
  have NON := hide non
  clear up down non hqv
  subst hme
  obtain ⟨k1, k2, k3⟩ := hmv rfl
  have j1 := i1 rfl
  have j2 := i2 rfl
  have j3 : 0 ≤ idx.tdiv 20 ∧ idx.tdiv 20 ≤ 10000 := by rw [Int.tdiv_eq_ediv_of_nonneg (by omega)]; omega
  obtain ⟨j3, j4⟩ := j3
  clear i1 i2 hmv
  obtain ⟨n1, e1, he1⟩ : ∃ n1 e1, equityR id bal pos (marks.set k bp) = (n1, e1) := ⟨_, _, rfl⟩
  have E1 := hide he1
  rw [he1] at at1 NON
  clear he1
  simp only [] at at1
  rcases at1 with rfl | rfl
  · by_cases z1 : 1 < bp
    · by_cases z2 : bp < 10000
      · have z3 : 0 ≤ n1 := NON.out rfl z1 z2
        clear NON
        by_cases z4 : q < 0
        · obtain ⟨n2, e2, he2⟩ : ∃ n2 e2, equityR id bal pos (marks.set k (bp + 1)) = (n2, e2) := ⟨_, _, rfl⟩
          have DN := DOWN.out z4 z1 z2
          have E2 := hide he2
          rw [he2] at DN
          clear he2 UP DOWN
          simp only [] at DN
          rcases DN with ⟨rfl, z5⟩ | rfl
          · go_enter Tryd.func4, Tryd.ntmps4
            go_wp2_with fail
            refine (MK.out _ (below_alloc2 w _ _)).mono ?_
            rintro e W1 ⟨rfl, hb1⟩
            have B1 := hide ((below_alloc2 w (mktO p p' nb c na c' idx last) (accO id bal ap n ac)).trans (hb1.mono (by simp; omega)))
            have a2 := cell_in hb1 (cell_alloc (new_cell w _ _ 2 _ rfl) _) (by simp; omega)
            have b0 := cell_in hb1 (new_cell2 w _ _ _ 0 _ rfl) (by simp)
            have b1 := cell_in hb1 (new_cell2 w _ _ _ 1 _ rfl) (by simp)
            have b2 := cell_in hb1 (new_cell2 w _ _ _ 2 _ rfl) (by simp)
            clear hb1
            go_wp2_with fail
            refine (MA.out _ B1.out).mono ?_
            rintro e W2 ⟨rfl, hb2⟩
            have B2 := hide (B1.out.trans (hb2.mono B1.out.size))
            have b0 := cell_in hb2 b0 (World.block_lt_of_cell? _ _ b0)
            have b1 := cell_in hb2 b1 (World.block_lt_of_cell? _ _ b1)
            have b2 := cell_in hb2 b2 (World.block_lt_of_cell? _ _ b2)
            clear hb2
            go_wp2_with fail
            refine (WE.out _ B2.out).mono ?_
            rintro e W3 ⟨rfl, hb3⟩
            have B3 := hide (B2.out.trans (hb3.mono B2.out.size))
            have b0 := cell_in hb3 b0 (World.block_lt_of_cell? _ _ b0)
            have b1 := cell_in hb3 b1 (World.block_lt_of_cell? _ _ b1)
            have b2 := cell_in hb3 b2 (World.block_lt_of_cell? _ _ b2)
            clear hb3
            go_wp2_with fail
            refine (SO.out _ B3.out).mono ?_
            rintro e W4 ⟨rfl, hb4⟩
            have B4 := hide (B3.out.trans (hb4.mono B3.out.size))
            have b0 := cell_in hb4 b0 (World.block_lt_of_cell? _ _ b0)
            have b1 := cell_in hb4 b1 (World.block_lt_of_cell? _ _ b1)
            have b2 := cell_in hb4 b2 (World.block_lt_of_cell? _ _ b2)
            clear hb4
            go_wp2_with fail
            refine (BA.out _ B4.out).mono ?_
            rintro e W5 ⟨rfl, hb5⟩
            have B5 := hide (B4.out.trans (hb5.mono B4.out.size))
            have b0 := cell_in hb5 b0 (World.block_lt_of_cell? _ _ b0)
            have b1 := cell_in hb5 b1 (World.block_lt_of_cell? _ _ b1)
            have b2 := cell_in hb5 b2 (World.block_lt_of_cell? _ _ b2)
            clear hb5
            have BP := B5.out
            go_wp2_with fail
            refine (CL.out _ B5.out).mono ?_
            rintro e W6 ⟨v, rfl, own, hb6⟩
            obtain ⟨g, cap, rfl, hg, hg2⟩ := own_slice own N0.out
            have R6 := hide (own_row own)
            have f6 : W6.frozen? ⟨g, k, none⟩ = false := own.frozenAt k
            have g6 : W6.cell? ⟨g, k, none⟩ = some (.int .i64 (marks.getD k 0)) := own_cell own KN.out
            have hgw : Hid (w.heap.size + 1 < g) := Nat.lt_of_lt_of_le (World.block_lt_of_cell? _ _ b0) hg
            have B6 := hide (B5.out.trans (hb6.mono B5.out.size))
            have b0 := cell_in hb6 b0 (World.block_lt_of_cell? _ _ b0)
            have b1 := cell_in hb6 b1 (World.block_lt_of_cell? _ _ b1)
            have b2 := cell_in hb6 b2 (World.block_lt_of_cell? _ _ b2)
            clear hb6
            clear own BP
            have d0 := cell_set (k := k) (v := .int .i64 bp) b0 hgw.out
            have d1 := cell_set (k := k) (v := .int .i64 bp) b1 hgw.out
            have d2 := cell_set (k := k) (v := .int .i64 bp) b2 hgw.out
            go_wp2_with fail
            clear b0 b1 b2
            have hg3 : Hid (g < W6.heap.size) := hide hg2
            have B7 := hide (B6.out.setCell (p := ⟨g, k, none⟩) (Nat.le_of_lt (Nat.lt_of_succ_lt hgw.out)) (.int .i64 bp))
            have R7 := hide (row_set (v := bp) R6.out (by rw [ML.out]; exact KN.out))
            have b0 := d0
            have b1 := d1
            have b2 := d2
            clear d0 d1 d2
            have f7 : (W6.setCell ⟨g, k, none⟩ (.int .i64 bp)).frozen? ⟨g, k, none⟩ = false := by rw [World.frozen?_setCell]; exact f6
            have g7 : (W6.setCell ⟨g, k, none⟩ (.int .i64 bp)).cell? ⟨g, k, none⟩ = some (.int .i64 bp) := World.cell?_setCell_same' _ _ _ (by rw [g6]; rfl)
            have s7 : Hid (g < (W6.setCell ⟨g, k, none⟩ (.int .i64 bp)).heap.size) := World.block_lt_of_cell? _ _ g7
            generalize W6.setCell ⟨g, k, none⟩ (.int .i64 bp) = W7 at B7 R7 b0 b1 b2 f7 g7 s7 ⊢
            clear R6 f6 g6 hg2 hg3 B6 hg
            refine (EQ.out W7 (marks.set k bp) (some ⟨g, 0, none⟩) cap B7.out (by rw [List.length_set]; exact ML.out) R7.out).mono ?_
            rw [E1.out]
            rintro e W8 ⟨rfl, hb8⟩
            have R8 := hide (row_below R7.out hb8)
            have f8 := frozen_in hb8 s7.out f7
            have g8 := cell_in hb8 g7 s7.out
            have s8 : Hid (g < W8.heap.size) := World.block_lt_of_cell? _ _ g8
            have B8 := hide (B7.out.trans (hb8.mono B7.out.size))
            have b0 := cell_in hb8 b0 (World.block_lt_of_cell? _ _ b0)
            have b1 := cell_in hb8 b1 (World.block_lt_of_cell? _ _ b1)
            have b2 := cell_in hb8 b2 (World.block_lt_of_cell? _ _ b2)
            clear hb8
            have cq := cell_in B8.out CQ.out (World.block_lt_of_cell? _ _ CQ.out)
            clear R7 f7 g7 s7 B7 E1
            have d0 := cell_set (k := k) (v := .int .i64 (bp + 1)) b0 hgw.out
            have d1 := cell_set (k := k) (v := .int .i64 (bp + 1)) b1 hgw.out
            have d2 := cell_set (k := k) (v := .int .i64 (bp + 1)) b2 hgw.out
            go_wp2_with fail
            have B9 := hide (B8.out.setCell (p := ⟨g, k, none⟩) (Nat.le_of_lt (Nat.lt_of_succ_lt hgw.out)) (.int .i64 (bp + 1)))
            have R9 := row_set (v := (bp + 1)) R8.out (by rw [List.length_set, ML.out]; exact KN.out)
            rw [List.set_set] at R9
            clear b0 b1 b2 d0 d1 d2
            generalize W8.setCell ⟨g, k, none⟩ (.int .i64 (bp + 1)) = W9 at B9 R9 ⊢
            refine (EQ.out W9 (marks.set k (bp + 1)) (some ⟨g, 0, none⟩) cap B9.out (by rw [List.length_set]; exact ML.out) R9).mono ?_
            rw [E2.out]
            rintro e W10 ⟨rfl, hb10⟩
            have B10 := hide (B9.out.trans (hb10.mono B9.out.size))
            clear hb10 R9 B9
            go_wp2
            go_ret
            exact ⟨rfl, B10.out⟩
          · go_enter Tryd.func4, Tryd.ntmps4
            go_wp2_with fail
            refine (MK.out _ (below_alloc2 w _ _)).mono ?_
            rintro e W1 ⟨rfl, hb1⟩
            have B1 := hide ((below_alloc2 w (mktO p p' nb c na c' idx last) (accO id bal ap n ac)).trans (hb1.mono (by simp; omega)))
            have a2 := cell_in hb1 (cell_alloc (new_cell w _ _ 2 _ rfl) _) (by simp; omega)
            have b0 := cell_in hb1 (new_cell2 w _ _ _ 0 _ rfl) (by simp)
            have b1 := cell_in hb1 (new_cell2 w _ _ _ 1 _ rfl) (by simp)
            have b2 := cell_in hb1 (new_cell2 w _ _ _ 2 _ rfl) (by simp)
            clear hb1
            go_wp2_with fail
            refine (MA.out _ B1.out).mono ?_
            rintro e W2 ⟨rfl, hb2⟩
            have B2 := hide (B1.out.trans (hb2.mono B1.out.size))
            have b0 := cell_in hb2 b0 (World.block_lt_of_cell? _ _ b0)
            have b1 := cell_in hb2 b1 (World.block_lt_of_cell? _ _ b1)
            have b2 := cell_in hb2 b2 (World.block_lt_of_cell? _ _ b2)
            clear hb2
            go_wp2_with fail
            refine (WE.out _ B2.out).mono ?_
            rintro e W3 ⟨rfl, hb3⟩
            have B3 := hide (B2.out.trans (hb3.mono B2.out.size))
            have b0 := cell_in hb3 b0 (World.block_lt_of_cell? _ _ b0)
            have b1 := cell_in hb3 b1 (World.block_lt_of_cell? _ _ b1)
            have b2 := cell_in hb3 b2 (World.block_lt_of_cell? _ _ b2)
            clear hb3
            go_wp2_with fail
            refine (SO.out _ B3.out).mono ?_
            rintro e W4 ⟨rfl, hb4⟩
            have B4 := hide (B3.out.trans (hb4.mono B3.out.size))
            have b0 := cell_in hb4 b0 (World.block_lt_of_cell? _ _ b0)
            have b1 := cell_in hb4 b1 (World.block_lt_of_cell? _ _ b1)
            have b2 := cell_in hb4 b2 (World.block_lt_of_cell? _ _ b2)
            clear hb4
            go_wp2_with fail
            refine (BA.out _ B4.out).mono ?_
            rintro e W5 ⟨rfl, hb5⟩
            have B5 := hide (B4.out.trans (hb5.mono B4.out.size))
            have b0 := cell_in hb5 b0 (World.block_lt_of_cell? _ _ b0)
            have b1 := cell_in hb5 b1 (World.block_lt_of_cell? _ _ b1)
            have b2 := cell_in hb5 b2 (World.block_lt_of_cell? _ _ b2)
            clear hb5
            have BP := B5.out
            go_wp2_with fail
            refine (CL.out _ B5.out).mono ?_
            rintro e W6 ⟨v, rfl, own, hb6⟩
            obtain ⟨g, cap, rfl, hg, hg2⟩ := own_slice own N0.out
            have R6 := hide (own_row own)
            have f6 : W6.frozen? ⟨g, k, none⟩ = false := own.frozenAt k
            have g6 : W6.cell? ⟨g, k, none⟩ = some (.int .i64 (marks.getD k 0)) := own_cell own KN.out
            have hgw : Hid (w.heap.size + 1 < g) := Nat.lt_of_lt_of_le (World.block_lt_of_cell? _ _ b0) hg
            have B6 := hide (B5.out.trans (hb6.mono B5.out.size))
            have b0 := cell_in hb6 b0 (World.block_lt_of_cell? _ _ b0)
            have b1 := cell_in hb6 b1 (World.block_lt_of_cell? _ _ b1)
            have b2 := cell_in hb6 b2 (World.block_lt_of_cell? _ _ b2)
            clear hb6
            clear own BP
            have d0 := cell_set (k := k) (v := .int .i64 bp) b0 hgw.out
            have d1 := cell_set (k := k) (v := .int .i64 bp) b1 hgw.out
            have d2 := cell_set (k := k) (v := .int .i64 bp) b2 hgw.out
            go_wp2_with fail
            clear b0 b1 b2
            have hg3 : Hid (g < W6.heap.size) := hide hg2
            have B7 := hide (B6.out.setCell (p := ⟨g, k, none⟩) (Nat.le_of_lt (Nat.lt_of_succ_lt hgw.out)) (.int .i64 bp))
            have R7 := hide (row_set (v := bp) R6.out (by rw [ML.out]; exact KN.out))
            have b0 := d0
            have b1 := d1
            have b2 := d2
            clear d0 d1 d2
            have f7 : (W6.setCell ⟨g, k, none⟩ (.int .i64 bp)).frozen? ⟨g, k, none⟩ = false := by rw [World.frozen?_setCell]; exact f6
            have g7 : (W6.setCell ⟨g, k, none⟩ (.int .i64 bp)).cell? ⟨g, k, none⟩ = some (.int .i64 bp) := World.cell?_setCell_same' _ _ _ (by rw [g6]; rfl)
            have s7 : Hid (g < (W6.setCell ⟨g, k, none⟩ (.int .i64 bp)).heap.size) := World.block_lt_of_cell? _ _ g7
            generalize W6.setCell ⟨g, k, none⟩ (.int .i64 bp) = W7 at B7 R7 b0 b1 b2 f7 g7 s7 ⊢
            clear R6 f6 g6 hg2 hg3 B6 hg
            refine (EQ.out W7 (marks.set k bp) (some ⟨g, 0, none⟩) cap B7.out (by rw [List.length_set]; exact ML.out) R7.out).mono ?_
            rw [E1.out]
            rintro e W8 ⟨rfl, hb8⟩
            have R8 := hide (row_below R7.out hb8)
            have f8 := frozen_in hb8 s7.out f7
            have g8 := cell_in hb8 g7 s7.out
            have s8 : Hid (g < W8.heap.size) := World.block_lt_of_cell? _ _ g8
            have B8 := hide (B7.out.trans (hb8.mono B7.out.size))
            have b0 := cell_in hb8 b0 (World.block_lt_of_cell? _ _ b0)
            have b1 := cell_in hb8 b1 (World.block_lt_of_cell? _ _ b1)
            have b2 := cell_in hb8 b2 (World.block_lt_of_cell? _ _ b2)
            clear hb8
            have cq := cell_in B8.out CQ.out (World.block_lt_of_cell? _ _ CQ.out)
            clear R7 f7 g7 s7 B7 E1
            have d0 := cell_set (k := k) (v := .int .i64 (bp + 1)) b0 hgw.out
            have d1 := cell_set (k := k) (v := .int .i64 (bp + 1)) b1 hgw.out
            have d2 := cell_set (k := k) (v := .int .i64 (bp + 1)) b2 hgw.out
            go_wp2_with fail
            have B9 := hide (B8.out.setCell (p := ⟨g, k, none⟩) (Nat.le_of_lt (Nat.lt_of_succ_lt hgw.out)) (.int .i64 (bp + 1)))
            have R9 := row_set (v := (bp + 1)) R8.out (by rw [List.length_set, ML.out]; exact KN.out)
            rw [List.set_set] at R9
            clear b0 b1 b2 d0 d1 d2
            generalize W8.setCell ⟨g, k, none⟩ (.int .i64 (bp + 1)) = W9 at B9 R9 ⊢
            refine (EQ.out W9 (marks.set k (bp + 1)) (some ⟨g, 0, none⟩) cap B9.out (by rw [List.length_set]; exact ML.out) R9).mono ?_
            rw [E2.out]
            rintro e W10 ⟨rfl, hb10⟩
            have B10 := hide (B9.out.trans (hb10.mono B9.out.size))
            clear hb10 R9 B9
            go_wp2
            go_ret
            exact ⟨rfl, B10.out⟩
        · have z6 : 0 < q := by omega
          obtain ⟨n2, e2, he2⟩ : ∃ n2 e2, equityR id bal pos (marks.set k (bp - 1)) = (n2, e2) := ⟨_, _, rfl⟩
          have DN := UP.out z6 z1 z2
          have E2 := hide he2
          rw [he2] at DN
          clear he2 UP DOWN
          simp only [] at DN
          rcases DN with ⟨rfl, z5⟩ | rfl
          · go_enter Tryd.func4, Tryd.ntmps4
            go_wp2_with fail
            refine (MK.out _ (below_alloc2 w _ _)).mono ?_
            rintro e W1 ⟨rfl, hb1⟩
            have B1 := hide ((below_alloc2 w (mktO p p' nb c na c' idx last) (accO id bal ap n ac)).trans (hb1.mono (by simp; omega)))
            have a2 := cell_in hb1 (cell_alloc (new_cell w _ _ 2 _ rfl) _) (by simp; omega)
            have b0 := cell_in hb1 (new_cell2 w _ _ _ 0 _ rfl) (by simp)
            have b1 := cell_in hb1 (new_cell2 w _ _ _ 1 _ rfl) (by simp)
            have b2 := cell_in hb1 (new_cell2 w _ _ _ 2 _ rfl) (by simp)
            clear hb1
            go_wp2_with fail
            refine (MA.out _ B1.out).mono ?_
            rintro e W2 ⟨rfl, hb2⟩
            have B2 := hide (B1.out.trans (hb2.mono B1.out.size))
            have b0 := cell_in hb2 b0 (World.block_lt_of_cell? _ _ b0)
            have b1 := cell_in hb2 b1 (World.block_lt_of_cell? _ _ b1)
            have b2 := cell_in hb2 b2 (World.block_lt_of_cell? _ _ b2)
            clear hb2
            go_wp2_with fail
            refine (WE.out _ B2.out).mono ?_
            rintro e W3 ⟨rfl, hb3⟩
            have B3 := hide (B2.out.trans (hb3.mono B2.out.size))
            have b0 := cell_in hb3 b0 (World.block_lt_of_cell? _ _ b0)
            have b1 := cell_in hb3 b1 (World.block_lt_of_cell? _ _ b1)
            have b2 := cell_in hb3 b2 (World.block_lt_of_cell? _ _ b2)
            clear hb3
            go_wp2_with fail
            refine (SO.out _ B3.out).mono ?_
            rintro e W4 ⟨rfl, hb4⟩
            have B4 := hide (B3.out.trans (hb4.mono B3.out.size))
            have b0 := cell_in hb4 b0 (World.block_lt_of_cell? _ _ b0)
            have b1 := cell_in hb4 b1 (World.block_lt_of_cell? _ _ b1)
            have b2 := cell_in hb4 b2 (World.block_lt_of_cell? _ _ b2)
            clear hb4
            go_wp2_with fail
            refine (BA.out _ B4.out).mono ?_
            rintro e W5 ⟨rfl, hb5⟩
            have B5 := hide (B4.out.trans (hb5.mono B4.out.size))
            have b0 := cell_in hb5 b0 (World.block_lt_of_cell? _ _ b0)
            have b1 := cell_in hb5 b1 (World.block_lt_of_cell? _ _ b1)
            have b2 := cell_in hb5 b2 (World.block_lt_of_cell? _ _ b2)
            clear hb5
            have BP := B5.out
            go_wp2_with fail
            refine (CL.out _ B5.out).mono ?_
            rintro e W6 ⟨v, rfl, own, hb6⟩
            obtain ⟨g, cap, rfl, hg, hg2⟩ := own_slice own N0.out
            have R6 := hide (own_row own)
            have f6 : W6.frozen? ⟨g, k, none⟩ = false := own.frozenAt k
            have g6 : W6.cell? ⟨g, k, none⟩ = some (.int .i64 (marks.getD k 0)) := own_cell own KN.out
            have hgw : Hid (w.heap.size + 1 < g) := Nat.lt_of_lt_of_le (World.block_lt_of_cell? _ _ b0) hg
            have B6 := hide (B5.out.trans (hb6.mono B5.out.size))
            have b0 := cell_in hb6 b0 (World.block_lt_of_cell? _ _ b0)
            have b1 := cell_in hb6 b1 (World.block_lt_of_cell? _ _ b1)
            have b2 := cell_in hb6 b2 (World.block_lt_of_cell? _ _ b2)
            clear hb6
            clear own BP
            have d0 := cell_set (k := k) (v := .int .i64 bp) b0 hgw.out
            have d1 := cell_set (k := k) (v := .int .i64 bp) b1 hgw.out
            have d2 := cell_set (k := k) (v := .int .i64 bp) b2 hgw.out
            go_wp2_with fail
            clear b0 b1 b2
            have hg3 : Hid (g < W6.heap.size) := hide hg2
            have B7 := hide (B6.out.setCell (p := ⟨g, k, none⟩) (Nat.le_of_lt (Nat.lt_of_succ_lt hgw.out)) (.int .i64 bp))
            have R7 := hide (row_set (v := bp) R6.out (by rw [ML.out]; exact KN.out))
            have b0 := d0
            have b1 := d1
            have b2 := d2
            clear d0 d1 d2
            have f7 : (W6.setCell ⟨g, k, none⟩ (.int .i64 bp)).frozen? ⟨g, k, none⟩ = false := by rw [World.frozen?_setCell]; exact f6
            have g7 : (W6.setCell ⟨g, k, none⟩ (.int .i64 bp)).cell? ⟨g, k, none⟩ = some (.int .i64 bp) := World.cell?_setCell_same' _ _ _ (by rw [g6]; rfl)
            have s7 : Hid (g < (W6.setCell ⟨g, k, none⟩ (.int .i64 bp)).heap.size) := World.block_lt_of_cell? _ _ g7
            generalize W6.setCell ⟨g, k, none⟩ (.int .i64 bp) = W7 at B7 R7 b0 b1 b2 f7 g7 s7 ⊢
            clear R6 f6 g6 hg2 hg3 B6 hg
            refine (EQ.out W7 (marks.set k bp) (some ⟨g, 0, none⟩) cap B7.out (by rw [List.length_set]; exact ML.out) R7.out).mono ?_
            rw [E1.out]
            rintro e W8 ⟨rfl, hb8⟩
            have R8 := hide (row_below R7.out hb8)
            have f8 := frozen_in hb8 s7.out f7
            have g8 := cell_in hb8 g7 s7.out
            have s8 : Hid (g < W8.heap.size) := World.block_lt_of_cell? _ _ g8
            have B8 := hide (B7.out.trans (hb8.mono B7.out.size))
            have b0 := cell_in hb8 b0 (World.block_lt_of_cell? _ _ b0)
            have b1 := cell_in hb8 b1 (World.block_lt_of_cell? _ _ b1)
            have b2 := cell_in hb8 b2 (World.block_lt_of_cell? _ _ b2)
            clear hb8
            have cq := cell_in B8.out CQ.out (World.block_lt_of_cell? _ _ CQ.out)
            clear R7 f7 g7 s7 B7 E1
            have d0 := cell_set (k := k) (v := .int .i64 (bp - 1)) b0 hgw.out
            have d1 := cell_set (k := k) (v := .int .i64 (bp - 1)) b1 hgw.out
            have d2 := cell_set (k := k) (v := .int .i64 (bp - 1)) b2 hgw.out
            go_wp2_with fail
            have B9 := hide (B8.out.setCell (p := ⟨g, k, none⟩) (Nat.le_of_lt (Nat.lt_of_succ_lt hgw.out)) (.int .i64 (bp - 1)))
            have R9 := row_set (v := (bp - 1)) R8.out (by rw [List.length_set, ML.out]; exact KN.out)
            rw [List.set_set] at R9
            clear b0 b1 b2 d0 d1 d2
            generalize W8.setCell ⟨g, k, none⟩ (.int .i64 (bp - 1)) = W9 at B9 R9 ⊢
            refine (EQ.out W9 (marks.set k (bp - 1)) (some ⟨g, 0, none⟩) cap B9.out (by rw [List.length_set]; exact ML.out) R9).mono ?_
            rw [E2.out]
            rintro e W10 ⟨rfl, hb10⟩
            have B10 := hide (B9.out.trans (hb10.mono B9.out.size))
            clear hb10 R9 B9
            go_wp2
            go_ret
            exact ⟨rfl, B10.out⟩
          · go_enter Tryd.func4, Tryd.ntmps4
            go_wp2_with fail
            refine (MK.out _ (below_alloc2 w _ _)).mono ?_
            rintro e W1 ⟨rfl, hb1⟩
            have B1 := hide ((below_alloc2 w (mktO p p' nb c na c' idx last) (accO id bal ap n ac)).trans (hb1.mono (by simp; omega)))
            have a2 := cell_in hb1 (cell_alloc (new_cell w _ _ 2 _ rfl) _) (by simp; omega)
            have b0 := cell_in hb1 (new_cell2 w _ _ _ 0 _ rfl) (by simp)
            have b1 := cell_in hb1 (new_cell2 w _ _ _ 1 _ rfl) (by simp)
            have b2 := cell_in hb1 (new_cell2 w _ _ _ 2 _ rfl) (by simp)
            clear hb1
            go_wp2_with fail
            refine (MA.out _ B1.out).mono ?_
            rintro e W2 ⟨rfl, hb2⟩
            have B2 := hide (B1.out.trans (hb2.mono B1.out.size))
            have b0 := cell_in hb2 b0 (World.block_lt_of_cell? _ _ b0)
            have b1 := cell_in hb2 b1 (World.block_lt_of_cell? _ _ b1)
            have b2 := cell_in hb2 b2 (World.block_lt_of_cell? _ _ b2)
            clear hb2
            go_wp2_with fail
            refine (WE.out _ B2.out).mono ?_
            rintro e W3 ⟨rfl, hb3⟩
            have B3 := hide (B2.out.trans (hb3.mono B2.out.size))
            have b0 := cell_in hb3 b0 (World.block_lt_of_cell? _ _ b0)
            have b1 := cell_in hb3 b1 (World.block_lt_of_cell? _ _ b1)
            have b2 := cell_in hb3 b2 (World.block_lt_of_cell? _ _ b2)
            clear hb3
            go_wp2_with fail
            refine (SO.out _ B3.out).mono ?_
            rintro e W4 ⟨rfl, hb4⟩
            have B4 := hide (B3.out.trans (hb4.mono B3.out.size))
            have b0 := cell_in hb4 b0 (World.block_lt_of_cell? _ _ b0)
            have b1 := cell_in hb4 b1 (World.block_lt_of_cell? _ _ b1)
            have b2 := cell_in hb4 b2 (World.block_lt_of_cell? _ _ b2)
            clear hb4
            go_wp2_with fail
            refine (BA.out _ B4.out).mono ?_
            rintro e W5 ⟨rfl, hb5⟩
            have B5 := hide (B4.out.trans (hb5.mono B4.out.size))
            have b0 := cell_in hb5 b0 (World.block_lt_of_cell? _ _ b0)
            have b1 := cell_in hb5 b1 (World.block_lt_of_cell? _ _ b1)
            have b2 := cell_in hb5 b2 (World.block_lt_of_cell? _ _ b2)
            clear hb5
            have BP := B5.out
            go_wp2_with fail
            refine (CL.out _ B5.out).mono ?_
            rintro e W6 ⟨v, rfl, own, hb6⟩
            obtain ⟨g, cap, rfl, hg, hg2⟩ := own_slice own N0.out
            have R6 := hide (own_row own)
            have f6 : W6.frozen? ⟨g, k, none⟩ = false := own.frozenAt k
            have g6 : W6.cell? ⟨g, k, none⟩ = some (.int .i64 (marks.getD k 0)) := own_cell own KN.out
            have hgw : Hid (w.heap.size + 1 < g) := Nat.lt_of_lt_of_le (World.block_lt_of_cell? _ _ b0) hg
            have B6 := hide (B5.out.trans (hb6.mono B5.out.size))
            have b0 := cell_in hb6 b0 (World.block_lt_of_cell? _ _ b0)
            have b1 := cell_in hb6 b1 (World.block_lt_of_cell? _ _ b1)
            have b2 := cell_in hb6 b2 (World.block_lt_of_cell? _ _ b2)
            clear hb6
            clear own BP
            have d0 := cell_set (k := k) (v := .int .i64 bp) b0 hgw.out
            have d1 := cell_set (k := k) (v := .int .i64 bp) b1 hgw.out
            have d2 := cell_set (k := k) (v := .int .i64 bp) b2 hgw.out
            go_wp2_with fail
            clear b0 b1 b2
            have hg3 : Hid (g < W6.heap.size) := hide hg2
            have B7 := hide (B6.out.setCell (p := ⟨g, k, none⟩) (Nat.le_of_lt (Nat.lt_of_succ_lt hgw.out)) (.int .i64 bp))
            have R7 := hide (row_set (v := bp) R6.out (by rw [ML.out]; exact KN.out))
            have b0 := d0
            have b1 := d1
            have b2 := d2
            clear d0 d1 d2
            have f7 : (W6.setCell ⟨g, k, none⟩ (.int .i64 bp)).frozen? ⟨g, k, none⟩ = false := by rw [World.frozen?_setCell]; exact f6
            have g7 : (W6.setCell ⟨g, k, none⟩ (.int .i64 bp)).cell? ⟨g, k, none⟩ = some (.int .i64 bp) := World.cell?_setCell_same' _ _ _ (by rw [g6]; rfl)
            have s7 : Hid (g < (W6.setCell ⟨g, k, none⟩ (.int .i64 bp)).heap.size) := World.block_lt_of_cell? _ _ g7
            generalize W6.setCell ⟨g, k, none⟩ (.int .i64 bp) = W7 at B7 R7 b0 b1 b2 f7 g7 s7 ⊢
            clear R6 f6 g6 hg2 hg3 B6 hg
            refine (EQ.out W7 (marks.set k bp) (some ⟨g, 0, none⟩) cap B7.out (by rw [List.length_set]; exact ML.out) R7.out).mono ?_
            rw [E1.out]
            rintro e W8 ⟨rfl, hb8⟩
            have R8 := hide (row_below R7.out hb8)
            have f8 := frozen_in hb8 s7.out f7
            have g8 := cell_in hb8 g7 s7.out
            have s8 : Hid (g < W8.heap.size) := World.block_lt_of_cell? _ _ g8
            have B8 := hide (B7.out.trans (hb8.mono B7.out.size))
            have b0 := cell_in hb8 b0 (World.block_lt_of_cell? _ _ b0)
            have b1 := cell_in hb8 b1 (World.block_lt_of_cell? _ _ b1)
            have b2 := cell_in hb8 b2 (World.block_lt_of_cell? _ _ b2)
            clear hb8
            have cq := cell_in B8.out CQ.out (World.block_lt_of_cell? _ _ CQ.out)
            clear R7 f7 g7 s7 B7 E1
            have d0 := cell_set (k := k) (v := .int .i64 (bp - 1)) b0 hgw.out
            have d1 := cell_set (k := k) (v := .int .i64 (bp - 1)) b1 hgw.out
            have d2 := cell_set (k := k) (v := .int .i64 (bp - 1)) b2 hgw.out
            go_wp2_with fail
            have B9 := hide (B8.out.setCell (p := ⟨g, k, none⟩) (Nat.le_of_lt (Nat.lt_of_succ_lt hgw.out)) (.int .i64 (bp - 1)))
            have R9 := row_set (v := (bp - 1)) R8.out (by rw [List.length_set, ML.out]; exact KN.out)
            rw [List.set_set] at R9
            clear b0 b1 b2 d0 d1 d2
            generalize W8.setCell ⟨g, k, none⟩ (.int .i64 (bp - 1)) = W9 at B9 R9 ⊢
            refine (EQ.out W9 (marks.set k (bp - 1)) (some ⟨g, 0, none⟩) cap B9.out (by rw [List.length_set]; exact ML.out) R9).mono ?_
            rw [E2.out]
            rintro e W10 ⟨rfl, hb10⟩
            have B10 := hide (B9.out.trans (hb10.mono B9.out.size))
            clear hb10 R9 B9
            go_wp2
            go_ret
            exact ⟨rfl, B10.out⟩
      · clear NON UP DOWN
        go_enter Tryd.func4, Tryd.ntmps4
        go_wp2_with fail
        refine (MK.out _ (below_alloc2 w _ _)).mono ?_
        rintro e W1 ⟨rfl, hb1⟩
        have B1 := hide ((below_alloc2 w (mktO p p' nb c na c' idx last) (accO id bal ap n ac)).trans (hb1.mono (by simp; omega)))
        have a2 := cell_in hb1 (cell_alloc (new_cell w _ _ 2 _ rfl) _) (by simp; omega)
        have b0 := cell_in hb1 (new_cell2 w _ _ _ 0 _ rfl) (by simp)
        have b1 := cell_in hb1 (new_cell2 w _ _ _ 1 _ rfl) (by simp)
        have b2 := cell_in hb1 (new_cell2 w _ _ _ 2 _ rfl) (by simp)
        clear hb1
        go_wp2_with fail
        refine (MA.out _ B1.out).mono ?_
        rintro e W2 ⟨rfl, hb2⟩
        have B2 := hide (B1.out.trans (hb2.mono B1.out.size))
        have b0 := cell_in hb2 b0 (World.block_lt_of_cell? _ _ b0)
        have b1 := cell_in hb2 b1 (World.block_lt_of_cell? _ _ b1)
        have b2 := cell_in hb2 b2 (World.block_lt_of_cell? _ _ b2)
        clear hb2
        go_wp2_with fail
        refine (WE.out _ B2.out).mono ?_
        rintro e W3 ⟨rfl, hb3⟩
        have B3 := hide (B2.out.trans (hb3.mono B2.out.size))
        have b0 := cell_in hb3 b0 (World.block_lt_of_cell? _ _ b0)
        have b1 := cell_in hb3 b1 (World.block_lt_of_cell? _ _ b1)
        have b2 := cell_in hb3 b2 (World.block_lt_of_cell? _ _ b2)
        clear hb3
        go_wp2_with fail
        refine (SO.out _ B3.out).mono ?_
        rintro e W4 ⟨rfl, hb4⟩
        have B4 := hide (B3.out.trans (hb4.mono B3.out.size))
        have b0 := cell_in hb4 b0 (World.block_lt_of_cell? _ _ b0)
        have b1 := cell_in hb4 b1 (World.block_lt_of_cell? _ _ b1)
        have b2 := cell_in hb4 b2 (World.block_lt_of_cell? _ _ b2)
        clear hb4
        go_wp2_with fail
        refine (BA.out _ B4.out).mono ?_
        rintro e W5 ⟨rfl, hb5⟩
        have B5 := hide (B4.out.trans (hb5.mono B4.out.size))
        have b0 := cell_in hb5 b0 (World.block_lt_of_cell? _ _ b0)
        have b1 := cell_in hb5 b1 (World.block_lt_of_cell? _ _ b1)
        have b2 := cell_in hb5 b2 (World.block_lt_of_cell? _ _ b2)
        clear hb5
        have BP := B5.out
        go_wp2_with fail
        refine (CL.out _ B5.out).mono ?_
        rintro e W6 ⟨v, rfl, own, hb6⟩
        obtain ⟨g, cap, rfl, hg, hg2⟩ := own_slice own N0.out
        have R6 := hide (own_row own)
        have f6 : W6.frozen? ⟨g, k, none⟩ = false := own.frozenAt k
        have g6 : W6.cell? ⟨g, k, none⟩ = some (.int .i64 (marks.getD k 0)) := own_cell own KN.out
        have hgw : Hid (w.heap.size + 1 < g) := Nat.lt_of_lt_of_le (World.block_lt_of_cell? _ _ b0) hg
        have B6 := hide (B5.out.trans (hb6.mono B5.out.size))
        have b0 := cell_in hb6 b0 (World.block_lt_of_cell? _ _ b0)
        have b1 := cell_in hb6 b1 (World.block_lt_of_cell? _ _ b1)
        have b2 := cell_in hb6 b2 (World.block_lt_of_cell? _ _ b2)
        clear hb6
        clear own BP
        have d0 := cell_set (k := k) (v := .int .i64 bp) b0 hgw.out
        have d1 := cell_set (k := k) (v := .int .i64 bp) b1 hgw.out
        have d2 := cell_set (k := k) (v := .int .i64 bp) b2 hgw.out
        go_wp2_with fail
        clear b0 b1 b2
        have hg3 : Hid (g < W6.heap.size) := hide hg2
        have B7 := hide (B6.out.setCell (p := ⟨g, k, none⟩) (Nat.le_of_lt (Nat.lt_of_succ_lt hgw.out)) (.int .i64 bp))
        have R7 := hide (row_set (v := bp) R6.out (by rw [ML.out]; exact KN.out))
        have b0 := d0
        have b1 := d1
        have b2 := d2
        clear d0 d1 d2
        have f7 : (W6.setCell ⟨g, k, none⟩ (.int .i64 bp)).frozen? ⟨g, k, none⟩ = false := by rw [World.frozen?_setCell]; exact f6
        have g7 : (W6.setCell ⟨g, k, none⟩ (.int .i64 bp)).cell? ⟨g, k, none⟩ = some (.int .i64 bp) := World.cell?_setCell_same' _ _ _ (by rw [g6]; rfl)
        have s7 : Hid (g < (W6.setCell ⟨g, k, none⟩ (.int .i64 bp)).heap.size) := World.block_lt_of_cell? _ _ g7
        generalize W6.setCell ⟨g, k, none⟩ (.int .i64 bp) = W7 at B7 R7 b0 b1 b2 f7 g7 s7 ⊢
        clear R6 f6 g6 hg2 hg3 B6 hg
        refine (EQ.out W7 (marks.set k bp) (some ⟨g, 0, none⟩) cap B7.out (by rw [List.length_set]; exact ML.out) R7.out).mono ?_
        rw [E1.out]
        rintro e W8 ⟨rfl, hb8⟩
        have R8 := hide (row_below R7.out hb8)
        have f8 := frozen_in hb8 s7.out f7
        have g8 := cell_in hb8 g7 s7.out
        have s8 : Hid (g < W8.heap.size) := World.block_lt_of_cell? _ _ g8
        have B8 := hide (B7.out.trans (hb8.mono B7.out.size))
        have b0 := cell_in hb8 b0 (World.block_lt_of_cell? _ _ b0)
        have b1 := cell_in hb8 b1 (World.block_lt_of_cell? _ _ b1)
        have b2 := cell_in hb8 b2 (World.block_lt_of_cell? _ _ b2)
        clear hb8
        have cq := cell_in B8.out CQ.out (World.block_lt_of_cell? _ _ CQ.out)
        clear R7 f7 g7 s7 B7 E1
        go_wp2
        go_ret
        exact ⟨rfl, B8.out⟩
    · clear NON UP DOWN
      go_enter Tryd.func4, Tryd.ntmps4
      go_wp2_with fail
      refine (MK.out _ (below_alloc2 w _ _)).mono ?_
      rintro e W1 ⟨rfl, hb1⟩
      have B1 := hide ((below_alloc2 w (mktO p p' nb c na c' idx last) (accO id bal ap n ac)).trans (hb1.mono (by simp; omega)))
      have a2 := cell_in hb1 (cell_alloc (new_cell w _ _ 2 _ rfl) _) (by simp; omega)
      have b0 := cell_in hb1 (new_cell2 w _ _ _ 0 _ rfl) (by simp)
      have b1 := cell_in hb1 (new_cell2 w _ _ _ 1 _ rfl) (by simp)
      have b2 := cell_in hb1 (new_cell2 w _ _ _ 2 _ rfl) (by simp)
      clear hb1
      go_wp2_with fail
      refine (MA.out _ B1.out).mono ?_
      rintro e W2 ⟨rfl, hb2⟩
      have B2 := hide (B1.out.trans (hb2.mono B1.out.size))
      have b0 := cell_in hb2 b0 (World.block_lt_of_cell? _ _ b0)
      have b1 := cell_in hb2 b1 (World.block_lt_of_cell? _ _ b1)
      have b2 := cell_in hb2 b2 (World.block_lt_of_cell? _ _ b2)
      clear hb2
      go_wp2_with fail
      refine (WE.out _ B2.out).mono ?_
      rintro e W3 ⟨rfl, hb3⟩
      have B3 := hide (B2.out.trans (hb3.mono B2.out.size))
      have b0 := cell_in hb3 b0 (World.block_lt_of_cell? _ _ b0)
      have b1 := cell_in hb3 b1 (World.block_lt_of_cell? _ _ b1)
      have b2 := cell_in hb3 b2 (World.block_lt_of_cell? _ _ b2)
      clear hb3
      go_wp2_with fail
      refine (SO.out _ B3.out).mono ?_
      rintro e W4 ⟨rfl, hb4⟩
      have B4 := hide (B3.out.trans (hb4.mono B3.out.size))
      have b0 := cell_in hb4 b0 (World.block_lt_of_cell? _ _ b0)
      have b1 := cell_in hb4 b1 (World.block_lt_of_cell? _ _ b1)
      have b2 := cell_in hb4 b2 (World.block_lt_of_cell? _ _ b2)
      clear hb4
      go_wp2_with fail
      refine (BA.out _ B4.out).mono ?_
      rintro e W5 ⟨rfl, hb5⟩
      have B5 := hide (B4.out.trans (hb5.mono B4.out.size))
      have b0 := cell_in hb5 b0 (World.block_lt_of_cell? _ _ b0)
      have b1 := cell_in hb5 b1 (World.block_lt_of_cell? _ _ b1)
      have b2 := cell_in hb5 b2 (World.block_lt_of_cell? _ _ b2)
      clear hb5
      have BP := B5.out
      go_wp2_with fail
      refine (CL.out _ B5.out).mono ?_
      rintro e W6 ⟨v, rfl, own, hb6⟩
      obtain ⟨g, cap, rfl, hg, hg2⟩ := own_slice own N0.out
      have R6 := hide (own_row own)
      have f6 : W6.frozen? ⟨g, k, none⟩ = false := own.frozenAt k
      have g6 : W6.cell? ⟨g, k, none⟩ = some (.int .i64 (marks.getD k 0)) := own_cell own KN.out
      have hgw : Hid (w.heap.size + 1 < g) := Nat.lt_of_lt_of_le (World.block_lt_of_cell? _ _ b0) hg
      have B6 := hide (B5.out.trans (hb6.mono B5.out.size))
      have b0 := cell_in hb6 b0 (World.block_lt_of_cell? _ _ b0)
      have b1 := cell_in hb6 b1 (World.block_lt_of_cell? _ _ b1)
      have b2 := cell_in hb6 b2 (World.block_lt_of_cell? _ _ b2)
      clear hb6
      clear own BP
      have d0 := cell_set (k := k) (v := .int .i64 bp) b0 hgw.out
      have d1 := cell_set (k := k) (v := .int .i64 bp) b1 hgw.out
      have d2 := cell_set (k := k) (v := .int .i64 bp) b2 hgw.out
      go_wp2_with fail
      clear b0 b1 b2
      have hg3 : Hid (g < W6.heap.size) := hide hg2
      have B7 := hide (B6.out.setCell (p := ⟨g, k, none⟩) (Nat.le_of_lt (Nat.lt_of_succ_lt hgw.out)) (.int .i64 bp))
      have R7 := hide (row_set (v := bp) R6.out (by rw [ML.out]; exact KN.out))
      have b0 := d0
      have b1 := d1
      have b2 := d2
      clear d0 d1 d2
      have f7 : (W6.setCell ⟨g, k, none⟩ (.int .i64 bp)).frozen? ⟨g, k, none⟩ = false := by rw [World.frozen?_setCell]; exact f6
      have g7 : (W6.setCell ⟨g, k, none⟩ (.int .i64 bp)).cell? ⟨g, k, none⟩ = some (.int .i64 bp) := World.cell?_setCell_same' _ _ _ (by rw [g6]; rfl)
      have s7 : Hid (g < (W6.setCell ⟨g, k, none⟩ (.int .i64 bp)).heap.size) := World.block_lt_of_cell? _ _ g7
      generalize W6.setCell ⟨g, k, none⟩ (.int .i64 bp) = W7 at B7 R7 b0 b1 b2 f7 g7 s7 ⊢
      clear R6 f6 g6 hg2 hg3 B6 hg
      refine (EQ.out W7 (marks.set k bp) (some ⟨g, 0, none⟩) cap B7.out (by rw [List.length_set]; exact ML.out) R7.out).mono ?_
      rw [E1.out]
      rintro e W8 ⟨rfl, hb8⟩
      have R8 := hide (row_below R7.out hb8)
      have f8 := frozen_in hb8 s7.out f7
      have g8 := cell_in hb8 g7 s7.out
      have s8 : Hid (g < W8.heap.size) := World.block_lt_of_cell? _ _ g8
      have B8 := hide (B7.out.trans (hb8.mono B7.out.size))
      have b0 := cell_in hb8 b0 (World.block_lt_of_cell? _ _ b0)
      have b1 := cell_in hb8 b1 (World.block_lt_of_cell? _ _ b1)
      have b2 := cell_in hb8 b2 (World.block_lt_of_cell? _ _ b2)
      clear hb8
      have cq := cell_in B8.out CQ.out (World.block_lt_of_cell? _ _ CQ.out)
      clear R7 f7 g7 s7 B7 E1
      go_wp2
      go_ret
      exact ⟨rfl, B8.out⟩
  · clear NON UP DOWN
    go_enter Tryd.func4, Tryd.ntmps4
    go_wp2_with fail
    refine (MK.out _ (below_alloc2 w _ _)).mono ?_
    rintro e W1 ⟨rfl, hb1⟩
    have B1 := hide ((below_alloc2 w (mktO p p' nb c na c' idx last) (accO id bal ap n ac)).trans (hb1.mono (by simp; omega)))
    have a2 := cell_in hb1 (cell_alloc (new_cell w _ _ 2 _ rfl) _) (by simp; omega)
    have b0 := cell_in hb1 (new_cell2 w _ _ _ 0 _ rfl) (by simp)
    have b1 := cell_in hb1 (new_cell2 w _ _ _ 1 _ rfl) (by simp)
    have b2 := cell_in hb1 (new_cell2 w _ _ _ 2 _ rfl) (by simp)
    clear hb1
    go_wp2_with fail
    refine (MA.out _ B1.out).mono ?_
    rintro e W2 ⟨rfl, hb2⟩
    have B2 := hide (B1.out.trans (hb2.mono B1.out.size))
    have b0 := cell_in hb2 b0 (World.block_lt_of_cell? _ _ b0)
    have b1 := cell_in hb2 b1 (World.block_lt_of_cell? _ _ b1)
    have b2 := cell_in hb2 b2 (World.block_lt_of_cell? _ _ b2)
    clear hb2
    go_wp2_with fail
    refine (WE.out _ B2.out).mono ?_
    rintro e W3 ⟨rfl, hb3⟩
    have B3 := hide (B2.out.trans (hb3.mono B2.out.size))
    have b0 := cell_in hb3 b0 (World.block_lt_of_cell? _ _ b0)
    have b1 := cell_in hb3 b1 (World.block_lt_of_cell? _ _ b1)
    have b2 := cell_in hb3 b2 (World.block_lt_of_cell? _ _ b2)
    clear hb3
    go_wp2_with fail
    refine (SO.out _ B3.out).mono ?_
    rintro e W4 ⟨rfl, hb4⟩
    have B4 := hide (B3.out.trans (hb4.mono B3.out.size))
    have b0 := cell_in hb4 b0 (World.block_lt_of_cell? _ _ b0)
    have b1 := cell_in hb4 b1 (World.block_lt_of_cell? _ _ b1)
    have b2 := cell_in hb4 b2 (World.block_lt_of_cell? _ _ b2)
    clear hb4
    go_wp2_with fail
    refine (BA.out _ B4.out).mono ?_
    rintro e W5 ⟨rfl, hb5⟩
    have B5 := hide (B4.out.trans (hb5.mono B4.out.size))
    have b0 := cell_in hb5 b0 (World.block_lt_of_cell? _ _ b0)
    have b1 := cell_in hb5 b1 (World.block_lt_of_cell? _ _ b1)
    have b2 := cell_in hb5 b2 (World.block_lt_of_cell? _ _ b2)
    clear hb5
    have BP := B5.out
    go_wp2_with fail
    refine (CL.out _ B5.out).mono ?_
    rintro e W6 ⟨v, rfl, own, hb6⟩
    obtain ⟨g, cap, rfl, hg, hg2⟩ := own_slice own N0.out
    have R6 := hide (own_row own)
    have f6 : W6.frozen? ⟨g, k, none⟩ = false := own.frozenAt k
    have g6 : W6.cell? ⟨g, k, none⟩ = some (.int .i64 (marks.getD k 0)) := own_cell own KN.out
    have hgw : Hid (w.heap.size + 1 < g) := Nat.lt_of_lt_of_le (World.block_lt_of_cell? _ _ b0) hg
    have B6 := hide (B5.out.trans (hb6.mono B5.out.size))
    have b0 := cell_in hb6 b0 (World.block_lt_of_cell? _ _ b0)
    have b1 := cell_in hb6 b1 (World.block_lt_of_cell? _ _ b1)
    have b2 := cell_in hb6 b2 (World.block_lt_of_cell? _ _ b2)
    clear hb6
    clear own BP
    have d0 := cell_set (k := k) (v := .int .i64 bp) b0 hgw.out
    have d1 := cell_set (k := k) (v := .int .i64 bp) b1 hgw.out
    have d2 := cell_set (k := k) (v := .int .i64 bp) b2 hgw.out
    go_wp2_with fail
    clear b0 b1 b2
    have hg3 : Hid (g < W6.heap.size) := hide hg2
    have B7 := hide (B6.out.setCell (p := ⟨g, k, none⟩) (Nat.le_of_lt (Nat.lt_of_succ_lt hgw.out)) (.int .i64 bp))
    have R7 := hide (row_set (v := bp) R6.out (by rw [ML.out]; exact KN.out))
    have b0 := d0
    have b1 := d1
    have b2 := d2
    clear d0 d1 d2
    have f7 : (W6.setCell ⟨g, k, none⟩ (.int .i64 bp)).frozen? ⟨g, k, none⟩ = false := by rw [World.frozen?_setCell]; exact f6
    have g7 : (W6.setCell ⟨g, k, none⟩ (.int .i64 bp)).cell? ⟨g, k, none⟩ = some (.int .i64 bp) := World.cell?_setCell_same' _ _ _ (by rw [g6]; rfl)
    have s7 : Hid (g < (W6.setCell ⟨g, k, none⟩ (.int .i64 bp)).heap.size) := World.block_lt_of_cell? _ _ g7
    generalize W6.setCell ⟨g, k, none⟩ (.int .i64 bp) = W7 at B7 R7 b0 b1 b2 f7 g7 s7 ⊢
    clear R6 f6 g6 hg2 hg3 B6 hg
    refine (EQ.out W7 (marks.set k bp) (some ⟨g, 0, none⟩) cap B7.out (by rw [List.length_set]; exact ML.out) R7.out).mono ?_
    rw [E1.out]
    rintro e W8 ⟨rfl, hb8⟩
    have R8 := hide (row_below R7.out hb8)
    have f8 := frozen_in hb8 s7.out f7
    have g8 := cell_in hb8 g7 s7.out
    have s8 : Hid (g < W8.heap.size) := World.block_lt_of_cell? _ _ g8
    have B8 := hide (B7.out.trans (hb8.mono B7.out.size))
    have b0 := cell_in hb8 b0 (World.block_lt_of_cell? _ _ b0)
    have b1 := cell_in hb8 b1 (World.block_lt_of_cell? _ _ b1)
    have b2 := cell_in hb8 b2 (World.block_lt_of_cell? _ _ b2)
    clear hb8
    have cq := cell_in B8.out CQ.out (World.block_lt_of_cell? _ _ CQ.out)
    clear R7 f7 g7 s7 B7 E1
    go_wp2
    go_ret
    exact ⟨rfl, B8.out⟩
end Go.Proofs.YtkdkdhpllffjnabDoor.Rm
