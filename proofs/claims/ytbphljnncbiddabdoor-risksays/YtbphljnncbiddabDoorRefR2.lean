/-
  The reference's chapter 5 by contracts: MarginsOf of any account, SoundOf, BankruptOf.
-/
import Derived.Test.YtbphljnncbiddabDoorRefR
namespace Go.Proofs.YtbphljnncbiddabDoor.Rm
open Go.RowKit Go.Proofs.YtbphljnncbiddabDoor.Num Go.Proofs.YtbphljnncbiddabDoor.Fix Go.Proofs.YtbphljnncbiddabDoor.AcP Go.Proofs.YtbphljnncbiddabDoor.RkP Go.Proofs.YtbphljnncbiddabDoor.Ac Go.Proofs.YtbphljnncbiddabDoor.Rk

set_option maxHeartbeats 2000000 in
set_option maxRecDepth 100000 in
theorem refMargins_err (id bal : Int) (p p2 : Option Addr) (n c n2 c2 : Nat) (pos : List Int) (w : World) (hl : pos.length = n) (h : Row w p pos) (he : ¬ accErr id bal pos n2 = 0) :
    Calls Tryd.prog 12 #[accV id bal p n c, .slice p2 n2 c2] w fun e w' => e = .returned (.tuple #[.int .i64 0, .int .i64 0, .int .i64 (accErr id bal pos n2)]) ∧ Below w.heap.size w w' := by
  have CK := hide (fun W hW => checkAccount_any id bal p n c pos n2 W hl (row_below h hW))
  clear h
  generalize accErr id bal pos n2 = r at he CK ⊢
  go_enter Tryd.func12, Tryd.ntmps12
  go_wp2_with fail
  refine (CK.out _ (below_alloc w _)).mono ?_
  rintro e W ⟨rfl, rfl⟩
  go_wp2
  refine bodyPost_ret (v := .tuple #[.int .i64 0, .int .i64 0, .int .i64 r]) (by simp [results, Tryd.results12, go_sem]) rfl ?_
  exact ⟨rfl, below_alloc2 _ _ _⟩

theorem refMargins_any (id bal : Int) (p p2 : Option Addr) (n c n2 c2 : Nat) (pos marks : List Int) (w : World) (hl : pos.length = n) (hl2 : marks.length = n2) (h : Row w p pos) (h' : Row w p2 marks) :
    Calls Tryd.prog 12 #[accV id bal p n c, .slice p2 n2 c2] w fun e w' => e = .returned (.tuple #[.int .i64 (marginsR id bal pos marks).1, .int .i64 (marginsR id bal pos marks).2.1, .int .i64 (marginsR id bal pos marks).2.2]) ∧ Below w.heap.size w w' := by
  unfold marginsR
  rw [hl2]
  by_cases he : accErr id bal pos n2 = 0
  · rw [if_pos he]
    obtain ⟨a1, a2, a3, a4, a5⟩ := accErr_ok he
    have hb := betw_true a2
    have : n2 = n := by omega
    subst this
    rcases h with rfl | ⟨b, off, rfl, hc⟩
    · simp at hl; omega
    rcases h' with rfl | ⟨b2, off2, rfl, hc2⟩
    · simp at hl2; omega
    exact refMargins_in id bal b off b2 off2 n2 c c2 pos marks w hl hl2 (by omega) a5 hc hc2 he
  · rw [if_neg he]
    exact refMargins_err id bal p p2 n c n2 c2 pos w hl h he

set_option maxHeartbeats 2000000 in
set_option maxRecDepth 100000 in
theorem refSound_any (id bal : Int) (p p2 : Option Addr) (n c n2 c2 : Nat) (pos marks : List Int) (w : World) (hl : pos.length = n) (hl2 : marks.length = n2) (h : Row w p pos) (h' : Row w p2 marks) :
    Calls Tryd.prog 13 #[accV id bal p n c, .slice p2 n2 c2] w fun e w' => e = .returned (.tuple #[.bool (soundR id bal pos marks).1, .bool (soundR id bal pos marks).2.1, .int .i64 (soundR id bal pos marks).2.2]) ∧ Below w.heap.size w w' := by
  have MA := hide (fun W hW => refMargins_any id bal p p2 n c n2 c2 pos marks W hl hl2 (row_below h hW) (row_below h' hW))
  have EQ := hide (fun W hW => equityOf_any id bal p p2 n c n2 c2 pos marks W hl hl2 (row_below h hW) (row_below h' hW))
  clear h h' hl hl2
  unfold soundR
  generalize marginsR id bal pos marks = M at MA ⊢
  generalize equityR id bal pos marks = E at EQ ⊢
  obtain ⟨x, y, m⟩ := M
  obtain ⟨q, r⟩ := E
  simp only [] at MA EQ ⊢
  by_cases hm : m = 0
  · subst hm
    rw [if_pos rfl]
    by_cases hr : r = 0
    · subst hr
      rw [if_pos rfl]
      go_enter Tryd.func13, Tryd.ntmps13
      go_wp2_with fail
      refine (MA.out _ (below_alloc w _)).mono ?_
      rintro e W1 ⟨rfl, hb1⟩
      have B1 := hide ((below_alloc w _).trans (hb1.mono (by simp)))
      have b0 := cell_in hb1 (new_cell w _ _ 0 _ rfl) (by simp)
      have b1 := cell_in hb1 (new_cell w _ _ 1 _ rfl) (by simp)
      have b2 := cell_in hb1 (new_cell w _ _ 2 _ rfl) (by simp)
      clear hb1
      go_wp2_with fail
      refine (EQ.out _ B1.out).mono ?_
      rintro e W2 ⟨rfl, hb2⟩
      have B2 := hide (B1.out.trans (hb2.mono B1.out.size))
      clear hb2 b0 b1 b2
      go_wp2
      refine bodyPost_ret (v := .tuple #[.bool (decide (x ≤ q)), .bool (decide (y ≤ q)), .int .i64 0]) (by simp [results, Tryd.results13, go_sem]) rfl ?_
      exact ⟨rfl, B2.out⟩
    · rw [if_neg hr]
      go_enter Tryd.func13, Tryd.ntmps13
      go_wp2_with fail
      refine (MA.out _ (below_alloc w _)).mono ?_
      rintro e W1 ⟨rfl, hb1⟩
      have B1 := hide ((below_alloc w _).trans (hb1.mono (by simp)))
      have b0 := cell_in hb1 (new_cell w _ _ 0 _ rfl) (by simp)
      have b1 := cell_in hb1 (new_cell w _ _ 1 _ rfl) (by simp)
      have b2 := cell_in hb1 (new_cell w _ _ 2 _ rfl) (by simp)
      clear hb1
      go_wp2_with fail
      refine (EQ.out _ B1.out).mono ?_
      rintro e W2 ⟨rfl, hb2⟩
      have B2 := hide (B1.out.trans (hb2.mono B1.out.size))
      clear hb2 b0 b1 b2
      go_wp2
      refine bodyPost_ret (v := .tuple #[.bool false, .bool false, .int .i64 r]) (by simp [results, Tryd.results13, go_sem]) rfl ?_
      exact ⟨rfl, B2.out⟩
  · rw [if_neg hm]
    go_enter Tryd.func13, Tryd.ntmps13
    go_wp2_with fail
    refine (MA.out _ (below_alloc w _)).mono ?_
    rintro e W1 ⟨rfl, hb1⟩
    have B1 := hide ((below_alloc w _).trans (hb1.mono (by simp)))
    clear hb1
    go_wp2
    refine bodyPost_ret (v := .tuple #[.bool false, .bool false, .int .i64 m]) (by simp [results, Tryd.results13, go_sem]) rfl ?_
    exact ⟨rfl, B1.out⟩

theorem ediv_in {m b : Int} (h : -10000000000000000 ≤ m ∧ m ≤ 10000000000000000) (hb : 1 ≤ b) : -10000000000000000 ≤ m / b ∧ m / b ≤ 10000000000000000 := by
  constructor
  · apply Int.le_ediv_of_mul_le (by omega)
    have : (10000000000000000 : Int) * 1 ≤ 10000000000000000 * b := Int.mul_le_mul_of_nonneg_left hb (by decide)
    rw [Int.neg_mul]; omega
  · by_cases p : 0 ≤ m
    · have := Int.ediv_le_self b p; omega
    · have := Int.ediv_neg_of_neg_of_pos (a := m) (b := b) (by omega) (by omega); omega
theorem clamp_up {rest q : Int} (h1 : 0 < q) (h2 : q ≤ 1000) : middleR 1 (evenR rest q) 10000 = middleR 1 (-(rest / q)) 10000 := by
  unfold evenR divUp
  rw [if_pos h1, if_pos rfl, Int.neg_neg]
  by_cases a : rest ≤ 1000000000000
  · by_cases b : -1000000000000 ≤ rest
    · rw [show middleR (-1000000000000) rest 1000000000000 = rest by unfold middleR; omega]
    · rw [show middleR (-1000000000000) rest 1000000000000 = -1000000000000 by unfold middleR; omega]
      have l := ediv_lo (n := rest) (b := q) h1
      have l' := ediv_lo (n := -1000000000000) (b := q) h1
      have c1 : rest / q < -10000 := Int.not_le.1 fun hh => by
        have := Int.mul_le_mul_of_nonneg_left hh (Int.le_of_lt h1)
        omega
      have c2 : -1000000000000 / q < -10000 := Int.not_le.1 fun hh => by
        have := Int.mul_le_mul_of_nonneg_left hh (Int.le_of_lt h1)
        omega
      unfold middleR
      omega
  · rw [show middleR (-1000000000000) rest 1000000000000 = 1000000000000 by unfold middleR; omega]
    have l := ediv_lo (n := rest) (b := q) h1
    have l' := ediv_lo (n := 1000000000000) (b := q) h1
    have c1 : 0 < rest / q := Int.not_le.1 fun hh => by
      have := Int.mul_le_mul_of_nonneg_left hh (Int.le_of_lt h1)
      omega
    have c2 : 0 < 1000000000000 / q := Int.not_le.1 fun hh => by
      have := Int.mul_le_mul_of_nonneg_left hh (Int.le_of_lt h1)
      omega
    unfold middleR
    omega
theorem clamp_down {rest q : Int} (h1 : q < 0) (h2 : -1000 ≤ q) : middleR 1 (evenR rest q) 10000 = middleR 1 (rest / -q) 10000 := by
  unfold evenR divUp
  rw [if_neg (by omega), if_neg (by decide)]
  have h1' : 0 < -q := by omega
  have h2' : -q ≤ 1000 := by omega
  generalize -q = r at h1' h2' ⊢
  by_cases a : rest ≤ 1000000000000
  · by_cases b : -1000000000000 ≤ rest
    · rw [show middleR (-1000000000000) rest 1000000000000 = rest by unfold middleR; omega]
    · rw [show middleR (-1000000000000) rest 1000000000000 = -1000000000000 by unfold middleR; omega]
      have l := ediv_lo (n := rest) (b := r) h1'
      have l' := ediv_lo (n := -1000000000000) (b := r) h1'
      have c1 : rest / r < -10000 := Int.not_le.1 fun hh => by
        have := Int.mul_le_mul_of_nonneg_left hh (Int.le_of_lt h1')
        omega
      have c2 : -1000000000000 / r < -10000 := Int.not_le.1 fun hh => by
        have := Int.mul_le_mul_of_nonneg_left hh (Int.le_of_lt h1')
        omega
      unfold middleR
      omega
  · rw [show middleR (-1000000000000) rest 1000000000000 = 1000000000000 by unfold middleR; omega]
    have l := ediv_lo (n := rest) (b := r) h1'
    have l' := ediv_lo (n := 1000000000000) (b := r) h1'
    have c1 : 10000 < rest / r := Int.not_le.1 fun hh => by
      have := Int.mul_le_mul_of_nonneg_left hh (Int.le_of_lt h1')
      omega
    have c2 : 10000 < 1000000000000 / r := Int.not_le.1 fun hh => by
      have := Int.mul_le_mul_of_nonneg_left hh (Int.le_of_lt h1')
      omega
    unfold middleR
    omega

set_option maxHeartbeats 4000000 in
set_option maxRecDepth 100000 in
theorem refBankrupt_any (id bal : Int) (p p2 : Option Addr) (n c n2 c2 : Nat) (pos marks : List Int) (mk : Int) (w : World) (hl : pos.length = n) (hl2 : marks.length = n2) (h : Row w p pos) (h' : Row w p2 marks) :
    Calls Tryd.prog 14 #[accV id bal p n c, .slice p2 n2 c2, .int .i64 mk] w fun e w' => e = .returned (.tuple #[.int .i64 (bankR id bal pos marks mk).1, .int .i64 (bankR id bal pos marks mk).2]) ∧ Below w.heap.size w w' := by
  have EQ := hide (fun W hW => equityOf_any id bal p p2 n c n2 c2 pos marks W hl hl2 (row_below h hW) (row_below h' hW))
  unfold bankR
  by_cases he : (equityR id bal pos marks).2 = 0
  · rw [if_pos he]
    obtain ⟨-, f1, f2, f3⟩ := equity_facts he
    obtain ⟨q1, q2⟩ := money_true f2
    clear f2
    generalize equityR id bal pos marks = E at he EQ q1 q2 ⊢
    obtain ⟨eq, r⟩ := E
    simp only [] at he EQ q1 q2 ⊢
    subst he
    by_cases hm : betw 0 mk (pos.length - 1) = true
    · rw [if_pos hm]
      obtain ⟨m1, m2⟩ := betw_true hm
      obtain ⟨k, rfl⟩ : ∃ k : Nat, mk = k := ⟨mk.toNat, by omega⟩
      have hk : k < pos.length := by omega
      obtain ⟨g1, g2⟩ := f3 k hk
      have e1 : ((k : Int)).toNat = k := by omega
      rw [e1]
      clear e1 f3
      rcases h with rfl | ⟨b, off, rfl, hc⟩
      · simp at hk
      rcases h' with rfl | ⟨bb, off2, rfl, hc2⟩
      · rw [f1] at hk; simp at hk
      have c0 := hide (hc k hk)
      have c1 := hide (hc2 k (by omega))
      clear hc hc2
      have hkn : (k : Int) < (n : Int) := by omega
      have hkn2 : (k : Int) < (n2 : Int) := by omega
      have hk0 : ¬ (k : Int) < 0 := by omega
      have hk1 : ¬ (n2 : Int) ≤ (k : Int) := by omega
      generalize pos.getD k 0 = q at c0 g1 ⊢
      generalize marks.getD k 0 = m at c1 g2 ⊢
      obtain ⟨g3, g4⟩ := betw_true g1
      have z3 : -10000000 ≤ q * m ∧ q * m ≤ 10000000 := by
        have := worth_bd g1 g2
        have h3 : max q (-q) * m = q * m ∨ max q (-q) * m = -(q * m) := by
          by_cases hs : 0 ≤ q
          · left; rw [show max q (-q) = q by omega]
          · right; rw [show max q (-q) = -q by omega, Int.neg_mul]
        omega
      obtain ⟨z3, z4⟩ := z3
      by_cases hq : q = 0
      · rw [if_pos hq]
        subst hq
        clear hm f1 hl hl2 m1 m2 hk g1 g2
        let p : Option Addr := some ⟨b, off, none⟩
        go_enter Tryd.func14, Tryd.ntmps14
        go_wp2_with fail
        refine (EQ.out _ (below_alloc w _)).mono ?_
        rintro e W1 ⟨rfl, hb1⟩
        have B1 := hide ((below_alloc w (accO id bal p n c)).trans (hb1.mono (by simp)))
        have b2 := cell_in hb1 (new_cell w _ _ 2 _ rfl) (by simp)
        clear hb1
        have c0' := (B1.out.cell (World.block_lt_of_cell? _ _ c0.out)).trans c0.out
        have c1' := (B1.out.cell (World.block_lt_of_cell? _ _ c1.out)).trans c1.out
        go_wp2
        go_ret2
        exact ⟨rfl, B1.out⟩
      · rw [if_neg hq]
        have hq2 : (q == 0) = false := by simp [hq]
        by_cases hs : 0 < q
        · rw [clamp_up hs g4]
          have FL := hide (fun W => RefA.floor_any (eq - q * m) q W (by omega) (by omega) (by omega))
          have fb := ediv_in (m := eq - q * m) (b := q) (by omega) (by omega)
          clear hm f1 hl hl2 m1 m2 hk g1 g2
          generalize (eq - q * m) / q = fl at FL fb ⊢
          obtain ⟨fb1, fb2⟩ := fb
          generalize hT : middleR 1 (-fl) 10000 = T
          by_cases w1 : -fl < 1
          · have TT : Hid (1 = T) := by rw [← hT]; show _ = _; unfold middleR; omega
            clear hT
            let p : Option Addr := some ⟨b, off, none⟩
            go_enter Tryd.func14, Tryd.ntmps14
            go_wp2_with fail
            refine (EQ.out _ (below_alloc w _)).mono ?_
            rintro e W1 ⟨rfl, hb1⟩
            have B1 := hide ((below_alloc w (accO id bal p n c)).trans (hb1.mono (by simp)))
            have b2 := cell_in hb1 (new_cell w _ _ 2 _ rfl) (by simp)
            clear hb1
            have c0' := (B1.out.cell (World.block_lt_of_cell? _ _ c0.out)).trans c0.out
            have c1' := (B1.out.cell (World.block_lt_of_cell? _ _ c1.out)).trans c1.out
            go_wp2_with fail
            refine (FL.out _).mono ?_
            rintro e W2 ⟨rfl, hW2⟩
            rw [hW2]
            clear hW2
            go_wp2
            go_ret2
            rw [← TT.out]
            exact ⟨rfl, B1.out⟩
          · by_cases w2 : 10000 < -fl
            · have TT : Hid (10000 = T) := by rw [← hT]; show _ = _; unfold middleR; omega
              clear hT
              let p : Option Addr := some ⟨b, off, none⟩
              go_enter Tryd.func14, Tryd.ntmps14
              go_wp2_with fail
              refine (EQ.out _ (below_alloc w _)).mono ?_
              rintro e W1 ⟨rfl, hb1⟩
              have B1 := hide ((below_alloc w (accO id bal p n c)).trans (hb1.mono (by simp)))
              have b2 := cell_in hb1 (new_cell w _ _ 2 _ rfl) (by simp)
              clear hb1
              have c0' := (B1.out.cell (World.block_lt_of_cell? _ _ c0.out)).trans c0.out
              have c1' := (B1.out.cell (World.block_lt_of_cell? _ _ c1.out)).trans c1.out
              go_wp2_with fail
              refine (FL.out _).mono ?_
              rintro e W2 ⟨rfl, hW2⟩
              rw [hW2]
              clear hW2
              go_wp2
              go_ret2
              rw [← TT.out]
              exact ⟨rfl, B1.out⟩
            · have TT : Hid (-fl = T) := by rw [← hT]; show _ = _; unfold middleR; omega
              clear hT
              let p : Option Addr := some ⟨b, off, none⟩
              go_enter Tryd.func14, Tryd.ntmps14
              go_wp2_with fail
              refine (EQ.out _ (below_alloc w _)).mono ?_
              rintro e W1 ⟨rfl, hb1⟩
              have B1 := hide ((below_alloc w (accO id bal p n c)).trans (hb1.mono (by simp)))
              have b2 := cell_in hb1 (new_cell w _ _ 2 _ rfl) (by simp)
              clear hb1
              have c0' := (B1.out.cell (World.block_lt_of_cell? _ _ c0.out)).trans c0.out
              have c1' := (B1.out.cell (World.block_lt_of_cell? _ _ c1.out)).trans c1.out
              go_wp2_with fail
              refine (FL.out _).mono ?_
              rintro e W2 ⟨rfl, hW2⟩
              rw [hW2]
              clear hW2
              go_wp2
              go_ret2
              rw [← TT.out]
              exact ⟨rfl, B1.out⟩
        · have hs2 : q < 0 := by omega
          rw [clamp_down hs2 g3]
          have FL := hide (fun W => RefA.floor_any (eq - q * m) (-q) W (by omega) (by omega) (by omega))
          have fb := ediv_in (m := eq - q * m) (b := -q) (by omega) (by omega)
          clear hm f1 hl hl2 m1 m2 hk g1 g2
          generalize (eq - q * m) / -q = fl at FL fb ⊢
          obtain ⟨fb1, fb2⟩ := fb
          generalize hT : middleR 1 fl 10000 = T
          by_cases w1 : fl < 1
          · have TT : Hid (1 = T) := by rw [← hT]; show _ = _; unfold middleR; omega
            clear hT
            let p : Option Addr := some ⟨b, off, none⟩
            go_enter Tryd.func14, Tryd.ntmps14
            go_wp2_with fail
            refine (EQ.out _ (below_alloc w _)).mono ?_
            rintro e W1 ⟨rfl, hb1⟩
            have B1 := hide ((below_alloc w (accO id bal p n c)).trans (hb1.mono (by simp)))
            have b2 := cell_in hb1 (new_cell w _ _ 2 _ rfl) (by simp)
            clear hb1
            have c0' := (B1.out.cell (World.block_lt_of_cell? _ _ c0.out)).trans c0.out
            have c1' := (B1.out.cell (World.block_lt_of_cell? _ _ c1.out)).trans c1.out
            go_wp2_with fail
            refine (FL.out _).mono ?_
            rintro e W2 ⟨rfl, hW2⟩
            rw [hW2]
            clear hW2
            go_wp2
            go_ret2
            rw [← TT.out]
            exact ⟨rfl, B1.out⟩
          · by_cases w2 : 10000 < fl
            · have TT : Hid (10000 = T) := by rw [← hT]; show _ = _; unfold middleR; omega
              clear hT
              let p : Option Addr := some ⟨b, off, none⟩
              go_enter Tryd.func14, Tryd.ntmps14
              go_wp2_with fail
              refine (EQ.out _ (below_alloc w _)).mono ?_
              rintro e W1 ⟨rfl, hb1⟩
              have B1 := hide ((below_alloc w (accO id bal p n c)).trans (hb1.mono (by simp)))
              have b2 := cell_in hb1 (new_cell w _ _ 2 _ rfl) (by simp)
              clear hb1
              have c0' := (B1.out.cell (World.block_lt_of_cell? _ _ c0.out)).trans c0.out
              have c1' := (B1.out.cell (World.block_lt_of_cell? _ _ c1.out)).trans c1.out
              go_wp2_with fail
              refine (FL.out _).mono ?_
              rintro e W2 ⟨rfl, hW2⟩
              rw [hW2]
              clear hW2
              go_wp2
              go_ret2
              rw [← TT.out]
              exact ⟨rfl, B1.out⟩
            · have TT : Hid (fl = T) := by rw [← hT]; show _ = _; unfold middleR; omega
              clear hT
              let p : Option Addr := some ⟨b, off, none⟩
              go_enter Tryd.func14, Tryd.ntmps14
              go_wp2_with fail
              refine (EQ.out _ (below_alloc w _)).mono ?_
              rintro e W1 ⟨rfl, hb1⟩
              have B1 := hide ((below_alloc w (accO id bal p n c)).trans (hb1.mono (by simp)))
              have b2 := cell_in hb1 (new_cell w _ _ 2 _ rfl) (by simp)
              clear hb1
              have c0' := (B1.out.cell (World.block_lt_of_cell? _ _ c0.out)).trans c0.out
              have c1' := (B1.out.cell (World.block_lt_of_cell? _ _ c1.out)).trans c1.out
              go_wp2_with fail
              refine (FL.out _).mono ?_
              rintro e W2 ⟨rfl, hW2⟩
              rw [hW2]
              clear hW2
              go_wp2
              go_ret2
              rw [← TT.out]
              exact ⟨rfl, B1.out⟩
    · rw [if_neg hm]
      have hm' : betw 0 mk ((pos.length : Int) - 1) = false := by
        cases e : betw 0 mk ((pos.length : Int) - 1)
        · rfl
        · exact absurd e hm
      have hm2 := betw_false hm'
      clear hm hm' h h' f3
      by_cases h0 : mk < 0
      · go_enter Tryd.func14, Tryd.ntmps14
        go_wp2_with fail
        refine (EQ.out _ (below_alloc w _)).mono ?_
        rintro e W1 ⟨rfl, hb1⟩
        have B1 := hide ((below_alloc w (accO id bal p n c)).trans (hb1.mono (by simp)))
        have b2 := cell_in hb1 (new_cell w _ _ 2 _ rfl) (by simp)
        clear hb1
        go_wp2
        go_ret2
        exact ⟨rfl, B1.out⟩
      · have h1 : (n2 : Int) ≤ mk := by omega
        go_enter Tryd.func14, Tryd.ntmps14
        go_wp2_with fail
        refine (EQ.out _ (below_alloc w _)).mono ?_
        rintro e W1 ⟨rfl, hb1⟩
        have B1 := hide ((below_alloc w (accO id bal p n c)).trans (hb1.mono (by simp)))
        have b2 := cell_in hb1 (new_cell w _ _ 2 _ rfl) (by simp)
        clear hb1
        go_wp2
        go_ret2
        exact ⟨rfl, B1.out⟩
  · rw [if_neg he]
    generalize equityR id bal pos marks = E at he EQ ⊢
    obtain ⟨eq, r⟩ := E
    simp only [] at he EQ ⊢
    clear h h'
    go_enter Tryd.func14, Tryd.ntmps14
    go_wp2_with fail
    refine (EQ.out _ (below_alloc w _)).mono ?_
    rintro e W1 ⟨rfl, hb1⟩
    have B1 := hide ((below_alloc w (accO id bal p n c)).trans (hb1.mono (by simp)))
    have b2 := cell_in hb1 (new_cell w _ _ 2 _ rfl) (by simp)
    clear hb1
    go_wp2
    go_ret2
    exact ⟨rfl, B1.out⟩
end Go.Proofs.YtbphljnncbiddabDoor.Rm
