/-
  Package match by contracts: Come, where what is left rests.
-/
import Derived.Test.YtbphljnncbiddaaMtCome2
namespace Go.Proofs.Ytbphljnncbiddaa.Bk
open Go.RowKit Go.Sort Go.Maps Go.Proofs.Ytbphljnncbiddaa.Mix

set_option maxHeartbeats 2000000 in
set_option maxRecDepth 100000 in
theorem come_E (p p' : Option Addr) (c c' nb na : Nat) (a ac sd pr q how : Int) (w : World) (B A B' A' : List Odr) (F : List Fil) (left : Int) (met : Bool) (hal : allowsE how F.length left met = 0) (hst : stays how left = false)
    (MCm : Hid (∀ X, Below w.heap.size w X → Calls Try.prog 93 #[.agg #[.slice p nb c, .slice p' na c'], .int .i64 a, .int .i64 how] X fun e w' => e = .returned (.int .i64 0) ∧ Below X.heap.size X w'))
    (TK : Hid (∀ X, Below w.heap.size w X → Calls Try.prog 49 #[.agg #[.slice p nb c, .slice p' na c'], .agg #[.int .i64 a, .int .i64 ac, .int .i64 sd, .int .i64 pr, .int .i64 q]] X (TakePost X B A F left met)))
    (RS : Hid (∀ X r1 r2 d1 d2, OV X r1 d1 B → OV X r2 d2 A → Calls Try.prog 30 #[.agg #[.slice r1 B.length d1, .slice r2 A.length d2], .agg #[.int .i64 a, .int .i64 ac, .int .i64 sd, .int .i64 pr, .int .i64 left]] X (RestPost X B' A'))) :
    Calls Try.prog 50 #[.agg #[.slice p nb c, .slice p' na c'], .agg #[.int .i64 a, .int .i64 ac, .int .i64 sd, .int .i64 pr, .int .i64 q], .int .i64 how] w (ComePost w B' A' F 0) := by
  have AL := fun W => allows_any how F.length left met W
  rw [hal] at AL
  unfold stays at hst
  simp only [Bool.or_eq_false_iff, decide_eq_false_iff_not] at hst
  have hlb : (left == 0) = false := by simp [hst.1]
  have hwb : (how == 2) = false := by simp [hst.2]
  clear hal hst
  have hb0 : ∀ o1 o2 o3, Below w.heap.size w (((w.alloc o1).alloc o2).alloc o3) := fun o1 o2 o3 => (((Below.refl _ w).alloc (Nat.le_refl _) _).alloc (by simp) _).alloc (by simp; omega) _
  have F1 := hide come1_any
  go_enter Try.func50, Try.ntmps50
  go_wp2_with fail
  refine (MCm.out _ (hb0 _ _ _)).mono ?_
  rintro e W ⟨rfl, hb⟩
  have BW := hide ((hb0 _ _ _).trans (hb.mono (by simp; omega)))
  have T := hide (two_below (two_made _ _ _ _ _) hb)
  have e0 : W.cell? ⟨w.heap.size, 0, none⟩ = some (.slice p nb c) := box3_a hb rfl
  have e1 : W.cell? ⟨w.heap.size, 1, none⟩ = some (.slice p' na c') := box3_a hb rfl
  have f0 : W.cell? ⟨w.heap.size + 1, 0, none⟩ = some (.int .i64 a) := box3_b hb rfl
  have f1 : W.cell? ⟨w.heap.size + 1, 1, none⟩ = some (.int .i64 ac) := box3_b hb rfl
  have f2 : W.cell? ⟨w.heap.size + 1, 2, none⟩ = some (.int .i64 sd) := box3_b hb rfl
  have f3 : W.cell? ⟨w.heap.size + 1, 3, none⟩ = some (.int .i64 pr) := box3_b hb rfl
  have f4 : W.cell? ⟨w.heap.size + 1, 4, none⟩ = some (.int .i64 q) := box3_b hb rfl
  have FV := hide (five_below (made3_five2 _ _ _ _ _ _ _ _) hb)
  clear hb hb0 MCm
  go_wp2_with fail
  refine (TK.out _ BW.out).mono ?_
  rintro e W2 ⟨p1, c1, p2, c2, vF, rfl, o1, o2, of, hb2, g1, g2⟩
  have TD := hide (Taked.made BW.out T.out hb2 o1 o2 of g1 g2)
  have T2 := hide (two_below T.out hb2)
  obtain ⟨u0, u1, t0, t1, t2, t3⟩ := two_facts T2.out
  obtain ⟨pF, cF, rfl⟩ := ownF_form of
  have n6 : (⟨w.heap.size + 1, 0, none⟩ : Addr).block ≠ w.heap.size + 1 + 1 := by simp
  have i0 := (hb2.cell (World.block_lt_of_cell? _ _ f0)).trans f0
  have i1 := (hb2.cell (World.block_lt_of_cell? _ _ f1)).trans f1
  have i2 := (hb2.cell (World.block_lt_of_cell? _ _ f2)).trans f2
  have i3 := (hb2.cell (World.block_lt_of_cell? _ _ f3)).trans f3
  have FV2 := hide (five_below FV.out hb2)
  obtain ⟨X3, hX3⟩ : ∃ X3, X3 = (W2.setCell ⟨w.heap.size + 1 + 1, 0, none⟩ (.slice p1 B.length c1)).setCell ⟨w.heap.size + 1 + 1, 1, none⟩ (.slice p2 A.length c2) := ⟨_, rfl⟩
  have j0 : Hid (X3.cell? ⟨w.heap.size + 1, 0, none⟩ = some (.int .i64 a)) := by rw [hX3]; exact (set_other _ (by simp) _ _).trans ((set_other _ (by simp) _ _).trans i0)
  have j1 : Hid (X3.cell? ⟨w.heap.size + 1, 1, none⟩ = some (.int .i64 ac)) := by rw [hX3]; exact (set_other _ (by simp) _ _).trans ((set_other _ (by simp) _ _).trans i1)
  have j2 : Hid (X3.cell? ⟨w.heap.size + 1, 2, none⟩ = some (.int .i64 sd)) := by rw [hX3]; exact (set_other _ (by simp) _ _).trans ((set_other _ (by simp) _ _).trans i2)
  have j3 : Hid (X3.cell? ⟨w.heap.size + 1, 3, none⟩ = some (.int .i64 pr)) := by rw [hX3]; exact (set_other _ (by simp) _ _).trans ((set_other _ (by simp) _ _).trans i3)
  have FV3 : Hid (Five X3 (w.heap.size + 1)) := by rw [hX3]; exact five_two FV2.out (by omega) _ _
  rw [← hX3] at TD
  have EX := hide hX3
  clear hb2 o1 o2 of g1 g2 e0 e1 f0 f1 f2 f3 f4 i0 i1 i2 i3 hX3 n6 FV FV2 TK
  go_wp2_with fail
  rw [← EX.out]
  clear EX t0 t1 t2 t3 T2
  refine (AL _).mono ?_
  rintro e WA ⟨rfl, hWA⟩
  rw [hWA]
  clear hWA WA
  obtain ⟨d0, d1⟩ : X3.cell? ⟨w.heap.size + 1 + 1, 0, none⟩ = some (.slice p1 B.length c1) ∧ X3.cell? ⟨w.heap.size + 1 + 1, 1, none⟩ = some (.slice p2 A.length c2) := ⟨TD.out.c0, TD.out.c1⟩
  obtain ⟨⟨v0, v1, v2, v3, v4, w0', w1', w2', w3', w4'⟩, g0', g1', g2', g3', g4'⟩ := five_facts FV3.out
  have LS := five_last FV3.out j0.out j1.out j2.out j3.out (.int .i64 left)
  have n6 : ∀ k v, (X3.setCell ⟨w.heap.size + 1, 4, none⟩ (.int .i64 left)).cell? ⟨w.heap.size + 1 + 1, k, none⟩ = v ↔ X3.cell? ⟨w.heap.size + 1 + 1, k, none⟩ = v := fun k v => by rw [set_other (a := ⟨w.heap.size + 1 + 1, k, none⟩) X3 (t := w.heap.size + 1) (by simp)]
  have D0 := (n6 0 _).2 d0
  have D1 := (n6 1 _).2 d1
  have T4 : Hid (Two (X3.setCell ⟨w.heap.size + 1, 4, none⟩ (.int .i64 left)) (w.heap.size + 1 + 1)) := by
    obtain ⟨u0, u1, h⟩ := TD.out.two
    exact ⟨u0, u1, (Below.heap_setCell X3 ⟨w.heap.size + 1, 4, none⟩ _ _ (by simp)).trans h⟩
  have B4 : Hid (Below w.heap.size w (X3.setCell ⟨w.heap.size + 1, 4, none⟩ (.int .i64 left))) := TD.out.bel.setCell (by show w.heap.size ≤ w.heap.size + 1; omega) _
  have V1 := hide (ov_set (k := 4) (t := w.heap.size + 1) TD.out.b (fun ad ha => by have := TD.out.g1 ad ha; omega) (.int .i64 left))
  have V2 := hide (ov_set (k := 4) (t := w.heap.size + 1) TD.out.a (fun ad ha => by have := TD.out.g2 ad ha; omega) (.int .i64 left))
  have OF4 := hide (ownsRow_setCell_below (a := ⟨w.heap.size + 1, 4, none⟩) TD.out.f (show w.heap.size + 1 < w.heap.size + 1 + 1 + 1 by omega) (.int .i64 left))
  obtain ⟨l0, l1, l2, l3, l4⟩ := LS
  obtain ⟨X4, hX4⟩ : ∃ X4, X4 = X3.setCell ⟨w.heap.size + 1, 4, none⟩ (.int .i64 left) := ⟨_, rfl⟩
  rw [← hX4] at D0 D1 T4 B4 V1 V2 OF4
  have EX := hide hX4
  have RC := RS.out X4 p1 p2 c1 c2 V1.out V2.out
  have hlz := hlb
  clear n6
  go_wp2_with fail
  rw [← EX.out]
  clear hX4 EX d0 d1 w0' w1' w2' w3' w4' g0' g1' g2' g3' g4' l0 l1 l2 l3 l4 hlz D0 D1 j0 j1 j2 j3 FV3
  refine RC.mono ?_
  rintro e W5 ⟨r1, d1, r2, d2, rfl, q1, q2, hb5, h1, h2⟩
  have T5 := hide (two_below T4.out hb5)
  have B5 := hide (B4.out.trans (hb5.mono B4.out.size))
  have O5 := hide (own_below OF4.out hb5)
  have X4L := hide (two_lt T4.out)
  have Q1 := hide q1
  have Q2 := hide q2
  have G1 : Hid (∀ ad, r1 = some ad → w.heap.size + 1 + 1 + 1 ≤ ad.block) := fun ad ha => by have := h1 ad ha; have := X4L.out; omega
  have G2 : Hid (∀ ad, r2 = some ad → w.heap.size + 1 + 1 + 1 ≤ ad.block) := fun ad ha => by have := h2 ad ha; have := X4L.out; omega
  obtain ⟨x0, x1, z0, z1, z2, z3⟩ := two_facts T5.out
  obtain ⟨s0, s1⟩ := two_set T5.out (.slice r1 B'.length d1) (.slice r2 A'.length d2)
  have T6 := hide (two_again T5.out (.slice r1 B'.length d1) (.slice r2 A'.length d2))
  obtain ⟨-, -, -, -, y2, y3⟩ := two_facts T6.out
  have SS := hide (two_set T6.out (.slice r1 B'.length d1) (.slice r2 A'.length d2))
  clear RC hb5 h1 h2 q1 q2 T4 B4 OF4 V1 V2 X4L TD
  go_wp2
  obtain ⟨k0, k1⟩ := SS.out
  refine bodyPost_ret (v := .tuple #[.agg #[.slice r1 B'.length d1, .slice r2 A'.length d2], .slice pF F.length cF, .int .i64 0, .int .i64 0]) (by simp [results, Try.results50, go_sem, k0, k1]) rfl ⟨r1, d1, r2, d2, _, rfl, ?_, ?_, ?_, ?_, fun ad ha => by have := G1.out ad ha; omega, fun ad ha => by have := G2.out ad ha; omega⟩
  · exact ov_two (ov_two Q1.out (fun ad ha => by have := G1.out ad ha; omega) _ _) (fun ad ha => by have := G1.out ad ha; omega) _ _
  · exact ov_two (ov_two Q2.out (fun ad ha => by have := G2.out ad ha; omega) _ _) (fun ad ha => by have := G2.out ad ha; omega) _ _
  · have lt := Nat.lt_succ_self (w.heap.size + 1 + 1)
    exact own_base (ownsRow_setCell_below (ownsRow_setCell_below (ownsRow_setCell_below (ownsRow_setCell_below O5.out lt _) lt _) lt _) lt _) (by omega)
  · exact two_below_set (two_below_set B5.out (by omega) _ _) (by omega) _ _

set_option maxHeartbeats 2000000 in
set_option maxRecDepth 100000 in
theorem come_F (p p' : Option Addr) (c c' nb na : Nat) (a ac sd pr q how r : Int) (w : World) (B A : List Odr) (F : List Fil) (left : Int) (met : Bool) (hr : ¬ r = 0) (hal : allowsE how F.length left met = 0) (hst : stays how left = false)
    (MCm : Hid (∀ X, Below w.heap.size w X → Calls Try.prog 93 #[.agg #[.slice p nb c, .slice p' na c'], .int .i64 a, .int .i64 how] X fun e w' => e = .returned (.int .i64 0) ∧ Below X.heap.size X w'))
    (TK : Hid (∀ X, Below w.heap.size w X → Calls Try.prog 49 #[.agg #[.slice p nb c, .slice p' na c'], .agg #[.int .i64 a, .int .i64 ac, .int .i64 sd, .int .i64 pr, .int .i64 q]] X (TakePost X B A F left met)))
    (RS : Hid (∀ X r1 r2 d1 d2, OV X r1 d1 B → OV X r2 d2 A → Calls Try.prog 30 #[.agg #[.slice r1 B.length d1, .slice r2 A.length d2], .agg #[.int .i64 a, .int .i64 ac, .int .i64 sd, .int .i64 pr, .int .i64 left]] X fun e w' => e = .returned (.tuple #[.agg #[.slice none 0 0, .slice none 0 0], .int .i64 r]) ∧ Below X.heap.size X w')) :
    Calls Try.prog 50 #[.agg #[.slice p nb c, .slice p' na c'], .agg #[.int .i64 a, .int .i64 ac, .int .i64 sd, .int .i64 pr, .int .i64 q], .int .i64 how] w (ComeFail w r) := by
  have AL := fun W => allows_any how F.length left met W
  rw [hal] at AL
  unfold stays at hst
  simp only [Bool.or_eq_false_iff, decide_eq_false_iff_not] at hst
  have hlb : (left == 0) = false := by simp [hst.1]
  have hwb : (how == 2) = false := by simp [hst.2]
  have er : (r == 0) = false := by simp [hr]
  clear hal hst
  have hb0 : ∀ o1 o2 o3, Below w.heap.size w (((w.alloc o1).alloc o2).alloc o3) := fun o1 o2 o3 => (((Below.refl _ w).alloc (Nat.le_refl _) _).alloc (by simp) _).alloc (by simp; omega) _
  have F1 := hide come1_any
  go_enter Try.func50, Try.ntmps50
  go_wp2_with fail
  refine (MCm.out _ (hb0 _ _ _)).mono ?_
  rintro e W ⟨rfl, hb⟩
  have BW := hide ((hb0 _ _ _).trans (hb.mono (by simp; omega)))
  have T := hide (two_below (two_made _ _ _ _ _) hb)
  have e0 : W.cell? ⟨w.heap.size, 0, none⟩ = some (.slice p nb c) := box3_a hb rfl
  have e1 : W.cell? ⟨w.heap.size, 1, none⟩ = some (.slice p' na c') := box3_a hb rfl
  have f0 : W.cell? ⟨w.heap.size + 1, 0, none⟩ = some (.int .i64 a) := box3_b hb rfl
  have f1 : W.cell? ⟨w.heap.size + 1, 1, none⟩ = some (.int .i64 ac) := box3_b hb rfl
  have f2 : W.cell? ⟨w.heap.size + 1, 2, none⟩ = some (.int .i64 sd) := box3_b hb rfl
  have f3 : W.cell? ⟨w.heap.size + 1, 3, none⟩ = some (.int .i64 pr) := box3_b hb rfl
  have f4 : W.cell? ⟨w.heap.size + 1, 4, none⟩ = some (.int .i64 q) := box3_b hb rfl
  have FV := hide (five_below (made3_five2 _ _ _ _ _ _ _ _) hb)
  clear hb hb0 MCm
  go_wp2_with fail
  refine (TK.out _ BW.out).mono ?_
  rintro e W2 ⟨p1, c1, p2, c2, vF, rfl, o1, o2, of, hb2, g1, g2⟩
  have TD := hide (Taked.made BW.out T.out hb2 o1 o2 of g1 g2)
  have T2 := hide (two_below T.out hb2)
  obtain ⟨u0, u1, t0, t1, t2, t3⟩ := two_facts T2.out
  obtain ⟨pF, cF, rfl⟩ := ownF_form of
  have n6 : (⟨w.heap.size + 1, 0, none⟩ : Addr).block ≠ w.heap.size + 1 + 1 := by simp
  have i0 := (hb2.cell (World.block_lt_of_cell? _ _ f0)).trans f0
  have i1 := (hb2.cell (World.block_lt_of_cell? _ _ f1)).trans f1
  have i2 := (hb2.cell (World.block_lt_of_cell? _ _ f2)).trans f2
  have i3 := (hb2.cell (World.block_lt_of_cell? _ _ f3)).trans f3
  have FV2 := hide (five_below FV.out hb2)
  obtain ⟨X3, hX3⟩ : ∃ X3, X3 = (W2.setCell ⟨w.heap.size + 1 + 1, 0, none⟩ (.slice p1 B.length c1)).setCell ⟨w.heap.size + 1 + 1, 1, none⟩ (.slice p2 A.length c2) := ⟨_, rfl⟩
  have j0 : Hid (X3.cell? ⟨w.heap.size + 1, 0, none⟩ = some (.int .i64 a)) := by rw [hX3]; exact (set_other _ (by simp) _ _).trans ((set_other _ (by simp) _ _).trans i0)
  have j1 : Hid (X3.cell? ⟨w.heap.size + 1, 1, none⟩ = some (.int .i64 ac)) := by rw [hX3]; exact (set_other _ (by simp) _ _).trans ((set_other _ (by simp) _ _).trans i1)
  have j2 : Hid (X3.cell? ⟨w.heap.size + 1, 2, none⟩ = some (.int .i64 sd)) := by rw [hX3]; exact (set_other _ (by simp) _ _).trans ((set_other _ (by simp) _ _).trans i2)
  have j3 : Hid (X3.cell? ⟨w.heap.size + 1, 3, none⟩ = some (.int .i64 pr)) := by rw [hX3]; exact (set_other _ (by simp) _ _).trans ((set_other _ (by simp) _ _).trans i3)
  have FV3 : Hid (Five X3 (w.heap.size + 1)) := by rw [hX3]; exact five_two FV2.out (by omega) _ _
  rw [← hX3] at TD
  have EX := hide hX3
  clear hb2 o1 o2 of g1 g2 e0 e1 f0 f1 f2 f3 f4 i0 i1 i2 i3 hX3 n6 FV FV2 TK
  go_wp2_with fail
  rw [← EX.out]
  clear EX t0 t1 t2 t3 T2
  refine (AL _).mono ?_
  rintro e WA ⟨rfl, hWA⟩
  rw [hWA]
  clear hWA WA
  obtain ⟨d0, d1⟩ : X3.cell? ⟨w.heap.size + 1 + 1, 0, none⟩ = some (.slice p1 B.length c1) ∧ X3.cell? ⟨w.heap.size + 1 + 1, 1, none⟩ = some (.slice p2 A.length c2) := ⟨TD.out.c0, TD.out.c1⟩
  obtain ⟨⟨v0, v1, v2, v3, v4, w0', w1', w2', w3', w4'⟩, g0', g1', g2', g3', g4'⟩ := five_facts FV3.out
  have LS := five_last FV3.out j0.out j1.out j2.out j3.out (.int .i64 left)
  have n6 : ∀ k v, (X3.setCell ⟨w.heap.size + 1, 4, none⟩ (.int .i64 left)).cell? ⟨w.heap.size + 1 + 1, k, none⟩ = v ↔ X3.cell? ⟨w.heap.size + 1 + 1, k, none⟩ = v := fun k v => by rw [set_other (a := ⟨w.heap.size + 1 + 1, k, none⟩) X3 (t := w.heap.size + 1) (by simp)]
  have D0 := (n6 0 _).2 d0
  have D1 := (n6 1 _).2 d1
  have T4 : Hid (Two (X3.setCell ⟨w.heap.size + 1, 4, none⟩ (.int .i64 left)) (w.heap.size + 1 + 1)) := by
    obtain ⟨u0, u1, h⟩ := TD.out.two
    exact ⟨u0, u1, (Below.heap_setCell X3 ⟨w.heap.size + 1, 4, none⟩ _ _ (by simp)).trans h⟩
  have B4 : Hid (Below w.heap.size w (X3.setCell ⟨w.heap.size + 1, 4, none⟩ (.int .i64 left))) := TD.out.bel.setCell (by show w.heap.size ≤ w.heap.size + 1; omega) _
  have V1 := hide (ov_set (k := 4) (t := w.heap.size + 1) TD.out.b (fun ad ha => by have := TD.out.g1 ad ha; omega) (.int .i64 left))
  have V2 := hide (ov_set (k := 4) (t := w.heap.size + 1) TD.out.a (fun ad ha => by have := TD.out.g2 ad ha; omega) (.int .i64 left))
  have OF4 := hide (ownsRow_setCell_below (a := ⟨w.heap.size + 1, 4, none⟩) TD.out.f (show w.heap.size + 1 < w.heap.size + 1 + 1 + 1 by omega) (.int .i64 left))
  obtain ⟨l0, l1, l2, l3, l4⟩ := LS
  obtain ⟨X4, hX4⟩ : ∃ X4, X4 = X3.setCell ⟨w.heap.size + 1, 4, none⟩ (.int .i64 left) := ⟨_, rfl⟩
  rw [← hX4] at D0 D1 T4 B4 V1 V2 OF4
  have EX := hide hX4
  have RC := RS.out X4 p1 p2 c1 c2 V1.out V2.out
  have hlz := hlb
  clear n6
  go_wp2_with fail
  rw [← EX.out]
  clear hX4 EX d0 d1 w0' w1' w2' w3' w4' g0' g1' g2' g3' g4' l0 l1 l2 l3 l4 hlz D0 D1 j0 j1 j2 j3 FV3
  refine RC.mono ?_
  rintro e W5 ⟨rfl, hb5⟩
  have T5 := hide (two_below T4.out hb5)
  have B5 := hide (B4.out.trans (hb5.mono B4.out.size))
  obtain ⟨x0, x1, z0, z1, z2, z3⟩ := two_facts T5.out
  have T6 := hide (two_again T5.out (.slice none 0 0) (.slice none 0 0))
  have B6 := hide (two_below_set B5.out (show w.heap.size ≤ w.heap.size + 1 + 1 by omega) (.slice none 0 0) (.slice none 0 0))
  clear RC hb5 T4 B4 OF4 V1 V2 TD
  go_wp2_with fail
  refine (F1.out _ _).mono ?_
  rintro e WF ⟨rfl, hbF⟩
  have TF := hide (two_below T6.out hbF)
  have BF := hide (B6.out.trans (hbF.mono B6.out.size))
  obtain ⟨uf0, uf1, tf0, tf1, tf2, tf3⟩ := two_facts TF.out
  clear hbF
  go_wp2
  obtain ⟨sf0, sf1⟩ := two_set TF.out (.slice none 0 0) (.slice none 0 0)
  refine bodyPost_ret (v := .tuple #[.agg #[.slice none 0 0, .slice none 0 0], .slice none 0 0, .int .i64 0, .int .i64 r]) (by simp [results, Try.results50, go_sem, sf0, sf1]) rfl ⟨rfl, two_below_set BF.out (by omega) _ _⟩

/-- what Come answers, where it is no error. -/
def comeL (how left : Int) : Int := if stays how left = true then left else 0
def comeB (bids asks : List Odr) (o : Odr) (how : Int) : List Odr := if stays how (takeT bids asks o).2.2.1 = true then takeB bids asks o else restB (takeB bids asks o) (restO o (takeT bids asks o).2.2.1)
def comeA (bids asks : List Odr) (o : Odr) (how : Int) : List Odr := if stays how (takeT bids asks o).2.2.1 = true then takeA bids asks o else restA (takeA bids asks o) (restO o (takeT bids asks o).2.2.1)

theorem take_len (bids asks : List Odr) (o : Odr) : (takeB bids asks o).length ≤ bids.length ∧ (takeA bids asks o).length ≤ asks.length := by
  have tl : ∀ (l : List Odr) (left : Int), (takes o left l).1.length ≤ l.length := by
    intro l
    induction l with
    | nil => intro left; simp [takes]
    | cons x l ih =>
      intro left
      unfold takes
      split
      · split
        · simp
        · split
          · have := ih (left - oqt x); simp; omega
          · simp
      · simp
  unfold takeB takeA takeT
  by_cases h : osd o = 1
  · simp only [if_pos h]; exact ⟨Nat.le_refl _, tl _ _⟩
  · simp only [if_neg h]; exact ⟨tl _ _, Nat.le_refl _⟩

theorem come_bad (p p' : Option Addr) (c c' : Nat) (bids asks : List Odr) (o : Odr) (how : Int) (w : World) (h : OV w p c bids) (h' : OV w p' c' asks) (hn : bids.length ≤ 140737488351232) (hn' : asks.length ≤ 140737488351232) (he : ¬ comeE bids asks o how = 0) :
    Calls Try.prog 50 #[.agg #[.slice p bids.length c, .slice p' asks.length c'], odrV o, .int .i64 how] w (ComeFail w (comeE bids asks o how)) := by
  obtain ⟨a, ac, sd, pr, q⟩ := o
  have MC := fun X (hX : Below w.heap.size w X) => mayCome_any p p' c c' bids asks a how X (orow_below h.row hX) (orow_below h'.row hX) hn hn'
  unfold comeE at he ⊢
  by_cases h1 : mayComeE bids asks a how = 0
  · rw [if_neg (by simpa using h1)] at he ⊢
    rw [h1] at MC
    by_cases h2 : takeErr bids asks (a, ac, sd, pr, q) = 0
    · rw [if_neg (by simpa using h2)] at he ⊢
      obtain ⟨hR, hok⟩ := takeErr_zero.1 h2
      have TA := fun X (hX : Below w.heap.size w X) => take_any p p' c c' bids asks (a, ac, sd, pr, q) X (h.below hX) (h'.below hX) hR hok
      have tl := take_len bids asks (a, ac, sd, pr, q)
      have hl := hR.few
      generalize takeT bids asks (a, ac, sd, pr, q) = T at TA he ⊢
      obtain ⟨R, F, left, met⟩ := T
      dsimp only at TA he ⊢
      by_cases h3 : allowsE how F.length left met = 0
      · rw [if_neg (by simpa using h3)] at he ⊢
        cases h4 : stays how left
        · rw [h4, if_neg (by simp)] at he
          rw [if_neg (by simp)]
          refine come_F p p' c c' _ _ a ac sd pr q how _ w (takeB bids asks (a, ac, sd, pr, q)) (takeA bids asks (a, ac, sd, pr, q)) F left met he h3 h4 (hide MC) (hide TA) (hide fun X r1 r2 d1 d2 k1 k2 => ?_)
          exact rest_bad r1 r2 d1 d2 _ _ a ac sd pr left X k1.row k2.row (by omega) (by omega) he
        · rw [h4, if_pos rfl] at he
          exact absurd rfl he
      · rw [if_pos (by simpa using h3)] at he ⊢
        exact come_C p p' c c' _ _ a ac sd pr q how _ w _ _ F left met he rfl (hide MC) (hide TA)
    · rw [if_pos (by simpa using h2)] at he ⊢
      exact come_B p p' c c' _ _ a ac sd pr q how _ w he (hide MC) (hide fun X hX => take_bad p p' c c' bids asks a ac sd pr q X (orow_below h.row hX) (orow_below h'.row hX) hn hn' h2)
  · rw [if_pos (by simpa using h1)] at he ⊢
    exact come_A p p' c c' _ _ a ac sd pr q how _ w he (hide MC)

theorem come_ok (p p' : Option Addr) (c c' : Nat) (bids asks : List Odr) (o : Odr) (how : Int) (w : World) (h : OV w p c bids) (h' : OV w p' c' asks) (he : comeE bids asks o how = 0) :
    Calls Try.prog 50 #[.agg #[.slice p bids.length c, .slice p' asks.length c'], odrV o, .int .i64 how] w (ComePost w (comeB bids asks o how) (comeA bids asks o how) (takeT bids asks o).2.1 (comeL how (takeT bids asks o).2.2.1)) := by
  obtain ⟨a, ac, sd, pr, q⟩ := o
  unfold comeE at he
  unfold comeB comeA comeL
  by_cases h1 : mayComeE bids asks a how = 0
  · rw [if_neg (by simpa using h1)] at he
    by_cases h2 : takeErr bids asks (a, ac, sd, pr, q) = 0
    · rw [if_neg (by simpa using h2)] at he
      obtain ⟨hR, hok⟩ := takeErr_zero.1 h2
      have hl := hR.few
      have MC := fun X (hX : Below w.heap.size w X) => mayCome_any p p' c c' bids asks a how X (orow_below h.row hX) (orow_below h'.row hX) (by omega) (by omega)
      rw [h1] at MC
      have TA := fun X (hX : Below w.heap.size w X) => take_any p p' c c' bids asks (a, ac, sd, pr, q) X (h.below hX) (h'.below hX) hR hok
      generalize takeT bids asks (a, ac, sd, pr, q) = T at TA he ⊢
      obtain ⟨R, F, left, met⟩ := T
      dsimp only at TA he ⊢
      by_cases h3 : allowsE how F.length left met = 0
      · rw [if_neg (by simpa using h3)] at he
        cases h4 : stays how left
        · rw [h4, if_neg (by simp)] at he
          simp only [Bool.false_eq_true, if_false]
          refine come_E p p' c c' _ _ a ac sd pr q how w (takeB bids asks (a, ac, sd, pr, q)) (takeA bids asks (a, ac, sd, pr, q)) _ _ F left met h3 h4 (hide MC) (hide TA) (hide fun X r1 r2 d1 d2 k1 k2 => ?_)
          exact rest_any r1 r2 d1 d2 _ _ (a, ac, sd, pr, left) X k1 k2 he
        · simp only [if_true]
          exact come_D p p' c c' _ _ a ac sd pr q how w _ _ F left met h3 h4 (hide MC) (hide TA)
      · rw [if_pos (by simpa using h3)] at he
        exact absurd he h3
    · rw [if_pos (by simpa using h2)] at he
      exact absurd he h2
  · rw [if_pos (by simpa using h1)] at he
    exact absurd he h1
end Go.Proofs.Ytbphljnncbiddaa.Bk
