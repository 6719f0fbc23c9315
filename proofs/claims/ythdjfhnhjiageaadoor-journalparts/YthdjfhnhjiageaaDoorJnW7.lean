/-
  Package journal by contracts: Put.
-/
import Derived.Test.YthdjfhnhjiageaaDoorJnW6
namespace Go.Proofs.YthdjfhnhjiageaaDoor.Tx
open Go.RowKit Go.Lib Go.Sort Go.Proofs.YthdjfhnhjiageaaDoor.Mix
set_option maxHeartbeats 4000000 in
set_option maxRecDepth 100000 in
theorem put_any (p : Option Addr) (n c : Nat) (p' : Option Addr) (n' c' : Nat) (d : Dk) (cm : Cd) (w : World) (h : Bt w p n c d.safe) (h' : Bt w p' n' c' d.wait) (hn : n ≤ 140737488351232) (hn' : n' ≤ 140737488351232) (hf : cm.fits) (E : Env w) :
    Calls Tryd.prog 12 #[dkV p n c p' n' c', cdV cm] w (DPost (putD d cm).1 (putD d cm).2 w) := by
  have mixed : Tryd.prog.follows .mixedOrders = true := by kernel_rfl
  have hl := h.len
  have hl' := h'.len
  obtain ⟨W, hW⟩ : ∃ W, W = ((w.alloc (dkO (.slice p n c) (.slice p' n' c'))).alloc (cdO cm)).alloc (dkO (.slice none 0 0) (.slice none 0 0)) := ⟨_, rfl⟩
  have bW : Below w.heap.size w W := by rw [hW]; exact below3 w _ _ _
  have gW : W.heap[w.heap.size]? = some (dkO (.slice p n c) (.slice p' n' c')) := by
    rw [hW]
    exact dk_below (dk_below (heap_alloc_new w _) (below_alloc _ _)) (below_alloc _ _)
  have rW : W.heap[w.heap.size + 1 + 1]? = some (dkO (.slice none 0 0) (.slice none 0 0)) := by
    rw [hW]
    have := heap_alloc_new ((w.alloc (dkO (.slice p n c) (.slice p' n' c'))).alloc (cdO cm)) (dkO (.slice none 0 0) (.slice none 0 0))
    simp only [World.size_alloc] at this
    exact this
  have tW : CdAt W (w.heap.size + 1) cm := by
    rw [hW]
    have := heap_alloc_new (w.alloc (dkO (.slice p n c) (.slice p' n' c'))) (cdO cm)
    simp only [World.size_alloc] at this
    exact cdAt_below this (below_alloc _ _)
  obtain ⟨c0, c1, -, -⟩ := dk_cell gW
  have HW := hide hW
  have BW := hide bW
  have GW := hide gW
  have RW := hide rW
  have TW := hide tW
  have CH := hide (checkD_any p n c p' n' c' d W (h.below bW) (h'.below bW) hn hn' (E.below bW))
  clear hW bW gW rW tW
  unfold putD
  by_cases he : checkD d = 0
  · rw [if_neg (fun x => x he)]
    have hs := (check_zero he).1
    rw [he] at CH
    have PR0 := fun X (bX : Below w.heap.size w X) => print_any cm X hf (E.below bX)
    unfold printS at PR0
    by_cases hc : checkC cm = 0
    · rw [if_neg (fun x => x hc)]
      rw [if_pos hc, hc] at PR0
      have PR := hide PR0
      have pl := print_len hf
      have hlen : (lineC cm).length = (printC cm).length + 1 := by simp
      rw [hlen, hl, hl']
      unfold lineC
      generalize printC cm = s at *
      have UD : Hid (∀ V, _) := fun V => usedD_any p n c p' n' c' (by omega) (by omega) V
      have JO0 := fun X lb lc (bX : Below w.heap.size w X) (hb : Bt X (some ⟨lb, 0, none⟩) (s.length + 1) lc (s ++ [10])) => fun hz => joined_any p' n' c' (some ⟨lb, 0, none⟩) (s.length + 1) lc d.wait (s ++ [10]) X (h'.below bX) hb hz
      have mz : n + n' ≤ 20000 := by omega
      have mn : n ≤ n + n' ∧ n' ≤ n + n' := ⟨by omega, by omega⟩
      have CL0 : Hid (∀ y, Below w.heap.size w y → _) := fun y hy => cloneB_any p n c d.safe y (h.below hy) (by omega)
      obtain ⟨ll, HL⟩ : ∃ ll, s.length + 1 = ll := ⟨_, rfl⟩
      have lz : ll ≤ 201 := by omega
      have HLL := hide HL
      rw [HL] at JO0 ⊢
      have JOH := hide JO0
      generalize n + n' = mm at *
      by_cases hz : 20000 < mm + ll
      · rw [if_pos hz]
        have hzz : (20000 : Int) < (mm : Int) + (ll : Int) := by omega
        clear h h' hl hl' hn hn' E he hs PR0 hf hc hlen HL JO0 JOH CL0 mn
        obtain ⟨kind, ac, mkt, nn, oi, oa, sd, pr, qt, how, red⟩ := cm
        go_enter Tryd.func12, Tryd.ntmps12
        go_wp2_with (rw [← HW.out])
        refine CH.out.mono ?_
        rintro e X ⟨rfl, bX⟩
        have BX := hide (onward BW.out bX)
        have GX := hide (dk_below GW.out bX)
        have RX := hide (dk_below RW.out bX)
        have TX := hide (cdAt_below TW.out bX)
        clear CH bX c0 c1 HW BW GW RW TW
        clear W
        have PX := hide (PR.out X BX.out)
        have at1 := TX.out
        have c0 := cd_cells at1 (Below.refl _ X) 0 rfl
        have c1 := cd_cells at1 (Below.refl _ X) 1 rfl
        have c2 := cd_cells at1 (Below.refl _ X) 2 rfl
        have c3 := cd_cells at1 (Below.refl _ X) 3 rfl
        have c4 := cd_cells at1 (Below.refl _ X) 4 rfl
        have c5 := cd_cells at1 (Below.refl _ X) 5 rfl
        have c6 := cd_cells at1 (Below.refl _ X) 6 rfl
        have c7 := cd_cells at1 (Below.refl _ X) 7 rfl
        have c8 := cd_cells at1 (Below.refl _ X) 8 rfl
        have c9 := cd_cells at1 (Below.refl _ X) 9 rfl
        have c10 := cd_cells at1 (Below.refl _ X) 10 rfl
        simp only [List.getElem_toArray, List.getElem_cons_zero, List.getElem_cons_succ] at c0 c1 c2 c3 c4 c5 c6 c7 c8 c9 c10
        clear at1 PR
        go_wp2_with fail
        refine PX.out.mono ?_
        rintro e Y ⟨rfl, bY⟩
        have BY := hide (onward BX.out bY)
        have GY := hide (dk_below GX.out bY)
        have RY := hide (dk_below RX.out bY)
        clear PX bY BX GX RX TX c0 c1 c2 c3 c4 c5 c6 c7 c8 c9 c10
        clear X
        obtain ⟨lc, V, cv, lb, bV, sV⟩ := conv_bt (s ++ [10]) Y
        rw [List.length_append, List.length_singleton, HLL.out] at cv lb
        rw [← sB_cat] at cv
        have BV := hide (onward BY.out bV)
        have GV := hide (dk_below GY.out bV)
        have RV := hide (dk_below RY.out bV)
        have LB := hide lb
        have US := hide (UD.out V)
        obtain ⟨v0, v1, -, -⟩ := dk_cell GV.out
        clear bV sV lb BY GY UD
        have YB : Hid (w.heap.size + 1 + 1 < Y.heap.size) := (Array.getElem?_eq_some_iff.1 RY.out).1
        clear RY
        generalize Y.heap.size = yb at *
        go_wp2_with fail
        refine US.out.mono ?_
        rintro e X ⟨rfl, bX⟩
        have BX := hide (onward BV.out bX)
        have GX := hide (dk_below GV.out bX)
        have RX := hide (dk_below RV.out bX)
        have LX := hide (LB.out.below bX)
        clear US bX BV GV RV LB cv v0 v1
        clear V Y
        clear GX LX
        obtain ⟨⟨u0, k0⟩, ⟨u1, k1⟩, f0, f1⟩ := dk_opq RX.out
        go_wp2
        clear k0 k1 f0 f1
        have HB := dk_put RX.out (.slice none 0 0) (.slice none 0 0)
        obtain ⟨z0, z1, -, -⟩ := dk_cell HB
        refine bodyPost_ret (v := .tuple #[dk0, .int .i64 7]) (by simp [results, Tryd.results12, go_sem, z0, z1]) rfl ⟨⟨_, rfl, dv_none _ _⟩, (BX.out.setCell (by simp <;> omega) _).setCell (by simp <;> omega) _⟩
      · rw [if_neg hz]
        have hzz : ¬ (20000 : Int) < (mm : Int) + (ll : Int) := by omega
        have JO1 : Hid (n' + ll ≤ 100000) := by show n' + ll ≤ 100000; omega
        clear h h' hl hl' hn hn' E he hs PR0 hf hc hlen HL JO0 mn
        obtain ⟨kind, ac, mkt, nn, oi, oa, sd, pr, qt, how, red⟩ := cm
        go_enter Tryd.func12, Tryd.ntmps12
        go_wp2_with (rw [← HW.out])
        refine CH.out.mono ?_
        rintro e X ⟨rfl, bX⟩
        have BX := hide (onward BW.out bX)
        have GX := hide (dk_below GW.out bX)
        have RX := hide (dk_below RW.out bX)
        have TX := hide (cdAt_below TW.out bX)
        clear CH bX c0 c1 HW BW GW RW TW
        clear W
        have PX := hide (PR.out X BX.out)
        have at1 := TX.out
        have c0 := cd_cells at1 (Below.refl _ X) 0 rfl
        have c1 := cd_cells at1 (Below.refl _ X) 1 rfl
        have c2 := cd_cells at1 (Below.refl _ X) 2 rfl
        have c3 := cd_cells at1 (Below.refl _ X) 3 rfl
        have c4 := cd_cells at1 (Below.refl _ X) 4 rfl
        have c5 := cd_cells at1 (Below.refl _ X) 5 rfl
        have c6 := cd_cells at1 (Below.refl _ X) 6 rfl
        have c7 := cd_cells at1 (Below.refl _ X) 7 rfl
        have c8 := cd_cells at1 (Below.refl _ X) 8 rfl
        have c9 := cd_cells at1 (Below.refl _ X) 9 rfl
        have c10 := cd_cells at1 (Below.refl _ X) 10 rfl
        simp only [List.getElem_toArray, List.getElem_cons_zero, List.getElem_cons_succ] at c0 c1 c2 c3 c4 c5 c6 c7 c8 c9 c10
        clear at1 PR
        go_wp2_with fail
        refine PX.out.mono ?_
        rintro e Y ⟨rfl, bY⟩
        have BY := hide (onward BX.out bY)
        have GY := hide (dk_below GX.out bY)
        have RY := hide (dk_below RX.out bY)
        clear PX bY BX GX RX TX c0 c1 c2 c3 c4 c5 c6 c7 c8 c9 c10
        clear X
        obtain ⟨lc, V, cv, lb, bV, sV⟩ := conv_bt (s ++ [10]) Y
        rw [List.length_append, List.length_singleton, HLL.out] at cv lb
        rw [← sB_cat] at cv
        have BV := hide (onward BY.out bV)
        have GV := hide (dk_below GY.out bV)
        have RV := hide (dk_below RY.out bV)
        have LB := hide lb
        have US := hide (UD.out V)
        obtain ⟨v0, v1, -, -⟩ := dk_cell GV.out
        clear bV sV lb BY GY UD
        have YB : Hid (w.heap.size + 1 + 1 < Y.heap.size) := (Array.getElem?_eq_some_iff.1 RY.out).1
        clear RY
        generalize Y.heap.size = yb at *
        go_wp2_with fail
        refine US.out.mono ?_
        rintro e X ⟨rfl, bX⟩
        have BX := hide (onward BV.out bX)
        have GX := hide (dk_below GV.out bX)
        have RX := hide (dk_below RV.out bX)
        have LX := hide (LB.out.below bX)
        clear US bX BV GV RV LB cv v0 v1
        clear V Y
        have CL := CL0
        obtain ⟨x0, x1, -, -⟩ := dk_cell GX.out
        clear GX
        obtain ⟨RR, hRR⟩ : ∃ RR, RR = w.heap.size + 1 + 1 := ⟨_, rfl⟩
        have HRR := hide hRR
        go_wp2_with fail
        rw [← hRR] at RX YB ⊢
        clear hRR
        have LNW : Hid (Nw (RR + 1) (some ⟨yb, 0, none⟩)) := fun a ha => by cases ha; exact YB.out
        have rX : Hid (RR < X.heap.size) := (Array.getElem?_eq_some_iff.1 RX.out).1
        obtain ⟨C, hCC⟩ : ∃ C, C = Having (Rc X RR) (some ⟨yb, 0, none⟩) ll lc (s ++ [10]) := ⟨_, rfl⟩
        have CR : Hid (∀ x, C x → Rc X RR x) := fun x hx => by rw [hCC] at hx; exact hx.1
        have CB : Hid (∀ x, C x → Bt x (some ⟨yb, 0, none⟩) ll lc (s ++ [10])) := fun x hx => by rw [hCC] at hx; exact hx.2
        have CSET : Hid (∀ x u v, C x → C ((x.setCell ⟨RR, 0, none⟩ u).setCell ⟨RR, 1, none⟩ v)) := fun x u v hx => by rw [hCC] at hx ⊢; exact ⟨rc_set hx.1 u v, (hx.2.set LNW.out _ _).set LNW.out _ _⟩
        have CS : Hid (∀ x y, C x → Below x.heap.size x y → C y) := by rw [hCC]; exact having_shut rc_shut _ _ _ _
        have C0 : Hid (C { X with drawn := X.drawn + 1 }) := by rw [hCC]; exact ⟨⟨⟨rfl, rfl, rfl, Nat.le_refl _, fun _ _ => rfl⟩, rX.out, ⟨_, _, RX.out⟩⟩, LX.out.below ⟨rfl, rfl, rfl, Nat.le_refl _, fun _ _ => rfl⟩⟩
        have hC : ∀ p1 : InC C, ∀ a v, a.block < RR → X.cell? a = some v → p1.w.cell? a = some v := fun p1 a v ha hv => ((CR.out p1.w p1.h).1.cell ha).trans hv
        have g0 := fun p1 => hC p1 ⟨w.heap.size, 0, none⟩ _ (HRR.out ▸ by simp; omega) x0
        have g1 := fun p1 => hC p1 ⟨w.heap.size, 1, none⟩ _ (HRR.out ▸ by simp; omega) x1
        have HBX : Hid (∀ x, C x → Below w.heap.size w x ∧ RR + 1 ≤ x.heap.size) := fun x hx => ⟨BX.out.trans ((CR.out x hx).1.mono (by rw [HRR.out]; omega)), (CR.out x hx).2.1⟩
        clear hC hCC x0 x1
        refine wp_region_mix [(0, true), (1, true), (3, true), (4, true), (5, true), (2, false), (6, false), (7, true), (8, false), (9, true)] C mixed (by kernel_rfl) C0.out ?_
        repeat (refine mix_still (by rfl) ?_; go_big_quiet_step (exact rfl); refine wpQuiet_nil ?_)
        refine mix_main (by rfl) ?_
        rintro ⟨y1, hy1⟩
        dsimp only
        have hcon := CL.out y1 (HBX.out y1 hy1).1
        have hsz1 : Hid (RR + 1 ≤ y1.heap.size) := (HBX.out y1 hy1).2
        have HY1 := hide hy1
        go_wp2_with (go_at_call 36; refine hcon.mono ?_; rintro e w1 ⟨⟨q1, m1, rfl, hq1, hn1⟩, hb1⟩)
        refine ⟨Having C q1 n m1 d.safe, ⟨CS.out y1 w1 HY1.out hb1, hq1⟩, fun x hx => hx.1, ?_⟩
        have N1 := hide (hn1.mono hsz1.out)
        have CS1 := hide (having_shut CS.out q1 n m1 d.safe)
        have K1 : Hid (∀ x, Having C q1 n m1 d.safe x → C x ∧ Bt x q1 n m1 d.safe) := fun x hx => hx
        have K1' : Hid (∀ x, C x → Bt x q1 n m1 d.safe → Having C q1 n m1 d.safe x) := fun x hx hy => ⟨hx, hy⟩
        generalize Having C q1 n m1 d.safe = C1 at CS1 K1 K1' ⊢
        clear hcon hq1 hn1 hb1 w1 HY1 hsz1 hy1
        clear y1
        have SE : Hid (∀ y, C1 y → _) := fun y hy => JOH.out y yb lc (HBX.out y (K1.out y hy).1).1 (CB.out y (K1.out y hy).1) JO1.out
        refine mix_main (by rfl) ?_
        rintro ⟨y2, hy2⟩
        dsimp only
        have hcon := SE.out y2 hy2
        have hsz2 : Hid (RR + 1 ≤ y2.heap.size) := (HBX.out y2 (K1.out y2 hy2).1).2
        have HY2 := hide hy2
        go_wp2_with (go_at_call 37; refine hcon.mono ?_; rintro e w2 ⟨⟨q2, m2, rfl, hq2, hn2⟩, hb2⟩)
        refine ⟨Having C1 q2 (n' + ll) m2 (d.wait ++ (s ++ [10])), ⟨CS1.out y2 w2 HY2.out hb2, hq2⟩, fun x hx => hx.1, ?_⟩
        have N2 := hide (hn2.mono hsz2.out)
        have K2 : Hid (∀ x, Having C1 q2 (n' + ll) m2 (d.wait ++ (s ++ [10])) x → C1 x ∧ Bt x q2 (n' + ll) m2 (d.wait ++ (s ++ [10]))) := fun x hx => hx
        have K2' : Hid (∀ x, C1 x → Bt x q2 (n' + ll) m2 (d.wait ++ (s ++ [10])) → Having C1 q2 (n' + ll) m2 (d.wait ++ (s ++ [10])) x) := fun x hx hy => ⟨hx, hy⟩
        generalize Having C1 q2 (n' + ll) m2 (d.wait ++ (s ++ [10])) = C2 at K2 K2' ⊢
        clear hcon hq2 hn2 hb2 w2 HY2 hsz2 hy2
        clear y2
        repeat (refine mix_still (by rfl) ?_; go_big_quiet_step (exact rfl); refine wpQuiet_nil ?_)
        refine mix_main (by rfl) ?_
        rintro ⟨y3, hy3⟩
        dsimp only
        obtain ⟨a1, a2⟩ := K2.out y3 hy3
        obtain ⟨b1, b2⟩ := K1.out y3 a1
        have cr := CR.out y3 b1
        obtain ⟨bel, szr, o1, o2, hr⟩ := cr
        obtain ⟨⟨u0, k0⟩, ⟨u1, k1⟩, f0, f1⟩ := dk_opq hr
        have HS := hide (dk_put hr (.slice q1 n m1) (.slice q2 (n' + ll) m2))
        have HC2 : Hid (C2 ((y3.setCell ⟨RR, 0, none⟩ (.slice q1 n m1)).setCell ⟨RR, 1, none⟩ (.slice q2 (n' + ll) m2))) := K2'.out _ (K1'.out _ (CSET.out y3 _ _ b1) ((b2.set N1.out _ _).set N1.out _ _)) ((a2.set N2.out _ _).set N2.out _ _)
        clear a1 a2 b1 b2 bel szr hr hy3
        go_wp2
        refine ⟨At C2 RR (.slice q1 n m1) (.slice q2 (n' + ll) m2), ⟨HC2.out, HS.out⟩, fun x hx => hx.1, ?_⟩
        have K3 : Hid (∀ x, At C2 RR (.slice q1 n m1) (.slice q2 (n' + ll) m2) x → C2 x ∧ x.heap[RR]? = some (dkO (.slice q1 n m1) (.slice q2 (n' + ll) m2))) := fun x hx => hx
        generalize At C2 RR (.slice q1 n m1) (.slice q2 (n' + ll) m2) = C3 at K3 ⊢
        clear k0 k1 f0 f1 HS HC2
        clear y3
        repeat (refine mix_still (by rfl) ?_; go_big_quiet_step (exact rfl); refine wpQuiet_nil ?_)
        refine mix_end ?_
        rintro ⟨z, hz⟩
        dsimp only
        obtain ⟨a1, hr⟩ := K3.out z hz
        obtain ⟨a1, a2⟩ := K2.out z a1
        obtain ⟨b1, b2⟩ := K1.out z a1
        have hbz := (HBX.out z b1).1
        obtain ⟨z0, z1, -, -⟩ := dk_cell hr
        go_wp2
        refine bodyPost_ret (v := .tuple #[.agg #[.slice q1 n m1, .slice q2 (n' + ll) m2], .int .i64 0]) (by simp [results, Tryd.results12, go_sem, z0, z1]) rfl ⟨⟨_, rfl, ⟨_, _, _, _, _, _, rfl, b2, a2, N1.out.mono (by rw [HRR.out]; omega), N2.out.mono (by rw [HRR.out]; omega)⟩⟩, hbz⟩
    · rw [if_pos hc]
      rw [if_neg hc] at PR0
      have PR := hide PR0
      generalize checkC cm = ce at *
      clear h h' hl hl' hn hn' E he hs PR0 hf
      obtain ⟨kind, ac, mkt, nn, oi, oa, sd, pr, qt, how, red⟩ := cm
      go_enter Tryd.func12, Tryd.ntmps12
      go_wp2_with (rw [← HW.out])
      refine CH.out.mono ?_
      rintro e X ⟨rfl, bX⟩
      have BX := hide (onward BW.out bX)
      have GX := hide (dk_below GW.out bX)
      have RX := hide (dk_below RW.out bX)
      have TX := hide (cdAt_below TW.out bX)
      clear CH bX c0 c1 HW BW GW RW TW
      clear W
      have PX := hide (PR.out X BX.out)
      have at1 := TX.out
      have c0 := cd_cells at1 (Below.refl _ X) 0 rfl
      have c1 := cd_cells at1 (Below.refl _ X) 1 rfl
      have c2 := cd_cells at1 (Below.refl _ X) 2 rfl
      have c3 := cd_cells at1 (Below.refl _ X) 3 rfl
      have c4 := cd_cells at1 (Below.refl _ X) 4 rfl
      have c5 := cd_cells at1 (Below.refl _ X) 5 rfl
      have c6 := cd_cells at1 (Below.refl _ X) 6 rfl
      have c7 := cd_cells at1 (Below.refl _ X) 7 rfl
      have c8 := cd_cells at1 (Below.refl _ X) 8 rfl
      have c9 := cd_cells at1 (Below.refl _ X) 9 rfl
      have c10 := cd_cells at1 (Below.refl _ X) 10 rfl
      simp only [List.getElem_toArray, List.getElem_cons_zero, List.getElem_cons_succ] at c0 c1 c2 c3 c4 c5 c6 c7 c8 c9 c10
      clear at1 PR
      go_wp2_with fail
      refine PX.out.mono ?_
      rintro e Y ⟨rfl, bY⟩
      have BY := hide (onward BX.out bY)
      have GY := hide (dk_below GX.out bY)
      have RY := hide (dk_below RX.out bY)
      clear PX bY BX GX RX TX c0 c1 c2 c3 c4 c5 c6 c7 c8 c9 c10
      clear X
      clear GY
      obtain ⟨⟨u0, k0⟩, ⟨u1, k1⟩, f0, f1⟩ := dk_opq RY.out
      go_wp2
      clear k0 k1 f0 f1
      have HB := dk_put RY.out (.slice none 0 0) (.slice none 0 0)
      obtain ⟨z0, z1, -, -⟩ := dk_cell HB
      refine bodyPost_ret (v := .tuple #[dk0, .int .i64 ce]) (by simp [results, Tryd.results12, go_sem, z0, z1]) rfl ⟨⟨_, rfl, dv_none _ _⟩, (BY.out.setCell (by simp <;> omega) _).setCell (by simp <;> omega) _⟩
  · rw [if_pos he]
    generalize checkD d = ce at *
    clear h h' hl hl' hn hn' E hf
    obtain ⟨kind, ac, mkt, nn, oi, oa, sd, pr, qt, how, red⟩ := cm
    go_enter Tryd.func12, Tryd.ntmps12
    go_wp2_with (rw [← HW.out])
    refine CH.out.mono ?_
    rintro e X ⟨rfl, bX⟩
    have BX := hide (onward BW.out bX)
    have GX := hide (dk_below GW.out bX)
    have RX := hide (dk_below RW.out bX)
    have TX := hide (cdAt_below TW.out bX)
    clear CH bX c0 c1 HW BW GW RW TW
    clear W
    clear GX TX
    obtain ⟨⟨u0, k0⟩, ⟨u1, k1⟩, f0, f1⟩ := dk_opq RX.out
    go_wp2
    clear k0 k1 f0 f1
    have HB := dk_put RX.out (.slice none 0 0) (.slice none 0 0)
    obtain ⟨z0, z1, -, -⟩ := dk_cell HB
    refine bodyPost_ret (v := .tuple #[dk0, .int .i64 ce]) (by simp [results, Tryd.results12, go_sem, z0, z1]) rfl ⟨⟨_, rfl, dv_none _ _⟩, (BX.out.setCell (by simp <;> omega) _).setCell (by simp <;> omega) _⟩
end Go.Proofs.YthdjfhnhjiageaaDoor.Tx
