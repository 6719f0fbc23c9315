/-
  Package text by contracts: guess, for one kind of a command.
-/
import Derived.Test.YthdjfhnhjiageaaGreatDoorTxW8
namespace Go.Proofs.YthdjfhnhjiageaaGreatDoor.Tx
open Go.RowKit Go.Lib Go.Sort Go.Proofs.YthdjfhnhjiageaaGreatDoor.Mix
set_option maxHeartbeats 8000000 in
set_option maxRecDepth 100000 in
theorem guess_6 (s l0 l1 l2 l3 l4 l5 l6 l7 : Bs) (he : eightW (splitW s) = [l0, l1, l2, l3, l4, l5, l6, l7]) (hl1 : l1.length ≤ 281474976710656) (hl2 : l2.length ≤ 281474976710656) (hs : s.length ≤ 20000) (w : World) (E : Env w) (hk : idxW kindsL l0 = 6) :
    Calls Tryz.prog 73 #[sV s] w fun e w' => e = .returned (cdV ⟨6, 0, numB l1, numB l2, 0, 0, 0, 0, 0, 0, false⟩) ∧ Below w.heap.size w w' := by
  have mixed : Tryz.prog.follows .mixedOrders = true := by kernel_rfl
  obtain ⟨W, hW⟩ : ∃ W, W = (w.alloc (cdO noCd)).alloc (.cells #[sV [], sV [], sV [], sV [], sV [], sV [], sV [], sV []] 99) := ⟨_, rfl⟩
  have HW := hide hW
  have hsz : W.heap.size = w.heap.size + 1 + 1 := by rw [hW]; simp
  have RT : Hid (CdAt W w.heap.size noCd) := by
    show W.heap[w.heap.size]? = _
    rw [hW, Below.heap_alloc _ _ _ (by simp)]
    exact heap_alloc_new w _
  have LT : LAt W (w.heap.size + 1) [[], [], [], [], [], [], [], []] := by
    show W.heap[w.heap.size + 1]? = _
    rw [hW]
    have := heap_alloc_new (w.alloc (cdO noCd)) (.cells #[sV [], sV [], sV [], sV [], sV [], sV [], sV [], sV []] 99)
    simp only [World.size_alloc] at this
    exact this
  have BW : Hid (Below w.heap.size w W) := by rw [hW]; exact ((Below.refl _ w).alloc (Nat.le_refl _) _).alloc (by simp) _
  have SP := hide (split_any s hs W.drew)
  have CP := copied (X := (W.alloc (.cells ((splitW s).map sV).toArray 9)).drew) (lb := w.heap.size + 1) (N := w.heap.size + 1 + 1) (ws := splitW s) (lat_below LT ((Below.refl _ W).alloc (Nat.le_refl _) _).drew) (fun j v hv => by
    rw [← hsz]
    exact new_cell W _ _ j v (by simpa using hv)) 3
  obtain ⟨X, hrun, LX, BX⟩ := CP
  have hb1 := BX w.heap.size w ((BW.out.alloc (by omega) _).drew) (by omega)
  have hb2 := BX (w.heap.size + 1) W (((Below.refl _ W).alloc (by omega) _).drew) (Nat.le_refl _)
  rw [he] at LX
  have GI : Hid (GIn w X [l0, l1, l2, l3, l4, l5, l6, l7]) := ⟨hb1, by show X.heap[w.heap.size]? = _; rw [hb2.block _ (by omega)]; exact RT.out, LX, by have := hb2.size; omega⟩
  have EX := hide (E.below hb1)
  clear hW BX hb1 hb2 RT LT BW LX E he
  go_enter Tryz.func73, Tryz.ntmps73
  go_wp2_with (rw [← HW.out])
  go_region_law (first | (refine step_copy_eq rfl (.tmp 5) (.tmp 7) 76 76 rfl (.slice (some ⟨w.heap.size + 1, 0, none⟩) 8 8) (.slice (some ⟨w.heap.size + 1 + 1, 0, none⟩) (splitW s).length (splitW s).length) (by rfl) (by rfl) hrun ?_) | (go_simp; refine SP.out.mono ?_; rintro e w' ⟨rfl, hw'⟩; rw [hw']; clear hw'; dsimp only))
  clear hrun SP HW hsz
  clear W
  generalize (splitW s).length.min 8 = cn
  generalize (splitW s).length = sn
  have hC : ∀ q : InC (fun x => Below X.heap.size X x), Below X.heap.size X q.w := fun q => q.h
  have CX : Hid (∀ x, Below X.heap.size X x → Below X.heap.size X x) := fun _ h => h
  have CS : Hid (∀ x y, Below X.heap.size X x → Below x.heap.size x y → Below X.heap.size X y) := fun x y hx hy => onward hx hy
  have C0 : Hid (Below X.heap.size X X.drew) := (Below.refl _ X).drew
  have k0 : ∀ q : InC (fun x => Below X.heap.size X x), q.w.cell? ⟨w.heap.size + 1, 0, none⟩ = some (sV l0) := fun q => lat_cell (lat_below GI.out.l q.h) 0 rfl
  have K1 : Hid (∀ x, Below X.heap.size X x → _) := fun x (_ : Below X.heap.size X x) => kinds_any x
  have K2 : Hid (∀ x, Below X.heap.size X x → _) := fun x (_ : Below X.heap.size X x) => find_any [] wDeposit wWithdraw wPlace wCancel wIndex wFund wSweep (l0) x
  have e1 : idxW [[], wDeposit, wWithdraw, wPlace, wCancel, wIndex, wFund, wSweep] (l0) = 6 := hk
  rw [e1] at K2
  obtain ⟨C, hCC⟩ : ∃ C, C = (fun x => Below X.heap.size X x) := ⟨_, rfl⟩
  have CX1 : Hid (∀ x, C x → Below X.heap.size X x) := by rw [hCC]; exact fun _ h => h
  have XC : Hid (∀ x, Below X.heap.size X x → C x) := by rw [hCC]; exact fun _ h => h
  have CS1 : Hid (∀ x y, C x → Below x.heap.size x y → C y) := by rw [hCC]; exact CS.out
  have C01 : Hid (C X.drew) := by rw [hCC]; exact C0.out
  have k01 : ∀ q : InC C, q.w.cell? ⟨w.heap.size + 1, 0, none⟩ = some (sV l0) := fun q => k0 ⟨q.w, CX1.out _ q.h⟩
  have K11 := hide (fun x (hx : C x) => K1.out x (CX1.out x hx))
  have K21 := hide (fun x (hx : C x) => K2.out x (CX1.out x hx))
  clear CX CS C0 k0 K1 K2 hC hCC e1 hk
  have CX := CX1
  have CS := CS1
  have C0 := C01
  have k0 := k01
  have K1 := K11
  have K2 := K21
  clear CX1 CS1 C01 k01 K11 K21
  go_wp2_with fail
  refine wp_region_tree (.still 1 (.still 2 (.fork 0 (.fork 3 (.still 4 (.main 5 (.main 6 .done))) 5 (.main 3 (.still 4 (.main 6 .done)))) 5 (.main 0 (.main 3 (.still 4 (.main 6 .done))))))) C mixed (by kernel_rfl) C0.out ?_
  repeat (refine mixT_still (by rfl) ?_; go_big_quiet_step (exact rfl); refine wpQuiet_nil ?_)
  clear k0
  refine mixT_fork (by rfl) (by rfl) ?_ ?_
  · rintro ⟨x1, hx1⟩
    go_wp2_with (go_at_call 47; refine (K1.out x1 hx1).mono ?_; rintro e w' ⟨rfl, hb'⟩)
    refine ⟨_, CS.out x1 _ hx1 hb', fun _ h => h, ?_⟩
    clear hb' hx1
    clear x1
    try clear w'
    refine mixT_fork (by rfl) (by rfl) ?_ ?_
    · rintro ⟨x1, hx1⟩
      go_wp2_with (go_at_call 99; refine (K2.out x1 hx1).mono ?_; rintro e w' ⟨rfl, hb'⟩)
      refine ⟨_, CS.out x1 _ hx1 hb', fun _ h => h, ?_⟩
      clear hb' hx1
      clear x1
      try clear w'
      repeat (refine mixT_still (by rfl) ?_; go_big_quiet_step (exact rfl); refine wpQuiet_nil ?_)
      refine mixT_main (by rfl) ?_
      rintro ⟨x1, hx1⟩
      go_wp2
      refine ⟨AtP X x1.heap.size (fun _ => True), ⟨CS.out x1 _ hx1 (below_alloc x1 _) |> CX.out _, noCd, trivial, heap_alloc_new x1 _⟩, fun x hx => XC.out x hx.1, ?_⟩
      obtain ⟨bk, hbk⟩ : ∃ bk, bk = x1.heap.size := ⟨_, rfl⟩
      rw [← hbk]
      have HBK : Hid (X.heap.size ≤ bk) := by rw [hbk]; exact (CX.out _ hx1).size
      clear hbk hx1
      clear x1
      have CS1 := hide (atP_shut X bk (fun _ => True))
      have L1 : Hid (∀ x, AtP X bk (fun _ => True) x → _) := fun x hx => K1.out x (XC.out x hx.1)
      have L2 : Hid (∀ x, AtP X bk (fun _ => True) x → _) := fun x hx => K2.out x (XC.out x hx.1)
      clear CS
      have CS := CS1
      clear CS1
      refine mixT_main (by rfl) ?_
      rintro ⟨x1, hb1, cc, -, at1⟩
      dsimp only
      have A1 := hide at1
      have B1 := hide hb1
      obtain ⟨d0, d1, d2, d3, d4, d5, d6, d7, d8, d9, d10⟩ := cc
      have c0 := cd_cells at1 (Below.refl _ x1) 0 rfl
      have f0 := cd_frozen at1 0
      have c1 := cd_cells at1 (Below.refl _ x1) 1 rfl
      have f1 := cd_frozen at1 1
      have c2 := cd_cells at1 (Below.refl _ x1) 2 rfl
      have f2 := cd_frozen at1 2
      have c3 := cd_cells at1 (Below.refl _ x1) 3 rfl
      have f3 := cd_frozen at1 3
      have c4 := cd_cells at1 (Below.refl _ x1) 4 rfl
      have f4 := cd_frozen at1 4
      have c5 := cd_cells at1 (Below.refl _ x1) 5 rfl
      have f5 := cd_frozen at1 5
      have c6 := cd_cells at1 (Below.refl _ x1) 6 rfl
      have f6 := cd_frozen at1 6
      have c7 := cd_cells at1 (Below.refl _ x1) 7 rfl
      have f7 := cd_frozen at1 7
      have c8 := cd_cells at1 (Below.refl _ x1) 8 rfl
      have f8 := cd_frozen at1 8
      have c9 := cd_cells at1 (Below.refl _ x1) 9 rfl
      have f9 := cd_frozen at1 9
      have c10 := cd_cells at1 (Below.refl _ x1) 10 rfl
      have f10 := cd_frozen at1 10
      simp only [List.getElem_toArray, List.getElem_cons_zero, List.getElem_cons_succ] at c0 c1 c2 c3 c4 c5 c6 c7 c8 c9 c10
      clear at1 hb1
      go_wp2
      refine ⟨AtP X bk (fun c => c = ⟨6, 0, 0, 0, 0, 0, 0, 0, 0, 0, false⟩), ⟨putCd_below (r := bk) B1.out HBK.out ⟨6, 0, 0, 0, 0, 0, 0, 0, 0, 0, false⟩, _, rfl, putCd_at (r := bk) A1.out ⟨6, 0, 0, 0, 0, 0, 0, 0, 0, 0, false⟩⟩, atP_mono (fun _ _ => trivial), ?_⟩
      clear A1 B1 c0 c1 c2 c3 c4 c5 c6 c7 c8 c9 c10 f0 f1 f2 f3 f4 f5 f6 f7 f8 f9 f10 CS L1 L2
      clear d0 d1 d2 d3 d4 d5 d6 d7 d8 d9 d10
      clear x1
      refine mixT_end ?_
      rintro ⟨Y, hY⟩
      dsimp only
      have AY := hide hY
      clear hY K1 K2 C0 CX XC
      try clear CB
      try clear C
      have c00 : Y.cell? ⟨bk, 0, none⟩ = some (.int .i64 6) := by
        obtain ⟨hb1, cc, hcc, at1⟩ := AY.out
        rw [hcc] at at1
        exact cd_cells at1 (Below.refl _ Y) 0 rfl
      have CS : Hid (∀ x y, AtP X bk (fun c => ∃ a b, c = ⟨6, 0, a, b, 0, 0, 0, 0, 0, 0, false⟩) x → Below x.heap.size x y → AtP X bk (fun c => ∃ a b, c = ⟨6, 0, a, b, 0, 0, 0, 0, 0, 0, false⟩) y) := atP_shut X bk _
      have C0 : Hid (AtP X bk (fun c => ∃ a b, c = ⟨6, 0, a, b, 0, 0, 0, 0, 0, 0, false⟩) Y.drew) := CS.out Y _ (atP_mono (fun c hc => ⟨_, _, hc⟩) Y AY.out) (Below.refl _ Y).drew
      have q1 : ∀ q : InC (AtP X bk (fun c => ∃ a b, c = ⟨6, 0, a, b, 0, 0, 0, 0, 0, 0, false⟩)), q.w.cell? ⟨w.heap.size + 1, 1, none⟩ = some (sV l1) := fun q => lat_cell (lat_below GI.out.l q.h.1) 1 rfl
      have q2 : ∀ q : InC (AtP X bk (fun c => ∃ a b, c = ⟨6, 0, a, b, 0, 0, 0, 0, 0, 0, false⟩)), q.w.cell? ⟨w.heap.size + 1, 2, none⟩ = some (sV l2) := fun q => lat_cell (lat_below GI.out.l q.h.1) 2 rfl
      have N1 : Hid (∀ x, AtP X bk (fun c => ∃ a b, c = ⟨6, 0, a, b, 0, 0, 0, 0, 0, 0, false⟩) x → _) := fun x hx => number_any l1 hl1 x (EX.out.below hx.1)
      have N2 : Hid (∀ x, AtP X bk (fun c => ∃ a b, c = ⟨6, 0, a, b, 0, 0, 0, 0, 0, 0, false⟩) x → _) := fun x hx => number_any l2 hl2 x (EX.out.below hx.1)
      go_wp2_with fail
      refine wp_region_mix [(0, true), (1, true), (3, true), (4, true), (2, false), (6, true), (5, false), (7, false), (8, true), (9, false)] (AtP X bk (fun c => ∃ a b, c = ⟨6, 0, a, b, 0, 0, 0, 0, 0, 0, false⟩)) mixed (by kernel_rfl) C0.out ?_
      repeat (refine mix_still (by rfl) ?_; go_big_quiet_step (exact rfl); refine wpQuiet_nil ?_)
      refine mix_main (by rfl) ?_
      rintro ⟨x1, hx1⟩
      go_wp2_with (go_at_call 100; refine (N1.out x1 hx1).mono ?_; rintro e w' ⟨rfl, hb'⟩)
      refine ⟨_, CS.out x1 _ hx1 hb', fun _ h => h, ?_⟩
      clear hb' hx1
      clear x1
      try clear w'
      repeat (refine mix_still (by rfl) ?_; go_big_quiet_step (exact rfl); refine wpQuiet_nil ?_)
      refine mix_main (by rfl) ?_
      rintro ⟨x1, hx1⟩
      go_wp2_with (go_at_call 100; refine (N2.out x1 hx1).mono ?_; rintro e w' ⟨rfl, hb'⟩)
      refine ⟨_, CS.out x1 _ hx1 hb', fun _ h => h, ?_⟩
      clear hb' hx1
      clear x1
      try clear w'
      refine mix_main (by rfl) ?_
      rintro ⟨x1, hb1, cc, ⟨a, b, rfl⟩, at1⟩
      dsimp only
      have A1 := hide at1
      have B1 := hide hb1
      have ci := cd_cells at1 (Below.refl _ x1) 2 rfl
      simp only [List.getElem_toArray, List.getElem_cons_zero, List.getElem_cons_succ] at ci
      have fi := cd_frozen at1 2
      clear at1 hb1
      go_wp2
      refine ⟨AtP X bk (fun c => ∃ b, c = ⟨6, 0, numB l1, b, 0, 0, 0, 0, 0, 0, false⟩), ⟨B1.out.setCell (p := ⟨bk, 2, none⟩) HBK.out _, _, ⟨_, rfl⟩, cdAt_mkt A1.out _⟩, atP_mono (fun c ⟨b, h⟩ => ⟨_, b, h⟩), ?_⟩
      clear A1 B1 ci fi
      clear x1
      repeat (refine mix_still (by rfl) ?_; go_big_quiet_step (exact rfl); refine wpQuiet_nil ?_)
      refine mix_main (by rfl) ?_
      rintro ⟨x1, hb1, cc, ⟨b, rfl⟩, at1⟩
      dsimp only
      have A1 := hide at1
      have B1 := hide hb1
      have ci := cd_cells at1 (Below.refl _ x1) 3 rfl
      simp only [List.getElem_toArray, List.getElem_cons_zero, List.getElem_cons_succ] at ci
      have fi := cd_frozen at1 3
      clear at1 hb1
      go_wp2
      refine ⟨AtP X bk (fun c => c = ⟨6, 0, numB l1, numB l2, 0, 0, 0, 0, 0, 0, false⟩), ⟨B1.out.setCell (p := ⟨bk, 3, none⟩) HBK.out _, _, rfl, cdAt_n A1.out _⟩, atP_mono (fun c h => ⟨_, h⟩), ?_⟩
      clear A1 B1 ci fi
      clear x1
      clear c00
      refine mix_end ?_
      rintro ⟨Y2, hY2⟩
      dsimp only
      have AY2 := hide hY2
      clear hY2 AY CS C0
      try clear N1 N2 q1 q2
      clear Y
      obtain ⟨Y, hYY⟩ : ∃ Y, Y = Y2 := ⟨_, rfl⟩
      subst hYY
      have AY := AY2
      clear AY2
      obtain ⟨hb1, cc, rfl, at1⟩ := AY.out
      have rt := cdAt_below GI.out.ret hb1
      have B1 := hide (onward GI.out.low hb1)
      have R1 := hide rt
      have c0 := cd_cells at1 (Below.refl _ Y) 0 rfl
      have c1 := cd_cells at1 (Below.refl _ Y) 1 rfl
      have c2 := cd_cells at1 (Below.refl _ Y) 2 rfl
      have c3 := cd_cells at1 (Below.refl _ Y) 3 rfl
      have c4 := cd_cells at1 (Below.refl _ Y) 4 rfl
      have c5 := cd_cells at1 (Below.refl _ Y) 5 rfl
      have c6 := cd_cells at1 (Below.refl _ Y) 6 rfl
      have c7 := cd_cells at1 (Below.refl _ Y) 7 rfl
      have c8 := cd_cells at1 (Below.refl _ Y) 8 rfl
      have c9 := cd_cells at1 (Below.refl _ Y) 9 rfl
      have c10 := cd_cells at1 (Below.refl _ Y) 10 rfl
      have r0 := cd_cells rt (Below.refl _ Y) 0 rfl
      have r1 := cd_cells rt (Below.refl _ Y) 1 rfl
      have r2 := cd_cells rt (Below.refl _ Y) 2 rfl
      have r3 := cd_cells rt (Below.refl _ Y) 3 rfl
      have r4 := cd_cells rt (Below.refl _ Y) 4 rfl
      have r5 := cd_cells rt (Below.refl _ Y) 5 rfl
      have r6 := cd_cells rt (Below.refl _ Y) 6 rfl
      have r7 := cd_cells rt (Below.refl _ Y) 7 rfl
      have r8 := cd_cells rt (Below.refl _ Y) 8 rfl
      have r9 := cd_cells rt (Below.refl _ Y) 9 rfl
      have r10 := cd_cells rt (Below.refl _ Y) 10 rfl
      have f0 := cd_frozen rt 0
      have f1 := cd_frozen rt 1
      have f2 := cd_frozen rt 2
      have f3 := cd_frozen rt 3
      have f4 := cd_frozen rt 4
      have f5 := cd_frozen rt 5
      have f6 := cd_frozen rt 6
      have f7 := cd_frozen rt 7
      have f8 := cd_frozen rt 8
      have f9 := cd_frozen rt 9
      have f10 := cd_frozen rt 10
      simp only [List.getElem_toArray, List.getElem_cons_zero, List.getElem_cons_succ] at c0 c1 c2 c3 c4 c5 c6 c7 c8 c9 c10 r0 r1 r2 r3 r4 r5 r6 r7 r8 r9 r10
      clear rt at1 hb1 AY
      go_wp2
      obtain ⟨Z, hZ⟩ : ∃ Z, Z = putCd Y w.heap.size ⟨6, 0, numB l1, numB l2, 0, 0, 0, 0, 0, 0, false⟩ := ⟨_, rfl⟩
      have ZA : CdAt Z w.heap.size ⟨6, 0, numB l1, numB l2, 0, 0, 0, 0, 0, 0, false⟩ := by rw [hZ]; exact putCd_at R1.out _
      have ZB : Below w.heap.size w Z := by rw [hZ]; exact putCd_below B1.out (Nat.le_refl _) _
      change bodyPost _ _ _ _ _ (putCd Y w.heap.size ⟨6, 0, numB l1, numB l2, 0, 0, 0, 0, 0, 0, false⟩)
      rw [← hZ]
      have z0 := cd_cells ZA (Below.refl _ Z) 0 rfl
      have z1 := cd_cells ZA (Below.refl _ Z) 1 rfl
      have z2 := cd_cells ZA (Below.refl _ Z) 2 rfl
      have z3 := cd_cells ZA (Below.refl _ Z) 3 rfl
      have z4 := cd_cells ZA (Below.refl _ Z) 4 rfl
      have z5 := cd_cells ZA (Below.refl _ Z) 5 rfl
      have z6 := cd_cells ZA (Below.refl _ Z) 6 rfl
      have z7 := cd_cells ZA (Below.refl _ Z) 7 rfl
      have z8 := cd_cells ZA (Below.refl _ Z) 8 rfl
      have z9 := cd_cells ZA (Below.refl _ Z) 9 rfl
      have z10 := cd_cells ZA (Below.refl _ Z) 10 rfl
      simp only [List.getElem_toArray, List.getElem_cons_zero, List.getElem_cons_succ] at z0 z1 z2 z3 z4 z5 z6 z7 z8 z9 z10
      refine bodyPost_ret (v := cdV ⟨6, 0, numB l1, numB l2, 0, 0, 0, 0, 0, 0, false⟩) (by simp [results, Tryz.results73, go_sem, z0, z1, z2, z3, z4, z5, z6, z7, z8, z9, z10]) rfl ⟨rfl, ZB⟩
    · rintro ⟨x1, hx1⟩
      go_wp2
      refine ⟨AtP X x1.heap.size (fun _ => True), ⟨CS.out x1 _ hx1 (below_alloc x1 _) |> CX.out _, noCd, trivial, heap_alloc_new x1 _⟩, fun x hx => XC.out x hx.1, ?_⟩
      obtain ⟨bk, hbk⟩ : ∃ bk, bk = x1.heap.size := ⟨_, rfl⟩
      rw [← hbk]
      have HBK : Hid (X.heap.size ≤ bk) := by rw [hbk]; exact (CX.out _ hx1).size
      clear hbk hx1
      clear x1
      have CS1 := hide (atP_shut X bk (fun _ => True))
      have L1 : Hid (∀ x, AtP X bk (fun _ => True) x → _) := fun x hx => K1.out x (XC.out x hx.1)
      have L2 : Hid (∀ x, AtP X bk (fun _ => True) x → _) := fun x hx => K2.out x (XC.out x hx.1)
      clear CS
      have CS := CS1
      clear CS1
      refine mixT_main (by rfl) ?_
      rintro ⟨x1, hx1⟩
      go_wp2_with (go_at_call 99; refine (L2.out x1 hx1).mono ?_; rintro e w' ⟨rfl, hb'⟩)
      refine ⟨_, CS.out x1 _ hx1 hb', fun _ h => h, ?_⟩
      clear hb' hx1
      clear x1
      try clear w'
      repeat (refine mixT_still (by rfl) ?_; go_big_quiet_step (exact rfl); refine wpQuiet_nil ?_)
      refine mixT_main (by rfl) ?_
      rintro ⟨x1, hb1, cc, -, at1⟩
      dsimp only
      have A1 := hide at1
      have B1 := hide hb1
      obtain ⟨d0, d1, d2, d3, d4, d5, d6, d7, d8, d9, d10⟩ := cc
      have c0 := cd_cells at1 (Below.refl _ x1) 0 rfl
      have f0 := cd_frozen at1 0
      have c1 := cd_cells at1 (Below.refl _ x1) 1 rfl
      have f1 := cd_frozen at1 1
      have c2 := cd_cells at1 (Below.refl _ x1) 2 rfl
      have f2 := cd_frozen at1 2
      have c3 := cd_cells at1 (Below.refl _ x1) 3 rfl
      have f3 := cd_frozen at1 3
      have c4 := cd_cells at1 (Below.refl _ x1) 4 rfl
      have f4 := cd_frozen at1 4
      have c5 := cd_cells at1 (Below.refl _ x1) 5 rfl
      have f5 := cd_frozen at1 5
      have c6 := cd_cells at1 (Below.refl _ x1) 6 rfl
      have f6 := cd_frozen at1 6
      have c7 := cd_cells at1 (Below.refl _ x1) 7 rfl
      have f7 := cd_frozen at1 7
      have c8 := cd_cells at1 (Below.refl _ x1) 8 rfl
      have f8 := cd_frozen at1 8
      have c9 := cd_cells at1 (Below.refl _ x1) 9 rfl
      have f9 := cd_frozen at1 9
      have c10 := cd_cells at1 (Below.refl _ x1) 10 rfl
      have f10 := cd_frozen at1 10
      simp only [List.getElem_toArray, List.getElem_cons_zero, List.getElem_cons_succ] at c0 c1 c2 c3 c4 c5 c6 c7 c8 c9 c10
      clear at1 hb1
      go_wp2
      refine ⟨AtP X bk (fun c => c = ⟨6, 0, 0, 0, 0, 0, 0, 0, 0, 0, false⟩), ⟨putCd_below (r := bk) B1.out HBK.out ⟨6, 0, 0, 0, 0, 0, 0, 0, 0, 0, false⟩, _, rfl, putCd_at (r := bk) A1.out ⟨6, 0, 0, 0, 0, 0, 0, 0, 0, 0, false⟩⟩, atP_mono (fun _ _ => trivial), ?_⟩
      clear A1 B1 c0 c1 c2 c3 c4 c5 c6 c7 c8 c9 c10 f0 f1 f2 f3 f4 f5 f6 f7 f8 f9 f10 CS L1 L2
      clear d0 d1 d2 d3 d4 d5 d6 d7 d8 d9 d10
      clear x1
      refine mixT_end ?_
      rintro ⟨Y, hY⟩
      dsimp only
      have AY := hide hY
      clear hY K1 K2 C0 CX XC
      try clear CB
      try clear C
      have c00 : Y.cell? ⟨bk, 0, none⟩ = some (.int .i64 6) := by
        obtain ⟨hb1, cc, hcc, at1⟩ := AY.out
        rw [hcc] at at1
        exact cd_cells at1 (Below.refl _ Y) 0 rfl
      have CS : Hid (∀ x y, AtP X bk (fun c => ∃ a b, c = ⟨6, 0, a, b, 0, 0, 0, 0, 0, 0, false⟩) x → Below x.heap.size x y → AtP X bk (fun c => ∃ a b, c = ⟨6, 0, a, b, 0, 0, 0, 0, 0, 0, false⟩) y) := atP_shut X bk _
      have C0 : Hid (AtP X bk (fun c => ∃ a b, c = ⟨6, 0, a, b, 0, 0, 0, 0, 0, 0, false⟩) Y.drew) := CS.out Y _ (atP_mono (fun c hc => ⟨_, _, hc⟩) Y AY.out) (Below.refl _ Y).drew
      have q1 : ∀ q : InC (AtP X bk (fun c => ∃ a b, c = ⟨6, 0, a, b, 0, 0, 0, 0, 0, 0, false⟩)), q.w.cell? ⟨w.heap.size + 1, 1, none⟩ = some (sV l1) := fun q => lat_cell (lat_below GI.out.l q.h.1) 1 rfl
      have q2 : ∀ q : InC (AtP X bk (fun c => ∃ a b, c = ⟨6, 0, a, b, 0, 0, 0, 0, 0, 0, false⟩)), q.w.cell? ⟨w.heap.size + 1, 2, none⟩ = some (sV l2) := fun q => lat_cell (lat_below GI.out.l q.h.1) 2 rfl
      have N1 : Hid (∀ x, AtP X bk (fun c => ∃ a b, c = ⟨6, 0, a, b, 0, 0, 0, 0, 0, 0, false⟩) x → _) := fun x hx => number_any l1 hl1 x (EX.out.below hx.1)
      have N2 : Hid (∀ x, AtP X bk (fun c => ∃ a b, c = ⟨6, 0, a, b, 0, 0, 0, 0, 0, 0, false⟩) x → _) := fun x hx => number_any l2 hl2 x (EX.out.below hx.1)
      go_wp2_with fail
      refine wp_region_mix [(0, true), (1, true), (3, true), (4, true), (2, false), (6, true), (5, false), (7, false), (8, true), (9, false)] (AtP X bk (fun c => ∃ a b, c = ⟨6, 0, a, b, 0, 0, 0, 0, 0, 0, false⟩)) mixed (by kernel_rfl) C0.out ?_
      repeat (refine mix_still (by rfl) ?_; go_big_quiet_step (exact rfl); refine wpQuiet_nil ?_)
      refine mix_main (by rfl) ?_
      rintro ⟨x1, hx1⟩
      go_wp2_with (go_at_call 100; refine (N1.out x1 hx1).mono ?_; rintro e w' ⟨rfl, hb'⟩)
      refine ⟨_, CS.out x1 _ hx1 hb', fun _ h => h, ?_⟩
      clear hb' hx1
      clear x1
      try clear w'
      repeat (refine mix_still (by rfl) ?_; go_big_quiet_step (exact rfl); refine wpQuiet_nil ?_)
      refine mix_main (by rfl) ?_
      rintro ⟨x1, hx1⟩
      go_wp2_with (go_at_call 100; refine (N2.out x1 hx1).mono ?_; rintro e w' ⟨rfl, hb'⟩)
      refine ⟨_, CS.out x1 _ hx1 hb', fun _ h => h, ?_⟩
      clear hb' hx1
      clear x1
      try clear w'
      refine mix_main (by rfl) ?_
      rintro ⟨x1, hb1, cc, ⟨a, b, rfl⟩, at1⟩
      dsimp only
      have A1 := hide at1
      have B1 := hide hb1
      have ci := cd_cells at1 (Below.refl _ x1) 2 rfl
      simp only [List.getElem_toArray, List.getElem_cons_zero, List.getElem_cons_succ] at ci
      have fi := cd_frozen at1 2
      clear at1 hb1
      go_wp2
      refine ⟨AtP X bk (fun c => ∃ b, c = ⟨6, 0, numB l1, b, 0, 0, 0, 0, 0, 0, false⟩), ⟨B1.out.setCell (p := ⟨bk, 2, none⟩) HBK.out _, _, ⟨_, rfl⟩, cdAt_mkt A1.out _⟩, atP_mono (fun c ⟨b, h⟩ => ⟨_, b, h⟩), ?_⟩
      clear A1 B1 ci fi
      clear x1
      repeat (refine mix_still (by rfl) ?_; go_big_quiet_step (exact rfl); refine wpQuiet_nil ?_)
      refine mix_main (by rfl) ?_
      rintro ⟨x1, hb1, cc, ⟨b, rfl⟩, at1⟩
      dsimp only
      have A1 := hide at1
      have B1 := hide hb1
      have ci := cd_cells at1 (Below.refl _ x1) 3 rfl
      simp only [List.getElem_toArray, List.getElem_cons_zero, List.getElem_cons_succ] at ci
      have fi := cd_frozen at1 3
      clear at1 hb1
      go_wp2
      refine ⟨AtP X bk (fun c => c = ⟨6, 0, numB l1, numB l2, 0, 0, 0, 0, 0, 0, false⟩), ⟨B1.out.setCell (p := ⟨bk, 3, none⟩) HBK.out _, _, rfl, cdAt_n A1.out _⟩, atP_mono (fun c h => ⟨_, h⟩), ?_⟩
      clear A1 B1 ci fi
      clear x1
      clear c00
      refine mix_end ?_
      rintro ⟨Y2, hY2⟩
      dsimp only
      have AY2 := hide hY2
      clear hY2 AY CS C0
      try clear N1 N2 q1 q2
      clear Y
      obtain ⟨Y, hYY⟩ : ∃ Y, Y = Y2 := ⟨_, rfl⟩
      subst hYY
      have AY := AY2
      clear AY2
      obtain ⟨hb1, cc, rfl, at1⟩ := AY.out
      have rt := cdAt_below GI.out.ret hb1
      have B1 := hide (onward GI.out.low hb1)
      have R1 := hide rt
      have c0 := cd_cells at1 (Below.refl _ Y) 0 rfl
      have c1 := cd_cells at1 (Below.refl _ Y) 1 rfl
      have c2 := cd_cells at1 (Below.refl _ Y) 2 rfl
      have c3 := cd_cells at1 (Below.refl _ Y) 3 rfl
      have c4 := cd_cells at1 (Below.refl _ Y) 4 rfl
      have c5 := cd_cells at1 (Below.refl _ Y) 5 rfl
      have c6 := cd_cells at1 (Below.refl _ Y) 6 rfl
      have c7 := cd_cells at1 (Below.refl _ Y) 7 rfl
      have c8 := cd_cells at1 (Below.refl _ Y) 8 rfl
      have c9 := cd_cells at1 (Below.refl _ Y) 9 rfl
      have c10 := cd_cells at1 (Below.refl _ Y) 10 rfl
      have r0 := cd_cells rt (Below.refl _ Y) 0 rfl
      have r1 := cd_cells rt (Below.refl _ Y) 1 rfl
      have r2 := cd_cells rt (Below.refl _ Y) 2 rfl
      have r3 := cd_cells rt (Below.refl _ Y) 3 rfl
      have r4 := cd_cells rt (Below.refl _ Y) 4 rfl
      have r5 := cd_cells rt (Below.refl _ Y) 5 rfl
      have r6 := cd_cells rt (Below.refl _ Y) 6 rfl
      have r7 := cd_cells rt (Below.refl _ Y) 7 rfl
      have r8 := cd_cells rt (Below.refl _ Y) 8 rfl
      have r9 := cd_cells rt (Below.refl _ Y) 9 rfl
      have r10 := cd_cells rt (Below.refl _ Y) 10 rfl
      have f0 := cd_frozen rt 0
      have f1 := cd_frozen rt 1
      have f2 := cd_frozen rt 2
      have f3 := cd_frozen rt 3
      have f4 := cd_frozen rt 4
      have f5 := cd_frozen rt 5
      have f6 := cd_frozen rt 6
      have f7 := cd_frozen rt 7
      have f8 := cd_frozen rt 8
      have f9 := cd_frozen rt 9
      have f10 := cd_frozen rt 10
      simp only [List.getElem_toArray, List.getElem_cons_zero, List.getElem_cons_succ] at c0 c1 c2 c3 c4 c5 c6 c7 c8 c9 c10 r0 r1 r2 r3 r4 r5 r6 r7 r8 r9 r10
      clear rt at1 hb1 AY
      go_wp2
      obtain ⟨Z, hZ⟩ : ∃ Z, Z = putCd Y w.heap.size ⟨6, 0, numB l1, numB l2, 0, 0, 0, 0, 0, 0, false⟩ := ⟨_, rfl⟩
      have ZA : CdAt Z w.heap.size ⟨6, 0, numB l1, numB l2, 0, 0, 0, 0, 0, 0, false⟩ := by rw [hZ]; exact putCd_at R1.out _
      have ZB : Below w.heap.size w Z := by rw [hZ]; exact putCd_below B1.out (Nat.le_refl _) _
      change bodyPost _ _ _ _ _ (putCd Y w.heap.size ⟨6, 0, numB l1, numB l2, 0, 0, 0, 0, 0, 0, false⟩)
      rw [← hZ]
      have z0 := cd_cells ZA (Below.refl _ Z) 0 rfl
      have z1 := cd_cells ZA (Below.refl _ Z) 1 rfl
      have z2 := cd_cells ZA (Below.refl _ Z) 2 rfl
      have z3 := cd_cells ZA (Below.refl _ Z) 3 rfl
      have z4 := cd_cells ZA (Below.refl _ Z) 4 rfl
      have z5 := cd_cells ZA (Below.refl _ Z) 5 rfl
      have z6 := cd_cells ZA (Below.refl _ Z) 6 rfl
      have z7 := cd_cells ZA (Below.refl _ Z) 7 rfl
      have z8 := cd_cells ZA (Below.refl _ Z) 8 rfl
      have z9 := cd_cells ZA (Below.refl _ Z) 9 rfl
      have z10 := cd_cells ZA (Below.refl _ Z) 10 rfl
      simp only [List.getElem_toArray, List.getElem_cons_zero, List.getElem_cons_succ] at z0 z1 z2 z3 z4 z5 z6 z7 z8 z9 z10
      refine bodyPost_ret (v := cdV ⟨6, 0, numB l1, numB l2, 0, 0, 0, 0, 0, 0, false⟩) (by simp [results, Tryz.results73, go_sem, z0, z1, z2, z3, z4, z5, z6, z7, z8, z9, z10]) rfl ⟨rfl, ZB⟩
  · rintro ⟨x1, hx1⟩
    go_wp2
    refine ⟨AtP X x1.heap.size (fun _ => True), ⟨CS.out x1 _ hx1 (below_alloc x1 _) |> CX.out _, noCd, trivial, heap_alloc_new x1 _⟩, fun x hx => XC.out x hx.1, ?_⟩
    obtain ⟨bk, hbk⟩ : ∃ bk, bk = x1.heap.size := ⟨_, rfl⟩
    rw [← hbk]
    have HBK : Hid (X.heap.size ≤ bk) := by rw [hbk]; exact (CX.out _ hx1).size
    clear hbk hx1
    clear x1
    have CS1 := hide (atP_shut X bk (fun _ => True))
    have L1 : Hid (∀ x, AtP X bk (fun _ => True) x → _) := fun x hx => K1.out x (XC.out x hx.1)
    have L2 : Hid (∀ x, AtP X bk (fun _ => True) x → _) := fun x hx => K2.out x (XC.out x hx.1)
    clear CS
    have CS := CS1
    clear CS1
    refine mixT_main (by rfl) ?_
    rintro ⟨x1, hx1⟩
    go_wp2_with (go_at_call 47; refine (L1.out x1 hx1).mono ?_; rintro e w' ⟨rfl, hb'⟩)
    refine ⟨_, CS.out x1 _ hx1 hb', fun _ h => h, ?_⟩
    clear hb' hx1
    clear x1
    try clear w'
    refine mixT_main (by rfl) ?_
    rintro ⟨x1, hx1⟩
    go_wp2_with (go_at_call 99; refine (L2.out x1 hx1).mono ?_; rintro e w' ⟨rfl, hb'⟩)
    refine ⟨_, CS.out x1 _ hx1 hb', fun _ h => h, ?_⟩
    clear hb' hx1
    clear x1
    try clear w'
    repeat (refine mixT_still (by rfl) ?_; go_big_quiet_step (exact rfl); refine wpQuiet_nil ?_)
    refine mixT_main (by rfl) ?_
    rintro ⟨x1, hb1, cc, -, at1⟩
    dsimp only
    have A1 := hide at1
    have B1 := hide hb1
    obtain ⟨d0, d1, d2, d3, d4, d5, d6, d7, d8, d9, d10⟩ := cc
    have c0 := cd_cells at1 (Below.refl _ x1) 0 rfl
    have f0 := cd_frozen at1 0
    have c1 := cd_cells at1 (Below.refl _ x1) 1 rfl
    have f1 := cd_frozen at1 1
    have c2 := cd_cells at1 (Below.refl _ x1) 2 rfl
    have f2 := cd_frozen at1 2
    have c3 := cd_cells at1 (Below.refl _ x1) 3 rfl
    have f3 := cd_frozen at1 3
    have c4 := cd_cells at1 (Below.refl _ x1) 4 rfl
    have f4 := cd_frozen at1 4
    have c5 := cd_cells at1 (Below.refl _ x1) 5 rfl
    have f5 := cd_frozen at1 5
    have c6 := cd_cells at1 (Below.refl _ x1) 6 rfl
    have f6 := cd_frozen at1 6
    have c7 := cd_cells at1 (Below.refl _ x1) 7 rfl
    have f7 := cd_frozen at1 7
    have c8 := cd_cells at1 (Below.refl _ x1) 8 rfl
    have f8 := cd_frozen at1 8
    have c9 := cd_cells at1 (Below.refl _ x1) 9 rfl
    have f9 := cd_frozen at1 9
    have c10 := cd_cells at1 (Below.refl _ x1) 10 rfl
    have f10 := cd_frozen at1 10
    simp only [List.getElem_toArray, List.getElem_cons_zero, List.getElem_cons_succ] at c0 c1 c2 c3 c4 c5 c6 c7 c8 c9 c10
    clear at1 hb1
    go_wp2
    refine ⟨AtP X bk (fun c => c = ⟨6, 0, 0, 0, 0, 0, 0, 0, 0, 0, false⟩), ⟨putCd_below (r := bk) B1.out HBK.out ⟨6, 0, 0, 0, 0, 0, 0, 0, 0, 0, false⟩, _, rfl, putCd_at (r := bk) A1.out ⟨6, 0, 0, 0, 0, 0, 0, 0, 0, 0, false⟩⟩, atP_mono (fun _ _ => trivial), ?_⟩
    clear A1 B1 c0 c1 c2 c3 c4 c5 c6 c7 c8 c9 c10 f0 f1 f2 f3 f4 f5 f6 f7 f8 f9 f10 CS L1 L2
    clear d0 d1 d2 d3 d4 d5 d6 d7 d8 d9 d10
    clear x1
    refine mixT_end ?_
    rintro ⟨Y, hY⟩
    dsimp only
    have AY := hide hY
    clear hY K1 K2 C0 CX XC
    try clear CB
    try clear C
    have c00 : Y.cell? ⟨bk, 0, none⟩ = some (.int .i64 6) := by
      obtain ⟨hb1, cc, hcc, at1⟩ := AY.out
      rw [hcc] at at1
      exact cd_cells at1 (Below.refl _ Y) 0 rfl
    have CS : Hid (∀ x y, AtP X bk (fun c => ∃ a b, c = ⟨6, 0, a, b, 0, 0, 0, 0, 0, 0, false⟩) x → Below x.heap.size x y → AtP X bk (fun c => ∃ a b, c = ⟨6, 0, a, b, 0, 0, 0, 0, 0, 0, false⟩) y) := atP_shut X bk _
    have C0 : Hid (AtP X bk (fun c => ∃ a b, c = ⟨6, 0, a, b, 0, 0, 0, 0, 0, 0, false⟩) Y.drew) := CS.out Y _ (atP_mono (fun c hc => ⟨_, _, hc⟩) Y AY.out) (Below.refl _ Y).drew
    have q1 : ∀ q : InC (AtP X bk (fun c => ∃ a b, c = ⟨6, 0, a, b, 0, 0, 0, 0, 0, 0, false⟩)), q.w.cell? ⟨w.heap.size + 1, 1, none⟩ = some (sV l1) := fun q => lat_cell (lat_below GI.out.l q.h.1) 1 rfl
    have q2 : ∀ q : InC (AtP X bk (fun c => ∃ a b, c = ⟨6, 0, a, b, 0, 0, 0, 0, 0, 0, false⟩)), q.w.cell? ⟨w.heap.size + 1, 2, none⟩ = some (sV l2) := fun q => lat_cell (lat_below GI.out.l q.h.1) 2 rfl
    have N1 : Hid (∀ x, AtP X bk (fun c => ∃ a b, c = ⟨6, 0, a, b, 0, 0, 0, 0, 0, 0, false⟩) x → _) := fun x hx => number_any l1 hl1 x (EX.out.below hx.1)
    have N2 : Hid (∀ x, AtP X bk (fun c => ∃ a b, c = ⟨6, 0, a, b, 0, 0, 0, 0, 0, 0, false⟩) x → _) := fun x hx => number_any l2 hl2 x (EX.out.below hx.1)
    go_wp2_with fail
    refine wp_region_mix [(0, true), (1, true), (3, true), (4, true), (2, false), (6, true), (5, false), (7, false), (8, true), (9, false)] (AtP X bk (fun c => ∃ a b, c = ⟨6, 0, a, b, 0, 0, 0, 0, 0, 0, false⟩)) mixed (by kernel_rfl) C0.out ?_
    repeat (refine mix_still (by rfl) ?_; go_big_quiet_step (exact rfl); refine wpQuiet_nil ?_)
    refine mix_main (by rfl) ?_
    rintro ⟨x1, hx1⟩
    go_wp2_with (go_at_call 100; refine (N1.out x1 hx1).mono ?_; rintro e w' ⟨rfl, hb'⟩)
    refine ⟨_, CS.out x1 _ hx1 hb', fun _ h => h, ?_⟩
    clear hb' hx1
    clear x1
    try clear w'
    repeat (refine mix_still (by rfl) ?_; go_big_quiet_step (exact rfl); refine wpQuiet_nil ?_)
    refine mix_main (by rfl) ?_
    rintro ⟨x1, hx1⟩
    go_wp2_with (go_at_call 100; refine (N2.out x1 hx1).mono ?_; rintro e w' ⟨rfl, hb'⟩)
    refine ⟨_, CS.out x1 _ hx1 hb', fun _ h => h, ?_⟩
    clear hb' hx1
    clear x1
    try clear w'
    refine mix_main (by rfl) ?_
    rintro ⟨x1, hb1, cc, ⟨a, b, rfl⟩, at1⟩
    dsimp only
    have A1 := hide at1
    have B1 := hide hb1
    have ci := cd_cells at1 (Below.refl _ x1) 2 rfl
    simp only [List.getElem_toArray, List.getElem_cons_zero, List.getElem_cons_succ] at ci
    have fi := cd_frozen at1 2
    clear at1 hb1
    go_wp2
    refine ⟨AtP X bk (fun c => ∃ b, c = ⟨6, 0, numB l1, b, 0, 0, 0, 0, 0, 0, false⟩), ⟨B1.out.setCell (p := ⟨bk, 2, none⟩) HBK.out _, _, ⟨_, rfl⟩, cdAt_mkt A1.out _⟩, atP_mono (fun c ⟨b, h⟩ => ⟨_, b, h⟩), ?_⟩
    clear A1 B1 ci fi
    clear x1
    repeat (refine mix_still (by rfl) ?_; go_big_quiet_step (exact rfl); refine wpQuiet_nil ?_)
    refine mix_main (by rfl) ?_
    rintro ⟨x1, hb1, cc, ⟨b, rfl⟩, at1⟩
    dsimp only
    have A1 := hide at1
    have B1 := hide hb1
    have ci := cd_cells at1 (Below.refl _ x1) 3 rfl
    simp only [List.getElem_toArray, List.getElem_cons_zero, List.getElem_cons_succ] at ci
    have fi := cd_frozen at1 3
    clear at1 hb1
    go_wp2
    refine ⟨AtP X bk (fun c => c = ⟨6, 0, numB l1, numB l2, 0, 0, 0, 0, 0, 0, false⟩), ⟨B1.out.setCell (p := ⟨bk, 3, none⟩) HBK.out _, _, rfl, cdAt_n A1.out _⟩, atP_mono (fun c h => ⟨_, h⟩), ?_⟩
    clear A1 B1 ci fi
    clear x1
    clear c00
    refine mix_end ?_
    rintro ⟨Y2, hY2⟩
    dsimp only
    have AY2 := hide hY2
    clear hY2 AY CS C0
    try clear N1 N2 q1 q2
    clear Y
    obtain ⟨Y, hYY⟩ : ∃ Y, Y = Y2 := ⟨_, rfl⟩
    subst hYY
    have AY := AY2
    clear AY2
    obtain ⟨hb1, cc, rfl, at1⟩ := AY.out
    have rt := cdAt_below GI.out.ret hb1
    have B1 := hide (onward GI.out.low hb1)
    have R1 := hide rt
    have c0 := cd_cells at1 (Below.refl _ Y) 0 rfl
    have c1 := cd_cells at1 (Below.refl _ Y) 1 rfl
    have c2 := cd_cells at1 (Below.refl _ Y) 2 rfl
    have c3 := cd_cells at1 (Below.refl _ Y) 3 rfl
    have c4 := cd_cells at1 (Below.refl _ Y) 4 rfl
    have c5 := cd_cells at1 (Below.refl _ Y) 5 rfl
    have c6 := cd_cells at1 (Below.refl _ Y) 6 rfl
    have c7 := cd_cells at1 (Below.refl _ Y) 7 rfl
    have c8 := cd_cells at1 (Below.refl _ Y) 8 rfl
    have c9 := cd_cells at1 (Below.refl _ Y) 9 rfl
    have c10 := cd_cells at1 (Below.refl _ Y) 10 rfl
    have r0 := cd_cells rt (Below.refl _ Y) 0 rfl
    have r1 := cd_cells rt (Below.refl _ Y) 1 rfl
    have r2 := cd_cells rt (Below.refl _ Y) 2 rfl
    have r3 := cd_cells rt (Below.refl _ Y) 3 rfl
    have r4 := cd_cells rt (Below.refl _ Y) 4 rfl
    have r5 := cd_cells rt (Below.refl _ Y) 5 rfl
    have r6 := cd_cells rt (Below.refl _ Y) 6 rfl
    have r7 := cd_cells rt (Below.refl _ Y) 7 rfl
    have r8 := cd_cells rt (Below.refl _ Y) 8 rfl
    have r9 := cd_cells rt (Below.refl _ Y) 9 rfl
    have r10 := cd_cells rt (Below.refl _ Y) 10 rfl
    have f0 := cd_frozen rt 0
    have f1 := cd_frozen rt 1
    have f2 := cd_frozen rt 2
    have f3 := cd_frozen rt 3
    have f4 := cd_frozen rt 4
    have f5 := cd_frozen rt 5
    have f6 := cd_frozen rt 6
    have f7 := cd_frozen rt 7
    have f8 := cd_frozen rt 8
    have f9 := cd_frozen rt 9
    have f10 := cd_frozen rt 10
    simp only [List.getElem_toArray, List.getElem_cons_zero, List.getElem_cons_succ] at c0 c1 c2 c3 c4 c5 c6 c7 c8 c9 c10 r0 r1 r2 r3 r4 r5 r6 r7 r8 r9 r10
    clear rt at1 hb1 AY
    go_wp2
    obtain ⟨Z, hZ⟩ : ∃ Z, Z = putCd Y w.heap.size ⟨6, 0, numB l1, numB l2, 0, 0, 0, 0, 0, 0, false⟩ := ⟨_, rfl⟩
    have ZA : CdAt Z w.heap.size ⟨6, 0, numB l1, numB l2, 0, 0, 0, 0, 0, 0, false⟩ := by rw [hZ]; exact putCd_at R1.out _
    have ZB : Below w.heap.size w Z := by rw [hZ]; exact putCd_below B1.out (Nat.le_refl _) _
    change bodyPost _ _ _ _ _ (putCd Y w.heap.size ⟨6, 0, numB l1, numB l2, 0, 0, 0, 0, 0, 0, false⟩)
    rw [← hZ]
    have z0 := cd_cells ZA (Below.refl _ Z) 0 rfl
    have z1 := cd_cells ZA (Below.refl _ Z) 1 rfl
    have z2 := cd_cells ZA (Below.refl _ Z) 2 rfl
    have z3 := cd_cells ZA (Below.refl _ Z) 3 rfl
    have z4 := cd_cells ZA (Below.refl _ Z) 4 rfl
    have z5 := cd_cells ZA (Below.refl _ Z) 5 rfl
    have z6 := cd_cells ZA (Below.refl _ Z) 6 rfl
    have z7 := cd_cells ZA (Below.refl _ Z) 7 rfl
    have z8 := cd_cells ZA (Below.refl _ Z) 8 rfl
    have z9 := cd_cells ZA (Below.refl _ Z) 9 rfl
    have z10 := cd_cells ZA (Below.refl _ Z) 10 rfl
    simp only [List.getElem_toArray, List.getElem_cons_zero, List.getElem_cons_succ] at z0 z1 z2 z3 z4 z5 z6 z7 z8 z9 z10
    refine bodyPost_ret (v := cdV ⟨6, 0, numB l1, numB l2, 0, 0, 0, 0, 0, 0, false⟩) (by simp [results, Tryz.results73, go_sem, z0, z1, z2, z3, z4, z5, z6, z7, z8, z9, z10]) rfl ⟨rfl, ZB⟩
end Go.Proofs.YthdjfhnhjiageaaGreatDoor.Tx
