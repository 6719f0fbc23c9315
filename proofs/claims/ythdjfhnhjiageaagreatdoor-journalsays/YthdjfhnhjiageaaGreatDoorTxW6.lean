/-
  Package text by contracts: Print.
-/
import Derived.Test.YthdjfhnhjiageaaGreatDoorTxW5
namespace Go.Proofs.YthdjfhnhjiageaaGreatDoor.Tx
open Go.RowKit Go.Lib Go.Sort Go.Proofs.YthdjfhnhjiageaaGreatDoor.Mix

theorem join3 (a b c : Bs) : joinW [a, b, c] = a ++ 32 :: (b ++ 32 :: c) := by simp [joinW]
theorem print_acc {c : Cd} (h : c.kind = 1 ∨ c.kind = 2 ∨ c.kind = 4) : printC c = atW kindsL c.kind ++ 32 :: (itoa c.ac ++ 32 :: itoa c.n) := by
  unfold printC wordsC
  rw [if_pos h, join3]
theorem print_mkt {c : Cd} (h : c.kind = 5 ∨ c.kind = 6) : printC c = atW kindsL c.kind ++ 32 :: (itoa c.mkt ++ 32 :: itoa c.n) := by
  unfold printC wordsC
  rw [if_neg (by omega), if_pos h, join3]
theorem print_place {c : Cd} (h : c.kind = 3) : printC c = atW kindsL c.kind ++ 32 :: (itoa c.ac ++ 32 :: itoa c.mkt) ++ 32 :: (orderB c ++ redB c) := by
  unfold printC wordsC orderB redB tailW
  rw [if_neg (by omega), if_neg (by omega), if_pos h]
  cases c.red <;> simp [joinW]
theorem print_sweep {c : Cd} (h : c.kind = 7) : printC c = atW kindsL c.kind := by
  unfold printC wordsC
  rw [if_neg (by omega), if_neg (by omega), if_neg (by omega)]
  simp [joinW]
set_option maxHeartbeats 4000000 in
set_option maxRecDepth 100000 in
theorem print_1 (ac mkt n oi oa sd pr qt how : Int) (red : Bool) (w : World) (h : checkC ⟨1, ac, mkt, n, oi, oa, sd, pr, qt, how, red⟩ = 0) (hf : Cd.fits ⟨1, ac, mkt, n, oi, oa, sd, pr, qt, how, red⟩) (E : Env w) :
    Calls Tryz.prog 27 #[cdV ⟨1, ac, mkt, n, oi, oa, sd, pr, qt, how, red⟩] w fun e w' => e = .returned (.tuple #[sV (printC ⟨1, ac, mkt, n, oi, oa, sd, pr, qt, how, red⟩), .int .i64 0]) ∧ Below w.heap.size w w' := by
  have mixed : Tryz.prog.follows .mixedOrders = true := by kernel_rfl
  rw [print_acc (.inl rfl)]
  obtain ⟨W, hW⟩ : ∃ W, W = w.alloc (cdO ⟨1, ac, mkt, n, oi, oa, sd, pr, qt, how, red⟩) := ⟨_, rfl⟩
  have AT : CdAt W w.heap.size ⟨1, ac, mkt, n, oi, oa, sd, pr, qt, how, red⟩ := by show W.heap[w.heap.size]? = _; rw [hW]; exact heap_alloc_new w _
  have BW : Hid (Below w.heap.size w W) := by rw [hW]; exact below_alloc w _
  have EW := hide (E.below BW.out)
  have HW := hide hW
  have CK := hide (check_any ⟨1, ac, mkt, n, oi, oa, sd, pr, qt, how, red⟩ W hf.sd)
  rw [h] at CK
  have c0 := cd_cells AT (Below.refl _ W) 0 rfl
  have c1 := cd_cells AT (Below.refl _ W) 1 rfl
  have c2 := cd_cells AT (Below.refl _ W) 2 rfl
  have c3 := cd_cells AT (Below.refl _ W) 3 rfl
  have c4 := cd_cells AT (Below.refl _ W) 4 rfl
  have c5 := cd_cells AT (Below.refl _ W) 5 rfl
  have c6 := cd_cells AT (Below.refl _ W) 6 rfl
  have c7 := cd_cells AT (Below.refl _ W) 7 rfl
  have c8 := cd_cells AT (Below.refl _ W) 8 rfl
  have c9 := cd_cells AT (Below.refl _ W) 9 rfl
  have c10 := cd_cells AT (Below.refl _ W) 10 rfl
  simp only [List.getElem_toArray, List.getElem_cons_zero, List.getElem_cons_succ] at c0 c1 c2 c3 c4 c5 c6 c7 c8 c9 c10
  have HF := hide hf
  clear hW h hf E
  go_enter Tryz.func27, Tryz.ntmps27
  go_wp2_with (rw [← HW.out])
  refine CK.out.mono ?_
  rintro e X ⟨rfl, hb⟩
  have AX := cdAt_below AT hb
  have BX := hide (onward BW.out hb)
  have EX := hide (EW.out.below hb)
  clear c0 c1 c2 c3 c4 c5 c6 c7 c8 c9 c10 hb AT BW EW CK HW
  clear W
  obtain ⟨kind, hkind⟩ : ∃ kind : Int, kind = 1 := ⟨_, rfl⟩
  rw [← hkind] at AX
  have hC : ∀ q : InC (fun x => Below X.heap.size X x), Below X.heap.size X q.w := fun q => q.h
  generalize hCC : (fun x => Below X.heap.size X x) = C at hC
  have CS : ∀ x y, C x → Below x.heap.size x y → C y := by rw [← hCC]; exact fun x y hx hy => onward hx hy
  have C0 : Hid (C X.drew) := by rw [← hCC]; exact (Below.refl _ X).drew
  have CB := hide hC
  have k0 : ∀ q : InC C, q.w.cell? ⟨w.heap.size, 0, none⟩ = some (.int .i64 kind) := fun q => cd_cells AX (hC q) 0 rfl
  have k1 : ∀ q : InC C, q.w.cell? ⟨w.heap.size, 1, none⟩ = some (.int .i64 ac) := fun q => cd_cells AX (hC q) 1 rfl
  have k2 : ∀ q : InC C, q.w.cell? ⟨w.heap.size, 2, none⟩ = some (.int .i64 mkt) := fun q => cd_cells AX (hC q) 2 rfl
  have k3 : ∀ q : InC C, q.w.cell? ⟨w.heap.size, 3, none⟩ = some (.int .i64 n) := fun q => cd_cells AX (hC q) 3 rfl
  have k4 : ∀ q : InC C, q.w.cell? ⟨w.heap.size, 4, none⟩ = some (.int .i64 oi) := fun q => cd_cells AX (hC q) 4 rfl
  have k5 : ∀ q : InC C, q.w.cell? ⟨w.heap.size, 5, none⟩ = some (.int .i64 oa) := fun q => cd_cells AX (hC q) 5 rfl
  have k6 : ∀ q : InC C, q.w.cell? ⟨w.heap.size, 6, none⟩ = some (.int .i64 sd) := fun q => cd_cells AX (hC q) 6 rfl
  have k7 : ∀ q : InC C, q.w.cell? ⟨w.heap.size, 7, none⟩ = some (.int .i64 pr) := fun q => cd_cells AX (hC q) 7 rfl
  have k8 : ∀ q : InC C, q.w.cell? ⟨w.heap.size, 8, none⟩ = some (.int .i64 qt) := fun q => cd_cells AX (hC q) 8 rfl
  have k9 : ∀ q : InC C, q.w.cell? ⟨w.heap.size, 9, none⟩ = some (.int .i64 how) := fun q => cd_cells AX (hC q) 9 rfl
  have k10 : ∀ q : InC C, q.w.cell? ⟨w.heap.size, 10, none⟩ = some (.bool red) := fun q => cd_cells AX (hC q) 10 rfl
  rw [hkind] at AX k0
  clear hkind
  have K1 := hide (fun q : InC C => calls_inC CS q (kinds_any q.w))
  have K2 := hide (fun q : InC C => calls_inC CS q (at_any [] wDeposit wWithdraw wPlace wCancel wIndex wFund wSweep 1 q.w))
  have e1 : atW [[], wDeposit, wWithdraw, wPlace, wCancel, wIndex, wFund, wSweep] 1 = wDeposit := rfl
  rw [e1] at K2
  clear hC hCC CS e1
  go_wp2_with fail
  refine wp_region_inC C mixed (by kernel_rfl) C0.out ?_
  repeat (go_big_quiet_step (first | (go_at_call 47; refine K1.out _) | (go_at_call 48; refine K2.out _) | exact rfl))
  refine wpQuiet_nil ?_
  rintro _ ⟨q6, rfl⟩
  have HC1 := hide (CB.out q6)
  obtain ⟨Y, hY⟩ : ∃ Y, Y = q6.w := ⟨_, rfl⟩
  rw [← hY] at HC1 ⊢
  have AY := cdAt_below AX HC1.out
  have BY := hide (onward BX.out HC1.out)
  have EY := hide (EX.out.below HC1.out)
  clear hY k0 k1 k2 k3 k4 k5 k6 k7 k8 k9 k10 K1 K2 CB C0 AX BX EX HC1
  clear q6
  clear C
  clear X
  have c0 := cd_cells AY (Below.refl _ Y) 0 rfl
  have c1 := cd_cells AY (Below.refl _ Y) 1 rfl
  have c2 := cd_cells AY (Below.refl _ Y) 2 rfl
  have c3 := cd_cells AY (Below.refl _ Y) 3 rfl
  simp only [List.getElem_toArray, List.getElem_cons_zero, List.getElem_cons_succ] at c0 c1 c2 c3
  have pc := pair_cells Y ac n _ (Below.refl _ _)
  have PH := hide (phrase_any wDeposit Y.heap.size ac n (Y.alloc (.cells #[.int .i64 ac, .int .i64 n] 3)) (by decide) HF.out.ac HF.out.n (EY.out.below (below_alloc Y _)) pc.1 pc.2)
  clear pc
  go_wp2_with fail
  refine PH.out.mono ?_
  rintro e Z ⟨rfl, hb⟩
  have BZ := hide (onward BY.out (onward (below_alloc Y _) hb))
  clear hb PH c0 c1 c2 c3
  go_wp2
  refine bodyPost_ret (v := .tuple #[sV (wDeposit ++ 32 :: (itoa ac ++ 32 :: itoa n)), .int .i64 0]) (by simp [results, Tryz.results27, go_sem]) rfl ?_
  exact ⟨rfl, BZ.out⟩
set_option maxHeartbeats 4000000 in
set_option maxRecDepth 100000 in
theorem print_2 (ac mkt n oi oa sd pr qt how : Int) (red : Bool) (w : World) (h : checkC ⟨2, ac, mkt, n, oi, oa, sd, pr, qt, how, red⟩ = 0) (hf : Cd.fits ⟨2, ac, mkt, n, oi, oa, sd, pr, qt, how, red⟩) (E : Env w) :
    Calls Tryz.prog 27 #[cdV ⟨2, ac, mkt, n, oi, oa, sd, pr, qt, how, red⟩] w fun e w' => e = .returned (.tuple #[sV (printC ⟨2, ac, mkt, n, oi, oa, sd, pr, qt, how, red⟩), .int .i64 0]) ∧ Below w.heap.size w w' := by
  have mixed : Tryz.prog.follows .mixedOrders = true := by kernel_rfl
  rw [print_acc (.inr (.inl rfl))]
  obtain ⟨W, hW⟩ : ∃ W, W = w.alloc (cdO ⟨2, ac, mkt, n, oi, oa, sd, pr, qt, how, red⟩) := ⟨_, rfl⟩
  have AT : CdAt W w.heap.size ⟨2, ac, mkt, n, oi, oa, sd, pr, qt, how, red⟩ := by show W.heap[w.heap.size]? = _; rw [hW]; exact heap_alloc_new w _
  have BW : Hid (Below w.heap.size w W) := by rw [hW]; exact below_alloc w _
  have EW := hide (E.below BW.out)
  have HW := hide hW
  have CK := hide (check_any ⟨2, ac, mkt, n, oi, oa, sd, pr, qt, how, red⟩ W hf.sd)
  rw [h] at CK
  have c0 := cd_cells AT (Below.refl _ W) 0 rfl
  have c1 := cd_cells AT (Below.refl _ W) 1 rfl
  have c2 := cd_cells AT (Below.refl _ W) 2 rfl
  have c3 := cd_cells AT (Below.refl _ W) 3 rfl
  have c4 := cd_cells AT (Below.refl _ W) 4 rfl
  have c5 := cd_cells AT (Below.refl _ W) 5 rfl
  have c6 := cd_cells AT (Below.refl _ W) 6 rfl
  have c7 := cd_cells AT (Below.refl _ W) 7 rfl
  have c8 := cd_cells AT (Below.refl _ W) 8 rfl
  have c9 := cd_cells AT (Below.refl _ W) 9 rfl
  have c10 := cd_cells AT (Below.refl _ W) 10 rfl
  simp only [List.getElem_toArray, List.getElem_cons_zero, List.getElem_cons_succ] at c0 c1 c2 c3 c4 c5 c6 c7 c8 c9 c10
  have HF := hide hf
  clear hW h hf E
  go_enter Tryz.func27, Tryz.ntmps27
  go_wp2_with (rw [← HW.out])
  refine CK.out.mono ?_
  rintro e X ⟨rfl, hb⟩
  have AX := cdAt_below AT hb
  have BX := hide (onward BW.out hb)
  have EX := hide (EW.out.below hb)
  clear c0 c1 c2 c3 c4 c5 c6 c7 c8 c9 c10 hb AT BW EW CK HW
  clear W
  obtain ⟨kind, hkind⟩ : ∃ kind : Int, kind = 2 := ⟨_, rfl⟩
  rw [← hkind] at AX
  have hC : ∀ q : InC (fun x => Below X.heap.size X x), Below X.heap.size X q.w := fun q => q.h
  generalize hCC : (fun x => Below X.heap.size X x) = C at hC
  have CS : ∀ x y, C x → Below x.heap.size x y → C y := by rw [← hCC]; exact fun x y hx hy => onward hx hy
  have C0 : Hid (C X.drew) := by rw [← hCC]; exact (Below.refl _ X).drew
  have CB := hide hC
  have k0 : ∀ q : InC C, q.w.cell? ⟨w.heap.size, 0, none⟩ = some (.int .i64 kind) := fun q => cd_cells AX (hC q) 0 rfl
  have k1 : ∀ q : InC C, q.w.cell? ⟨w.heap.size, 1, none⟩ = some (.int .i64 ac) := fun q => cd_cells AX (hC q) 1 rfl
  have k2 : ∀ q : InC C, q.w.cell? ⟨w.heap.size, 2, none⟩ = some (.int .i64 mkt) := fun q => cd_cells AX (hC q) 2 rfl
  have k3 : ∀ q : InC C, q.w.cell? ⟨w.heap.size, 3, none⟩ = some (.int .i64 n) := fun q => cd_cells AX (hC q) 3 rfl
  have k4 : ∀ q : InC C, q.w.cell? ⟨w.heap.size, 4, none⟩ = some (.int .i64 oi) := fun q => cd_cells AX (hC q) 4 rfl
  have k5 : ∀ q : InC C, q.w.cell? ⟨w.heap.size, 5, none⟩ = some (.int .i64 oa) := fun q => cd_cells AX (hC q) 5 rfl
  have k6 : ∀ q : InC C, q.w.cell? ⟨w.heap.size, 6, none⟩ = some (.int .i64 sd) := fun q => cd_cells AX (hC q) 6 rfl
  have k7 : ∀ q : InC C, q.w.cell? ⟨w.heap.size, 7, none⟩ = some (.int .i64 pr) := fun q => cd_cells AX (hC q) 7 rfl
  have k8 : ∀ q : InC C, q.w.cell? ⟨w.heap.size, 8, none⟩ = some (.int .i64 qt) := fun q => cd_cells AX (hC q) 8 rfl
  have k9 : ∀ q : InC C, q.w.cell? ⟨w.heap.size, 9, none⟩ = some (.int .i64 how) := fun q => cd_cells AX (hC q) 9 rfl
  have k10 : ∀ q : InC C, q.w.cell? ⟨w.heap.size, 10, none⟩ = some (.bool red) := fun q => cd_cells AX (hC q) 10 rfl
  rw [hkind] at AX k0
  clear hkind
  have K1 := hide (fun q : InC C => calls_inC CS q (kinds_any q.w))
  have K2 := hide (fun q : InC C => calls_inC CS q (at_any [] wDeposit wWithdraw wPlace wCancel wIndex wFund wSweep 2 q.w))
  have e1 : atW [[], wDeposit, wWithdraw, wPlace, wCancel, wIndex, wFund, wSweep] 2 = wWithdraw := rfl
  rw [e1] at K2
  clear hC hCC CS e1
  go_wp2_with fail
  refine wp_region_inC C mixed (by kernel_rfl) C0.out ?_
  repeat (go_big_quiet_step (first | (go_at_call 47; refine K1.out _) | (go_at_call 48; refine K2.out _) | exact rfl))
  refine wpQuiet_nil ?_
  rintro _ ⟨q6, rfl⟩
  have HC1 := hide (CB.out q6)
  obtain ⟨Y, hY⟩ : ∃ Y, Y = q6.w := ⟨_, rfl⟩
  rw [← hY] at HC1 ⊢
  have AY := cdAt_below AX HC1.out
  have BY := hide (onward BX.out HC1.out)
  have EY := hide (EX.out.below HC1.out)
  clear hY k0 k1 k2 k3 k4 k5 k6 k7 k8 k9 k10 K1 K2 CB C0 AX BX EX HC1
  clear q6
  clear C
  clear X
  have c0 := cd_cells AY (Below.refl _ Y) 0 rfl
  have c1 := cd_cells AY (Below.refl _ Y) 1 rfl
  have c2 := cd_cells AY (Below.refl _ Y) 2 rfl
  have c3 := cd_cells AY (Below.refl _ Y) 3 rfl
  simp only [List.getElem_toArray, List.getElem_cons_zero, List.getElem_cons_succ] at c0 c1 c2 c3
  have pc := pair_cells Y ac n _ (Below.refl _ _)
  have PH := hide (phrase_any wWithdraw Y.heap.size ac n (Y.alloc (.cells #[.int .i64 ac, .int .i64 n] 3)) (by decide) HF.out.ac HF.out.n (EY.out.below (below_alloc Y _)) pc.1 pc.2)
  clear pc
  go_wp2_with fail
  refine PH.out.mono ?_
  rintro e Z ⟨rfl, hb⟩
  have BZ := hide (onward BY.out (onward (below_alloc Y _) hb))
  clear hb PH c0 c1 c2 c3
  go_wp2
  refine bodyPost_ret (v := .tuple #[sV (wWithdraw ++ 32 :: (itoa ac ++ 32 :: itoa n)), .int .i64 0]) (by simp [results, Tryz.results27, go_sem]) rfl ?_
  exact ⟨rfl, BZ.out⟩
set_option maxHeartbeats 4000000 in
set_option maxRecDepth 100000 in
theorem print_4 (ac mkt n oi oa sd pr qt how : Int) (red : Bool) (w : World) (h : checkC ⟨4, ac, mkt, n, oi, oa, sd, pr, qt, how, red⟩ = 0) (hf : Cd.fits ⟨4, ac, mkt, n, oi, oa, sd, pr, qt, how, red⟩) (E : Env w) :
    Calls Tryz.prog 27 #[cdV ⟨4, ac, mkt, n, oi, oa, sd, pr, qt, how, red⟩] w fun e w' => e = .returned (.tuple #[sV (printC ⟨4, ac, mkt, n, oi, oa, sd, pr, qt, how, red⟩), .int .i64 0]) ∧ Below w.heap.size w w' := by
  have mixed : Tryz.prog.follows .mixedOrders = true := by kernel_rfl
  rw [print_acc (.inr (.inr rfl))]
  obtain ⟨W, hW⟩ : ∃ W, W = w.alloc (cdO ⟨4, ac, mkt, n, oi, oa, sd, pr, qt, how, red⟩) := ⟨_, rfl⟩
  have AT : CdAt W w.heap.size ⟨4, ac, mkt, n, oi, oa, sd, pr, qt, how, red⟩ := by show W.heap[w.heap.size]? = _; rw [hW]; exact heap_alloc_new w _
  have BW : Hid (Below w.heap.size w W) := by rw [hW]; exact below_alloc w _
  have EW := hide (E.below BW.out)
  have HW := hide hW
  have CK := hide (check_any ⟨4, ac, mkt, n, oi, oa, sd, pr, qt, how, red⟩ W hf.sd)
  rw [h] at CK
  have c0 := cd_cells AT (Below.refl _ W) 0 rfl
  have c1 := cd_cells AT (Below.refl _ W) 1 rfl
  have c2 := cd_cells AT (Below.refl _ W) 2 rfl
  have c3 := cd_cells AT (Below.refl _ W) 3 rfl
  have c4 := cd_cells AT (Below.refl _ W) 4 rfl
  have c5 := cd_cells AT (Below.refl _ W) 5 rfl
  have c6 := cd_cells AT (Below.refl _ W) 6 rfl
  have c7 := cd_cells AT (Below.refl _ W) 7 rfl
  have c8 := cd_cells AT (Below.refl _ W) 8 rfl
  have c9 := cd_cells AT (Below.refl _ W) 9 rfl
  have c10 := cd_cells AT (Below.refl _ W) 10 rfl
  simp only [List.getElem_toArray, List.getElem_cons_zero, List.getElem_cons_succ] at c0 c1 c2 c3 c4 c5 c6 c7 c8 c9 c10
  have HF := hide hf
  clear hW h hf E
  go_enter Tryz.func27, Tryz.ntmps27
  go_wp2_with (rw [← HW.out])
  refine CK.out.mono ?_
  rintro e X ⟨rfl, hb⟩
  have AX := cdAt_below AT hb
  have BX := hide (onward BW.out hb)
  have EX := hide (EW.out.below hb)
  clear c0 c1 c2 c3 c4 c5 c6 c7 c8 c9 c10 hb AT BW EW CK HW
  clear W
  obtain ⟨kind, hkind⟩ : ∃ kind : Int, kind = 4 := ⟨_, rfl⟩
  rw [← hkind] at AX
  have hC : ∀ q : InC (fun x => Below X.heap.size X x), Below X.heap.size X q.w := fun q => q.h
  generalize hCC : (fun x => Below X.heap.size X x) = C at hC
  have CS : ∀ x y, C x → Below x.heap.size x y → C y := by rw [← hCC]; exact fun x y hx hy => onward hx hy
  have C0 : Hid (C X.drew) := by rw [← hCC]; exact (Below.refl _ X).drew
  have CB := hide hC
  have k0 : ∀ q : InC C, q.w.cell? ⟨w.heap.size, 0, none⟩ = some (.int .i64 kind) := fun q => cd_cells AX (hC q) 0 rfl
  have k1 : ∀ q : InC C, q.w.cell? ⟨w.heap.size, 1, none⟩ = some (.int .i64 ac) := fun q => cd_cells AX (hC q) 1 rfl
  have k2 : ∀ q : InC C, q.w.cell? ⟨w.heap.size, 2, none⟩ = some (.int .i64 mkt) := fun q => cd_cells AX (hC q) 2 rfl
  have k3 : ∀ q : InC C, q.w.cell? ⟨w.heap.size, 3, none⟩ = some (.int .i64 n) := fun q => cd_cells AX (hC q) 3 rfl
  have k4 : ∀ q : InC C, q.w.cell? ⟨w.heap.size, 4, none⟩ = some (.int .i64 oi) := fun q => cd_cells AX (hC q) 4 rfl
  have k5 : ∀ q : InC C, q.w.cell? ⟨w.heap.size, 5, none⟩ = some (.int .i64 oa) := fun q => cd_cells AX (hC q) 5 rfl
  have k6 : ∀ q : InC C, q.w.cell? ⟨w.heap.size, 6, none⟩ = some (.int .i64 sd) := fun q => cd_cells AX (hC q) 6 rfl
  have k7 : ∀ q : InC C, q.w.cell? ⟨w.heap.size, 7, none⟩ = some (.int .i64 pr) := fun q => cd_cells AX (hC q) 7 rfl
  have k8 : ∀ q : InC C, q.w.cell? ⟨w.heap.size, 8, none⟩ = some (.int .i64 qt) := fun q => cd_cells AX (hC q) 8 rfl
  have k9 : ∀ q : InC C, q.w.cell? ⟨w.heap.size, 9, none⟩ = some (.int .i64 how) := fun q => cd_cells AX (hC q) 9 rfl
  have k10 : ∀ q : InC C, q.w.cell? ⟨w.heap.size, 10, none⟩ = some (.bool red) := fun q => cd_cells AX (hC q) 10 rfl
  rw [hkind] at AX k0
  clear hkind
  have K1 := hide (fun q : InC C => calls_inC CS q (kinds_any q.w))
  have K2 := hide (fun q : InC C => calls_inC CS q (at_any [] wDeposit wWithdraw wPlace wCancel wIndex wFund wSweep 4 q.w))
  have e1 : atW [[], wDeposit, wWithdraw, wPlace, wCancel, wIndex, wFund, wSweep] 4 = wCancel := rfl
  rw [e1] at K2
  clear hC hCC CS e1
  go_wp2_with fail
  refine wp_region_inC C mixed (by kernel_rfl) C0.out ?_
  repeat (go_big_quiet_step (first | (go_at_call 47; refine K1.out _) | (go_at_call 48; refine K2.out _) | exact rfl))
  refine wpQuiet_nil ?_
  rintro _ ⟨q6, rfl⟩
  have HC1 := hide (CB.out q6)
  obtain ⟨Y, hY⟩ : ∃ Y, Y = q6.w := ⟨_, rfl⟩
  rw [← hY] at HC1 ⊢
  have AY := cdAt_below AX HC1.out
  have BY := hide (onward BX.out HC1.out)
  have EY := hide (EX.out.below HC1.out)
  clear hY k0 k1 k2 k3 k4 k5 k6 k7 k8 k9 k10 K1 K2 CB C0 AX BX EX HC1
  clear q6
  clear C
  clear X
  have c0 := cd_cells AY (Below.refl _ Y) 0 rfl
  have c1 := cd_cells AY (Below.refl _ Y) 1 rfl
  have c2 := cd_cells AY (Below.refl _ Y) 2 rfl
  have c3 := cd_cells AY (Below.refl _ Y) 3 rfl
  simp only [List.getElem_toArray, List.getElem_cons_zero, List.getElem_cons_succ] at c0 c1 c2 c3
  have pc := pair_cells Y ac n _ (Below.refl _ _)
  have PH := hide (phrase_any wCancel Y.heap.size ac n (Y.alloc (.cells #[.int .i64 ac, .int .i64 n] 3)) (by decide) HF.out.ac HF.out.n (EY.out.below (below_alloc Y _)) pc.1 pc.2)
  clear pc
  go_wp2_with fail
  refine PH.out.mono ?_
  rintro e Z ⟨rfl, hb⟩
  have BZ := hide (onward BY.out (onward (below_alloc Y _) hb))
  clear hb PH c0 c1 c2 c3
  go_wp2
  refine bodyPost_ret (v := .tuple #[sV (wCancel ++ 32 :: (itoa ac ++ 32 :: itoa n)), .int .i64 0]) (by simp [results, Tryz.results27, go_sem]) rfl ?_
  exact ⟨rfl, BZ.out⟩
set_option maxHeartbeats 4000000 in
set_option maxRecDepth 100000 in
theorem print_5 (ac mkt n oi oa sd pr qt how : Int) (red : Bool) (w : World) (h : checkC ⟨5, ac, mkt, n, oi, oa, sd, pr, qt, how, red⟩ = 0) (hf : Cd.fits ⟨5, ac, mkt, n, oi, oa, sd, pr, qt, how, red⟩) (E : Env w) :
    Calls Tryz.prog 27 #[cdV ⟨5, ac, mkt, n, oi, oa, sd, pr, qt, how, red⟩] w fun e w' => e = .returned (.tuple #[sV (printC ⟨5, ac, mkt, n, oi, oa, sd, pr, qt, how, red⟩), .int .i64 0]) ∧ Below w.heap.size w w' := by
  have mixed : Tryz.prog.follows .mixedOrders = true := by kernel_rfl
  rw [print_mkt (.inl rfl)]
  obtain ⟨W, hW⟩ : ∃ W, W = w.alloc (cdO ⟨5, ac, mkt, n, oi, oa, sd, pr, qt, how, red⟩) := ⟨_, rfl⟩
  have AT : CdAt W w.heap.size ⟨5, ac, mkt, n, oi, oa, sd, pr, qt, how, red⟩ := by show W.heap[w.heap.size]? = _; rw [hW]; exact heap_alloc_new w _
  have BW : Hid (Below w.heap.size w W) := by rw [hW]; exact below_alloc w _
  have EW := hide (E.below BW.out)
  have HW := hide hW
  have CK := hide (check_any ⟨5, ac, mkt, n, oi, oa, sd, pr, qt, how, red⟩ W hf.sd)
  rw [h] at CK
  have c0 := cd_cells AT (Below.refl _ W) 0 rfl
  have c1 := cd_cells AT (Below.refl _ W) 1 rfl
  have c2 := cd_cells AT (Below.refl _ W) 2 rfl
  have c3 := cd_cells AT (Below.refl _ W) 3 rfl
  have c4 := cd_cells AT (Below.refl _ W) 4 rfl
  have c5 := cd_cells AT (Below.refl _ W) 5 rfl
  have c6 := cd_cells AT (Below.refl _ W) 6 rfl
  have c7 := cd_cells AT (Below.refl _ W) 7 rfl
  have c8 := cd_cells AT (Below.refl _ W) 8 rfl
  have c9 := cd_cells AT (Below.refl _ W) 9 rfl
  have c10 := cd_cells AT (Below.refl _ W) 10 rfl
  simp only [List.getElem_toArray, List.getElem_cons_zero, List.getElem_cons_succ] at c0 c1 c2 c3 c4 c5 c6 c7 c8 c9 c10
  have HF := hide hf
  clear hW h hf E
  go_enter Tryz.func27, Tryz.ntmps27
  go_wp2_with (rw [← HW.out])
  refine CK.out.mono ?_
  rintro e X ⟨rfl, hb⟩
  have AX := cdAt_below AT hb
  have BX := hide (onward BW.out hb)
  have EX := hide (EW.out.below hb)
  clear c0 c1 c2 c3 c4 c5 c6 c7 c8 c9 c10 hb AT BW EW CK HW
  clear W
  obtain ⟨kind, hkind⟩ : ∃ kind : Int, kind = 5 := ⟨_, rfl⟩
  rw [← hkind] at AX
  have hC : ∀ q : InC (fun x => Below X.heap.size X x), Below X.heap.size X q.w := fun q => q.h
  generalize hCC : (fun x => Below X.heap.size X x) = C at hC
  have CS : ∀ x y, C x → Below x.heap.size x y → C y := by rw [← hCC]; exact fun x y hx hy => onward hx hy
  have C0 : Hid (C X.drew) := by rw [← hCC]; exact (Below.refl _ X).drew
  have CB := hide hC
  have k0 : ∀ q : InC C, q.w.cell? ⟨w.heap.size, 0, none⟩ = some (.int .i64 kind) := fun q => cd_cells AX (hC q) 0 rfl
  have k1 : ∀ q : InC C, q.w.cell? ⟨w.heap.size, 1, none⟩ = some (.int .i64 ac) := fun q => cd_cells AX (hC q) 1 rfl
  have k2 : ∀ q : InC C, q.w.cell? ⟨w.heap.size, 2, none⟩ = some (.int .i64 mkt) := fun q => cd_cells AX (hC q) 2 rfl
  have k3 : ∀ q : InC C, q.w.cell? ⟨w.heap.size, 3, none⟩ = some (.int .i64 n) := fun q => cd_cells AX (hC q) 3 rfl
  have k4 : ∀ q : InC C, q.w.cell? ⟨w.heap.size, 4, none⟩ = some (.int .i64 oi) := fun q => cd_cells AX (hC q) 4 rfl
  have k5 : ∀ q : InC C, q.w.cell? ⟨w.heap.size, 5, none⟩ = some (.int .i64 oa) := fun q => cd_cells AX (hC q) 5 rfl
  have k6 : ∀ q : InC C, q.w.cell? ⟨w.heap.size, 6, none⟩ = some (.int .i64 sd) := fun q => cd_cells AX (hC q) 6 rfl
  have k7 : ∀ q : InC C, q.w.cell? ⟨w.heap.size, 7, none⟩ = some (.int .i64 pr) := fun q => cd_cells AX (hC q) 7 rfl
  have k8 : ∀ q : InC C, q.w.cell? ⟨w.heap.size, 8, none⟩ = some (.int .i64 qt) := fun q => cd_cells AX (hC q) 8 rfl
  have k9 : ∀ q : InC C, q.w.cell? ⟨w.heap.size, 9, none⟩ = some (.int .i64 how) := fun q => cd_cells AX (hC q) 9 rfl
  have k10 : ∀ q : InC C, q.w.cell? ⟨w.heap.size, 10, none⟩ = some (.bool red) := fun q => cd_cells AX (hC q) 10 rfl
  rw [hkind] at AX k0
  clear hkind
  have K1 := hide (fun q : InC C => calls_inC CS q (kinds_any q.w))
  have K2 := hide (fun q : InC C => calls_inC CS q (at_any [] wDeposit wWithdraw wPlace wCancel wIndex wFund wSweep 5 q.w))
  have e1 : atW [[], wDeposit, wWithdraw, wPlace, wCancel, wIndex, wFund, wSweep] 5 = wIndex := rfl
  rw [e1] at K2
  clear hC hCC CS e1
  go_wp2_with fail
  refine wp_region_inC C mixed (by kernel_rfl) C0.out ?_
  repeat (go_big_quiet_step (first | (go_at_call 47; refine K1.out _) | (go_at_call 48; refine K2.out _) | exact rfl))
  refine wpQuiet_nil ?_
  rintro _ ⟨q6, rfl⟩
  have HC1 := hide (CB.out q6)
  obtain ⟨Y, hY⟩ : ∃ Y, Y = q6.w := ⟨_, rfl⟩
  rw [← hY] at HC1 ⊢
  have AY := cdAt_below AX HC1.out
  have BY := hide (onward BX.out HC1.out)
  have EY := hide (EX.out.below HC1.out)
  clear hY k0 k1 k2 k3 k4 k5 k6 k7 k8 k9 k10 K1 K2 CB C0 AX BX EX HC1
  clear q6
  clear C
  clear X
  have c0 := cd_cells AY (Below.refl _ Y) 0 rfl
  have c1 := cd_cells AY (Below.refl _ Y) 1 rfl
  have c2 := cd_cells AY (Below.refl _ Y) 2 rfl
  have c3 := cd_cells AY (Below.refl _ Y) 3 rfl
  simp only [List.getElem_toArray, List.getElem_cons_zero, List.getElem_cons_succ] at c0 c1 c2 c3
  have pc := pair_cells Y mkt n _ (Below.refl _ _)
  have PH := hide (phrase_any wIndex Y.heap.size mkt n (Y.alloc (.cells #[.int .i64 mkt, .int .i64 n] 3)) (by decide) HF.out.mkt HF.out.n (EY.out.below (below_alloc Y _)) pc.1 pc.2)
  clear pc
  go_wp2_with fail
  refine PH.out.mono ?_
  rintro e Z ⟨rfl, hb⟩
  have BZ := hide (onward BY.out (onward (below_alloc Y _) hb))
  clear hb PH c0 c1 c2 c3
  go_wp2
  refine bodyPost_ret (v := .tuple #[sV (wIndex ++ 32 :: (itoa mkt ++ 32 :: itoa n)), .int .i64 0]) (by simp [results, Tryz.results27, go_sem]) rfl ?_
  exact ⟨rfl, BZ.out⟩
set_option maxHeartbeats 4000000 in
set_option maxRecDepth 100000 in
theorem print_6 (ac mkt n oi oa sd pr qt how : Int) (red : Bool) (w : World) (h : checkC ⟨6, ac, mkt, n, oi, oa, sd, pr, qt, how, red⟩ = 0) (hf : Cd.fits ⟨6, ac, mkt, n, oi, oa, sd, pr, qt, how, red⟩) (E : Env w) :
    Calls Tryz.prog 27 #[cdV ⟨6, ac, mkt, n, oi, oa, sd, pr, qt, how, red⟩] w fun e w' => e = .returned (.tuple #[sV (printC ⟨6, ac, mkt, n, oi, oa, sd, pr, qt, how, red⟩), .int .i64 0]) ∧ Below w.heap.size w w' := by
  have mixed : Tryz.prog.follows .mixedOrders = true := by kernel_rfl
  rw [print_mkt (.inr rfl)]
  obtain ⟨W, hW⟩ : ∃ W, W = w.alloc (cdO ⟨6, ac, mkt, n, oi, oa, sd, pr, qt, how, red⟩) := ⟨_, rfl⟩
  have AT : CdAt W w.heap.size ⟨6, ac, mkt, n, oi, oa, sd, pr, qt, how, red⟩ := by show W.heap[w.heap.size]? = _; rw [hW]; exact heap_alloc_new w _
  have BW : Hid (Below w.heap.size w W) := by rw [hW]; exact below_alloc w _
  have EW := hide (E.below BW.out)
  have HW := hide hW
  have CK := hide (check_any ⟨6, ac, mkt, n, oi, oa, sd, pr, qt, how, red⟩ W hf.sd)
  rw [h] at CK
  have c0 := cd_cells AT (Below.refl _ W) 0 rfl
  have c1 := cd_cells AT (Below.refl _ W) 1 rfl
  have c2 := cd_cells AT (Below.refl _ W) 2 rfl
  have c3 := cd_cells AT (Below.refl _ W) 3 rfl
  have c4 := cd_cells AT (Below.refl _ W) 4 rfl
  have c5 := cd_cells AT (Below.refl _ W) 5 rfl
  have c6 := cd_cells AT (Below.refl _ W) 6 rfl
  have c7 := cd_cells AT (Below.refl _ W) 7 rfl
  have c8 := cd_cells AT (Below.refl _ W) 8 rfl
  have c9 := cd_cells AT (Below.refl _ W) 9 rfl
  have c10 := cd_cells AT (Below.refl _ W) 10 rfl
  simp only [List.getElem_toArray, List.getElem_cons_zero, List.getElem_cons_succ] at c0 c1 c2 c3 c4 c5 c6 c7 c8 c9 c10
  have HF := hide hf
  clear hW h hf E
  go_enter Tryz.func27, Tryz.ntmps27
  go_wp2_with (rw [← HW.out])
  refine CK.out.mono ?_
  rintro e X ⟨rfl, hb⟩
  have AX := cdAt_below AT hb
  have BX := hide (onward BW.out hb)
  have EX := hide (EW.out.below hb)
  clear c0 c1 c2 c3 c4 c5 c6 c7 c8 c9 c10 hb AT BW EW CK HW
  clear W
  obtain ⟨kind, hkind⟩ : ∃ kind : Int, kind = 6 := ⟨_, rfl⟩
  rw [← hkind] at AX
  have hC : ∀ q : InC (fun x => Below X.heap.size X x), Below X.heap.size X q.w := fun q => q.h
  generalize hCC : (fun x => Below X.heap.size X x) = C at hC
  have CS : ∀ x y, C x → Below x.heap.size x y → C y := by rw [← hCC]; exact fun x y hx hy => onward hx hy
  have C0 : Hid (C X.drew) := by rw [← hCC]; exact (Below.refl _ X).drew
  have CB := hide hC
  have k0 : ∀ q : InC C, q.w.cell? ⟨w.heap.size, 0, none⟩ = some (.int .i64 kind) := fun q => cd_cells AX (hC q) 0 rfl
  have k1 : ∀ q : InC C, q.w.cell? ⟨w.heap.size, 1, none⟩ = some (.int .i64 ac) := fun q => cd_cells AX (hC q) 1 rfl
  have k2 : ∀ q : InC C, q.w.cell? ⟨w.heap.size, 2, none⟩ = some (.int .i64 mkt) := fun q => cd_cells AX (hC q) 2 rfl
  have k3 : ∀ q : InC C, q.w.cell? ⟨w.heap.size, 3, none⟩ = some (.int .i64 n) := fun q => cd_cells AX (hC q) 3 rfl
  have k4 : ∀ q : InC C, q.w.cell? ⟨w.heap.size, 4, none⟩ = some (.int .i64 oi) := fun q => cd_cells AX (hC q) 4 rfl
  have k5 : ∀ q : InC C, q.w.cell? ⟨w.heap.size, 5, none⟩ = some (.int .i64 oa) := fun q => cd_cells AX (hC q) 5 rfl
  have k6 : ∀ q : InC C, q.w.cell? ⟨w.heap.size, 6, none⟩ = some (.int .i64 sd) := fun q => cd_cells AX (hC q) 6 rfl
  have k7 : ∀ q : InC C, q.w.cell? ⟨w.heap.size, 7, none⟩ = some (.int .i64 pr) := fun q => cd_cells AX (hC q) 7 rfl
  have k8 : ∀ q : InC C, q.w.cell? ⟨w.heap.size, 8, none⟩ = some (.int .i64 qt) := fun q => cd_cells AX (hC q) 8 rfl
  have k9 : ∀ q : InC C, q.w.cell? ⟨w.heap.size, 9, none⟩ = some (.int .i64 how) := fun q => cd_cells AX (hC q) 9 rfl
  have k10 : ∀ q : InC C, q.w.cell? ⟨w.heap.size, 10, none⟩ = some (.bool red) := fun q => cd_cells AX (hC q) 10 rfl
  rw [hkind] at AX k0
  clear hkind
  have K1 := hide (fun q : InC C => calls_inC CS q (kinds_any q.w))
  have K2 := hide (fun q : InC C => calls_inC CS q (at_any [] wDeposit wWithdraw wPlace wCancel wIndex wFund wSweep 6 q.w))
  have e1 : atW [[], wDeposit, wWithdraw, wPlace, wCancel, wIndex, wFund, wSweep] 6 = wFund := rfl
  rw [e1] at K2
  clear hC hCC CS e1
  go_wp2_with fail
  refine wp_region_inC C mixed (by kernel_rfl) C0.out ?_
  repeat (go_big_quiet_step (first | (go_at_call 47; refine K1.out _) | (go_at_call 48; refine K2.out _) | exact rfl))
  refine wpQuiet_nil ?_
  rintro _ ⟨q6, rfl⟩
  have HC1 := hide (CB.out q6)
  obtain ⟨Y, hY⟩ : ∃ Y, Y = q6.w := ⟨_, rfl⟩
  rw [← hY] at HC1 ⊢
  have AY := cdAt_below AX HC1.out
  have BY := hide (onward BX.out HC1.out)
  have EY := hide (EX.out.below HC1.out)
  clear hY k0 k1 k2 k3 k4 k5 k6 k7 k8 k9 k10 K1 K2 CB C0 AX BX EX HC1
  clear q6
  clear C
  clear X
  have c0 := cd_cells AY (Below.refl _ Y) 0 rfl
  have c1 := cd_cells AY (Below.refl _ Y) 1 rfl
  have c2 := cd_cells AY (Below.refl _ Y) 2 rfl
  have c3 := cd_cells AY (Below.refl _ Y) 3 rfl
  simp only [List.getElem_toArray, List.getElem_cons_zero, List.getElem_cons_succ] at c0 c1 c2 c3
  have pc := pair_cells Y mkt n _ (Below.refl _ _)
  have PH := hide (phrase_any wFund Y.heap.size mkt n (Y.alloc (.cells #[.int .i64 mkt, .int .i64 n] 3)) (by decide) HF.out.mkt HF.out.n (EY.out.below (below_alloc Y _)) pc.1 pc.2)
  clear pc
  go_wp2_with fail
  refine PH.out.mono ?_
  rintro e Z ⟨rfl, hb⟩
  have BZ := hide (onward BY.out (onward (below_alloc Y _) hb))
  clear hb PH c0 c1 c2 c3
  go_wp2
  refine bodyPost_ret (v := .tuple #[sV (wFund ++ 32 :: (itoa mkt ++ 32 :: itoa n)), .int .i64 0]) (by simp [results, Tryz.results27, go_sem]) rfl ?_
  exact ⟨rfl, BZ.out⟩
set_option maxHeartbeats 4000000 in
set_option maxRecDepth 100000 in
theorem print_7 (ac mkt n oi oa sd pr qt how : Int) (red : Bool) (w : World) (h : checkC ⟨7, ac, mkt, n, oi, oa, sd, pr, qt, how, red⟩ = 0) (hf : Cd.fits ⟨7, ac, mkt, n, oi, oa, sd, pr, qt, how, red⟩) (E : Env w) :
    Calls Tryz.prog 27 #[cdV ⟨7, ac, mkt, n, oi, oa, sd, pr, qt, how, red⟩] w fun e w' => e = .returned (.tuple #[sV (printC ⟨7, ac, mkt, n, oi, oa, sd, pr, qt, how, red⟩), .int .i64 0]) ∧ Below w.heap.size w w' := by
  have mixed : Tryz.prog.follows .mixedOrders = true := by kernel_rfl
  rw [print_sweep rfl]
  obtain ⟨W, hW⟩ : ∃ W, W = w.alloc (cdO ⟨7, ac, mkt, n, oi, oa, sd, pr, qt, how, red⟩) := ⟨_, rfl⟩
  have AT : CdAt W w.heap.size ⟨7, ac, mkt, n, oi, oa, sd, pr, qt, how, red⟩ := by show W.heap[w.heap.size]? = _; rw [hW]; exact heap_alloc_new w _
  have BW : Hid (Below w.heap.size w W) := by rw [hW]; exact below_alloc w _
  have EW := hide (E.below BW.out)
  have HW := hide hW
  have CK := hide (check_any ⟨7, ac, mkt, n, oi, oa, sd, pr, qt, how, red⟩ W hf.sd)
  rw [h] at CK
  have c0 := cd_cells AT (Below.refl _ W) 0 rfl
  have c1 := cd_cells AT (Below.refl _ W) 1 rfl
  have c2 := cd_cells AT (Below.refl _ W) 2 rfl
  have c3 := cd_cells AT (Below.refl _ W) 3 rfl
  have c4 := cd_cells AT (Below.refl _ W) 4 rfl
  have c5 := cd_cells AT (Below.refl _ W) 5 rfl
  have c6 := cd_cells AT (Below.refl _ W) 6 rfl
  have c7 := cd_cells AT (Below.refl _ W) 7 rfl
  have c8 := cd_cells AT (Below.refl _ W) 8 rfl
  have c9 := cd_cells AT (Below.refl _ W) 9 rfl
  have c10 := cd_cells AT (Below.refl _ W) 10 rfl
  simp only [List.getElem_toArray, List.getElem_cons_zero, List.getElem_cons_succ] at c0 c1 c2 c3 c4 c5 c6 c7 c8 c9 c10
  have HF := hide hf
  clear hW h hf E
  go_enter Tryz.func27, Tryz.ntmps27
  go_wp2_with (rw [← HW.out])
  refine CK.out.mono ?_
  rintro e X ⟨rfl, hb⟩
  have AX := cdAt_below AT hb
  have BX := hide (onward BW.out hb)
  have EX := hide (EW.out.below hb)
  clear c0 c1 c2 c3 c4 c5 c6 c7 c8 c9 c10 hb AT BW EW CK HW
  clear W
  obtain ⟨kind, hkind⟩ : ∃ kind : Int, kind = 7 := ⟨_, rfl⟩
  rw [← hkind] at AX
  have hC : ∀ q : InC (fun x => Below X.heap.size X x), Below X.heap.size X q.w := fun q => q.h
  generalize hCC : (fun x => Below X.heap.size X x) = C at hC
  have CS : ∀ x y, C x → Below x.heap.size x y → C y := by rw [← hCC]; exact fun x y hx hy => onward hx hy
  have C0 : Hid (C X.drew) := by rw [← hCC]; exact (Below.refl _ X).drew
  have CB := hide hC
  have k0 : ∀ q : InC C, q.w.cell? ⟨w.heap.size, 0, none⟩ = some (.int .i64 kind) := fun q => cd_cells AX (hC q) 0 rfl
  have k1 : ∀ q : InC C, q.w.cell? ⟨w.heap.size, 1, none⟩ = some (.int .i64 ac) := fun q => cd_cells AX (hC q) 1 rfl
  have k2 : ∀ q : InC C, q.w.cell? ⟨w.heap.size, 2, none⟩ = some (.int .i64 mkt) := fun q => cd_cells AX (hC q) 2 rfl
  have k3 : ∀ q : InC C, q.w.cell? ⟨w.heap.size, 3, none⟩ = some (.int .i64 n) := fun q => cd_cells AX (hC q) 3 rfl
  have k4 : ∀ q : InC C, q.w.cell? ⟨w.heap.size, 4, none⟩ = some (.int .i64 oi) := fun q => cd_cells AX (hC q) 4 rfl
  have k5 : ∀ q : InC C, q.w.cell? ⟨w.heap.size, 5, none⟩ = some (.int .i64 oa) := fun q => cd_cells AX (hC q) 5 rfl
  have k6 : ∀ q : InC C, q.w.cell? ⟨w.heap.size, 6, none⟩ = some (.int .i64 sd) := fun q => cd_cells AX (hC q) 6 rfl
  have k7 : ∀ q : InC C, q.w.cell? ⟨w.heap.size, 7, none⟩ = some (.int .i64 pr) := fun q => cd_cells AX (hC q) 7 rfl
  have k8 : ∀ q : InC C, q.w.cell? ⟨w.heap.size, 8, none⟩ = some (.int .i64 qt) := fun q => cd_cells AX (hC q) 8 rfl
  have k9 : ∀ q : InC C, q.w.cell? ⟨w.heap.size, 9, none⟩ = some (.int .i64 how) := fun q => cd_cells AX (hC q) 9 rfl
  have k10 : ∀ q : InC C, q.w.cell? ⟨w.heap.size, 10, none⟩ = some (.bool red) := fun q => cd_cells AX (hC q) 10 rfl
  rw [hkind] at AX k0
  clear hkind
  have K1 := hide (fun q : InC C => calls_inC CS q (kinds_any q.w))
  have K2 := hide (fun q : InC C => calls_inC CS q (at_any [] wDeposit wWithdraw wPlace wCancel wIndex wFund wSweep 7 q.w))
  have e1 : atW [[], wDeposit, wWithdraw, wPlace, wCancel, wIndex, wFund, wSweep] 7 = wSweep := rfl
  rw [e1] at K2
  clear hC hCC CS e1
  go_wp2_with fail
  refine wp_region_inC C mixed (by kernel_rfl) C0.out ?_
  repeat (go_big_quiet_step (first | (go_at_call 47; refine K1.out _) | (go_at_call 48; refine K2.out _) | exact rfl))
  refine wpQuiet_nil ?_
  rintro _ ⟨q6, rfl⟩
  have HC1 := hide (CB.out q6)
  obtain ⟨Y, hY⟩ : ∃ Y, Y = q6.w := ⟨_, rfl⟩
  rw [← hY] at HC1 ⊢
  have AY := cdAt_below AX HC1.out
  have BY := hide (onward BX.out HC1.out)
  have EY := hide (EX.out.below HC1.out)
  clear hY k0 k1 k2 k3 k4 k5 k6 k7 k8 k9 k10 K1 K2 CB C0 AX BX EX HC1
  clear q6
  clear C
  clear X
  have c0 := cd_cells AY (Below.refl _ Y) 0 rfl
  simp only [List.getElem_toArray, List.getElem_cons_zero] at c0
  go_wp2
  refine bodyPost_ret (v := .tuple #[sV wSweep, .int .i64 0]) (by simp [results, Tryz.results27, go_sem]) rfl ?_
  exact ⟨rfl, BY.out⟩
set_option maxHeartbeats 4000000 in
set_option maxRecDepth 100000 in
theorem print_3 (ac mkt n oi oa sd pr qt how : Int) (red : Bool) (w : World) (h : checkC ⟨3, ac, mkt, n, oi, oa, sd, pr, qt, how, red⟩ = 0) (hf : Cd.fits ⟨3, ac, mkt, n, oi, oa, sd, pr, qt, how, red⟩) (E : Env w) :
    Calls Tryz.prog 27 #[cdV ⟨3, ac, mkt, n, oi, oa, sd, pr, qt, how, red⟩] w fun e w' => e = .returned (.tuple #[sV (printC ⟨3, ac, mkt, n, oi, oa, sd, pr, qt, how, red⟩), .int .i64 0]) ∧ Below w.heap.size w w' := by
  have mixed : Tryz.prog.follows .mixedOrders = true := by kernel_rfl
  rw [print_place rfl]
  have lo : (orderB ⟨3, ac, mkt, n, oi, oa, sd, pr, qt, how, red⟩ ++ redB ⟨3, ac, mkt, n, oi, oa, sd, pr, qt, how, red⟩).length ≤ 200 := by
    have := print_len hf
    rw [print_place rfl, List.length_append, List.length_cons] at this
    omega
  have la := itoa_len hf.ac
  have lm := itoa_len hf.mkt
  dsimp only at la lm
  have OR := hide (fun w (E : Env w) => order_any ⟨3, ac, mkt, n, oi, oa, sd, pr, qt, how, red⟩ w hf E)
  generalize orderB ⟨3, ac, mkt, n, oi, oa, sd, pr, qt, how, red⟩ ++ redB ⟨3, ac, mkt, n, oi, oa, sd, pr, qt, how, red⟩ = ob at *
  obtain ⟨W, hW⟩ : ∃ W, W = w.alloc (cdO ⟨3, ac, mkt, n, oi, oa, sd, pr, qt, how, red⟩) := ⟨_, rfl⟩
  have AT : CdAt W w.heap.size ⟨3, ac, mkt, n, oi, oa, sd, pr, qt, how, red⟩ := by show W.heap[w.heap.size]? = _; rw [hW]; exact heap_alloc_new w _
  have BW : Hid (Below w.heap.size w W) := by rw [hW]; exact below_alloc w _
  have EW := hide (E.below BW.out)
  have HW := hide hW
  have CK := hide (check_any ⟨3, ac, mkt, n, oi, oa, sd, pr, qt, how, red⟩ W hf.sd)
  rw [h] at CK
  have c0 := cd_cells AT (Below.refl _ W) 0 rfl
  have c1 := cd_cells AT (Below.refl _ W) 1 rfl
  have c2 := cd_cells AT (Below.refl _ W) 2 rfl
  have c3 := cd_cells AT (Below.refl _ W) 3 rfl
  have c4 := cd_cells AT (Below.refl _ W) 4 rfl
  have c5 := cd_cells AT (Below.refl _ W) 5 rfl
  have c6 := cd_cells AT (Below.refl _ W) 6 rfl
  have c7 := cd_cells AT (Below.refl _ W) 7 rfl
  have c8 := cd_cells AT (Below.refl _ W) 8 rfl
  have c9 := cd_cells AT (Below.refl _ W) 9 rfl
  have c10 := cd_cells AT (Below.refl _ W) 10 rfl
  simp only [List.getElem_toArray, List.getElem_cons_zero, List.getElem_cons_succ] at c0 c1 c2 c3 c4 c5 c6 c7 c8 c9 c10
  have HF := hide hf
  clear hW h hf E
  go_enter Tryz.func27, Tryz.ntmps27
  go_wp2_with (rw [← HW.out])
  refine CK.out.mono ?_
  rintro e X ⟨rfl, hb⟩
  have AX := cdAt_below AT hb
  have BX := hide (onward BW.out hb)
  have EX := hide (EW.out.below hb)
  clear c0 c1 c2 c3 c4 c5 c6 c7 c8 c9 c10 hb AT BW EW CK HW
  clear W
  obtain ⟨kind, hkind⟩ : ∃ kind : Int, kind = 3 := ⟨_, rfl⟩
  rw [← hkind] at AX
  have hC : ∀ q : InC (fun x => Below X.heap.size X x), Below X.heap.size X q.w := fun q => q.h
  generalize hCC : (fun x => Below X.heap.size X x) = C at hC
  have CS : ∀ x y, C x → Below x.heap.size x y → C y := by rw [← hCC]; exact fun x y hx hy => onward hx hy
  have C0 : Hid (C X.drew) := by rw [← hCC]; exact (Below.refl _ X).drew
  have CB := hide hC
  have k0 : ∀ q : InC C, q.w.cell? ⟨w.heap.size, 0, none⟩ = some (.int .i64 kind) := fun q => cd_cells AX (hC q) 0 rfl
  have k1 : ∀ q : InC C, q.w.cell? ⟨w.heap.size, 1, none⟩ = some (.int .i64 ac) := fun q => cd_cells AX (hC q) 1 rfl
  have k2 : ∀ q : InC C, q.w.cell? ⟨w.heap.size, 2, none⟩ = some (.int .i64 mkt) := fun q => cd_cells AX (hC q) 2 rfl
  have k3 : ∀ q : InC C, q.w.cell? ⟨w.heap.size, 3, none⟩ = some (.int .i64 n) := fun q => cd_cells AX (hC q) 3 rfl
  have k4 : ∀ q : InC C, q.w.cell? ⟨w.heap.size, 4, none⟩ = some (.int .i64 oi) := fun q => cd_cells AX (hC q) 4 rfl
  have k5 : ∀ q : InC C, q.w.cell? ⟨w.heap.size, 5, none⟩ = some (.int .i64 oa) := fun q => cd_cells AX (hC q) 5 rfl
  have k6 : ∀ q : InC C, q.w.cell? ⟨w.heap.size, 6, none⟩ = some (.int .i64 sd) := fun q => cd_cells AX (hC q) 6 rfl
  have k7 : ∀ q : InC C, q.w.cell? ⟨w.heap.size, 7, none⟩ = some (.int .i64 pr) := fun q => cd_cells AX (hC q) 7 rfl
  have k8 : ∀ q : InC C, q.w.cell? ⟨w.heap.size, 8, none⟩ = some (.int .i64 qt) := fun q => cd_cells AX (hC q) 8 rfl
  have k9 : ∀ q : InC C, q.w.cell? ⟨w.heap.size, 9, none⟩ = some (.int .i64 how) := fun q => cd_cells AX (hC q) 9 rfl
  have k10 : ∀ q : InC C, q.w.cell? ⟨w.heap.size, 10, none⟩ = some (.bool red) := fun q => cd_cells AX (hC q) 10 rfl
  rw [hkind] at AX k0
  clear hkind
  have K1 := hide (fun q : InC C => calls_inC CS q (kinds_any q.w))
  have K2 := hide (fun q : InC C => calls_inC CS q (at_any [] wDeposit wWithdraw wPlace wCancel wIndex wFund wSweep 3 q.w))
  have e1 : atW [[], wDeposit, wWithdraw, wPlace, wCancel, wIndex, wFund, wSweep] 3 = wPlace := rfl
  rw [e1] at K2
  clear hC hCC CS e1
  go_wp2_with fail
  refine wp_region_inC C mixed (by kernel_rfl) C0.out ?_
  repeat (go_big_quiet_step (first | (go_at_call 47; refine K1.out _) | (go_at_call 48; refine K2.out _) | exact rfl))
  refine wpQuiet_nil ?_
  rintro _ ⟨q6, rfl⟩
  have HC1 := hide (CB.out q6)
  obtain ⟨Y, hY⟩ : ∃ Y, Y = q6.w := ⟨_, rfl⟩
  rw [← hY] at HC1 ⊢
  have AY := cdAt_below AX HC1.out
  have BY := hide (onward BX.out HC1.out)
  have EY := hide (EX.out.below HC1.out)
  clear hY k0 k1 k2 k3 k4 k5 k6 k7 k8 k9 k10 K1 K2 CB C0 AX BX EX HC1
  clear q6
  clear C
  clear X
  have c0 := cd_cells AY (Below.refl _ Y) 0 rfl
  simp only [List.getElem_toArray, List.getElem_cons_zero] at c0
  obtain ⟨kind, hkind⟩ : ∃ kind : Int, kind = 3 := ⟨_, rfl⟩
  rw [← hkind] at AY
  have hC : ∀ q : InC (fun x => Below Y.heap.size Y x), Below Y.heap.size Y q.w := fun q => q.h
  generalize hCC : (fun x => Below Y.heap.size Y x) = C at hC
  have CS : ∀ x y, C x → Below x.heap.size x y → C y := by rw [← hCC]; exact fun x y hx hy => onward hx hy
  have C0 : Hid (C Y.drew) := by rw [← hCC]; exact (Below.refl _ Y).drew
  have CB := hide hC
  have k0 : ∀ q : InC C, q.w.cell? ⟨w.heap.size, 0, none⟩ = some (.int .i64 kind) := fun q => cd_cells AY (hC q) 0 rfl
  have k1 : ∀ q : InC C, q.w.cell? ⟨w.heap.size, 1, none⟩ = some (.int .i64 ac) := fun q => cd_cells AY (hC q) 1 rfl
  have k2 : ∀ q : InC C, q.w.cell? ⟨w.heap.size, 2, none⟩ = some (.int .i64 mkt) := fun q => cd_cells AY (hC q) 2 rfl
  have k3 : ∀ q : InC C, q.w.cell? ⟨w.heap.size, 3, none⟩ = some (.int .i64 n) := fun q => cd_cells AY (hC q) 3 rfl
  have k4 : ∀ q : InC C, q.w.cell? ⟨w.heap.size, 4, none⟩ = some (.int .i64 oi) := fun q => cd_cells AY (hC q) 4 rfl
  have k5 : ∀ q : InC C, q.w.cell? ⟨w.heap.size, 5, none⟩ = some (.int .i64 oa) := fun q => cd_cells AY (hC q) 5 rfl
  have k6 : ∀ q : InC C, q.w.cell? ⟨w.heap.size, 6, none⟩ = some (.int .i64 sd) := fun q => cd_cells AY (hC q) 6 rfl
  have k7 : ∀ q : InC C, q.w.cell? ⟨w.heap.size, 7, none⟩ = some (.int .i64 pr) := fun q => cd_cells AY (hC q) 7 rfl
  have k8 : ∀ q : InC C, q.w.cell? ⟨w.heap.size, 8, none⟩ = some (.int .i64 qt) := fun q => cd_cells AY (hC q) 8 rfl
  have k9 : ∀ q : InC C, q.w.cell? ⟨w.heap.size, 9, none⟩ = some (.int .i64 how) := fun q => cd_cells AY (hC q) 9 rfl
  have k10 : ∀ q : InC C, q.w.cell? ⟨w.heap.size, 10, none⟩ = some (.bool red) := fun q => cd_cells AY (hC q) 10 rfl
  rw [hkind] at AY k0
  clear hkind
  have CS0 := hide CS
  have K5 : Hid (∀ x b, C x → x.cell? ⟨b, 0, none⟩ = some (.int .i64 ac) → x.cell? ⟨b, 1, none⟩ = some (.int .i64 mkt) → _) := fun x b hx h0 h1 => phrase_any wPlace b ac mkt x (by decide) HF.out.ac HF.out.mkt (EY.out.below (hC ⟨x, hx⟩)) h0 h1
  have K6 : Hid (∀ x, C x → _) := fun x hx => OR.out x (EY.out.below (hC ⟨x, hx⟩))
  clear CS hC hCC OR
  have CS := CS0
  clear CS0
  go_wp2_with fail
  refine wp_region_mix [(0, true), (1, true), (2, true), (3, true), (4, true), (8, true), (5, false), (6, false), (7, true), (9, false), (10, true), (11, true), (12, true)] C mixed (by kernel_rfl) C0.out ?_
  repeat (refine mix_still (by rfl) ?_; go_big_quiet_step (exact rfl); refine wpQuiet_nil ?_)
  refine mix_main (by rfl) ?_
  rintro ⟨x1, hx1⟩
  go_wp2
  refine ⟨From C (x1.alloc (.cells #[.int .i64 ac, .int .i64 mkt] 3)), from_self (CS.out x1 _ hx1 (below_alloc x1 _)), fun x hx => hx.1, ?_⟩
  have CS1 := hide (from_shut CS.out (x1.alloc (.cells #[.int .i64 ac, .int .i64 mkt] 3)))
  have SUB : Hid (∀ x, From C (x1.alloc (.cells #[.int .i64 ac, .int .i64 mkt] 3)) x → C x ∧ x.cell? ⟨x1.heap.size, 0, none⟩ = some (.int .i64 ac) ∧ x.cell? ⟨x1.heap.size, 1, none⟩ = some (.int .i64 mkt)) := fun x hx => ⟨hx.1, pair_cells x1 ac mkt x hx.2⟩
  generalize From C (x1.alloc (.cells #[.int .i64 ac, .int .i64 mkt] 3)) = C1 at CS1 SUB ⊢
  generalize x1.heap.size = bk at SUB ⊢
  clear hx1 x1 CS
  have L5 : Hid (∀ x, C1 x → _) := fun x hx => K5.out x bk (SUB.out x hx).1 (SUB.out x hx).2.1 (SUB.out x hx).2.2
  have L6 : Hid (∀ x, C1 x → _) := fun x hx => K6.out x (SUB.out x hx).1
  refine mix_main (by rfl) ?_
  rintro ⟨x1, hx1⟩
  go_wp2_with (go_at_call 49; refine (L5.out x1 hx1).mono ?_; rintro e w' ⟨rfl, hb'⟩)
  refine ⟨_, CS1.out x1 _ hx1 hb', fun _ h => h, ?_⟩
  clear hb' hx1
  clear x1 w'
  repeat (refine mix_still (by rfl) ?_; go_big_quiet_step (exact rfl); refine wpQuiet_nil ?_)
  refine mix_main (by rfl) ?_
  rintro ⟨x1, hx1⟩
  go_wp2_with (go_at_call 50; refine (L6.out x1 hx1).mono ?_; rintro e w' ⟨rfl, hb'⟩)
  refine ⟨_, CS1.out x1 _ hx1 hb', fun _ h => h, ?_⟩
  clear hb' hx1
  clear x1 w'
  repeat (refine mix_still (by rfl) ?_; go_big_quiet_step (exact rfl); refine wpQuiet_nil ?_)
  refine mix_end ?_
  rintro ⟨x9, hx9⟩
  dsimp only
  have BX : Hid (Below w.heap.size w x9) := onward BY.out (CB.out ⟨x9, (SUB.out x9 hx9).1⟩)
  clear k0 k1 k2 k3 k4 k5 k6 k7 k8 k9 k10 K5 K6 L5 L6 CS1 CB C0 hx9 SUB
  go_wp2
  refine bodyPost_ret (v := .tuple #[.string (sB (wPlace ++ 32 :: (itoa ac ++ 32 :: itoa mkt)) ++ sB [32] ++ sB ob), .int .i64 0]) (by simp [results, Tryz.results27, go_sem]) rfl ?_
  refine ⟨?_, BX.out⟩
  simp only [sB_cat]
  have ew : atW kindsL 3 = wPlace := rfl
  rw [ew]
  simp only [List.append_assoc, List.cons_append, List.nil_append]
set_option maxHeartbeats 4000000 in
theorem print_bad (c : Cd) (w : World) (hf : c.fits) (h : ¬ checkC c = 0) : Calls Tryz.prog 27 #[cdV c] w fun e w' => e = .returned (.tuple #[sV [], .int .i64 (checkC c)]) ∧ Below w.heap.size w w' := by
  obtain ⟨W, hW⟩ : ∃ W, W = w.alloc (cdO c) := ⟨_, rfl⟩
  have AT : CdAt W w.heap.size c := by show W.heap[w.heap.size]? = _; rw [hW]; exact heap_alloc_new w _
  have BW : Hid (Below w.heap.size w W) := by rw [hW]; exact below_alloc w _
  have HW := hide hW
  have CK := hide (check_any c W hf.sd)
  generalize checkC c = r at *
  obtain ⟨kind, ac, mkt, n, oi, oa, sd, pr, qt, how, red⟩ := c
  have c0 := cd_cells AT (Below.refl _ W) 0 rfl
  have c1 := cd_cells AT (Below.refl _ W) 1 rfl
  have c2 := cd_cells AT (Below.refl _ W) 2 rfl
  have c3 := cd_cells AT (Below.refl _ W) 3 rfl
  have c4 := cd_cells AT (Below.refl _ W) 4 rfl
  have c5 := cd_cells AT (Below.refl _ W) 5 rfl
  have c6 := cd_cells AT (Below.refl _ W) 6 rfl
  have c7 := cd_cells AT (Below.refl _ W) 7 rfl
  have c8 := cd_cells AT (Below.refl _ W) 8 rfl
  have c9 := cd_cells AT (Below.refl _ W) 9 rfl
  have c10 := cd_cells AT (Below.refl _ W) 10 rfl
  simp only [List.getElem_toArray, List.getElem_cons_zero, List.getElem_cons_succ] at c0 c1 c2 c3 c4 c5 c6 c7 c8 c9 c10
  clear hW hf AT
  go_enter Tryz.func27, Tryz.ntmps27
  go_wp2_with (rw [← HW.out])
  refine CK.out.mono ?_
  rintro e X ⟨rfl, hb⟩
  have BX := hide (onward BW.out hb)
  clear c0 c1 c2 c3 c4 c5 c6 c7 c8 c9 c10 hb CK HW
  go_wp2
  refine bodyPost_ret (v := .tuple #[sV [], .int .i64 r]) (by simp [results, Tryz.results27, go_sem]) rfl ?_
  exact ⟨rfl, BX.out⟩
def printS (c : Cd) : Bs := if checkC c = 0 then printC c else []
theorem print_any (c : Cd) (w : World) (hf : c.fits) (E : Env w) : Calls Tryz.prog 27 #[cdV c] w fun e w' => e = .returned (.tuple #[sV (printS c), .int .i64 (checkC c)]) ∧ Below w.heap.size w w' := by
  unfold printS
  by_cases h : checkC c = 0
  · rw [if_pos h]
    have hk := kind_ok (check_ok h).1
    obtain ⟨kind, ac, mkt, n, oi, oa, sd, pr, qt, how, red⟩ := c
    dsimp only at hk
    rw [h]
    rcases hk with rfl | rfl | rfl | rfl | rfl | rfl | rfl
    · exact print_1 ac mkt n oi oa sd pr qt how red w h hf E
    · exact print_2 ac mkt n oi oa sd pr qt how red w h hf E
    · exact print_3 ac mkt n oi oa sd pr qt how red w h hf E
    · exact print_4 ac mkt n oi oa sd pr qt how red w h hf E
    · exact print_5 ac mkt n oi oa sd pr qt how red w h hf E
    · exact print_6 ac mkt n oi oa sd pr qt how red w h hf E
    · exact print_7 ac mkt n oi oa sd pr qt how red w h hf E
  · rw [if_neg h]
    exact print_bad c w hf h
end Go.Proofs.YthdjfhnhjiageaaGreatDoor.Tx
