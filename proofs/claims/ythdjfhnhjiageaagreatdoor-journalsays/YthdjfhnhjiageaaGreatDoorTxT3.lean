/-
  The reference's chapter 8: a Place as a text.
-/
import Derived.Test.YthdjfhnhjiageaaGreatDoorTxT2
namespace Go.Proofs.YthdjfhnhjiageaaGreatDoor.Tx
open Go.RowKit Go.Lib Go.Sort Go.Proofs.YthdjfhnhjiageaaGreatDoor.Mix
set_option maxHeartbeats 16000000 in
set_option maxRecDepth 100000 in
theorem ct_3 (kw sw hw : Bs) (ac mkt n oi oa sd pr qt : Int) (hn : Nat) (red : Bool) (hkw : kw = wPlace) (hsw : (sd = 1 ∧ sw = wBuyS) ∨ (sd = -1 ∧ sw = wSellS)) (hhn : hn < 5) (hhw : #[sV [45], sV wLimit, sV wNow, sV wWhole, sV wPost][hn]? = some (sV hw)) (hwl : hw.length ≤ 5) (tl : Bs) (htl : (red = true ∧ tl = 32 :: wReduce) ∨ (red = false ∧ tl = [])) (h1 : i64 ac) (h2 : i64 mkt) (h3 : i64 qt) (h4 : i64 pr) (w : World) (E : EnvS w) :
    Calls Tryz.prog 14 #[cdV ⟨((3 : Nat) : Int), ac, mkt, n, oi, oa, sd, pr, qt, (hn : Int), red⟩] w fun e w' => e = .returned (sV (kw ++ 32 :: (itoa ac ++ 32 :: (itoa mkt ++ (sw ++ (itoa qt ++ 32 :: (itoa pr ++ 32 :: (hw ++ tl)))))))) ∧ Below w.heap.size w w' := by
  have HSW := hide hsw
  have HTL := hide htl
  have HHW := hide hhw
  have hk5 : kw.length ≤ 8 := by rw [hkw]; decide
  have sl : sw.length ≤ 6 := by rcases hsw with ⟨-, rfl⟩ | ⟨-, rfl⟩ <;> decide
  have l1 := itoa_len h1
  have l2 := itoa_len h2
  have l3 := itoa_len h3
  have l4 := itoa_len h4
  have hn5 : (hn : Int) < 5 := by omega
  obtain ⟨kn, hkn⟩ : ∃ kn : Nat, kn = 3 := ⟨_, rfl⟩
  rw [← hkn]
  have HKW : Hid (#[sV [45], sV wDeposit, sV wWithdraw, sV wPlace, sV wCancel, sV wIndex, sV wFund, sV wSweep][kn]? = some (sV kw)) := by show _ = _; rw [hkn, hkw]; rfl
  have n3 : ((kn : Int) == 3) = true := by rw [hkn]; rfl
  have hk8 : (kn : Int) < 8 := by omega
  obtain ⟨how, hhow⟩ : ∃ how : Int, how = hn := ⟨_, rfl⟩
  rw [← hhow]
  have HHO := hide hhow
  clear hkn hsw hhn hhw hkw hhow htl
  have mixed : Tryz.prog.follows .mixedOrders = true := by kernel_rfl
  obtain ⟨W, hW⟩ : ∃ W, W = w.alloc (cdO ⟨kn, ac, mkt, n, oi, oa, sd, pr, qt, how, red⟩) := ⟨_, rfl⟩
  have bW : Below w.heap.size w W := by rw [hW]; exact below_alloc w _
  have AT : CdAt W w.heap.size ⟨kn, ac, mkt, n, oi, oa, sd, pr, qt, how, red⟩ := by show W.heap[w.heap.size]? = _; rw [hW]; exact heap_alloc_new w _
  have hC : ∀ q : InC (fun x => Below W.heap.size W x), Below W.heap.size W q.w := fun q => q.h
  have hS := sh_below W
  generalize hCC : (fun x => Below W.heap.size W x) = C at hC hS
  have C0 : Hid (C { W with drawn := W.drawn + 1 }) := by rw [← hCC]; exact ⟨rfl, rfl, rfl, Nat.le_refl _, fun _ _ => rfl⟩
  have k0 : ∀ q : InC C, q.w.cell? ⟨w.heap.size, 0, none⟩ = some (.int .i64 kn) := fun q => cd_cells AT (hC q) 0 rfl
  have FV : Hid (∀ x, C x → _) := fun x hx => verbs_any x (E.below (onward bW (hC ⟨x, hx⟩)))
  have CB : Hid (∀ x, C x → Below w.heap.size w x) := fun x hx => onward bW (hC ⟨x, hx⟩)
  have CA : Hid (∀ x, C x → CdAt x w.heap.size ⟨kn, ac, mkt, n, oi, oa, sd, pr, qt, how, red⟩) := fun x hx => cdAt_below AT (hC ⟨x, hx⟩)
  have HW := hide hW
  have HS := hide hS
  have HE := hide E
  clear hW bW AT hC hS hCC E
  go_enter Tryz.func14, Tryz.ntmps14
  go_wp2_with (rw [← HW.out])
  refine wp_region_grow (.give 1 (.give 2 (.main 0 (.give 3 (.give 4 (.give 5 .done)))))) C mixed (by kernel_rfl) HS.out C0.out ?_
  repeat (refine mixG_still (by rfl) (by rfl) ?_; go_big_quiet_step (exact rfl); refine wpQuiet_nil ?_)
  refine mixG_main (stepG_of (by rfl) ?_)
  rintro ⟨x1, hx1⟩
  dsimp only
  have hcon := FV.out x1 hx1
  have HX1 := hide hx1
  go_wp2_with (go_at_call 35; refine hcon.mono ?_; rintro e w' ⟨rfl, hw'⟩)
  obtain ⟨V, hV⟩ : ∃ V, V = x1.alloc (.cells #[sV [45], sV wDeposit, sV wWithdraw, sV wPlace, sV wCancel, sV wIndex, sV wFund, sV wSweep] 9) := ⟨_, rfl⟩
  rw [← hV]
  refine ⟨From C V, ⟨HS.out x1 V HX1.out (by rw [hV]; exact below_alloc x1 _), Below.refl _ _⟩, fun x hx => hx.1, sh_from HS.out _, ?_⟩
  have kv : ∀ q : InC (From C V), q.w.cell? ⟨x1.heap.size, kn, none⟩ = some (sV kw) := fun q => (q.h.2.cell (p := ⟨x1.heap.size, kn, none⟩) (by rw [hV]; simp)).trans (by rw [hV]; exact new_cell x1 _ _ kn _ (by rw [HKW.out]))
  have CF : Hid (∀ x, From C V x → C x) := fun x hx => hx.1
  generalize From C V = C1 at kv CF ⊢
  generalize x1.heap.size = vb at kv ⊢
  clear hV hcon HX1 hx1 hw'
  clear V x1
  repeat (refine mixG_still (by rfl) (by rfl) ?_; go_big_quiet_step (exact rfl); refine wpQuiet_nil ?_)
  refine mixG_end ?_
  rintro ⟨y, hy⟩
  dsimp only
  have BY := hide (CB.out y (CF.out y hy))
  have AY := hide (CA.out y (CF.out y hy))
  have EY := hide (HE.out.below BY.out)
  clear hy kv k0 CF CA CB FV C0 HS HE HW HKW
  clear C C1
  have c0 := cd_cells AY.out (Below.refl _ y) 0 rfl
  have k1 : ∀ q : InC (St y none none), q.w.cell? ⟨w.heap.size, 1, none⟩ = some (.int .i64 ac) := fun q => cd_cells AY.out q.h.1 1 rfl
  have k2 : ∀ q : InC (St y none none), q.w.cell? ⟨w.heap.size, 2, none⟩ = some (.int .i64 mkt) := fun q => cd_cells AY.out q.h.1 2 rfl
  have k6 : ∀ q : InC (St y none none), q.w.cell? ⟨w.heap.size, 6, none⟩ = some (.int .i64 sd) := fun q => cd_cells AY.out q.h.1 6 rfl
  have k7 : ∀ q : InC (St y none none), q.w.cell? ⟨w.heap.size, 7, none⟩ = some (.int .i64 pr) := fun q => cd_cells AY.out q.h.1 7 rfl
  have k8 : ∀ q : InC (St y none none), q.w.cell? ⟨w.heap.size, 8, none⟩ = some (.int .i64 qt) := fun q => cd_cells AY.out q.h.1 8 rfl
  have k9 : ∀ q : InC (St y none none), q.w.cell? ⟨w.heap.size, 9, none⟩ = some (.int .i64 (hn : Int)) := fun q => by rw [← HHO.out]; exact cd_cells AY.out q.h.1 9 rfl
  have I1 : Hid (∀ x, St y none none x → _) := fun x hx => itoa_any ac h1 x (EY.out.env.below hx.1)
  have I2 : Hid (∀ x, St y none none x → _) := fun x hx => itoa_any mkt h2 x (EY.out.env.below hx.1)
  have I3 : Hid (∀ x, St y none none x → _) := fun x hx => itoa_any qt h3 x (EY.out.env.below hx.1)
  have I4 : Hid (∀ x, St y none none x → _) := fun x hx => itoa_any pr h4 x (EY.out.env.below hx.1)
  have ES : Hid (∀ x, Below y.heap.size y x → EnvS x) := fun x hx => EY.out.below hx
  have S0 : Hid (St y none none { y with drawn := y.drawn + 1 }) := ⟨⟨rfl, rfl, rfl, Nat.le_refl _, fun _ _ => rfl⟩, (fun _ e => nomatch e), (fun _ e => nomatch e), fun _ _ e => nomatch e⟩
  go_wp2_with fail
  refine wp_region_grow (.give 0 (.give 1 (.give 2 (.give 3 (.give 7 (.give 8 (.give 9 (.give 16 (.give 17 (.give 18 (.give 21 (.give 22 (.give 23 (.give 24 (.give 28 (.give 29 (.give 30 (.give 31 (.give 36 (.give 37 (.give 4 (.give 5 (.give 6 (.give 10 (.give 11 (.give 25 (.give 32 (.fork 12 (.fork3 13 (.fork 14 (.give 15 (.give 19 (.give 20 (.give 26 (.give 27 (.give 33 (.give 34 (.main 35 (.give 38 (.give 39 (.give 40 (.give 41 (.give 42 .done))))))))))))) 35 (.give 38 (.give 39 (.main 14 (.give 15 (.give 19 (.give 20 (.give 26 (.give 27 (.give 33 (.give 34 (.give 40 (.give 41 (.give 42 .done)))))))))))))) 14 (.fork 13 (.give 15 (.give 19 (.give 20 (.give 26 (.give 27 (.give 33 (.give 34 (.main 35 (.give 38 (.give 39 (.give 40 (.give 41 (.give 42 .done))))))))))))) 35 (.give 38 (.give 39 (.main 13 (.give 15 (.give 19 (.give 20 (.give 26 (.give 27 (.give 33 (.give 34 (.give 40 (.give 41 (.give 42 .done)))))))))))))) 35 (.give 38 (.give 39 (.fork 13 (.main 14 (.give 15 (.give 19 (.give 20 (.give 26 (.give 27 (.give 33 (.give 34 (.give 40 (.give 41 (.give 42 .done))))))))))) 14 (.main 13 (.give 15 (.give 19 (.give 20 (.give 26 (.give 27 (.give 33 (.give 34 (.give 40 (.give 41 (.give 42 .done))))))))))))))) 35 (.give 38 (.give 39 (.main 12 (.fork 13 (.main 14 (.give 15 (.give 19 (.give 20 (.give 26 (.give 27 (.give 33 (.give 34 (.give 40 (.give 41 (.give 42 .done))))))))))) 14 (.main 13 (.give 15 (.give 19 (.give 20 (.give 26 (.give 27 (.give 33 (.give 34 (.give 40 (.give 41 (.give 42 .done))))))))))))))))))))))))))))))))))))))))))) (St y none none) mixed (by kernel_rfl) (st_sh _ _ _) S0.out ?_
  repeat (refine mixG_still (by rfl) (by rfl) ?_; go_big_quiet_step (exact rfl); refine wpQuiet_nil ?_)
  refine mixG_call (by rfl) (by rfl) 34 #[.int .i64 ac] (sV (itoa ac)) (fun w => by go_simp) (fun x hx => I1.out x hx) ?_
  dsimp only [Act.put]
  simp only [List.setIfInBounds_toArray, List.set_cons_succ, List.set_cons_zero]
  repeat (refine mixG_still (by rfl) (by rfl) ?_; go_big_quiet_step (exact rfl); refine wpQuiet_nil ?_)
  refine mixG_call (by rfl) (by rfl) 34 #[.int .i64 mkt] (sV (itoa mkt)) (fun w => by go_simp) (fun x hx => I2.out x hx) ?_
  dsimp only [Act.put]
  simp only [List.setIfInBounds_toArray, List.set_cons_succ, List.set_cons_zero]
  repeat (refine mixG_still (by rfl) (by rfl) ?_; go_big_quiet_step (exact rfl); refine wpQuiet_nil ?_)
  refine mixG_call (by rfl) (by rfl) 34 #[.int .i64 qt] (sV (itoa qt)) (fun w => by go_simp) (fun x hx => I3.out x hx) ?_
  dsimp only [Act.put]
  simp only [List.setIfInBounds_toArray, List.set_cons_succ, List.set_cons_zero]
  repeat (refine mixG_still (by rfl) (by rfl) ?_; go_big_quiet_step (exact rfl); refine wpQuiet_nil ?_)
  refine mixG_call (by rfl) (by rfl) 34 #[.int .i64 pr] (sV (itoa pr)) (fun w => by go_simp) (fun x hx => I4.out x hx) ?_
  dsimp only [Act.put]
  simp only [List.setIfInBounds_toArray, List.set_cons_succ, List.set_cons_zero]
  repeat (refine mixG_still (by rfl) (by rfl) ?_; go_big_quiet_step (exact rfl); refine wpQuiet_nil ?_)
  clear k1 k2 k6 k7 k8 k9 I1 I2 I3 I4
  refine mixG_fork ?_ ?_
  · refine stepG_of (by rfl) ?_
    rintro ⟨x, hx⟩
    dsimp only
    go_wp2
    rename_i K hK
    refine hK _ _ ?_
    refine ⟨rfl, St y (some (x.heap.size, false, false)) none, st_mk hx, fun _ h => st_none h, st_sh _ _ _, ?_⟩
    dsimp only [Act.put]
    simp only [List.setIfInBounds_toArray, List.set_cons_succ, List.set_cons_zero]
    clear hK
    clear K
    generalize x.heap.size = mb
    clear hx
    clear x
    refine mixG_fork3 ?_ ?_ ?_
    · refine stepG_of (by rfl) ?_
      rintro ⟨x, hx⟩
      dsimp only
      obtain ⟨x', hrun, hx'⟩ := st_buy hx
      have HX := hide hx'
      clear hx'
      go_wp2
      refine ⟨St y (some (mb, true, false)) none, HX.out, fun _ h => st_less (by decide) (by decide) h, st_sh _ _ _, ?_⟩
      clear hx hrun HX
      clear x x'
      refine mixG_fork ?_ ?_
      · refine stepG_of (by rfl) ?_
        rintro ⟨x, hx⟩
        dsimp only
        obtain ⟨x', hrun, hx'⟩ := st_sell hx
        have HX := hide hx'
        clear hx'
        go_wp2
        refine ⟨St y (some (mb, true, true)) none, HX.out, fun _ h => st_less (by decide) (by decide) h, st_sh _ _ _, ?_⟩
        clear hx hrun HX
        clear x x'
        repeat (refine mixG_still (by rfl) (by rfl) ?_; go_big_quiet_step (exact rfl); refine wpQuiet_nil ?_)
        refine mixG_value (by rfl) (by rfl) (sV sw) (fun x hx => by have lk := st_look HSW.out hx; go_simp) ?_
        dsimp only [Act.put]
        simp only [List.setIfInBounds_toArray, List.set_cons_succ, List.set_cons_zero]
        repeat (refine mixG_still (by rfl) (by rfl) ?_; go_big_quiet_step (exact rfl); refine wpQuiet_nil ?_)
        refine mixG_main ?_
        refine stepG_of (by rfl) ?_
        rintro ⟨x, hx⟩
        dsimp only
        have hcon := sorts_any x (ES.out x hx.1)
        go_wp2_with (go_at_call 35; refine hcon.mono ?_; rintro e w' ⟨rfl, hw'⟩)
        refine ⟨St y (some (mb, true, true)) (some x.heap.size), st_fw hx, fun _ h => st_nof h, st_sh _ _ _, ?_⟩
        generalize x.heap.size = fb
        clear hx hcon hw'
        clear x
        have kf : ∀ q : InC (St y (some (mb, true, true)) (some fb)), q.w.cell? ⟨fb, hn, none⟩ = some (sV hw) := fun q => st_word HHW.out q.h
        repeat (refine mixG_still (by rfl) (by rfl) ?_; go_big_quiet_step (exact rfl); refine wpQuiet_nil ?_)
        clear kf
        refine mixG_end ?_
        rintro ⟨z, hz⟩
        dsimp only
        have BZ := hide (onward BY.out hz.1)
        have AZ := hide (cdAt_below AY.out hz.1)
        clear hz
        rcases HTL.out with ⟨hr, htl⟩ | ⟨hr, htl⟩
        · have c10 : z.cell? ⟨w.heap.size, 10, none⟩ = some (.bool true) := by have := cd_cells AZ.out (Below.refl _ z) 10 rfl; rw [← hr]; exact this
          have LT := hide htl
          clear hr htl AZ AY HTL
          go_wp2
          go_ret
          refine ⟨?_, BZ.out⟩
          rw [LT.out]
          show Ending.returned (Value.string (sB kw ++ (sB [32] ++ sB (itoa ac) ++ sB [32] ++ sB (itoa mkt) ++ sB sw ++ sB (itoa qt) ++ sB [32] ++ sB (itoa pr) ++ sB [32] ++ sB hw) ++ sB (32 :: wReduce))) = _
          simp only [sB_cat, List.cons_append, List.nil_append, List.append_assoc]
        · have c10 : z.cell? ⟨w.heap.size, 10, none⟩ = some (.bool false) := by have := cd_cells AZ.out (Below.refl _ z) 10 rfl; rw [← hr]; exact this
          have LT := hide htl
          clear hr htl AZ AY HTL
          go_wp2
          go_ret
          refine ⟨?_, BZ.out⟩
          rw [LT.out]
          show Ending.returned (Value.string (sB kw ++ (sB [32] ++ sB (itoa ac) ++ sB [32] ++ sB (itoa mkt) ++ sB sw ++ sB (itoa qt) ++ sB [32] ++ sB (itoa pr) ++ sB [32] ++ sB hw))) = _
          simp only [sB_cat, List.cons_append, List.nil_append, List.append_assoc, List.append_nil]
      · refine stepG_of (by rfl) ?_
        rintro ⟨x, hx⟩
        dsimp only
        have hcon := sorts_any x (ES.out x hx.1)
        go_wp2_with (go_at_call 35; refine hcon.mono ?_; rintro e w' ⟨rfl, hw'⟩)
        refine ⟨St y (some (mb, true, false)) (some x.heap.size), st_fw hx, fun _ h => st_nof h, st_sh _ _ _, ?_⟩
        generalize x.heap.size = fb
        clear hx hcon hw'
        clear x
        have kf : ∀ q : InC (St y (some (mb, true, false)) (some fb)), q.w.cell? ⟨fb, hn, none⟩ = some (sV hw) := fun q => st_word HHW.out q.h
        repeat (refine mixG_still (by rfl) (by rfl) ?_; go_big_quiet_step (exact rfl); refine wpQuiet_nil ?_)
        clear kf
        refine mixG_main ?_
        refine stepG_of (by rfl) ?_
        rintro ⟨x, hx⟩
        dsimp only
        obtain ⟨x', hrun, hx'⟩ := st_sell hx
        have HX := hide hx'
        clear hx'
        go_wp2
        refine ⟨St y (some (mb, true, true)) (some fb), HX.out, fun _ h => st_less (by decide) (by decide) h, st_sh _ _ _, ?_⟩
        clear hx hrun HX
        clear x x'
        repeat (refine mixG_still (by rfl) (by rfl) ?_; go_big_quiet_step (exact rfl); refine wpQuiet_nil ?_)
        refine mixG_value (by rfl) (by rfl) (sV sw) (fun x hx => by have lk := st_look HSW.out hx; go_simp) ?_
        dsimp only [Act.put]
        simp only [List.setIfInBounds_toArray, List.set_cons_succ, List.set_cons_zero]
        repeat (refine mixG_still (by rfl) (by rfl) ?_; go_big_quiet_step (exact rfl); refine wpQuiet_nil ?_)
        refine mixG_end ?_
        rintro ⟨z, hz⟩
        dsimp only
        have BZ := hide (onward BY.out hz.1)
        have AZ := hide (cdAt_below AY.out hz.1)
        clear hz
        rcases HTL.out with ⟨hr, htl⟩ | ⟨hr, htl⟩
        · have c10 : z.cell? ⟨w.heap.size, 10, none⟩ = some (.bool true) := by have := cd_cells AZ.out (Below.refl _ z) 10 rfl; rw [← hr]; exact this
          have LT := hide htl
          clear hr htl AZ AY HTL
          go_wp2
          go_ret
          refine ⟨?_, BZ.out⟩
          rw [LT.out]
          show Ending.returned (Value.string (sB kw ++ (sB [32] ++ sB (itoa ac) ++ sB [32] ++ sB (itoa mkt) ++ sB sw ++ sB (itoa qt) ++ sB [32] ++ sB (itoa pr) ++ sB [32] ++ sB hw) ++ sB (32 :: wReduce))) = _
          simp only [sB_cat, List.cons_append, List.nil_append, List.append_assoc]
        · have c10 : z.cell? ⟨w.heap.size, 10, none⟩ = some (.bool false) := by have := cd_cells AZ.out (Below.refl _ z) 10 rfl; rw [← hr]; exact this
          have LT := hide htl
          clear hr htl AZ AY HTL
          go_wp2
          go_ret
          refine ⟨?_, BZ.out⟩
          rw [LT.out]
          show Ending.returned (Value.string (sB kw ++ (sB [32] ++ sB (itoa ac) ++ sB [32] ++ sB (itoa mkt) ++ sB sw ++ sB (itoa qt) ++ sB [32] ++ sB (itoa pr) ++ sB [32] ++ sB hw))) = _
          simp only [sB_cat, List.cons_append, List.nil_append, List.append_assoc, List.append_nil]
    · refine stepG_of (by rfl) ?_
      rintro ⟨x, hx⟩
      dsimp only
      obtain ⟨x', hrun, hx'⟩ := st_sell hx
      have HX := hide hx'
      clear hx'
      go_wp2
      refine ⟨St y (some (mb, false, true)) none, HX.out, fun _ h => st_less (by decide) (by decide) h, st_sh _ _ _, ?_⟩
      clear hx hrun HX
      clear x x'
      refine mixG_fork ?_ ?_
      · refine stepG_of (by rfl) ?_
        rintro ⟨x, hx⟩
        dsimp only
        obtain ⟨x', hrun, hx'⟩ := st_buy hx
        have HX := hide hx'
        clear hx'
        go_wp2
        refine ⟨St y (some (mb, true, true)) none, HX.out, fun _ h => st_less (by decide) (by decide) h, st_sh _ _ _, ?_⟩
        clear hx hrun HX
        clear x x'
        repeat (refine mixG_still (by rfl) (by rfl) ?_; go_big_quiet_step (exact rfl); refine wpQuiet_nil ?_)
        refine mixG_value (by rfl) (by rfl) (sV sw) (fun x hx => by have lk := st_look HSW.out hx; go_simp) ?_
        dsimp only [Act.put]
        simp only [List.setIfInBounds_toArray, List.set_cons_succ, List.set_cons_zero]
        repeat (refine mixG_still (by rfl) (by rfl) ?_; go_big_quiet_step (exact rfl); refine wpQuiet_nil ?_)
        refine mixG_main ?_
        refine stepG_of (by rfl) ?_
        rintro ⟨x, hx⟩
        dsimp only
        have hcon := sorts_any x (ES.out x hx.1)
        go_wp2_with (go_at_call 35; refine hcon.mono ?_; rintro e w' ⟨rfl, hw'⟩)
        refine ⟨St y (some (mb, true, true)) (some x.heap.size), st_fw hx, fun _ h => st_nof h, st_sh _ _ _, ?_⟩
        generalize x.heap.size = fb
        clear hx hcon hw'
        clear x
        have kf : ∀ q : InC (St y (some (mb, true, true)) (some fb)), q.w.cell? ⟨fb, hn, none⟩ = some (sV hw) := fun q => st_word HHW.out q.h
        repeat (refine mixG_still (by rfl) (by rfl) ?_; go_big_quiet_step (exact rfl); refine wpQuiet_nil ?_)
        clear kf
        refine mixG_end ?_
        rintro ⟨z, hz⟩
        dsimp only
        have BZ := hide (onward BY.out hz.1)
        have AZ := hide (cdAt_below AY.out hz.1)
        clear hz
        rcases HTL.out with ⟨hr, htl⟩ | ⟨hr, htl⟩
        · have c10 : z.cell? ⟨w.heap.size, 10, none⟩ = some (.bool true) := by have := cd_cells AZ.out (Below.refl _ z) 10 rfl; rw [← hr]; exact this
          have LT := hide htl
          clear hr htl AZ AY HTL
          go_wp2
          go_ret
          refine ⟨?_, BZ.out⟩
          rw [LT.out]
          show Ending.returned (Value.string (sB kw ++ (sB [32] ++ sB (itoa ac) ++ sB [32] ++ sB (itoa mkt) ++ sB sw ++ sB (itoa qt) ++ sB [32] ++ sB (itoa pr) ++ sB [32] ++ sB hw) ++ sB (32 :: wReduce))) = _
          simp only [sB_cat, List.cons_append, List.nil_append, List.append_assoc]
        · have c10 : z.cell? ⟨w.heap.size, 10, none⟩ = some (.bool false) := by have := cd_cells AZ.out (Below.refl _ z) 10 rfl; rw [← hr]; exact this
          have LT := hide htl
          clear hr htl AZ AY HTL
          go_wp2
          go_ret
          refine ⟨?_, BZ.out⟩
          rw [LT.out]
          show Ending.returned (Value.string (sB kw ++ (sB [32] ++ sB (itoa ac) ++ sB [32] ++ sB (itoa mkt) ++ sB sw ++ sB (itoa qt) ++ sB [32] ++ sB (itoa pr) ++ sB [32] ++ sB hw))) = _
          simp only [sB_cat, List.cons_append, List.nil_append, List.append_assoc, List.append_nil]
      · refine stepG_of (by rfl) ?_
        rintro ⟨x, hx⟩
        dsimp only
        have hcon := sorts_any x (ES.out x hx.1)
        go_wp2_with (go_at_call 35; refine hcon.mono ?_; rintro e w' ⟨rfl, hw'⟩)
        refine ⟨St y (some (mb, false, true)) (some x.heap.size), st_fw hx, fun _ h => st_nof h, st_sh _ _ _, ?_⟩
        generalize x.heap.size = fb
        clear hx hcon hw'
        clear x
        have kf : ∀ q : InC (St y (some (mb, false, true)) (some fb)), q.w.cell? ⟨fb, hn, none⟩ = some (sV hw) := fun q => st_word HHW.out q.h
        repeat (refine mixG_still (by rfl) (by rfl) ?_; go_big_quiet_step (exact rfl); refine wpQuiet_nil ?_)
        clear kf
        refine mixG_main ?_
        refine stepG_of (by rfl) ?_
        rintro ⟨x, hx⟩
        dsimp only
        obtain ⟨x', hrun, hx'⟩ := st_buy hx
        have HX := hide hx'
        clear hx'
        go_wp2
        refine ⟨St y (some (mb, true, true)) (some fb), HX.out, fun _ h => st_less (by decide) (by decide) h, st_sh _ _ _, ?_⟩
        clear hx hrun HX
        clear x x'
        repeat (refine mixG_still (by rfl) (by rfl) ?_; go_big_quiet_step (exact rfl); refine wpQuiet_nil ?_)
        refine mixG_value (by rfl) (by rfl) (sV sw) (fun x hx => by have lk := st_look HSW.out hx; go_simp) ?_
        dsimp only [Act.put]
        simp only [List.setIfInBounds_toArray, List.set_cons_succ, List.set_cons_zero]
        repeat (refine mixG_still (by rfl) (by rfl) ?_; go_big_quiet_step (exact rfl); refine wpQuiet_nil ?_)
        refine mixG_end ?_
        rintro ⟨z, hz⟩
        dsimp only
        have BZ := hide (onward BY.out hz.1)
        have AZ := hide (cdAt_below AY.out hz.1)
        clear hz
        rcases HTL.out with ⟨hr, htl⟩ | ⟨hr, htl⟩
        · have c10 : z.cell? ⟨w.heap.size, 10, none⟩ = some (.bool true) := by have := cd_cells AZ.out (Below.refl _ z) 10 rfl; rw [← hr]; exact this
          have LT := hide htl
          clear hr htl AZ AY HTL
          go_wp2
          go_ret
          refine ⟨?_, BZ.out⟩
          rw [LT.out]
          show Ending.returned (Value.string (sB kw ++ (sB [32] ++ sB (itoa ac) ++ sB [32] ++ sB (itoa mkt) ++ sB sw ++ sB (itoa qt) ++ sB [32] ++ sB (itoa pr) ++ sB [32] ++ sB hw) ++ sB (32 :: wReduce))) = _
          simp only [sB_cat, List.cons_append, List.nil_append, List.append_assoc]
        · have c10 : z.cell? ⟨w.heap.size, 10, none⟩ = some (.bool false) := by have := cd_cells AZ.out (Below.refl _ z) 10 rfl; rw [← hr]; exact this
          have LT := hide htl
          clear hr htl AZ AY HTL
          go_wp2
          go_ret
          refine ⟨?_, BZ.out⟩
          rw [LT.out]
          show Ending.returned (Value.string (sB kw ++ (sB [32] ++ sB (itoa ac) ++ sB [32] ++ sB (itoa mkt) ++ sB sw ++ sB (itoa qt) ++ sB [32] ++ sB (itoa pr) ++ sB [32] ++ sB hw))) = _
          simp only [sB_cat, List.cons_append, List.nil_append, List.append_assoc, List.append_nil]
    · refine stepG_of (by rfl) ?_
      rintro ⟨x, hx⟩
      dsimp only
      have hcon := sorts_any x (ES.out x hx.1)
      go_wp2_with (go_at_call 35; refine hcon.mono ?_; rintro e w' ⟨rfl, hw'⟩)
      refine ⟨St y (some (mb, false, false)) (some x.heap.size), st_fw hx, fun _ h => st_nof h, st_sh _ _ _, ?_⟩
      generalize x.heap.size = fb
      clear hx hcon hw'
      clear x
      have kf : ∀ q : InC (St y (some (mb, false, false)) (some fb)), q.w.cell? ⟨fb, hn, none⟩ = some (sV hw) := fun q => st_word HHW.out q.h
      repeat (refine mixG_still (by rfl) (by rfl) ?_; go_big_quiet_step (exact rfl); refine wpQuiet_nil ?_)
      clear kf
      refine mixG_fork ?_ ?_
      · refine stepG_of (by rfl) ?_
        rintro ⟨x, hx⟩
        dsimp only
        obtain ⟨x', hrun, hx'⟩ := st_buy hx
        have HX := hide hx'
        clear hx'
        go_wp2
        refine ⟨St y (some (mb, true, false)) (some fb), HX.out, fun _ h => st_less (by decide) (by decide) h, st_sh _ _ _, ?_⟩
        clear hx hrun HX
        clear x x'
        refine mixG_main ?_
        refine stepG_of (by rfl) ?_
        rintro ⟨x, hx⟩
        dsimp only
        obtain ⟨x', hrun, hx'⟩ := st_sell hx
        have HX := hide hx'
        clear hx'
        go_wp2
        refine ⟨St y (some (mb, true, true)) (some fb), HX.out, fun _ h => st_less (by decide) (by decide) h, st_sh _ _ _, ?_⟩
        clear hx hrun HX
        clear x x'
        repeat (refine mixG_still (by rfl) (by rfl) ?_; go_big_quiet_step (exact rfl); refine wpQuiet_nil ?_)
        refine mixG_value (by rfl) (by rfl) (sV sw) (fun x hx => by have lk := st_look HSW.out hx; go_simp) ?_
        dsimp only [Act.put]
        simp only [List.setIfInBounds_toArray, List.set_cons_succ, List.set_cons_zero]
        repeat (refine mixG_still (by rfl) (by rfl) ?_; go_big_quiet_step (exact rfl); refine wpQuiet_nil ?_)
        refine mixG_end ?_
        rintro ⟨z, hz⟩
        dsimp only
        have BZ := hide (onward BY.out hz.1)
        have AZ := hide (cdAt_below AY.out hz.1)
        clear hz
        rcases HTL.out with ⟨hr, htl⟩ | ⟨hr, htl⟩
        · have c10 : z.cell? ⟨w.heap.size, 10, none⟩ = some (.bool true) := by have := cd_cells AZ.out (Below.refl _ z) 10 rfl; rw [← hr]; exact this
          have LT := hide htl
          clear hr htl AZ AY HTL
          go_wp2
          go_ret
          refine ⟨?_, BZ.out⟩
          rw [LT.out]
          show Ending.returned (Value.string (sB kw ++ (sB [32] ++ sB (itoa ac) ++ sB [32] ++ sB (itoa mkt) ++ sB sw ++ sB (itoa qt) ++ sB [32] ++ sB (itoa pr) ++ sB [32] ++ sB hw) ++ sB (32 :: wReduce))) = _
          simp only [sB_cat, List.cons_append, List.nil_append, List.append_assoc]
        · have c10 : z.cell? ⟨w.heap.size, 10, none⟩ = some (.bool false) := by have := cd_cells AZ.out (Below.refl _ z) 10 rfl; rw [← hr]; exact this
          have LT := hide htl
          clear hr htl AZ AY HTL
          go_wp2
          go_ret
          refine ⟨?_, BZ.out⟩
          rw [LT.out]
          show Ending.returned (Value.string (sB kw ++ (sB [32] ++ sB (itoa ac) ++ sB [32] ++ sB (itoa mkt) ++ sB sw ++ sB (itoa qt) ++ sB [32] ++ sB (itoa pr) ++ sB [32] ++ sB hw))) = _
          simp only [sB_cat, List.cons_append, List.nil_append, List.append_assoc, List.append_nil]
      · refine stepG_of (by rfl) ?_
        rintro ⟨x, hx⟩
        dsimp only
        obtain ⟨x', hrun, hx'⟩ := st_sell hx
        have HX := hide hx'
        clear hx'
        go_wp2
        refine ⟨St y (some (mb, false, true)) (some fb), HX.out, fun _ h => st_less (by decide) (by decide) h, st_sh _ _ _, ?_⟩
        clear hx hrun HX
        clear x x'
        refine mixG_main ?_
        refine stepG_of (by rfl) ?_
        rintro ⟨x, hx⟩
        dsimp only
        obtain ⟨x', hrun, hx'⟩ := st_buy hx
        have HX := hide hx'
        clear hx'
        go_wp2
        refine ⟨St y (some (mb, true, true)) (some fb), HX.out, fun _ h => st_less (by decide) (by decide) h, st_sh _ _ _, ?_⟩
        clear hx hrun HX
        clear x x'
        repeat (refine mixG_still (by rfl) (by rfl) ?_; go_big_quiet_step (exact rfl); refine wpQuiet_nil ?_)
        refine mixG_value (by rfl) (by rfl) (sV sw) (fun x hx => by have lk := st_look HSW.out hx; go_simp) ?_
        dsimp only [Act.put]
        simp only [List.setIfInBounds_toArray, List.set_cons_succ, List.set_cons_zero]
        repeat (refine mixG_still (by rfl) (by rfl) ?_; go_big_quiet_step (exact rfl); refine wpQuiet_nil ?_)
        refine mixG_end ?_
        rintro ⟨z, hz⟩
        dsimp only
        have BZ := hide (onward BY.out hz.1)
        have AZ := hide (cdAt_below AY.out hz.1)
        clear hz
        rcases HTL.out with ⟨hr, htl⟩ | ⟨hr, htl⟩
        · have c10 : z.cell? ⟨w.heap.size, 10, none⟩ = some (.bool true) := by have := cd_cells AZ.out (Below.refl _ z) 10 rfl; rw [← hr]; exact this
          have LT := hide htl
          clear hr htl AZ AY HTL
          go_wp2
          go_ret
          refine ⟨?_, BZ.out⟩
          rw [LT.out]
          show Ending.returned (Value.string (sB kw ++ (sB [32] ++ sB (itoa ac) ++ sB [32] ++ sB (itoa mkt) ++ sB sw ++ sB (itoa qt) ++ sB [32] ++ sB (itoa pr) ++ sB [32] ++ sB hw) ++ sB (32 :: wReduce))) = _
          simp only [sB_cat, List.cons_append, List.nil_append, List.append_assoc]
        · have c10 : z.cell? ⟨w.heap.size, 10, none⟩ = some (.bool false) := by have := cd_cells AZ.out (Below.refl _ z) 10 rfl; rw [← hr]; exact this
          have LT := hide htl
          clear hr htl AZ AY HTL
          go_wp2
          go_ret
          refine ⟨?_, BZ.out⟩
          rw [LT.out]
          show Ending.returned (Value.string (sB kw ++ (sB [32] ++ sB (itoa ac) ++ sB [32] ++ sB (itoa mkt) ++ sB sw ++ sB (itoa qt) ++ sB [32] ++ sB (itoa pr) ++ sB [32] ++ sB hw))) = _
          simp only [sB_cat, List.cons_append, List.nil_append, List.append_assoc, List.append_nil]
  · refine stepG_of (by rfl) ?_
    rintro ⟨x, hx⟩
    dsimp only
    have hcon := sorts_any x (ES.out x hx.1)
    go_wp2_with (go_at_call 35; refine hcon.mono ?_; rintro e w' ⟨rfl, hw'⟩)
    refine ⟨St y none (some x.heap.size), st_fw hx, fun _ h => st_nof h, st_sh _ _ _, ?_⟩
    generalize x.heap.size = fb
    clear hx hcon hw'
    clear x
    have kf : ∀ q : InC (St y none (some fb)), q.w.cell? ⟨fb, hn, none⟩ = some (sV hw) := fun q => st_word HHW.out q.h
    repeat (refine mixG_still (by rfl) (by rfl) ?_; go_big_quiet_step (exact rfl); refine wpQuiet_nil ?_)
    clear kf
    refine mixG_main ?_
    refine stepG_of (by rfl) ?_
    rintro ⟨x, hx⟩
    dsimp only
    go_wp2
    rename_i K hK
    refine hK _ _ ?_
    refine ⟨rfl, St y (some (x.heap.size, false, false)) (some fb), st_mk hx, fun _ h => st_none h, st_sh _ _ _, ?_⟩
    dsimp only [Act.put]
    simp only [List.setIfInBounds_toArray, List.set_cons_succ, List.set_cons_zero]
    clear hK
    clear K
    generalize x.heap.size = mb
    clear hx
    clear x
    refine mixG_fork ?_ ?_
    · refine stepG_of (by rfl) ?_
      rintro ⟨x, hx⟩
      dsimp only
      obtain ⟨x', hrun, hx'⟩ := st_buy hx
      have HX := hide hx'
      clear hx'
      go_wp2
      refine ⟨St y (some (mb, true, false)) (some fb), HX.out, fun _ h => st_less (by decide) (by decide) h, st_sh _ _ _, ?_⟩
      clear hx hrun HX
      clear x x'
      refine mixG_main ?_
      refine stepG_of (by rfl) ?_
      rintro ⟨x, hx⟩
      dsimp only
      obtain ⟨x', hrun, hx'⟩ := st_sell hx
      have HX := hide hx'
      clear hx'
      go_wp2
      refine ⟨St y (some (mb, true, true)) (some fb), HX.out, fun _ h => st_less (by decide) (by decide) h, st_sh _ _ _, ?_⟩
      clear hx hrun HX
      clear x x'
      repeat (refine mixG_still (by rfl) (by rfl) ?_; go_big_quiet_step (exact rfl); refine wpQuiet_nil ?_)
      refine mixG_value (by rfl) (by rfl) (sV sw) (fun x hx => by have lk := st_look HSW.out hx; go_simp) ?_
      dsimp only [Act.put]
      simp only [List.setIfInBounds_toArray, List.set_cons_succ, List.set_cons_zero]
      repeat (refine mixG_still (by rfl) (by rfl) ?_; go_big_quiet_step (exact rfl); refine wpQuiet_nil ?_)
      refine mixG_end ?_
      rintro ⟨z, hz⟩
      dsimp only
      have BZ := hide (onward BY.out hz.1)
      have AZ := hide (cdAt_below AY.out hz.1)
      clear hz
      rcases HTL.out with ⟨hr, htl⟩ | ⟨hr, htl⟩
      · have c10 : z.cell? ⟨w.heap.size, 10, none⟩ = some (.bool true) := by have := cd_cells AZ.out (Below.refl _ z) 10 rfl; rw [← hr]; exact this
        have LT := hide htl
        clear hr htl AZ AY HTL
        go_wp2
        go_ret
        refine ⟨?_, BZ.out⟩
        rw [LT.out]
        show Ending.returned (Value.string (sB kw ++ (sB [32] ++ sB (itoa ac) ++ sB [32] ++ sB (itoa mkt) ++ sB sw ++ sB (itoa qt) ++ sB [32] ++ sB (itoa pr) ++ sB [32] ++ sB hw) ++ sB (32 :: wReduce))) = _
        simp only [sB_cat, List.cons_append, List.nil_append, List.append_assoc]
      · have c10 : z.cell? ⟨w.heap.size, 10, none⟩ = some (.bool false) := by have := cd_cells AZ.out (Below.refl _ z) 10 rfl; rw [← hr]; exact this
        have LT := hide htl
        clear hr htl AZ AY HTL
        go_wp2
        go_ret
        refine ⟨?_, BZ.out⟩
        rw [LT.out]
        show Ending.returned (Value.string (sB kw ++ (sB [32] ++ sB (itoa ac) ++ sB [32] ++ sB (itoa mkt) ++ sB sw ++ sB (itoa qt) ++ sB [32] ++ sB (itoa pr) ++ sB [32] ++ sB hw))) = _
        simp only [sB_cat, List.cons_append, List.nil_append, List.append_assoc, List.append_nil]
    · refine stepG_of (by rfl) ?_
      rintro ⟨x, hx⟩
      dsimp only
      obtain ⟨x', hrun, hx'⟩ := st_sell hx
      have HX := hide hx'
      clear hx'
      go_wp2
      refine ⟨St y (some (mb, false, true)) (some fb), HX.out, fun _ h => st_less (by decide) (by decide) h, st_sh _ _ _, ?_⟩
      clear hx hrun HX
      clear x x'
      refine mixG_main ?_
      refine stepG_of (by rfl) ?_
      rintro ⟨x, hx⟩
      dsimp only
      obtain ⟨x', hrun, hx'⟩ := st_buy hx
      have HX := hide hx'
      clear hx'
      go_wp2
      refine ⟨St y (some (mb, true, true)) (some fb), HX.out, fun _ h => st_less (by decide) (by decide) h, st_sh _ _ _, ?_⟩
      clear hx hrun HX
      clear x x'
      repeat (refine mixG_still (by rfl) (by rfl) ?_; go_big_quiet_step (exact rfl); refine wpQuiet_nil ?_)
      refine mixG_value (by rfl) (by rfl) (sV sw) (fun x hx => by have lk := st_look HSW.out hx; go_simp) ?_
      dsimp only [Act.put]
      simp only [List.setIfInBounds_toArray, List.set_cons_succ, List.set_cons_zero]
      repeat (refine mixG_still (by rfl) (by rfl) ?_; go_big_quiet_step (exact rfl); refine wpQuiet_nil ?_)
      refine mixG_end ?_
      rintro ⟨z, hz⟩
      dsimp only
      have BZ := hide (onward BY.out hz.1)
      have AZ := hide (cdAt_below AY.out hz.1)
      clear hz
      rcases HTL.out with ⟨hr, htl⟩ | ⟨hr, htl⟩
      · have c10 : z.cell? ⟨w.heap.size, 10, none⟩ = some (.bool true) := by have := cd_cells AZ.out (Below.refl _ z) 10 rfl; rw [← hr]; exact this
        have LT := hide htl
        clear hr htl AZ AY HTL
        go_wp2
        go_ret
        refine ⟨?_, BZ.out⟩
        rw [LT.out]
        show Ending.returned (Value.string (sB kw ++ (sB [32] ++ sB (itoa ac) ++ sB [32] ++ sB (itoa mkt) ++ sB sw ++ sB (itoa qt) ++ sB [32] ++ sB (itoa pr) ++ sB [32] ++ sB hw) ++ sB (32 :: wReduce))) = _
        simp only [sB_cat, List.cons_append, List.nil_append, List.append_assoc]
      · have c10 : z.cell? ⟨w.heap.size, 10, none⟩ = some (.bool false) := by have := cd_cells AZ.out (Below.refl _ z) 10 rfl; rw [← hr]; exact this
        have LT := hide htl
        clear hr htl AZ AY HTL
        go_wp2
        go_ret
        refine ⟨?_, BZ.out⟩
        rw [LT.out]
        show Ending.returned (Value.string (sB kw ++ (sB [32] ++ sB (itoa ac) ++ sB [32] ++ sB (itoa mkt) ++ sB sw ++ sB (itoa qt) ++ sB [32] ++ sB (itoa pr) ++ sB [32] ++ sB hw))) = _
        simp only [sB_cat, List.cons_append, List.nil_append, List.append_assoc, List.append_nil]
end Go.Proofs.YthdjfhnhjiageaaGreatDoor.Tx
