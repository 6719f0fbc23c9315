/-
  The reference's chapter 8: a command as a text.
-/
import Derived.Test.YthdjfhnhjiageaaGreatDoorTxS4
import Derived.Test.YthdjfhnhjiageaaGreatDoorTxW5
import Derived.Test.YthdjfhnhjiageaaGreatDoorMgX
namespace Go.Proofs.YthdjfhnhjiageaaGreatDoor.Tx
open Go.RowKit Go.Lib Go.Sort Go.Proofs.YthdjfhnhjiageaaGreatDoor.Mix

/-- worlds that have grown out of one. -/
theorem sh_below (w : World) : Sh (fun x => Below w.heap.size w x) := fun _ _ hx hy => onward hx hy
theorem sh_from {C : World → Prop} (h : Sh C) (X : World) : Sh (From C X) := fun x y hx hb => ⟨h x y hx.1 hb, onward hx.2 hb⟩
set_option maxHeartbeats 4000000 in
set_option maxRecDepth 100000 in
theorem ct_a (kn : Nat) (kw : Bs) (ac mkt n oi oa sd pr qt how : Int) (red : Bool) (hk : kn = 1 ∨ kn = 2 ∨ kn = 4) (hkw : ([[45], wDeposit, wWithdraw, wPlace, wCancel, wIndex, wFund, wSweep].map sV)[kn]? = some (sV kw)) (hkl : kw.length ≤ 8) (h1 : i64 ac) (h2 : i64 n) (w : World) (E : EnvS w) :
    Calls Tryz.prog 14 #[cdV ⟨kn, ac, mkt, n, oi, oa, sd, pr, qt, how, red⟩] w fun e w' => e = .returned (sV (kw ++ 32 :: (itoa ac ++ 32 :: itoa n))) ∧ Below w.heap.size w w' := by
  have HKW : Hid (#[sV [45], sV wDeposit, sV wWithdraw, sV wPlace, sV wCancel, sV wIndex, sV wFund, sV wSweep][kn]? = some (sV kw)) := by show _ = _; simpa using hkw
  have l1 := itoa_len h1
  have l2 := itoa_len h2
  have n3 : ((kn : Int) == 3) = false := beq_false_of_ne (by omega)
  have n5 : ((kn : Int) == 5) = false := beq_false_of_ne (by omega)
  have n6 : ((kn : Int) == 6) = false := beq_false_of_ne (by omega)
  have n7 : ((kn : Int) == 7) = false := beq_false_of_ne (by omega)
  have hk8 : (kn : Int) < 8 := by omega
  clear hk hkw
  have mixed : Tryz.prog.follows .mixedOrders = true := by kernel_rfl
  obtain ⟨W, hW⟩ : ∃ W, W = w.alloc (cdO ⟨kn, ac, mkt, n, oi, oa, sd, pr, qt, how, red⟩) := ⟨_, rfl⟩
  have bW : Below w.heap.size w W := by rw [hW]; exact below_alloc w _
  have AT : CdAt W w.heap.size ⟨kn, ac, mkt, n, oi, oa, sd, pr, qt, how, red⟩ := by show W.heap[w.heap.size]? = _; rw [hW]; exact heap_alloc_new w _
  have hC : ∀ q : InC (fun x => Below W.heap.size W x), Below W.heap.size W q.w := fun q => q.h
  have hS := sh_below W
  generalize hCC : (fun x => Below W.heap.size W x) = C at hC hS
  have C0 : Hid (C { W with drawn := W.drawn + 1 }) := by rw [← hCC]; exact ⟨rfl, rfl, rfl, Nat.le_refl _, fun _ _ => rfl⟩
  have k0 : ∀ q : InC C, q.w.cell? ⟨w.heap.size, 0, none⟩ = some (.int .i64 kn) := fun q => cd_cells AT (hC q) 0 rfl
  have FV : Hid (∀ x, C x → _) := fun x hx => verbs_any x (E.below (onward bW (hC ⟨x, hx⟩)))
  have CB : Hid (∀ x, C x → Below w.heap.size w x) := fun x hx => onward bW (hC ⟨x, hx⟩)
  have CA : Hid (∀ x, C x → CdAt x w.heap.size ⟨kn, ac, mkt, n, oi, oa, sd, pr, qt, how, red⟩) := fun x hx => cdAt_below AT (hC ⟨x, hx⟩)
  have HW := hide hW
  have HS := hide hS
  have HE := hide E
  clear hW bW AT hC hS hCC E
  go_enter Tryz.func14, Tryz.ntmps14
  go_wp2_with (rw [← HW.out])
  refine wp_region_grow (.give 1 (.give 2 (.main 0 (.give 3 (.give 4 (.give 5 .done)))))) C mixed (by kernel_rfl) HS.out C0.out ?_
  repeat (refine mixG_still (by rfl) (by rfl) ?_; go_big_quiet_step (exact rfl); refine wpQuiet_nil ?_)
  refine mixG_main (stepG_of (by rfl) ?_)
  rintro ⟨x1, hx1⟩
  dsimp only
  have hcon := FV.out x1 hx1
  have HX1 := hide hx1
  go_wp2_with (go_at_call 35; refine hcon.mono ?_; rintro e w' ⟨rfl, hw'⟩)
  obtain ⟨V, hV⟩ : ∃ V, V = x1.alloc (.cells #[sV [45], sV wDeposit, sV wWithdraw, sV wPlace, sV wCancel, sV wIndex, sV wFund, sV wSweep] 9) := ⟨_, rfl⟩
  rw [← hV]
  refine ⟨From C V, ⟨HS.out x1 V HX1.out (by rw [hV]; exact below_alloc x1 _), Below.refl _ _⟩, fun x hx => hx.1, sh_from HS.out _, ?_⟩
  have kv : ∀ q : InC (From C V), q.w.cell? ⟨x1.heap.size, kn, none⟩ = some (sV kw) := fun q => (q.h.2.cell (p := ⟨x1.heap.size, kn, none⟩) (by rw [hV]; simp)).trans (by rw [hV]; exact new_cell x1 _ _ kn _ (by rw [HKW.out]))
  have CF : Hid (∀ x, From C V x → C x) := fun x hx => hx.1
  generalize From C V = C1 at kv CF ⊢
  generalize x1.heap.size = vb at kv ⊢
  clear hV hcon HX1 hx1 hw'
  clear V x1
  repeat (refine mixG_still (by rfl) (by rfl) ?_; go_big_quiet_step (exact rfl); refine wpQuiet_nil ?_)
  refine mixG_end ?_
  rintro ⟨y, hy⟩
  dsimp only
  have BY := hide (CB.out y (CF.out y hy))
  have AY := hide (CA.out y (CF.out y hy))
  have EY := hide (HE.out.below BY.out)
  clear hy kv k0 CF CA CB FV C0 HS HE HW HKW
  clear C C1
  have c0 := cd_cells AY.out (Below.refl _ y) 0 rfl
  have hC : ∀ q : InC (fun x => Below y.heap.size y x), Below y.heap.size y q.w := fun q => q.h
  have hS := sh_below y
  generalize hCC : (fun x => Below y.heap.size y x) = C at hC hS
  have C0 : Hid (C { y with drawn := y.drawn + 1 }) := by rw [← hCC]; exact ⟨rfl, rfl, rfl, Nat.le_refl _, fun _ _ => rfl⟩
  have CB : Hid (∀ x, C x → Below w.heap.size w x) := fun x hx => onward BY.out (hC ⟨x, hx⟩)
  have HS := hide hS
  have k1 : ∀ q : InC C, q.w.cell? ⟨w.heap.size, 1, none⟩ = some (.int .i64 ac) := fun q => cd_cells AY.out (hC q) 1 rfl
  have k3 : ∀ q : InC C, q.w.cell? ⟨w.heap.size, 3, none⟩ = some (.int .i64 n) := fun q => cd_cells AY.out (hC q) 3 rfl
  have I1 : Hid (∀ x, C x → _) := fun x hx => itoa_any ac h1 x (EY.out.env.below (hC ⟨x, hx⟩))
  have I2 : Hid (∀ x, C x → _) := fun x hx => itoa_any n h2 x (EY.out.env.below (hC ⟨x, hx⟩))
  clear hC hS hCC
  go_wp2_with fail
  refine wp_region_grow (.give 0 (.give 1 (.give 2 (.give 3 (.give 7 (.give 8 (.give 9 (.give 4 (.give 5 (.give 6 (.give 10 (.give 11 (.give 12 (.give 13 .done)))))))))))))) C mixed (by kernel_rfl) HS.out C0.out ?_
  repeat (refine mixG_still (by rfl) (by rfl) ?_; go_big_quiet_step (exact rfl); refine wpQuiet_nil ?_)
  refine mixG_call (by rfl) (by rfl) 34 #[.int .i64 ac] (sV (itoa ac)) (fun w => by go_simp) (fun x hx => I1.out x hx) ?_
  dsimp only [Act.put]
  simp only [List.setIfInBounds_toArray, List.set_cons_succ, List.set_cons_zero]
  repeat (refine mixG_still (by rfl) (by rfl) ?_; go_big_quiet_step (exact rfl); refine wpQuiet_nil ?_)
  refine mixG_call (by rfl) (by rfl) 34 #[.int .i64 n] (sV (itoa n)) (fun w => by go_simp) (fun x hx => I2.out x hx) ?_
  dsimp only [Act.put]
  simp only [List.setIfInBounds_toArray, List.set_cons_succ, List.set_cons_zero]
  repeat (refine mixG_still (by rfl) (by rfl) ?_; go_big_quiet_step (exact rfl); refine wpQuiet_nil ?_)
  refine mixG_end ?_
  rintro ⟨z, hz⟩
  dsimp only
  have BZ := hide (CB.out z hz)
  clear k1 k3 I1 I2 CB HS C0 hz
  go_wp2
  go_ret
  refine ⟨?_, BZ.out⟩
  show Ending.returned (Value.string (sB kw ++ (sB [32] ++ sB (itoa ac) ++ sB [32] ++ sB (itoa n)))) = _
  simp only [sB_cat, List.cons_append, List.nil_append, List.append_assoc]
set_option maxHeartbeats 4000000 in
set_option maxRecDepth 100000 in
theorem ct_b (kn : Nat) (kw : Bs) (ac mkt n oi oa sd pr qt how : Int) (red : Bool) (hk : kn = 5 ∨ kn = 6) (hkw : ([[45], wDeposit, wWithdraw, wPlace, wCancel, wIndex, wFund, wSweep].map sV)[kn]? = some (sV kw)) (hkl : kw.length ≤ 8) (h1 : i64 mkt) (h2 : i64 n) (w : World) (E : EnvS w) :
    Calls Tryz.prog 14 #[cdV ⟨kn, ac, mkt, n, oi, oa, sd, pr, qt, how, red⟩] w fun e w' => e = .returned (sV (kw ++ 32 :: (itoa mkt ++ 32 :: itoa n))) ∧ Below w.heap.size w w' := by
  have HKW : Hid (#[sV [45], sV wDeposit, sV wWithdraw, sV wPlace, sV wCancel, sV wIndex, sV wFund, sV wSweep][kn]? = some (sV kw)) := by show _ = _; simpa using hkw
  have l1 := itoa_len h1
  have l2 := itoa_len h2
  have hk8 : (kn : Int) < 8 := by omega
  have n3 : ((kn : Int) == 3) = false := beq_false_of_ne (by omega)
  rcases hk with hk | hk
  · have n5 : ((kn : Int) == 5) = true := by rw [hk]; rfl
    clear hk hkw
    have mixed : Tryz.prog.follows .mixedOrders = true := by kernel_rfl
    obtain ⟨W, hW⟩ : ∃ W, W = w.alloc (cdO ⟨kn, ac, mkt, n, oi, oa, sd, pr, qt, how, red⟩) := ⟨_, rfl⟩
    have bW : Below w.heap.size w W := by rw [hW]; exact below_alloc w _
    have AT : CdAt W w.heap.size ⟨kn, ac, mkt, n, oi, oa, sd, pr, qt, how, red⟩ := by show W.heap[w.heap.size]? = _; rw [hW]; exact heap_alloc_new w _
    have hC : ∀ q : InC (fun x => Below W.heap.size W x), Below W.heap.size W q.w := fun q => q.h
    have hS := sh_below W
    generalize hCC : (fun x => Below W.heap.size W x) = C at hC hS
    have C0 : Hid (C { W with drawn := W.drawn + 1 }) := by rw [← hCC]; exact ⟨rfl, rfl, rfl, Nat.le_refl _, fun _ _ => rfl⟩
    have k0 : ∀ q : InC C, q.w.cell? ⟨w.heap.size, 0, none⟩ = some (.int .i64 kn) := fun q => cd_cells AT (hC q) 0 rfl
    have FV : Hid (∀ x, C x → _) := fun x hx => verbs_any x (E.below (onward bW (hC ⟨x, hx⟩)))
    have CB : Hid (∀ x, C x → Below w.heap.size w x) := fun x hx => onward bW (hC ⟨x, hx⟩)
    have CA : Hid (∀ x, C x → CdAt x w.heap.size ⟨kn, ac, mkt, n, oi, oa, sd, pr, qt, how, red⟩) := fun x hx => cdAt_below AT (hC ⟨x, hx⟩)
    have HW := hide hW
    have HS := hide hS
    have HE := hide E
    clear hW bW AT hC hS hCC E
    go_enter Tryz.func14, Tryz.ntmps14
    go_wp2_with (rw [← HW.out])
    refine wp_region_grow (.give 1 (.give 2 (.main 0 (.give 3 (.give 4 (.give 5 .done)))))) C mixed (by kernel_rfl) HS.out C0.out ?_
    repeat (refine mixG_still (by rfl) (by rfl) ?_; go_big_quiet_step (exact rfl); refine wpQuiet_nil ?_)
    refine mixG_main (stepG_of (by rfl) ?_)
    rintro ⟨x1, hx1⟩
    dsimp only
    have hcon := FV.out x1 hx1
    have HX1 := hide hx1
    go_wp2_with (go_at_call 35; refine hcon.mono ?_; rintro e w' ⟨rfl, hw'⟩)
    obtain ⟨V, hV⟩ : ∃ V, V = x1.alloc (.cells #[sV [45], sV wDeposit, sV wWithdraw, sV wPlace, sV wCancel, sV wIndex, sV wFund, sV wSweep] 9) := ⟨_, rfl⟩
    rw [← hV]
    refine ⟨From C V, ⟨HS.out x1 V HX1.out (by rw [hV]; exact below_alloc x1 _), Below.refl _ _⟩, fun x hx => hx.1, sh_from HS.out _, ?_⟩
    have kv : ∀ q : InC (From C V), q.w.cell? ⟨x1.heap.size, kn, none⟩ = some (sV kw) := fun q => (q.h.2.cell (p := ⟨x1.heap.size, kn, none⟩) (by rw [hV]; simp)).trans (by rw [hV]; exact new_cell x1 _ _ kn _ (by rw [HKW.out]))
    have CF : Hid (∀ x, From C V x → C x) := fun x hx => hx.1
    generalize From C V = C1 at kv CF ⊢
    generalize x1.heap.size = vb at kv ⊢
    clear hV hcon HX1 hx1 hw'
    clear V x1
    repeat (refine mixG_still (by rfl) (by rfl) ?_; go_big_quiet_step (exact rfl); refine wpQuiet_nil ?_)
    refine mixG_end ?_
    rintro ⟨y, hy⟩
    dsimp only
    have BY := hide (CB.out y (CF.out y hy))
    have AY := hide (CA.out y (CF.out y hy))
    have EY := hide (HE.out.below BY.out)
    clear hy kv k0 CF CA CB FV C0 HS HE HW HKW
    clear C C1
    have c0 := cd_cells AY.out (Below.refl _ y) 0 rfl
    have hC : ∀ q : InC (fun x => Below y.heap.size y x), Below y.heap.size y q.w := fun q => q.h
    have hS := sh_below y
    generalize hCC : (fun x => Below y.heap.size y x) = C at hC hS
    have C0 : Hid (C { y with drawn := y.drawn + 1 }) := by rw [← hCC]; exact ⟨rfl, rfl, rfl, Nat.le_refl _, fun _ _ => rfl⟩
    have CB : Hid (∀ x, C x → Below w.heap.size w x) := fun x hx => onward BY.out (hC ⟨x, hx⟩)
    have HS := hide hS
    have k2 : ∀ q : InC C, q.w.cell? ⟨w.heap.size, 2, none⟩ = some (.int .i64 mkt) := fun q => cd_cells AY.out (hC q) 2 rfl
    have k3 : ∀ q : InC C, q.w.cell? ⟨w.heap.size, 3, none⟩ = some (.int .i64 n) := fun q => cd_cells AY.out (hC q) 3 rfl
    have I1 : Hid (∀ x, C x → _) := fun x hx => itoa_any mkt h1 x (EY.out.env.below (hC ⟨x, hx⟩))
    have I2 : Hid (∀ x, C x → _) := fun x hx => itoa_any n h2 x (EY.out.env.below (hC ⟨x, hx⟩))
    clear hC hS hCC
    go_wp2_with fail
    refine wp_region_grow (.give 0 (.give 1 (.give 2 (.give 3 (.give 7 (.give 8 (.give 9 (.give 4 (.give 5 (.give 6 (.give 10 (.give 11 (.give 12 (.give 13 .done)))))))))))))) C mixed (by kernel_rfl) HS.out C0.out ?_
    repeat (refine mixG_still (by rfl) (by rfl) ?_; go_big_quiet_step (exact rfl); refine wpQuiet_nil ?_)
    refine mixG_call (by rfl) (by rfl) 34 #[.int .i64 mkt] (sV (itoa mkt)) (fun w => by go_simp) (fun x hx => I1.out x hx) ?_
    dsimp only [Act.put]
    simp only [List.setIfInBounds_toArray, List.set_cons_succ, List.set_cons_zero]
    repeat (refine mixG_still (by rfl) (by rfl) ?_; go_big_quiet_step (exact rfl); refine wpQuiet_nil ?_)
    refine mixG_call (by rfl) (by rfl) 34 #[.int .i64 n] (sV (itoa n)) (fun w => by go_simp) (fun x hx => I2.out x hx) ?_
    dsimp only [Act.put]
    simp only [List.setIfInBounds_toArray, List.set_cons_succ, List.set_cons_zero]
    repeat (refine mixG_still (by rfl) (by rfl) ?_; go_big_quiet_step (exact rfl); refine wpQuiet_nil ?_)
    refine mixG_end ?_
    rintro ⟨z, hz⟩
    dsimp only
    have BZ := hide (CB.out z hz)
    clear k2 k3 I1 I2 CB HS C0 hz
    go_wp2
    go_ret
    refine ⟨?_, BZ.out⟩
    show Ending.returned (Value.string (sB kw ++ (sB [32] ++ sB (itoa mkt) ++ sB [32] ++ sB (itoa n)))) = _
    simp only [sB_cat, List.cons_append, List.nil_append, List.append_assoc]
  · have n5 : ((kn : Int) == 5) = false := beq_false_of_ne (by omega)
    have n6 : ((kn : Int) == 6) = true := by rw [hk]; rfl
    clear hk hkw
    have mixed : Tryz.prog.follows .mixedOrders = true := by kernel_rfl
    obtain ⟨W, hW⟩ : ∃ W, W = w.alloc (cdO ⟨kn, ac, mkt, n, oi, oa, sd, pr, qt, how, red⟩) := ⟨_, rfl⟩
    have bW : Below w.heap.size w W := by rw [hW]; exact below_alloc w _
    have AT : CdAt W w.heap.size ⟨kn, ac, mkt, n, oi, oa, sd, pr, qt, how, red⟩ := by show W.heap[w.heap.size]? = _; rw [hW]; exact heap_alloc_new w _
    have hC : ∀ q : InC (fun x => Below W.heap.size W x), Below W.heap.size W q.w := fun q => q.h
    have hS := sh_below W
    generalize hCC : (fun x => Below W.heap.size W x) = C at hC hS
    have C0 : Hid (C { W with drawn := W.drawn + 1 }) := by rw [← hCC]; exact ⟨rfl, rfl, rfl, Nat.le_refl _, fun _ _ => rfl⟩
    have k0 : ∀ q : InC C, q.w.cell? ⟨w.heap.size, 0, none⟩ = some (.int .i64 kn) := fun q => cd_cells AT (hC q) 0 rfl
    have FV : Hid (∀ x, C x → _) := fun x hx => verbs_any x (E.below (onward bW (hC ⟨x, hx⟩)))
    have CB : Hid (∀ x, C x → Below w.heap.size w x) := fun x hx => onward bW (hC ⟨x, hx⟩)
    have CA : Hid (∀ x, C x → CdAt x w.heap.size ⟨kn, ac, mkt, n, oi, oa, sd, pr, qt, how, red⟩) := fun x hx => cdAt_below AT (hC ⟨x, hx⟩)
    have HW := hide hW
    have HS := hide hS
    have HE := hide E
    clear hW bW AT hC hS hCC E
    go_enter Tryz.func14, Tryz.ntmps14
    go_wp2_with (rw [← HW.out])
    refine wp_region_grow (.give 1 (.give 2 (.main 0 (.give 3 (.give 4 (.give 5 .done)))))) C mixed (by kernel_rfl) HS.out C0.out ?_
    repeat (refine mixG_still (by rfl) (by rfl) ?_; go_big_quiet_step (exact rfl); refine wpQuiet_nil ?_)
    refine mixG_main (stepG_of (by rfl) ?_)
    rintro ⟨x1, hx1⟩
    dsimp only
    have hcon := FV.out x1 hx1
    have HX1 := hide hx1
    go_wp2_with (go_at_call 35; refine hcon.mono ?_; rintro e w' ⟨rfl, hw'⟩)
    obtain ⟨V, hV⟩ : ∃ V, V = x1.alloc (.cells #[sV [45], sV wDeposit, sV wWithdraw, sV wPlace, sV wCancel, sV wIndex, sV wFund, sV wSweep] 9) := ⟨_, rfl⟩
    rw [← hV]
    refine ⟨From C V, ⟨HS.out x1 V HX1.out (by rw [hV]; exact below_alloc x1 _), Below.refl _ _⟩, fun x hx => hx.1, sh_from HS.out _, ?_⟩
    have kv : ∀ q : InC (From C V), q.w.cell? ⟨x1.heap.size, kn, none⟩ = some (sV kw) := fun q => (q.h.2.cell (p := ⟨x1.heap.size, kn, none⟩) (by rw [hV]; simp)).trans (by rw [hV]; exact new_cell x1 _ _ kn _ (by rw [HKW.out]))
    have CF : Hid (∀ x, From C V x → C x) := fun x hx => hx.1
    generalize From C V = C1 at kv CF ⊢
    generalize x1.heap.size = vb at kv ⊢
    clear hV hcon HX1 hx1 hw'
    clear V x1
    repeat (refine mixG_still (by rfl) (by rfl) ?_; go_big_quiet_step (exact rfl); refine wpQuiet_nil ?_)
    refine mixG_end ?_
    rintro ⟨y, hy⟩
    dsimp only
    have BY := hide (CB.out y (CF.out y hy))
    have AY := hide (CA.out y (CF.out y hy))
    have EY := hide (HE.out.below BY.out)
    clear hy kv k0 CF CA CB FV C0 HS HE HW HKW
    clear C C1
    have c0 := cd_cells AY.out (Below.refl _ y) 0 rfl
    have hC : ∀ q : InC (fun x => Below y.heap.size y x), Below y.heap.size y q.w := fun q => q.h
    have hS := sh_below y
    generalize hCC : (fun x => Below y.heap.size y x) = C at hC hS
    have C0 : Hid (C { y with drawn := y.drawn + 1 }) := by rw [← hCC]; exact ⟨rfl, rfl, rfl, Nat.le_refl _, fun _ _ => rfl⟩
    have CB : Hid (∀ x, C x → Below w.heap.size w x) := fun x hx => onward BY.out (hC ⟨x, hx⟩)
    have HS := hide hS
    have k2 : ∀ q : InC C, q.w.cell? ⟨w.heap.size, 2, none⟩ = some (.int .i64 mkt) := fun q => cd_cells AY.out (hC q) 2 rfl
    have k3 : ∀ q : InC C, q.w.cell? ⟨w.heap.size, 3, none⟩ = some (.int .i64 n) := fun q => cd_cells AY.out (hC q) 3 rfl
    have I1 : Hid (∀ x, C x → _) := fun x hx => itoa_any mkt h1 x (EY.out.env.below (hC ⟨x, hx⟩))
    have I2 : Hid (∀ x, C x → _) := fun x hx => itoa_any n h2 x (EY.out.env.below (hC ⟨x, hx⟩))
    clear hC hS hCC
    go_wp2_with fail
    refine wp_region_grow (.give 0 (.give 1 (.give 2 (.give 3 (.give 7 (.give 8 (.give 9 (.give 4 (.give 5 (.give 6 (.give 10 (.give 11 (.give 12 (.give 13 .done)))))))))))))) C mixed (by kernel_rfl) HS.out C0.out ?_
    repeat (refine mixG_still (by rfl) (by rfl) ?_; go_big_quiet_step (exact rfl); refine wpQuiet_nil ?_)
    refine mixG_call (by rfl) (by rfl) 34 #[.int .i64 mkt] (sV (itoa mkt)) (fun w => by go_simp) (fun x hx => I1.out x hx) ?_
    dsimp only [Act.put]
    simp only [List.setIfInBounds_toArray, List.set_cons_succ, List.set_cons_zero]
    repeat (refine mixG_still (by rfl) (by rfl) ?_; go_big_quiet_step (exact rfl); refine wpQuiet_nil ?_)
    refine mixG_call (by rfl) (by rfl) 34 #[.int .i64 n] (sV (itoa n)) (fun w => by go_simp) (fun x hx => I2.out x hx) ?_
    dsimp only [Act.put]
    simp only [List.setIfInBounds_toArray, List.set_cons_succ, List.set_cons_zero]
    repeat (refine mixG_still (by rfl) (by rfl) ?_; go_big_quiet_step (exact rfl); refine wpQuiet_nil ?_)
    refine mixG_end ?_
    rintro ⟨z, hz⟩
    dsimp only
    have BZ := hide (CB.out z hz)
    clear k2 k3 I1 I2 CB HS C0 hz
    go_wp2
    go_ret
    refine ⟨?_, BZ.out⟩
    show Ending.returned (Value.string (sB kw ++ (sB [32] ++ sB (itoa mkt) ++ sB [32] ++ sB (itoa n)))) = _
    simp only [sB_cat, List.cons_append, List.nil_append, List.append_assoc]
set_option maxHeartbeats 4000000 in
set_option maxRecDepth 100000 in
theorem ct_7 (kn : Nat) (kw : Bs) (ac mkt n oi oa sd pr qt how : Int) (red : Bool) (hk : kn = 7) (hkw : ([[45], wDeposit, wWithdraw, wPlace, wCancel, wIndex, wFund, wSweep].map sV)[kn]? = some (sV kw)) (w : World) (E : EnvS w) :
    Calls Tryz.prog 14 #[cdV ⟨kn, ac, mkt, n, oi, oa, sd, pr, qt, how, red⟩] w fun e w' => e = .returned (sV kw) ∧ Below w.heap.size w w' := by
  have HKW : Hid (#[sV [45], sV wDeposit, sV wWithdraw, sV wPlace, sV wCancel, sV wIndex, sV wFund, sV wSweep][kn]? = some (sV kw)) := by show _ = _; simpa using hkw
  have hk8 : (kn : Int) < 8 := by omega
  have n3 : ((kn : Int) == 3) = false := beq_false_of_ne (by omega)
  have n5 : ((kn : Int) == 5) = false := beq_false_of_ne (by omega)
  have n6 : ((kn : Int) == 6) = false := beq_false_of_ne (by omega)
  have n7 : ((kn : Int) == 7) = true := by rw [hk]; rfl
  clear hk hkw
  have mixed : Tryz.prog.follows .mixedOrders = true := by kernel_rfl
  obtain ⟨W, hW⟩ : ∃ W, W = w.alloc (cdO ⟨kn, ac, mkt, n, oi, oa, sd, pr, qt, how, red⟩) := ⟨_, rfl⟩
  have bW : Below w.heap.size w W := by rw [hW]; exact below_alloc w _
  have AT : CdAt W w.heap.size ⟨kn, ac, mkt, n, oi, oa, sd, pr, qt, how, red⟩ := by show W.heap[w.heap.size]? = _; rw [hW]; exact heap_alloc_new w _
  have hC : ∀ q : InC (fun x => Below W.heap.size W x), Below W.heap.size W q.w := fun q => q.h
  have hS := sh_below W
  generalize hCC : (fun x => Below W.heap.size W x) = C at hC hS
  have C0 : Hid (C { W with drawn := W.drawn + 1 }) := by rw [← hCC]; exact ⟨rfl, rfl, rfl, Nat.le_refl _, fun _ _ => rfl⟩
  have k0 : ∀ q : InC C, q.w.cell? ⟨w.heap.size, 0, none⟩ = some (.int .i64 kn) := fun q => cd_cells AT (hC q) 0 rfl
  have FV : Hid (∀ x, C x → _) := fun x hx => verbs_any x (E.below (onward bW (hC ⟨x, hx⟩)))
  have CB : Hid (∀ x, C x → Below w.heap.size w x) := fun x hx => onward bW (hC ⟨x, hx⟩)
  have CA : Hid (∀ x, C x → CdAt x w.heap.size ⟨kn, ac, mkt, n, oi, oa, sd, pr, qt, how, red⟩) := fun x hx => cdAt_below AT (hC ⟨x, hx⟩)
  have HW := hide hW
  have HS := hide hS
  have HE := hide E
  clear hW bW AT hC hS hCC E
  go_enter Tryz.func14, Tryz.ntmps14
  go_wp2_with (rw [← HW.out])
  refine wp_region_grow (.give 1 (.give 2 (.main 0 (.give 3 (.give 4 (.give 5 .done)))))) C mixed (by kernel_rfl) HS.out C0.out ?_
  repeat (refine mixG_still (by rfl) (by rfl) ?_; go_big_quiet_step (exact rfl); refine wpQuiet_nil ?_)
  refine mixG_main (stepG_of (by rfl) ?_)
  rintro ⟨x1, hx1⟩
  dsimp only
  have hcon := FV.out x1 hx1
  have HX1 := hide hx1
  go_wp2_with (go_at_call 35; refine hcon.mono ?_; rintro e w' ⟨rfl, hw'⟩)
  obtain ⟨V, hV⟩ : ∃ V, V = x1.alloc (.cells #[sV [45], sV wDeposit, sV wWithdraw, sV wPlace, sV wCancel, sV wIndex, sV wFund, sV wSweep] 9) := ⟨_, rfl⟩
  rw [← hV]
  refine ⟨From C V, ⟨HS.out x1 V HX1.out (by rw [hV]; exact below_alloc x1 _), Below.refl _ _⟩, fun x hx => hx.1, sh_from HS.out _, ?_⟩
  have kv : ∀ q : InC (From C V), q.w.cell? ⟨x1.heap.size, kn, none⟩ = some (sV kw) := fun q => (q.h.2.cell (p := ⟨x1.heap.size, kn, none⟩) (by rw [hV]; simp)).trans (by rw [hV]; exact new_cell x1 _ _ kn _ (by rw [HKW.out]))
  have CF : Hid (∀ x, From C V x → C x) := fun x hx => hx.1
  generalize From C V = C1 at kv CF ⊢
  generalize x1.heap.size = vb at kv ⊢
  clear hV hcon HX1 hx1 hw'
  clear V x1
  repeat (refine mixG_still (by rfl) (by rfl) ?_; go_big_quiet_step (exact rfl); refine wpQuiet_nil ?_)
  refine mixG_end ?_
  rintro ⟨y, hy⟩
  dsimp only
  have BY := hide (CB.out y (CF.out y hy))
  have AY := hide (CA.out y (CF.out y hy))
  have EY := hide (HE.out.below BY.out)
  clear hy kv k0 CF CA CB FV C0 HS HE HW HKW
  clear C C1
  have c0 := cd_cells AY.out (Below.refl _ y) 0 rfl
  go_wp2
  go_ret
  exact ⟨rfl, BY.out⟩
end Go.Proofs.YthdjfhnhjiageaaGreatDoor.Tx
