/-
  The reference's chapter 8: ReadCommand of what is no order.
-/
import Derived.Test.YthdjfhnhjiageaaGreatDoorTxN2
namespace Go.Proofs.YthdjfhnhjiageaaGreatDoor.Tx
open Go.RowKit Go.Lib Go.Sort Go.Proofs.YthdjfhnhjiageaaGreatDoor.Mix
set_option linter.unusedVariables false
set_option maxHeartbeats 8000000 in
set_option maxRecDepth 100000 in
theorem rd_b50 (s : Bs) (ws : List Bs) (l0 : Bs) (kd : Int) (w : World) (E : EnvS w) (HL0 : Hid (ws[0]? = some l0)) (HKD : Hid (idxW verbsR l0 = kd)) (hN : (0 : Int) < (ws.length : Int)) (hk : ¬ kd < 1) (h7 : (kd == 7) = false) (h5 : (kd == 5) = true) (hn3 : ¬ (ws.length : Int) = 3)
    (SP0 : Calls Tryz.prog 75 #[sV s, .string ⟨#[32]⟩] (w.alloc (cdO noCd)) fun e w' => e = .returned (.slice (some ⟨w.heap.size + 1, 0, none⟩) ws.length ws.length) ∧ w' = (w.alloc (cdO noCd)).alloc (.cells (ws.map sV).toArray 9)) :
    Calls Tryz.prog 54 #[sV s] w fun e w' => e = .returned (.tuple #[cdV noCd, .int .i64 1]) ∧ Below w.heap.size w w' := by
  obtain ⟨N, HN⟩ : ∃ N, ws.length = N := ⟨_, rfl⟩
  rw [HN] at SP0 hN hn3
  have mixed : Tryz.prog.follows .mixedOrders = true := by kernel_rfl
  obtain ⟨W1, hW1⟩ : ∃ W1, W1 = (w.alloc (cdO noCd)).alloc (.cells (ws.map sV).toArray 9) := ⟨_, rfl⟩
  have SP := hide SP0
  rw [← hW1] at SP
  have RT : CdAt W1 w.heap.size noCd := by
    show W1.heap[w.heap.size]? = _
    rw [hW1]
    exact cdAt_below (heap_alloc_new w _) (below_alloc _ _)
  have LW : W1.heap[w.heap.size + 1]? = some (.cells (ws.map sV).toArray 9 (0, 0)) := by
    rw [hW1]
    have := heap_alloc_new (w.alloc (cdO noCd)) (.cells (ws.map sV).toArray 9)
    simp only [World.size_alloc] at this
    exact this
  have bW : Below w.heap.size w W1 := by rw [hW1]; exact ((Below.refl _ w).alloc (Nat.le_refl _) _).alloc (by simp) _
  have hC : ∀ q : InC (fun x => Below W1.heap.size W1 x), Below W1.heap.size W1 q.w := fun q => q.h
  generalize hCC : (fun x => Below W1.heap.size W1 x) = C at hC
  have CS : Hid (∀ x y, C x → Below x.heap.size x y → C y) := by rw [← hCC]; exact fun x y hx hy => onward hx hy
  have C0 : Hid (C { W1 with drawn := W1.drawn + 1 }) := by rw [← hCC]; exact ⟨rfl, rfl, rfl, Nat.le_refl _, fun _ _ => rfl⟩
  have CB : Hid (∀ x, C x → Below W1.heap.size W1 x) := fun x hx => hC ⟨x, hx⟩
  have k0 : ∀ q : InC C, q.w.cell? ⟨w.heap.size + 1, 0, none⟩ = some (sV l0) := fun q => row_str LW (hC q) 0 HL0.out
  have FV : Hid (∀ x, C x → _) := fun x hx => verbs_any x (E.below (onward bW (hC ⟨x, hx⟩)))
  have HRT := hide RT
  have HLW := hide LW
  have HBW := hide bW
  have HE := hide E
  clear hW1 RT LW bW hC hCC SP0 E
  go_enter Tryz.func54, Tryz.ntmps54
  go_wp2_with fail
  refine SP.out.mono ?_
  rintro e w' ⟨rfl, hw'⟩
  rw [hw']
  clear hw' SP
  clear w'
  go_wp2_with fail
  refine wp_region_mix [(1, true), (2, true), (3, true), (0, false), (4, false), (5, true)] C mixed (by kernel_rfl) C0.out ?_
  repeat (refine mix_still (by rfl) ?_; go_big_quiet_step (exact rfl); refine wpQuiet_nil ?_)
  refine mix_main (by rfl) ?_
  rintro ⟨x1, hx1⟩
  dsimp only
  have hcon := FV.out x1 hx1
  have HX1 := hide hx1
  go_wp2_with (go_at_call 35; refine hcon.mono ?_; rintro e w' ⟨rfl, hw'⟩)
  obtain ⟨V, hV⟩ : ∃ V, V = x1.alloc (.cells #[sV [45], sV wDeposit, sV wWithdraw, sV wPlace, sV wCancel, sV wIndex, sV wFund, sV wSweep] 9) := ⟨_, rfl⟩
  rw [← hV]
  refine ⟨From C V, ⟨CS.out x1 V HX1.out (by rw [hV]; exact below_alloc x1 _), Below.refl _ _⟩, fun x hx => hx.1, ?_⟩
  have IX : Hid (∀ x, From C V x → _) := fun x hx => index_words x1.heap.size [[45], wDeposit, wWithdraw, wPlace, wCancel, wIndex, wFund, wSweep] l0 x (by decide) (fun j hj => (hx.2.cell (p := ⟨x1.heap.size, j, none⟩) (by rw [hV]; simp)).trans (by rw [hV]; exact new_cell x1 _ _ j _ (eight_get hj)))
  have CF : Hid (∀ x, From C V x → C x) := fun x hx => hx.1
  have IXK : idxW [[45], wDeposit, wWithdraw, wPlace, wCancel, wIndex, wFund, wSweep] l0 = kd := HKD.out
  rw [IXK] at IX
  generalize From C V = C1 at IX CF ⊢
  generalize x1.heap.size = vb at IX ⊢
  clear hV hcon HX1 hx1 hw' IXK
  clear V x1 w'
  refine mix_main (by rfl) ?_
  rintro ⟨x2, hx2⟩
  dsimp only
  have hcon := IX.out x2 hx2
  have HX2 := hide hx2
  go_wp2_with (go_at_call 76; refine hcon.mono ?_; rintro e w' ⟨rfl, hw'⟩)
  refine ⟨C1, hw' ▸ HX2.out, fun x hx => hx, ?_⟩
  clear hcon HX2 hx2 hw' IX
  clear x2 w'
  repeat (refine mix_still (by rfl) ?_; go_big_quiet_step (exact rfl); refine wpQuiet_nil ?_)
  refine mix_end ?_
  rintro ⟨X, hX⟩
  dsimp only
  have bX := CB.out X (CF.out X hX)
  have BX := hide (onward HBW.out bX)
  have RX := hide (cdAt_below HRT.out bX)
  have LX : Hid (X.heap[w.heap.size + 1]? = some (.cells (ws.map sV).toArray 9 (0, 0))) := (bX.block _ (Array.getElem?_eq_some_iff.1 HLW.out).1).trans HLW.out
  clear bX hX k0 CF CB C0 CS FV HRT HLW HBW
  clear C C1
  obtain ⟨Q, hQ⟩ : ∃ Q, Q = (X.alloc (cdO ⟨kd, 0, 0, 0, 0, 0, 0, 0, 0, 0, false⟩)).alloc (.cells #[.pointer (some ⟨X.heap.size, 1, none⟩), .pointer (some ⟨X.heap.size, 3, none⟩)] 132) := ⟨_, rfl⟩
  have bQ : Below X.heap.size X Q := by rw [hQ]; exact ((Below.refl _ X).alloc (Nat.le_refl _) _).alloc (by simp) _
  have CG : Hid (CdAt Q X.heap.size ⟨kd, 0, 0, 0, 0, 0, 0, 0, 0, 0, false⟩) := by
    show Q.heap[X.heap.size]? = _
    rw [hQ]
    exact cdAt_below (heap_alloc_new X _) (below_alloc _ _)
  have IG : Hid (Q.heap[X.heap.size + 1]? = some (.cells #[.pointer (some ⟨X.heap.size, 1, none⟩), .pointer (some ⟨X.heap.size, 3, none⟩)] 132 (0, 0))) := by
    show Q.heap[X.heap.size + 1]? = _
    rw [hQ]
    have := heap_alloc_new (X.alloc (cdO ⟨kd, 0, 0, 0, 0, 0, 0, 0, 0, 0, false⟩)) (.cells #[.pointer (some ⟨X.heap.size, 1, none⟩), .pointer (some ⟨X.heap.size, 3, none⟩)] 132)
    simp only [World.size_alloc] at this
    exact this
  have SX : Hid (w.heap.size + 2 ≤ X.heap.size) := (Array.getElem?_eq_some_iff.1 LX.out).1
  have BG := hide (onward BX.out bQ)
  have RG := hide (cdAt_below RX.out bQ)
  have LG : Hid (Q.heap[w.heap.size + 1]? = some (.cells (ws.map sV).toArray 9 (0, 0))) := (bQ.block _ (Array.getElem?_eq_some_iff.1 LX.out).1).trans LX.out
  have HQ := hide hQ
  clear hQ bQ BX RX LX
  obtain ⟨Q2, hQ2⟩ : ∃ Q2, Q2 = Q.alloc (.cells #[.pointer (some ⟨X.heap.size, 2, none⟩), .pointer (some ⟨X.heap.size, 3, none⟩)] 132) := ⟨_, rfl⟩
  have bQ2 : Below Q.heap.size Q Q2 := by rw [hQ2]; exact below_alloc Q _
  have CG2 := hide (cdAt_below CG.out bQ2)
  have SI0 : Hid (X.heap.size < Q.heap.size) := (Array.getElem?_eq_some_iff.1 CG.out).1
  have RG2 := hide (cdAt_below RG.out bQ2)
  have LG2 : Hid (Q2.heap[w.heap.size + 1]? = some (.cells (ws.map sV).toArray 9 (0, 0))) := (bQ2.block _ (Array.getElem?_eq_some_iff.1 LG.out).1).trans LG.out
  have IG2 : Hid (Q2.heap[Q.heap.size]? = some (.cells #[.pointer (some ⟨X.heap.size, 2, none⟩), .pointer (some ⟨X.heap.size, 3, none⟩)] 132 (0, 0))) := by show Q2.heap[Q.heap.size]? = _; rw [hQ2]; exact heap_alloc_new Q _
  have BG2 := hide (onward BG.out bQ2)
  have HQ2 := hide hQ2
  clear hQ2 bQ2 CG RG LG IG BG
  have CG := CG2
  have RG := RG2
  have LG := LG2
  have IG := IG2
  have BG := BG2
  clear CG2 RG2 LG2 IG2 BG2
  go_wp2_with (first | rw [← HQ.out] | rw [← HQ2.out])
  have BC := hide (refBad_any Q2)
  go_wp2_with fail
  refine BC.out.mono ?_
  rintro e Z0 ⟨rfl, bZ⟩
  have RZ := cdAt_below RG.out bZ
  have BZ := hide (onward BG.out bZ)
  have RZH := hide RZ
  clear BC bZ
  obtain ⟨⟨g0, g1, g2, g3, g4, g5, g6, g7, g8, g9, g10⟩, h0, h1, h2, h3, h4, h5, h6, h7, h8, h9, h10⟩ := cd_open RZ
  clear RZ
  go_wp2
  obtain ⟨ZZ, hZ⟩ : ∃ Z, Z = putCd Z0 w.heap.size noCd := ⟨_, rfl⟩
  have ZA : CdAt ZZ w.heap.size noCd := by rw [hZ]; exact putCd_at RZH.out _
  have ZB : Below w.heap.size w ZZ := by rw [hZ]; exact putCd_below BZ.out (Nat.le_refl _) _
  change bodyPost _ _ _ _ _ (putCd Z0 w.heap.size noCd)
  rw [← hZ]
  obtain ⟨⟨z0, z1, z2, z3, z4, z5, z6, z7, z8, z9, z10⟩, -⟩ := cd_open ZA
  refine bodyPost_ret (v := .tuple #[cdV noCd, .int .i64 1]) (by simp [results, Tryz.results54, go_sem, z0, z1, z2, z3, z4, z5, z6, z7, z8, z9, z10]) rfl ⟨rfl, ZB⟩
set_option maxHeartbeats 8000000 in
set_option maxRecDepth 100000 in
theorem rd_b51 (s : Bs) (ws : List Bs) (l0 : Bs) (kd : Int) (w : World) (E : EnvS w) (HL0 : Hid (ws[0]? = some l0)) (HKD : Hid (idxW verbsR l0 = kd)) (hN : (0 : Int) < (ws.length : Int)) (hk : ¬ kd < 1) (l1 : Bs) (h7 : (kd == 7) = false) (h5 : (kd == 5) = true) (hn3 : (ws.length : Int) = 3) (Hl1 : Hid (ws[1]? = some l1)) (hll1 : l1.length ≤ 100000) (HOl1 : Hid (okN l1 = false))
    (SP0 : Calls Tryz.prog 75 #[sV s, .string ⟨#[32]⟩] (w.alloc (cdO noCd)) fun e w' => e = .returned (.slice (some ⟨w.heap.size + 1, 0, none⟩) ws.length ws.length) ∧ w' = (w.alloc (cdO noCd)).alloc (.cells (ws.map sV).toArray 9)) :
    Calls Tryz.prog 54 #[sV s] w fun e w' => e = .returned (.tuple #[cdV noCd, .int .i64 1]) ∧ Below w.heap.size w w' := by
  obtain ⟨N, HN⟩ : ∃ N, ws.length = N := ⟨_, rfl⟩
  rw [HN] at SP0 hN hn3
  have mixed : Tryz.prog.follows .mixedOrders = true := by kernel_rfl
  obtain ⟨W1, hW1⟩ : ∃ W1, W1 = (w.alloc (cdO noCd)).alloc (.cells (ws.map sV).toArray 9) := ⟨_, rfl⟩
  have SP := hide SP0
  rw [← hW1] at SP
  have RT : CdAt W1 w.heap.size noCd := by
    show W1.heap[w.heap.size]? = _
    rw [hW1]
    exact cdAt_below (heap_alloc_new w _) (below_alloc _ _)
  have LW : W1.heap[w.heap.size + 1]? = some (.cells (ws.map sV).toArray 9 (0, 0)) := by
    rw [hW1]
    have := heap_alloc_new (w.alloc (cdO noCd)) (.cells (ws.map sV).toArray 9)
    simp only [World.size_alloc] at this
    exact this
  have bW : Below w.heap.size w W1 := by rw [hW1]; exact ((Below.refl _ w).alloc (Nat.le_refl _) _).alloc (by simp) _
  have hC : ∀ q : InC (fun x => Below W1.heap.size W1 x), Below W1.heap.size W1 q.w := fun q => q.h
  generalize hCC : (fun x => Below W1.heap.size W1 x) = C at hC
  have CS : Hid (∀ x y, C x → Below x.heap.size x y → C y) := by rw [← hCC]; exact fun x y hx hy => onward hx hy
  have C0 : Hid (C { W1 with drawn := W1.drawn + 1 }) := by rw [← hCC]; exact ⟨rfl, rfl, rfl, Nat.le_refl _, fun _ _ => rfl⟩
  have CB : Hid (∀ x, C x → Below W1.heap.size W1 x) := fun x hx => hC ⟨x, hx⟩
  have k0 : ∀ q : InC C, q.w.cell? ⟨w.heap.size + 1, 0, none⟩ = some (sV l0) := fun q => row_str LW (hC q) 0 HL0.out
  have FV : Hid (∀ x, C x → _) := fun x hx => verbs_any x (E.below (onward bW (hC ⟨x, hx⟩)))
  have HRT := hide RT
  have HLW := hide LW
  have HBW := hide bW
  have HE := hide E
  clear hW1 RT LW bW hC hCC SP0 E
  go_enter Tryz.func54, Tryz.ntmps54
  go_wp2_with fail
  refine SP.out.mono ?_
  rintro e w' ⟨rfl, hw'⟩
  rw [hw']
  clear hw' SP
  clear w'
  go_wp2_with fail
  refine wp_region_mix [(1, true), (2, true), (3, true), (0, false), (4, false), (5, true)] C mixed (by kernel_rfl) C0.out ?_
  repeat (refine mix_still (by rfl) ?_; go_big_quiet_step (exact rfl); refine wpQuiet_nil ?_)
  refine mix_main (by rfl) ?_
  rintro ⟨x1, hx1⟩
  dsimp only
  have hcon := FV.out x1 hx1
  have HX1 := hide hx1
  go_wp2_with (go_at_call 35; refine hcon.mono ?_; rintro e w' ⟨rfl, hw'⟩)
  obtain ⟨V, hV⟩ : ∃ V, V = x1.alloc (.cells #[sV [45], sV wDeposit, sV wWithdraw, sV wPlace, sV wCancel, sV wIndex, sV wFund, sV wSweep] 9) := ⟨_, rfl⟩
  rw [← hV]
  refine ⟨From C V, ⟨CS.out x1 V HX1.out (by rw [hV]; exact below_alloc x1 _), Below.refl _ _⟩, fun x hx => hx.1, ?_⟩
  have IX : Hid (∀ x, From C V x → _) := fun x hx => index_words x1.heap.size [[45], wDeposit, wWithdraw, wPlace, wCancel, wIndex, wFund, wSweep] l0 x (by decide) (fun j hj => (hx.2.cell (p := ⟨x1.heap.size, j, none⟩) (by rw [hV]; simp)).trans (by rw [hV]; exact new_cell x1 _ _ j _ (eight_get hj)))
  have CF : Hid (∀ x, From C V x → C x) := fun x hx => hx.1
  have IXK : idxW [[45], wDeposit, wWithdraw, wPlace, wCancel, wIndex, wFund, wSweep] l0 = kd := HKD.out
  rw [IXK] at IX
  generalize From C V = C1 at IX CF ⊢
  generalize x1.heap.size = vb at IX ⊢
  clear hV hcon HX1 hx1 hw' IXK
  clear V x1 w'
  refine mix_main (by rfl) ?_
  rintro ⟨x2, hx2⟩
  dsimp only
  have hcon := IX.out x2 hx2
  have HX2 := hide hx2
  go_wp2_with (go_at_call 76; refine hcon.mono ?_; rintro e w' ⟨rfl, hw'⟩)
  refine ⟨C1, hw' ▸ HX2.out, fun x hx => hx, ?_⟩
  clear hcon HX2 hx2 hw' IX
  clear x2 w'
  repeat (refine mix_still (by rfl) ?_; go_big_quiet_step (exact rfl); refine wpQuiet_nil ?_)
  refine mix_end ?_
  rintro ⟨X, hX⟩
  dsimp only
  have bX := CB.out X (CF.out X hX)
  have BX := hide (onward HBW.out bX)
  have RX := hide (cdAt_below HRT.out bX)
  have LX : Hid (X.heap[w.heap.size + 1]? = some (.cells (ws.map sV).toArray 9 (0, 0))) := (bX.block _ (Array.getElem?_eq_some_iff.1 HLW.out).1).trans HLW.out
  clear bX hX k0 CF CB C0 CS FV HRT HLW HBW
  clear C C1
  obtain ⟨Q, hQ⟩ : ∃ Q, Q = (X.alloc (cdO ⟨kd, 0, 0, 0, 0, 0, 0, 0, 0, 0, false⟩)).alloc (.cells #[.pointer (some ⟨X.heap.size, 1, none⟩), .pointer (some ⟨X.heap.size, 3, none⟩)] 132) := ⟨_, rfl⟩
  have bQ : Below X.heap.size X Q := by rw [hQ]; exact ((Below.refl _ X).alloc (Nat.le_refl _) _).alloc (by simp) _
  have CG : Hid (CdAt Q X.heap.size ⟨kd, 0, 0, 0, 0, 0, 0, 0, 0, 0, false⟩) := by
    show Q.heap[X.heap.size]? = _
    rw [hQ]
    exact cdAt_below (heap_alloc_new X _) (below_alloc _ _)
  have IG : Hid (Q.heap[X.heap.size + 1]? = some (.cells #[.pointer (some ⟨X.heap.size, 1, none⟩), .pointer (some ⟨X.heap.size, 3, none⟩)] 132 (0, 0))) := by
    show Q.heap[X.heap.size + 1]? = _
    rw [hQ]
    have := heap_alloc_new (X.alloc (cdO ⟨kd, 0, 0, 0, 0, 0, 0, 0, 0, 0, false⟩)) (.cells #[.pointer (some ⟨X.heap.size, 1, none⟩), .pointer (some ⟨X.heap.size, 3, none⟩)] 132)
    simp only [World.size_alloc] at this
    exact this
  have SX : Hid (w.heap.size + 2 ≤ X.heap.size) := (Array.getElem?_eq_some_iff.1 LX.out).1
  have BG := hide (onward BX.out bQ)
  have RG := hide (cdAt_below RX.out bQ)
  have LG : Hid (Q.heap[w.heap.size + 1]? = some (.cells (ws.map sV).toArray 9 (0, 0))) := (bQ.block _ (Array.getElem?_eq_some_iff.1 LX.out).1).trans LX.out
  have HQ := hide hQ
  clear hQ bQ BX RX LX
  obtain ⟨Q2, hQ2⟩ : ∃ Q2, Q2 = Q.alloc (.cells #[.pointer (some ⟨X.heap.size, 2, none⟩), .pointer (some ⟨X.heap.size, 3, none⟩)] 132) := ⟨_, rfl⟩
  have bQ2 : Below Q.heap.size Q Q2 := by rw [hQ2]; exact below_alloc Q _
  have CG2 := hide (cdAt_below CG.out bQ2)
  have SI0 : Hid (X.heap.size < Q.heap.size) := (Array.getElem?_eq_some_iff.1 CG.out).1
  have RG2 := hide (cdAt_below RG.out bQ2)
  have LG2 : Hid (Q2.heap[w.heap.size + 1]? = some (.cells (ws.map sV).toArray 9 (0, 0))) := (bQ2.block _ (Array.getElem?_eq_some_iff.1 LG.out).1).trans LG.out
  have IG2 : Hid (Q2.heap[Q.heap.size]? = some (.cells #[.pointer (some ⟨X.heap.size, 2, none⟩), .pointer (some ⟨X.heap.size, 3, none⟩)] 132 (0, 0))) := by show Q2.heap[Q.heap.size]? = _; rw [hQ2]; exact heap_alloc_new Q _
  have BG2 := hide (onward BG.out bQ2)
  have HQ2 := hide hQ2
  clear hQ2 bQ2 CG RG LG IG BG
  have CG := CG2
  have RG := RG2
  have LG := LG2
  have IG := IG2
  have BG := BG2
  clear CG2 RG2 LG2 IG2 BG2
  go_wp2_with (first | rw [← HQ.out] | rw [← HQ2.out])
  generalize X.heap.size = cb at *
  generalize Q.heap.size = ib at *
  have SI := SI0
  clear SI0 HQ HQ2
  refine wp_loop_rounds 3 ?_
  have p0 : Q2.cell? ⟨ib, 0, none⟩ = some (.pointer (some ⟨cb, 2, none⟩)) := by simp [World.cell?, IG.out]
  have q0 := row_str LG.out (Below.refl _ Q2) (0 + 1) Hl1.out
  have NM := hide (refNum_any l1 hll1 Q2 (HE.out.env.below BG.out))
  rw [HOl1.out] at NM
  rw [rounds_succ]
  go_wp2_with fail
  refine NM.out.mono ?_
  rintro e Y0 ⟨⟨n0, rfl, hn0⟩, bY⟩
  clear NM p0 q0
  have BY := hide (onward BG.out bY)
  have RY := hide (cdAt_below RG.out bY)
  clear CG RG LG IG BG bY hn0
  have BC := hide (refBad_any Y0)
  go_wp2_with fail
  refine BC.out.mono ?_
  rintro e Z0 ⟨rfl, bZ⟩
  have RZ := cdAt_below RY.out bZ
  have BZ := hide (onward BY.out bZ)
  have RZH := hide RZ
  clear BC bZ
  obtain ⟨⟨g0, g1, g2, g3, g4, g5, g6, g7, g8, g9, g10⟩, h0, h1, h2, h3, h4, h5, h6, h7, h8, h9, h10⟩ := cd_open RZ
  clear RZ
  go_wp2
  obtain ⟨ZZ, hZ⟩ : ∃ Z, Z = putCd Z0 w.heap.size noCd := ⟨_, rfl⟩
  have ZA : CdAt ZZ w.heap.size noCd := by rw [hZ]; exact putCd_at RZH.out _
  have ZB : Below w.heap.size w ZZ := by rw [hZ]; exact putCd_below BZ.out (Nat.le_refl _) _
  change bodyPost _ _ _ _ _ (putCd Z0 w.heap.size noCd)
  rw [← hZ]
  obtain ⟨⟨z0, z1, z2, z3, z4, z5, z6, z7, z8, z9, z10⟩, -⟩ := cd_open ZA
  refine bodyPost_ret (v := .tuple #[cdV noCd, .int .i64 1]) (by simp [results, Tryz.results54, go_sem, z0, z1, z2, z3, z4, z5, z6, z7, z8, z9, z10]) rfl ⟨rfl, ZB⟩
set_option maxHeartbeats 8000000 in
set_option maxRecDepth 100000 in
theorem rd_b52 (s : Bs) (ws : List Bs) (l0 : Bs) (kd : Int) (w : World) (E : EnvS w) (HL0 : Hid (ws[0]? = some l0)) (HKD : Hid (idxW verbsR l0 = kd)) (hN : (0 : Int) < (ws.length : Int)) (hk : ¬ kd < 1) (l1 l2 : Bs) (h7 : (kd == 7) = false) (h5 : (kd == 5) = true) (hn3 : (ws.length : Int) = 3) (Hl1 : Hid (ws[1]? = some l1)) (hll1 : l1.length ≤ 100000) (HOl1 : Hid (okN l1 = true)) (Hl2 : Hid (ws[2]? = some l2)) (hll2 : l2.length ≤ 100000) (HOl2 : Hid (okN l2 = false))
    (SP0 : Calls Tryz.prog 75 #[sV s, .string ⟨#[32]⟩] (w.alloc (cdO noCd)) fun e w' => e = .returned (.slice (some ⟨w.heap.size + 1, 0, none⟩) ws.length ws.length) ∧ w' = (w.alloc (cdO noCd)).alloc (.cells (ws.map sV).toArray 9)) :
    Calls Tryz.prog 54 #[sV s] w fun e w' => e = .returned (.tuple #[cdV noCd, .int .i64 1]) ∧ Below w.heap.size w w' := by
  obtain ⟨N, HN⟩ : ∃ N, ws.length = N := ⟨_, rfl⟩
  rw [HN] at SP0 hN hn3
  have mixed : Tryz.prog.follows .mixedOrders = true := by kernel_rfl
  obtain ⟨W1, hW1⟩ : ∃ W1, W1 = (w.alloc (cdO noCd)).alloc (.cells (ws.map sV).toArray 9) := ⟨_, rfl⟩
  have SP := hide SP0
  rw [← hW1] at SP
  have RT : CdAt W1 w.heap.size noCd := by
    show W1.heap[w.heap.size]? = _
    rw [hW1]
    exact cdAt_below (heap_alloc_new w _) (below_alloc _ _)
  have LW : W1.heap[w.heap.size + 1]? = some (.cells (ws.map sV).toArray 9 (0, 0)) := by
    rw [hW1]
    have := heap_alloc_new (w.alloc (cdO noCd)) (.cells (ws.map sV).toArray 9)
    simp only [World.size_alloc] at this
    exact this
  have bW : Below w.heap.size w W1 := by rw [hW1]; exact ((Below.refl _ w).alloc (Nat.le_refl _) _).alloc (by simp) _
  have hC : ∀ q : InC (fun x => Below W1.heap.size W1 x), Below W1.heap.size W1 q.w := fun q => q.h
  generalize hCC : (fun x => Below W1.heap.size W1 x) = C at hC
  have CS : Hid (∀ x y, C x → Below x.heap.size x y → C y) := by rw [← hCC]; exact fun x y hx hy => onward hx hy
  have C0 : Hid (C { W1 with drawn := W1.drawn + 1 }) := by rw [← hCC]; exact ⟨rfl, rfl, rfl, Nat.le_refl _, fun _ _ => rfl⟩
  have CB : Hid (∀ x, C x → Below W1.heap.size W1 x) := fun x hx => hC ⟨x, hx⟩
  have k0 : ∀ q : InC C, q.w.cell? ⟨w.heap.size + 1, 0, none⟩ = some (sV l0) := fun q => row_str LW (hC q) 0 HL0.out
  have FV : Hid (∀ x, C x → _) := fun x hx => verbs_any x (E.below (onward bW (hC ⟨x, hx⟩)))
  have HRT := hide RT
  have HLW := hide LW
  have HBW := hide bW
  have HE := hide E
  clear hW1 RT LW bW hC hCC SP0 E
  go_enter Tryz.func54, Tryz.ntmps54
  go_wp2_with fail
  refine SP.out.mono ?_
  rintro e w' ⟨rfl, hw'⟩
  rw [hw']
  clear hw' SP
  clear w'
  go_wp2_with fail
  refine wp_region_mix [(1, true), (2, true), (3, true), (0, false), (4, false), (5, true)] C mixed (by kernel_rfl) C0.out ?_
  repeat (refine mix_still (by rfl) ?_; go_big_quiet_step (exact rfl); refine wpQuiet_nil ?_)
  refine mix_main (by rfl) ?_
  rintro ⟨x1, hx1⟩
  dsimp only
  have hcon := FV.out x1 hx1
  have HX1 := hide hx1
  go_wp2_with (go_at_call 35; refine hcon.mono ?_; rintro e w' ⟨rfl, hw'⟩)
  obtain ⟨V, hV⟩ : ∃ V, V = x1.alloc (.cells #[sV [45], sV wDeposit, sV wWithdraw, sV wPlace, sV wCancel, sV wIndex, sV wFund, sV wSweep] 9) := ⟨_, rfl⟩
  rw [← hV]
  refine ⟨From C V, ⟨CS.out x1 V HX1.out (by rw [hV]; exact below_alloc x1 _), Below.refl _ _⟩, fun x hx => hx.1, ?_⟩
  have IX : Hid (∀ x, From C V x → _) := fun x hx => index_words x1.heap.size [[45], wDeposit, wWithdraw, wPlace, wCancel, wIndex, wFund, wSweep] l0 x (by decide) (fun j hj => (hx.2.cell (p := ⟨x1.heap.size, j, none⟩) (by rw [hV]; simp)).trans (by rw [hV]; exact new_cell x1 _ _ j _ (eight_get hj)))
  have CF : Hid (∀ x, From C V x → C x) := fun x hx => hx.1
  have IXK : idxW [[45], wDeposit, wWithdraw, wPlace, wCancel, wIndex, wFund, wSweep] l0 = kd := HKD.out
  rw [IXK] at IX
  generalize From C V = C1 at IX CF ⊢
  generalize x1.heap.size = vb at IX ⊢
  clear hV hcon HX1 hx1 hw' IXK
  clear V x1 w'
  refine mix_main (by rfl) ?_
  rintro ⟨x2, hx2⟩
  dsimp only
  have hcon := IX.out x2 hx2
  have HX2 := hide hx2
  go_wp2_with (go_at_call 76; refine hcon.mono ?_; rintro e w' ⟨rfl, hw'⟩)
  refine ⟨C1, hw' ▸ HX2.out, fun x hx => hx, ?_⟩
  clear hcon HX2 hx2 hw' IX
  clear x2 w'
  repeat (refine mix_still (by rfl) ?_; go_big_quiet_step (exact rfl); refine wpQuiet_nil ?_)
  refine mix_end ?_
  rintro ⟨X, hX⟩
  dsimp only
  have bX := CB.out X (CF.out X hX)
  have BX := hide (onward HBW.out bX)
  have RX := hide (cdAt_below HRT.out bX)
  have LX : Hid (X.heap[w.heap.size + 1]? = some (.cells (ws.map sV).toArray 9 (0, 0))) := (bX.block _ (Array.getElem?_eq_some_iff.1 HLW.out).1).trans HLW.out
  clear bX hX k0 CF CB C0 CS FV HRT HLW HBW
  clear C C1
  obtain ⟨Q, hQ⟩ : ∃ Q, Q = (X.alloc (cdO ⟨kd, 0, 0, 0, 0, 0, 0, 0, 0, 0, false⟩)).alloc (.cells #[.pointer (some ⟨X.heap.size, 1, none⟩), .pointer (some ⟨X.heap.size, 3, none⟩)] 132) := ⟨_, rfl⟩
  have bQ : Below X.heap.size X Q := by rw [hQ]; exact ((Below.refl _ X).alloc (Nat.le_refl _) _).alloc (by simp) _
  have CG : Hid (CdAt Q X.heap.size ⟨kd, 0, 0, 0, 0, 0, 0, 0, 0, 0, false⟩) := by
    show Q.heap[X.heap.size]? = _
    rw [hQ]
    exact cdAt_below (heap_alloc_new X _) (below_alloc _ _)
  have IG : Hid (Q.heap[X.heap.size + 1]? = some (.cells #[.pointer (some ⟨X.heap.size, 1, none⟩), .pointer (some ⟨X.heap.size, 3, none⟩)] 132 (0, 0))) := by
    show Q.heap[X.heap.size + 1]? = _
    rw [hQ]
    have := heap_alloc_new (X.alloc (cdO ⟨kd, 0, 0, 0, 0, 0, 0, 0, 0, 0, false⟩)) (.cells #[.pointer (some ⟨X.heap.size, 1, none⟩), .pointer (some ⟨X.heap.size, 3, none⟩)] 132)
    simp only [World.size_alloc] at this
    exact this
  have SX : Hid (w.heap.size + 2 ≤ X.heap.size) := (Array.getElem?_eq_some_iff.1 LX.out).1
  have BG := hide (onward BX.out bQ)
  have RG := hide (cdAt_below RX.out bQ)
  have LG : Hid (Q.heap[w.heap.size + 1]? = some (.cells (ws.map sV).toArray 9 (0, 0))) := (bQ.block _ (Array.getElem?_eq_some_iff.1 LX.out).1).trans LX.out
  have HQ := hide hQ
  clear hQ bQ BX RX LX
  obtain ⟨Q2, hQ2⟩ : ∃ Q2, Q2 = Q.alloc (.cells #[.pointer (some ⟨X.heap.size, 2, none⟩), .pointer (some ⟨X.heap.size, 3, none⟩)] 132) := ⟨_, rfl⟩
  have bQ2 : Below Q.heap.size Q Q2 := by rw [hQ2]; exact below_alloc Q _
  have CG2 := hide (cdAt_below CG.out bQ2)
  have SI0 : Hid (X.heap.size < Q.heap.size) := (Array.getElem?_eq_some_iff.1 CG.out).1
  have RG2 := hide (cdAt_below RG.out bQ2)
  have LG2 : Hid (Q2.heap[w.heap.size + 1]? = some (.cells (ws.map sV).toArray 9 (0, 0))) := (bQ2.block _ (Array.getElem?_eq_some_iff.1 LG.out).1).trans LG.out
  have IG2 : Hid (Q2.heap[Q.heap.size]? = some (.cells #[.pointer (some ⟨X.heap.size, 2, none⟩), .pointer (some ⟨X.heap.size, 3, none⟩)] 132 (0, 0))) := by show Q2.heap[Q.heap.size]? = _; rw [hQ2]; exact heap_alloc_new Q _
  have BG2 := hide (onward BG.out bQ2)
  have HQ2 := hide hQ2
  clear hQ2 bQ2 CG RG LG IG BG
  have CG := CG2
  have RG := RG2
  have LG := LG2
  have IG := IG2
  have BG := BG2
  clear CG2 RG2 LG2 IG2 BG2
  go_wp2_with (first | rw [← HQ.out] | rw [← HQ2.out])
  generalize X.heap.size = cb at *
  generalize Q.heap.size = ib at *
  have SI := SI0
  clear SI0 HQ HQ2
  refine wp_loop_rounds 3 ?_
  have p0 : Q2.cell? ⟨ib, 0, none⟩ = some (.pointer (some ⟨cb, 2, none⟩)) := by simp [World.cell?, IG.out]
  have q0 := row_str LG.out (Below.refl _ Q2) (0 + 1) Hl1.out
  have NM := hide (refNum_any l1 hll1 Q2 (HE.out.env.below BG.out))
  rw [HOl1.out] at NM
  rw [rounds_succ]
  go_wp2_with fail
  refine NM.out.mono ?_
  rintro e Y0 ⟨⟨n0, rfl, hn0⟩, bY⟩
  clear NM p0 q0
  obtain rfl := hn0 (by first | rfl | trivial)
  have cY := cdAt_below CG.out bY
  obtain ⟨⟨d0, d1, d2, d3, d4, d5, d6, d7, d8, d9, d10⟩, e0, e1, e2, e3, e4, e5, e6, e7, e8, e9, e10⟩ := cd_open cY
  obtain ⟨G0, hG⟩ : ∃ G', G' = Y0.setCell ⟨cb, 2, none⟩ (.int .i64 (numB l1)) := ⟨_, rfl⟩
  have CG2 := hide (cdAt_mkt cY (numB l1))
  rw [← hG] at CG2
  have kp : ∀ b, ¬ cb = b → G0.heap[b]? = Y0.heap[b]? := fun b hb => by rw [hG]; exact Below.heap_setCell _ _ _ b (fun e => hb e.symm)
  have RG2 : Hid (CdAt G0 w.heap.size noCd) := (kp _ (by have := SX.out; omega)).trans (cdAt_below RG.out bY)
  have LG2 : Hid (G0.heap[w.heap.size + 1]? = some (.cells (ws.map sV).toArray 9 (0, 0))) := (kp _ (by have := SX.out; omega)).trans ((bY.block _ (Array.getElem?_eq_some_iff.1 LG.out).1).trans LG.out)
  have IG2 := hide ((kp ib (by have := SI.out; omega)).trans ((bY.block _ (Array.getElem?_eq_some_iff.1 IG.out).1).trans IG.out))
  have BG2 : Hid (Below w.heap.size w G0) := by show Below _ _ _; rw [hG]; exact (onward BG.out bY).setCell (by have := SX.out; dsimp only; omega) _
  have HG := hide hG
  clear hG kp cY bY CG RG LG IG BG hn0
  have CG := CG2
  have RG := RG2
  have LG := LG2
  have IG := IG2
  have BG := BG2
  clear CG2 RG2 LG2 IG2 BG2
  dsimp only at CG
  go_wp2_with (rw [← HG.out])
  clear HG d0 d1 d2 d3 d4 d5 d6 d7 d8 d9 d10 e0 e1 e2 e3 e4 e5 e6 e7 e8 e9 e10
  have p1 : G0.cell? ⟨ib, 1, none⟩ = some (.pointer (some ⟨cb, 3, none⟩)) := by simp [World.cell?, IG.out]
  have q1 := row_str LG.out (Below.refl _ G0) (1 + 1) Hl2.out
  have NM := hide (refNum_any l2 hll2 G0 (HE.out.env.below BG.out))
  rw [HOl2.out] at NM
  rw [rounds_succ]
  go_wp2_with fail
  refine NM.out.mono ?_
  rintro e Y1 ⟨⟨n1, rfl, hn1⟩, bY⟩
  clear NM p1 q1
  have BY := hide (onward BG.out bY)
  have RY := hide (cdAt_below RG.out bY)
  clear CG RG LG IG BG bY hn1
  have BC := hide (refBad_any Y1)
  go_wp2_with fail
  refine BC.out.mono ?_
  rintro e Z0 ⟨rfl, bZ⟩
  have RZ := cdAt_below RY.out bZ
  have BZ := hide (onward BY.out bZ)
  have RZH := hide RZ
  clear BC bZ
  obtain ⟨⟨g0, g1, g2, g3, g4, g5, g6, g7, g8, g9, g10⟩, h0, h1, h2, h3, h4, h5, h6, h7, h8, h9, h10⟩ := cd_open RZ
  clear RZ
  go_wp2
  obtain ⟨ZZ, hZ⟩ : ∃ Z, Z = putCd Z0 w.heap.size noCd := ⟨_, rfl⟩
  have ZA : CdAt ZZ w.heap.size noCd := by rw [hZ]; exact putCd_at RZH.out _
  have ZB : Below w.heap.size w ZZ := by rw [hZ]; exact putCd_below BZ.out (Nat.le_refl _) _
  change bodyPost _ _ _ _ _ (putCd Z0 w.heap.size noCd)
  rw [← hZ]
  obtain ⟨⟨z0, z1, z2, z3, z4, z5, z6, z7, z8, z9, z10⟩, -⟩ := cd_open ZA
  refine bodyPost_ret (v := .tuple #[cdV noCd, .int .i64 1]) (by simp [results, Tryz.results54, go_sem, z0, z1, z2, z3, z4, z5, z6, z7, z8, z9, z10]) rfl ⟨rfl, ZB⟩
set_option maxHeartbeats 8000000 in
set_option maxRecDepth 100000 in
theorem rd_b53 (s : Bs) (ws : List Bs) (l0 : Bs) (kd : Int) (w : World) (E : EnvS w) (HL0 : Hid (ws[0]? = some l0)) (HKD : Hid (idxW verbsR l0 = kd)) (hN : (0 : Int) < (ws.length : Int)) (hk : ¬ kd < 1) (l1 l2 : Bs) (h7 : (kd == 7) = false) (h5 : (kd == 5) = true) (hn3 : (ws.length : Int) = 3) (Hl1 : Hid (ws[1]? = some l1)) (hll1 : l1.length ≤ 100000) (HOl1 : Hid (okN l1 = true)) (Hl2 : Hid (ws[2]? = some l2)) (hll2 : l2.length ≤ 100000) (HOl2 : Hid (okN l2 = true))
    (SP0 : Calls Tryz.prog 75 #[sV s, .string ⟨#[32]⟩] (w.alloc (cdO noCd)) fun e w' => e = .returned (.slice (some ⟨w.heap.size + 1, 0, none⟩) ws.length ws.length) ∧ w' = (w.alloc (cdO noCd)).alloc (.cells (ws.map sV).toArray 9)) :
    Calls Tryz.prog 54 #[sV s] w fun e w' => e = .returned (.tuple #[cdV ⟨kd, 0, numB l1, numB l2, 0, 0, 0, 0, 0, 0, false⟩, .int .i64 0]) ∧ Below w.heap.size w w' := by
  obtain ⟨N, HN⟩ : ∃ N, ws.length = N := ⟨_, rfl⟩
  rw [HN] at SP0 hN hn3
  have mixed : Tryz.prog.follows .mixedOrders = true := by kernel_rfl
  obtain ⟨W1, hW1⟩ : ∃ W1, W1 = (w.alloc (cdO noCd)).alloc (.cells (ws.map sV).toArray 9) := ⟨_, rfl⟩
  have SP := hide SP0
  rw [← hW1] at SP
  have RT : CdAt W1 w.heap.size noCd := by
    show W1.heap[w.heap.size]? = _
    rw [hW1]
    exact cdAt_below (heap_alloc_new w _) (below_alloc _ _)
  have LW : W1.heap[w.heap.size + 1]? = some (.cells (ws.map sV).toArray 9 (0, 0)) := by
    rw [hW1]
    have := heap_alloc_new (w.alloc (cdO noCd)) (.cells (ws.map sV).toArray 9)
    simp only [World.size_alloc] at this
    exact this
  have bW : Below w.heap.size w W1 := by rw [hW1]; exact ((Below.refl _ w).alloc (Nat.le_refl _) _).alloc (by simp) _
  have hC : ∀ q : InC (fun x => Below W1.heap.size W1 x), Below W1.heap.size W1 q.w := fun q => q.h
  generalize hCC : (fun x => Below W1.heap.size W1 x) = C at hC
  have CS : Hid (∀ x y, C x → Below x.heap.size x y → C y) := by rw [← hCC]; exact fun x y hx hy => onward hx hy
  have C0 : Hid (C { W1 with drawn := W1.drawn + 1 }) := by rw [← hCC]; exact ⟨rfl, rfl, rfl, Nat.le_refl _, fun _ _ => rfl⟩
  have CB : Hid (∀ x, C x → Below W1.heap.size W1 x) := fun x hx => hC ⟨x, hx⟩
  have k0 : ∀ q : InC C, q.w.cell? ⟨w.heap.size + 1, 0, none⟩ = some (sV l0) := fun q => row_str LW (hC q) 0 HL0.out
  have FV : Hid (∀ x, C x → _) := fun x hx => verbs_any x (E.below (onward bW (hC ⟨x, hx⟩)))
  have HRT := hide RT
  have HLW := hide LW
  have HBW := hide bW
  have HE := hide E
  clear hW1 RT LW bW hC hCC SP0 E
  go_enter Tryz.func54, Tryz.ntmps54
  go_wp2_with fail
  refine SP.out.mono ?_
  rintro e w' ⟨rfl, hw'⟩
  rw [hw']
  clear hw' SP
  clear w'
  go_wp2_with fail
  refine wp_region_mix [(1, true), (2, true), (3, true), (0, false), (4, false), (5, true)] C mixed (by kernel_rfl) C0.out ?_
  repeat (refine mix_still (by rfl) ?_; go_big_quiet_step (exact rfl); refine wpQuiet_nil ?_)
  refine mix_main (by rfl) ?_
  rintro ⟨x1, hx1⟩
  dsimp only
  have hcon := FV.out x1 hx1
  have HX1 := hide hx1
  go_wp2_with (go_at_call 35; refine hcon.mono ?_; rintro e w' ⟨rfl, hw'⟩)
  obtain ⟨V, hV⟩ : ∃ V, V = x1.alloc (.cells #[sV [45], sV wDeposit, sV wWithdraw, sV wPlace, sV wCancel, sV wIndex, sV wFund, sV wSweep] 9) := ⟨_, rfl⟩
  rw [← hV]
  refine ⟨From C V, ⟨CS.out x1 V HX1.out (by rw [hV]; exact below_alloc x1 _), Below.refl _ _⟩, fun x hx => hx.1, ?_⟩
  have IX : Hid (∀ x, From C V x → _) := fun x hx => index_words x1.heap.size [[45], wDeposit, wWithdraw, wPlace, wCancel, wIndex, wFund, wSweep] l0 x (by decide) (fun j hj => (hx.2.cell (p := ⟨x1.heap.size, j, none⟩) (by rw [hV]; simp)).trans (by rw [hV]; exact new_cell x1 _ _ j _ (eight_get hj)))
  have CF : Hid (∀ x, From C V x → C x) := fun x hx => hx.1
  have IXK : idxW [[45], wDeposit, wWithdraw, wPlace, wCancel, wIndex, wFund, wSweep] l0 = kd := HKD.out
  rw [IXK] at IX
  generalize From C V = C1 at IX CF ⊢
  generalize x1.heap.size = vb at IX ⊢
  clear hV hcon HX1 hx1 hw' IXK
  clear V x1 w'
  refine mix_main (by rfl) ?_
  rintro ⟨x2, hx2⟩
  dsimp only
  have hcon := IX.out x2 hx2
  have HX2 := hide hx2
  go_wp2_with (go_at_call 76; refine hcon.mono ?_; rintro e w' ⟨rfl, hw'⟩)
  refine ⟨C1, hw' ▸ HX2.out, fun x hx => hx, ?_⟩
  clear hcon HX2 hx2 hw' IX
  clear x2 w'
  repeat (refine mix_still (by rfl) ?_; go_big_quiet_step (exact rfl); refine wpQuiet_nil ?_)
  refine mix_end ?_
  rintro ⟨X, hX⟩
  dsimp only
  have bX := CB.out X (CF.out X hX)
  have BX := hide (onward HBW.out bX)
  have RX := hide (cdAt_below HRT.out bX)
  have LX : Hid (X.heap[w.heap.size + 1]? = some (.cells (ws.map sV).toArray 9 (0, 0))) := (bX.block _ (Array.getElem?_eq_some_iff.1 HLW.out).1).trans HLW.out
  clear bX hX k0 CF CB C0 CS FV HRT HLW HBW
  clear C C1
  obtain ⟨Q, hQ⟩ : ∃ Q, Q = (X.alloc (cdO ⟨kd, 0, 0, 0, 0, 0, 0, 0, 0, 0, false⟩)).alloc (.cells #[.pointer (some ⟨X.heap.size, 1, none⟩), .pointer (some ⟨X.heap.size, 3, none⟩)] 132) := ⟨_, rfl⟩
  have bQ : Below X.heap.size X Q := by rw [hQ]; exact ((Below.refl _ X).alloc (Nat.le_refl _) _).alloc (by simp) _
  have CG : Hid (CdAt Q X.heap.size ⟨kd, 0, 0, 0, 0, 0, 0, 0, 0, 0, false⟩) := by
    show Q.heap[X.heap.size]? = _
    rw [hQ]
    exact cdAt_below (heap_alloc_new X _) (below_alloc _ _)
  have IG : Hid (Q.heap[X.heap.size + 1]? = some (.cells #[.pointer (some ⟨X.heap.size, 1, none⟩), .pointer (some ⟨X.heap.size, 3, none⟩)] 132 (0, 0))) := by
    show Q.heap[X.heap.size + 1]? = _
    rw [hQ]
    have := heap_alloc_new (X.alloc (cdO ⟨kd, 0, 0, 0, 0, 0, 0, 0, 0, 0, false⟩)) (.cells #[.pointer (some ⟨X.heap.size, 1, none⟩), .pointer (some ⟨X.heap.size, 3, none⟩)] 132)
    simp only [World.size_alloc] at this
    exact this
  have SX : Hid (w.heap.size + 2 ≤ X.heap.size) := (Array.getElem?_eq_some_iff.1 LX.out).1
  have BG := hide (onward BX.out bQ)
  have RG := hide (cdAt_below RX.out bQ)
  have LG : Hid (Q.heap[w.heap.size + 1]? = some (.cells (ws.map sV).toArray 9 (0, 0))) := (bQ.block _ (Array.getElem?_eq_some_iff.1 LX.out).1).trans LX.out
  have HQ := hide hQ
  clear hQ bQ BX RX LX
  obtain ⟨Q2, hQ2⟩ : ∃ Q2, Q2 = Q.alloc (.cells #[.pointer (some ⟨X.heap.size, 2, none⟩), .pointer (some ⟨X.heap.size, 3, none⟩)] 132) := ⟨_, rfl⟩
  have bQ2 : Below Q.heap.size Q Q2 := by rw [hQ2]; exact below_alloc Q _
  have CG2 := hide (cdAt_below CG.out bQ2)
  have SI0 : Hid (X.heap.size < Q.heap.size) := (Array.getElem?_eq_some_iff.1 CG.out).1
  have RG2 := hide (cdAt_below RG.out bQ2)
  have LG2 : Hid (Q2.heap[w.heap.size + 1]? = some (.cells (ws.map sV).toArray 9 (0, 0))) := (bQ2.block _ (Array.getElem?_eq_some_iff.1 LG.out).1).trans LG.out
  have IG2 : Hid (Q2.heap[Q.heap.size]? = some (.cells #[.pointer (some ⟨X.heap.size, 2, none⟩), .pointer (some ⟨X.heap.size, 3, none⟩)] 132 (0, 0))) := by show Q2.heap[Q.heap.size]? = _; rw [hQ2]; exact heap_alloc_new Q _
  have BG2 := hide (onward BG.out bQ2)
  have HQ2 := hide hQ2
  clear hQ2 bQ2 CG RG LG IG BG
  have CG := CG2
  have RG := RG2
  have LG := LG2
  have IG := IG2
  have BG := BG2
  clear CG2 RG2 LG2 IG2 BG2
  go_wp2_with (first | rw [← HQ.out] | rw [← HQ2.out])
  generalize X.heap.size = cb at *
  generalize Q.heap.size = ib at *
  have SI := SI0
  clear SI0 HQ HQ2
  refine wp_loop_rounds 3 ?_
  have p0 : Q2.cell? ⟨ib, 0, none⟩ = some (.pointer (some ⟨cb, 2, none⟩)) := by simp [World.cell?, IG.out]
  have q0 := row_str LG.out (Below.refl _ Q2) (0 + 1) Hl1.out
  have NM := hide (refNum_any l1 hll1 Q2 (HE.out.env.below BG.out))
  rw [HOl1.out] at NM
  rw [rounds_succ]
  go_wp2_with fail
  refine NM.out.mono ?_
  rintro e Y0 ⟨⟨n0, rfl, hn0⟩, bY⟩
  clear NM p0 q0
  obtain rfl := hn0 (by first | rfl | trivial)
  have cY := cdAt_below CG.out bY
  obtain ⟨⟨d0, d1, d2, d3, d4, d5, d6, d7, d8, d9, d10⟩, e0, e1, e2, e3, e4, e5, e6, e7, e8, e9, e10⟩ := cd_open cY
  obtain ⟨G0, hG⟩ : ∃ G', G' = Y0.setCell ⟨cb, 2, none⟩ (.int .i64 (numB l1)) := ⟨_, rfl⟩
  have CG2 := hide (cdAt_mkt cY (numB l1))
  rw [← hG] at CG2
  have kp : ∀ b, ¬ cb = b → G0.heap[b]? = Y0.heap[b]? := fun b hb => by rw [hG]; exact Below.heap_setCell _ _ _ b (fun e => hb e.symm)
  have RG2 : Hid (CdAt G0 w.heap.size noCd) := (kp _ (by have := SX.out; omega)).trans (cdAt_below RG.out bY)
  have LG2 : Hid (G0.heap[w.heap.size + 1]? = some (.cells (ws.map sV).toArray 9 (0, 0))) := (kp _ (by have := SX.out; omega)).trans ((bY.block _ (Array.getElem?_eq_some_iff.1 LG.out).1).trans LG.out)
  have IG2 := hide ((kp ib (by have := SI.out; omega)).trans ((bY.block _ (Array.getElem?_eq_some_iff.1 IG.out).1).trans IG.out))
  have BG2 : Hid (Below w.heap.size w G0) := by show Below _ _ _; rw [hG]; exact (onward BG.out bY).setCell (by have := SX.out; dsimp only; omega) _
  have HG := hide hG
  clear hG kp cY bY CG RG LG IG BG hn0
  have CG := CG2
  have RG := RG2
  have LG := LG2
  have IG := IG2
  have BG := BG2
  clear CG2 RG2 LG2 IG2 BG2
  dsimp only at CG
  go_wp2_with (rw [← HG.out])
  clear HG d0 d1 d2 d3 d4 d5 d6 d7 d8 d9 d10 e0 e1 e2 e3 e4 e5 e6 e7 e8 e9 e10
  have p1 : G0.cell? ⟨ib, 1, none⟩ = some (.pointer (some ⟨cb, 3, none⟩)) := by simp [World.cell?, IG.out]
  have q1 := row_str LG.out (Below.refl _ G0) (1 + 1) Hl2.out
  have NM := hide (refNum_any l2 hll2 G0 (HE.out.env.below BG.out))
  rw [HOl2.out] at NM
  rw [rounds_succ]
  go_wp2_with fail
  refine NM.out.mono ?_
  rintro e Y1 ⟨⟨n1, rfl, hn1⟩, bY⟩
  clear NM p1 q1
  obtain rfl := hn1 (by first | rfl | trivial)
  have cY := cdAt_below CG.out bY
  obtain ⟨⟨d0, d1, d2, d3, d4, d5, d6, d7, d8, d9, d10⟩, e0, e1, e2, e3, e4, e5, e6, e7, e8, e9, e10⟩ := cd_open cY
  obtain ⟨G1, hG⟩ : ∃ G', G' = Y1.setCell ⟨cb, 3, none⟩ (.int .i64 (numB l2)) := ⟨_, rfl⟩
  have CG2 := hide (cdAt_n cY (numB l2))
  rw [← hG] at CG2
  have kp : ∀ b, ¬ cb = b → G1.heap[b]? = Y1.heap[b]? := fun b hb => by rw [hG]; exact Below.heap_setCell _ _ _ b (fun e => hb e.symm)
  have RG2 : Hid (CdAt G1 w.heap.size noCd) := (kp _ (by have := SX.out; omega)).trans (cdAt_below RG.out bY)
  have LG2 : Hid (G1.heap[w.heap.size + 1]? = some (.cells (ws.map sV).toArray 9 (0, 0))) := (kp _ (by have := SX.out; omega)).trans ((bY.block _ (Array.getElem?_eq_some_iff.1 LG.out).1).trans LG.out)
  have IG2 := hide ((kp ib (by have := SI.out; omega)).trans ((bY.block _ (Array.getElem?_eq_some_iff.1 IG.out).1).trans IG.out))
  have BG2 : Hid (Below w.heap.size w G1) := by show Below _ _ _; rw [hG]; exact (onward BG.out bY).setCell (by have := SX.out; dsimp only; omega) _
  have HG := hide hG
  clear hG kp cY bY CG RG LG IG BG hn1
  have CG := CG2
  have RG := RG2
  have LG := LG2
  have IG := IG2
  have BG := BG2
  clear CG2 RG2 LG2 IG2 BG2
  dsimp only at CG
  go_wp2_with (rw [← HG.out])
  clear HG d0 d1 d2 d3 d4 d5 d6 d7 d8 d9 d10 e0 e1 e2 e3 e4 e5 e6 e7 e8 e9 e10
  rw [rounds_succ]
  have BZ := BG
  have RZH := RG
  obtain ⟨⟨c0, c1, c2, c3, c4, c5, c6, c7, c8, c9, c10⟩, -⟩ := cd_open CG.out
  obtain ⟨⟨g0, g1, g2, g3, g4, g5, g6, g7, g8, g9, g10⟩, h0, h1, h2, h3, h4, h5, h6, h7, h8, h9, h10⟩ := cd_open RG.out
  go_wp2
  obtain ⟨ZZ, hZ⟩ : ∃ Z, Z = putCd G1 w.heap.size ⟨kd, 0, numB l1, numB l2, 0, 0, 0, 0, 0, 0, false⟩ := ⟨_, rfl⟩
  have ZA : CdAt ZZ w.heap.size ⟨kd, 0, numB l1, numB l2, 0, 0, 0, 0, 0, 0, false⟩ := by rw [hZ]; exact putCd_at RZH.out _
  have ZB : Below w.heap.size w ZZ := by rw [hZ]; exact putCd_below BZ.out (Nat.le_refl _) _
  change bodyPost _ _ _ _ _ (putCd G1 w.heap.size ⟨kd, 0, numB l1, numB l2, 0, 0, 0, 0, 0, 0, false⟩)
  rw [← hZ]
  obtain ⟨⟨z0, z1, z2, z3, z4, z5, z6, z7, z8, z9, z10⟩, -⟩ := cd_open ZA
  refine bodyPost_ret (v := .tuple #[cdV ⟨kd, 0, numB l1, numB l2, 0, 0, 0, 0, 0, 0, false⟩, .int .i64 0]) (by simp [results, Tryz.results54, go_sem, z0, z1, z2, z3, z4, z5, z6, z7, z8, z9, z10]) rfl ⟨rfl, ZB⟩
end Go.Proofs.YthdjfhnhjiageaaGreatDoor.Tx
