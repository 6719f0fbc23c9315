/-
  The reference's chapter 8: ReadCommand of an order.
-/
import Derived.Test.YthdjfhnhjiageaaGreatDoorTxNp
namespace Go.Proofs.YthdjfhnhjiageaaGreatDoor.Tx
open Go.RowKit Go.Lib Go.Sort Go.Proofs.YthdjfhnhjiageaaGreatDoor.Mix
set_option linter.unusedVariables false
set_option maxHeartbeats 16000000 in
set_option maxRecDepth 100000 in
theorem rd_pn (s : Bs) (ws : List Bs) (l0 l1 l2 l3 l4 l5 l6 : Bs) (kd hw : Int) (rc : Cd) (re : Int) (HR : Hid (placeR ws = (rc, re))) (w : World) (E : EnvS w) (HL0 : Hid (ws[0]? = some l0)) (HKD : Hid (idxW verbsR l0 = kd)) (hN : (0 : Int) < (ws.length : Int)) (hk : ¬ kd < 1)
    (h7 : (kd == 7) = false) (h5 : (kd == 5) = false) (h6 : (kd == 6) = false) (h3 : (kd == 3) = true) (hn7 : (ws.length : Int) = 7) (HKD3 : Hid (kd = 3)) (HRED : Hid ((redR ws = true ∨ ws.length = 7) ∧ redR ws = false)) (Hl1 : Hid (ws[1]? = some l1)) (hll1 : l1.length ≤ 100000) (Hl2 : Hid (ws[2]? = some l2)) (hll2 : l2.length ≤ 100000) (Hl4 : Hid (ws[4]? = some l4)) (hll4 : l4.length ≤ 100000) (Hl5 : Hid (ws[5]? = some l5)) (hll5 : l5.length ≤ 100000) (Hl3 : Hid (ws[3]? = some l3)) (Hl6 : Hid (ws[6]? = some l6)) (HHW : Hid (idxW sortsR l6 = hw)) (hwb : -1 ≤ hw ∧ hw ≤ 5)
    (SP0 : Calls Tryz.prog 75 #[sV s, .string ⟨#[32]⟩] (w.alloc (cdO noCd)) fun e w' => e = .returned (.slice (some ⟨w.heap.size + 1, 0, none⟩) ws.length ws.length) ∧ w' = (w.alloc (cdO noCd)).alloc (.cells (ws.map sV).toArray 9)) :
    Calls Tryz.prog 54 #[sV s] w fun e w' => e = .returned (.tuple #[cdV rc, .int .i64 re]) ∧ Below w.heap.size w w' := by
  obtain ⟨N, HN⟩ : ∃ N, ws.length = N := ⟨_, rfl⟩
  rw [HN] at SP0 hN hn7
  obtain rfl : N = 7 := by omega
  have mixed : Tryz.prog.follows .mixedOrders = true := by kernel_rfl
  obtain ⟨W1, hW1⟩ : ∃ W1, W1 = (w.alloc (cdO noCd)).alloc (.cells (ws.map sV).toArray 9) := ⟨_, rfl⟩
  have SP := hide SP0
  rw [← hW1] at SP
  have RT : CdAt W1 w.heap.size noCd := by
    show W1.heap[w.heap.size]? = _
    rw [hW1]
    exact cdAt_below (heap_alloc_new w _) (below_alloc _ _)
  have LW : W1.heap[w.heap.size + 1]? = some (.cells (ws.map sV).toArray 9 (0, 0)) := by
    rw [hW1]
    have := heap_alloc_new (w.alloc (cdO noCd)) (.cells (ws.map sV).toArray 9)
    simp only [World.size_alloc] at this
    exact this
  have bW : Below w.heap.size w W1 := by rw [hW1]; exact ((Below.refl _ w).alloc (Nat.le_refl _) _).alloc (by simp) _
  have hC : ∀ q : InC (fun x => Below W1.heap.size W1 x), Below W1.heap.size W1 q.w := fun q => q.h
  generalize hCC : (fun x => Below W1.heap.size W1 x) = C at hC
  have CS : Hid (∀ x y, C x → Below x.heap.size x y → C y) := by rw [← hCC]; exact fun x y hx hy => onward hx hy
  have C0 : Hid (C { W1 with drawn := W1.drawn + 1 }) := by rw [← hCC]; exact ⟨rfl, rfl, rfl, Nat.le_refl _, fun _ _ => rfl⟩
  have CB : Hid (∀ x, C x → Below W1.heap.size W1 x) := fun x hx => hC ⟨x, hx⟩
  have k0 : ∀ q : InC C, q.w.cell? ⟨w.heap.size + 1, 0, none⟩ = some (sV l0) := fun q => row_str LW (hC q) 0 HL0.out
  have FV : Hid (∀ x, C x → _) := fun x hx => verbs_any x (E.below (onward bW (hC ⟨x, hx⟩)))
  have HRT := hide RT
  have HLW := hide LW
  have HBW := hide bW
  have HE := hide E
  clear hW1 RT LW bW hC hCC SP0 E
  go_enter Tryz.func54, Tryz.ntmps54
  go_wp2_with fail
  refine SP.out.mono ?_
  rintro e w' ⟨rfl, hw'⟩
  rw [hw']
  clear hw' SP
  clear w'
  go_wp2_with fail
  refine wp_region_mix [(1, true), (2, true), (3, true), (0, false), (4, false), (5, true)] C mixed (by kernel_rfl) C0.out ?_
  repeat (refine mix_still (by rfl) ?_; go_big_quiet_step (exact rfl); refine wpQuiet_nil ?_)
  refine mix_main (by rfl) ?_
  rintro ⟨x1, hx1⟩
  dsimp only
  have hcon := FV.out x1 hx1
  have HX1 := hide hx1
  go_wp2_with (go_at_call 35; refine hcon.mono ?_; rintro e w' ⟨rfl, hw'⟩)
  obtain ⟨V, hV⟩ : ∃ V, V = x1.alloc (.cells #[sV [45], sV wDeposit, sV wWithdraw, sV wPlace, sV wCancel, sV wIndex, sV wFund, sV wSweep] 9) := ⟨_, rfl⟩
  rw [← hV]
  refine ⟨From C V, ⟨CS.out x1 V HX1.out (by rw [hV]; exact below_alloc x1 _), Below.refl _ _⟩, fun x hx => hx.1, ?_⟩
  have IX : Hid (∀ x, From C V x → _) := fun x hx => index_words x1.heap.size [[45], wDeposit, wWithdraw, wPlace, wCancel, wIndex, wFund, wSweep] l0 x (by decide) (fun j hj => (hx.2.cell (p := ⟨x1.heap.size, j, none⟩) (by rw [hV]; simp)).trans (by rw [hV]; exact new_cell x1 _ _ j _ (eight_get hj)))
  have CF : Hid (∀ x, From C V x → C x) := fun x hx => hx.1
  have IXK : idxW [[45], wDeposit, wWithdraw, wPlace, wCancel, wIndex, wFund, wSweep] l0 = kd := HKD.out
  rw [IXK] at IX
  generalize From C V = C1 at IX CF ⊢
  generalize x1.heap.size = vb at IX ⊢
  clear hV hcon HX1 hx1 hw' IXK
  clear V x1 w'
  refine mix_main (by rfl) ?_
  rintro ⟨x2, hx2⟩
  dsimp only
  have hcon := IX.out x2 hx2
  have HX2 := hide hx2
  go_wp2_with (go_at_call 76; refine hcon.mono ?_; rintro e w' ⟨rfl, hw'⟩)
  refine ⟨C1, hw' ▸ HX2.out, fun x hx => hx, ?_⟩
  clear hcon HX2 hx2 hw' IX
  clear x2 w'
  repeat (refine mix_still (by rfl) ?_; go_big_quiet_step (exact rfl); refine wpQuiet_nil ?_)
  refine mix_end ?_
  rintro ⟨X, hX⟩
  dsimp only
  have bX := CB.out X (CF.out X hX)
  have BX := hide (onward HBW.out bX)
  have RX := hide (cdAt_below HRT.out bX)
  have LX : Hid (X.heap[w.heap.size + 1]? = some (.cells (ws.map sV).toArray 9 (0, 0))) := (bX.block _ (Array.getElem?_eq_some_iff.1 HLW.out).1).trans HLW.out
  clear bX hX k0 CF CB C0 CS FV HRT HLW HBW
  clear C C1
  obtain ⟨Q, hQ⟩ : ∃ Q, Q = (X.alloc (cdO ⟨kd, 0, 0, 0, 0, 0, 0, 0, 0, 0, false⟩)).alloc (.cells #[.pointer (some ⟨X.heap.size, 1, none⟩), .pointer (some ⟨X.heap.size, 3, none⟩)] 132) := ⟨_, rfl⟩
  have HG0 : Hid (Below X.heap.size X Q) := by show Below _ _ _; rw [hQ]; exact ((Below.refl _ X).alloc (Nat.le_refl _) _).alloc (by simp) _
  have CG : Hid (CdAt Q X.heap.size ⟨kd, 0, 0, 0, 0, 0, 0, 0, 0, 0, false⟩) := by
    show Q.heap[X.heap.size]? = _
    rw [hQ]
    exact cdAt_below (heap_alloc_new X _) (below_alloc _ _)
  have SX : Hid (w.heap.size + 2 ≤ X.heap.size) := (Array.getElem?_eq_some_iff.1 LX.out).1
  have HQ := hide hQ
  clear hQ
  go_wp2_with (rw [← HQ.out])
  obtain ⟨G, hG⟩ : ∃ G, G = Q := ⟨_, rfl⟩
  subst hG
  obtain ⟨cb, hcb⟩ : ∃ cb, cb = X.heap.size := ⟨_, rfl⟩
  have HCB : Hid (X.heap.size ≤ cb) := by show X.heap.size ≤ cb; omega
  rw [← hcb] at CG SX ⊢
  clear hcb HQ
  obtain ⟨C, hCC⟩ : ∃ C, C = AtP X cb (fun c => ∃ h, c = ⟨kd, 0, 0, 0, 0, 0, 0, 0, 0, h, false⟩) := ⟨_, rfl⟩
  have CR : Hid (∀ x, C x → AtP X cb (fun c => ∃ h, c = ⟨kd, 0, 0, 0, 0, 0, 0, 0, 0, h, false⟩) x) := fun x hx => by rw [hCC] at hx; exact hx
  have CQ : Hid (∀ x, AtP X cb (fun c => ∃ h, c = ⟨kd, 0, 0, 0, 0, 0, 0, 0, 0, h, false⟩) x → C x) := fun x hx => by rw [hCC]; exact hx
  have CS : Hid (∀ x y, C x → Below x.heap.size x y → C y) := by rw [hCC]; exact atP_shut _ _ _
  have C0 : Hid (C { G with drawn := G.drawn + 1 }) := by rw [hCC]; exact ⟨HG0.out.trans ⟨rfl, rfl, rfl, Nat.le_refl _, fun _ _ => rfl⟩, _, ⟨0, rfl⟩, CG.out⟩
  have k6 : ∀ q : InC C, q.w.cell? ⟨w.heap.size + 1, 6, none⟩ = some (sV l6) := fun q => row_str LX.out (CR.out q.w q.h).1 6 Hl6.out
  have FS : Hid (∀ x, C x → _) := fun x hx => sorts_any x (HE.out.below (onward BX.out (CR.out x hx).1))
  clear hCC
  refine wp_region_mix [(1, true), (2, true), (3, true), (0, false), (4, false), (5, true), (6, false)] C mixed (by kernel_rfl) C0.out ?_
  repeat (refine mix_still (by rfl) ?_; go_big_quiet_step (exact rfl); refine wpQuiet_nil ?_)
  refine mix_main (by rfl) ?_
  rintro ⟨x1, hx1⟩
  dsimp only
  have hcon := FS.out x1 hx1
  have HX1 := hide hx1
  go_wp2_with (go_at_call 35; refine hcon.mono ?_; rintro e w' ⟨rfl, hw'⟩)
  refine ⟨Wd C x1.heap.size, ⟨CS.out x1 _ HX1.out (below_alloc x1 _), heap_alloc_new x1 _⟩, fun x hx => hx.1, ?_⟩
  have FN : Hid (cb < x1.heap.size) := by obtain ⟨-, c, -, h⟩ := CR.out x1 HX1.out; exact (Array.getElem?_eq_some_iff.1 h).1
  generalize x1.heap.size = fb at FN ⊢
  have IX : Hid (∀ x, Wd C fb x → _) := fun x hx => index_words fb [[45], wLimit, wNow, wWhole, wPost] l6 x (by decide) (fun j hj => by simp only [World.cell?, hx.2]; exact five_get hj)
  have IXK : idxW [[45], wLimit, wNow, wWhole, wPost] l6 = hw := HHW.out
  rw [IXK] at IX
  clear hcon HX1 hx1 hw' FS IXK
  clear x1 w'
  refine mix_main (by rfl) ?_
  rintro ⟨x2, hx2⟩
  dsimp only
  have hcon := IX.out x2 hx2
  have HX2 := hide hx2
  go_wp2_with (go_at_call 76; refine hcon.mono ?_; rintro e w' ⟨rfl, hw'⟩)
  refine ⟨Wd C fb, hw' ▸ HX2.out, fun x hx => hx, ?_⟩
  clear hcon HX2 hx2 hw' IX
  clear x2 w'
  repeat (refine mix_still (by rfl) ?_; go_big_quiet_step (exact rfl); refine wpQuiet_nil ?_)
  refine mix_main (by rfl) ?_
  rintro ⟨x3, hx3⟩
  dsimp only
  obtain ⟨a1, c3, ⟨hv3, rfl⟩, a2⟩ := CR.out x3 hx3.1
  obtain ⟨⟨d0, d1, d2, d3, d4, d5, d6, d7, d8, d9, d10⟩, e0, e1, e2, e3, e4, e5, e6, e7, e8, e9, e10⟩ := cd_open a2
  have S1 := hide (cdAt_how a2 hw)
  have S2 : Hid (Below X.heap.size X (x3.setCell ⟨cb, 9, none⟩ (.int .i64 hw))) := a1.setCell HCB.out _
  have S3 : Hid ((x3.setCell ⟨cb, 9, none⟩ (.int .i64 hw)).heap[fb]? = some sortsO) := (Below.heap_setCell _ _ _ fb (by have := FN.out; dsimp only; omega)).trans hx3.2
  clear a1 a2 hx3
  go_wp2
  refine ⟨Both (Wd C fb) (AtP X cb (fun c => c = ⟨kd, 0, 0, 0, 0, 0, 0, 0, 0, hw, false⟩)), ⟨⟨CQ.out _ ⟨S2.out, _, ⟨hw, rfl⟩, S1.out⟩, S3.out⟩, S2.out, _, rfl, S1.out⟩, fun x hx => hx.1, ?_⟩
  clear d0 d1 d2 d3 d4 d5 d6 d7 d8 d9 d10 e0 e1 e2 e3 e4 e5 e6 e7 e8 e9 e10 S1 S2 S3
  clear x3
  refine mix_end ?_
  rintro ⟨Y, hY⟩
  dsimp only
  obtain ⟨bY, c3, rfl, cY⟩ := hY.2
  have BY := hide (onward BX.out bY)
  have RY := hide (cdAt_below RX.out bY)
  have CY := hide cY
  have LY : Hid (Y.heap[w.heap.size + 1]? = some (.cells (ws.map sV).toArray 9 (0, 0))) := (bY.block _ (Array.getElem?_eq_some_iff.1 LX.out).1).trans LX.out
  clear hY bY cY CR CQ CS C0 k6 CG HG0 FN
  clear C
  by_cases hh : hw < 1
  · have HR0 := pair_eq (place_not (fun h => by have := h.2.1; rw [getD_of Hl6.out, HHW.out] at this; omega)) HR.out
    have c9 := (cd_open CY.out).1.2.2.2.2.2.2.2.2.2.1
    dsimp only at c9
    clear HR HHW CY LY
    obtain ⟨rfl, rfl⟩ := HR0
    have BC := hide (refBad_any Y)
    go_wp2_with fail
    refine BC.out.mono ?_
    rintro e Z0 ⟨rfl, bZ⟩
    have RZ := cdAt_below RY.out bZ
    have BZ := hide (onward BY.out bZ)
    have RZH := hide RZ
    clear BC bZ
    obtain ⟨⟨g0, g1, g2, g3, g4, g5, g6, g7, g8, g9, g10⟩, h0, h1, h2, h3, h4, h5, h6, h7, h8, h9, h10⟩ := cd_open RZ
    clear RZ
    go_wp2
    obtain ⟨ZZ, hZ⟩ : ∃ Z, Z = putCd Z0 w.heap.size noCd := ⟨_, rfl⟩
    have ZA : CdAt ZZ w.heap.size noCd := by rw [hZ]; exact putCd_at RZH.out _
    have ZB : Below w.heap.size w ZZ := by rw [hZ]; exact putCd_below BZ.out (Nat.le_refl _) _
    change bodyPost _ _ _ _ _ (putCd Z0 w.heap.size noCd)
    rw [← hZ]
    obtain ⟨⟨z0, z1, z2, z3, z4, z5, z6, z7, z8, z9, z10⟩, -⟩ := cd_open ZA
    refine bodyPost_ret (v := .tuple #[cdV noCd, .int .i64 1]) (by simp [results, Tryz.results54, go_sem, z0, z1, z2, z3, z4, z5, z6, z7, z8, z9, z10]) rfl ⟨rfl, ZB⟩
  · have c9 := (cd_open CY.out).1.2.2.2.2.2.2.2.2.2.1
    dsimp only at c9
    have q3 := row_str LY.out (Below.refl _ Y) 3 Hl3.out
    by_cases hb : l3 = wBuy
    · subst hb
      have cY := CY.out
      have mbn : cb < Y.heap.size := (Array.getElem?_eq_some_iff.1 cY).1
      obtain ⟨M0, hM0⟩ : ∃ M, M = Y.alloc (.map #[] 0) := ⟨_, rfl⟩
      have mk : (Instr.makeMap 134 none).run Tryz.prog Y = .ok (.map (some Y.heap.size)) M0 := by rw [hM0]; exact run_makeMap_plain Y _
      have gM0 : M0.heap[Y.heap.size]? = some (.map #[] 0) := by rw [hM0]; exact heap_alloc_new Y _
      obtain ⟨M1, hM1⟩ : ∃ M, M = setB M0 Y.heap.size (.map #[eB2 0] 1) := ⟨_, rfl⟩
      have i1 : (Instr.mapUpdate 134 (.map (some Y.heap.size)) (.string ⟨#[98, 117, 121]⟩) (.int .i64 1)).run Tryz.prog M0 = .ok () M1 := by rw [hM1]; exact upd_mapS gM0 rfl
      have gM1 : M1.heap[Y.heap.size]? = some (.map #[eB2 0] 1) := by rw [hM1]; exact setB_at gM0
      obtain ⟨M2, hM2⟩ : ∃ M, M = setB M1 Y.heap.size (.map #[eB2 0, eS2 1] 2) := ⟨_, rfl⟩
      have i2 : (Instr.mapUpdate 134 (.map (some Y.heap.size)) (.string ⟨#[115, 101, 108, 108]⟩) (.int .i64 (-1))).run Tryz.prog M1 = .ok () M2 := by rw [hM2]; exact upd_mapS gM1 rfl
      have gM2 : M2.heap[Y.heap.size]? = some (.map #[eB2 0, eS2 1] 2) := by rw [hM2]; exact setB_at gM1
      have lk : (Instr.lookup 134 (.map (some Y.heap.size)) (sV wBuy) false).run Tryz.prog M2 = .ok (.int .i64 1) M2 := look_mapS gM2 rfl
      have bM : Below Y.heap.size Y M2 := by rw [hM2]; refine setB_below ?_ (Nat.le_refl _); rw [hM1]; refine setB_below ?_ (Nat.le_refl _); rw [hM0]; exact below_alloc Y _
      have cM := cdAt_below cY bM
      have q3 : M2.cell? ⟨w.heap.size + 1, 3, none⟩ = some (sV wBuy) := row_str LY.out bM 3 Hl3.out
      obtain ⟨⟨d0, d1, d2, d3, d4, d5, d6, d7, d8, d9, d10⟩, e0, e1, e2, e3, e4, e5, e6, e7, e8, e9, e10⟩ := cd_open cM
      obtain ⟨S, hS⟩ : ∃ S, S = M2.setCell ⟨cb, 6, none⟩ (.int .i64 1) := ⟨_, rfl⟩
      have CG := hide (cdAt_sd cM 1)
      rw [← hS] at CG
      dsimp only at CG
      have kp : ∀ b, ¬ cb = b → b < Y.heap.size → S.heap[b]? = Y.heap[b]? := fun b hb hl => by rw [hS]; exact (Below.heap_setCell _ _ _ b (fun e => hb e.symm)).trans (bM.block b hl)
      have RG : Hid (CdAt S w.heap.size noCd) := (kp _ (by have := SX.out; omega) (Array.getElem?_eq_some_iff.1 RY.out).1).trans RY.out
      have LG : Hid (S.heap[w.heap.size + 1]? = some (.cells (ws.map sV).toArray 9 (0, 0))) := (kp _ (by have := SX.out; omega) (Array.getElem?_eq_some_iff.1 LY.out).1).trans LY.out
      have BG : Hid (Below w.heap.size w S) := by show Below _ _ _; rw [hS]; exact (onward BY.out bM).setCell (by have := SX.out; dsimp only; omega) _
      have HSS := hide hS
      clear hM0 gM0 hM1 gM1 hM2 gM2 bM cM kp hS mbn cY CY RY LY BY
      go_wp2_with (rw [← HSS.out])
      have hC : ∀ q : InC (fun x => Below S.heap.size S x), Below S.heap.size S q.w := fun q => q.h
      generalize hCC : (fun x => Below S.heap.size S x) = C at hC
      have CS : Hid (∀ x y, C x → Below x.heap.size x y → C y) := by rw [← hCC]; exact fun x y hx hy => onward hx hy
      have C0 : Hid (C { S with drawn := S.drawn + 1 }) := by rw [← hCC]; exact ⟨rfl, rfl, rfl, Nat.le_refl _, fun _ _ => rfl⟩
      have CB : Hid (∀ x, C x → Below S.heap.size S x) := fun x hx => hC ⟨x, hx⟩
      have k0 : ∀ q : InC C, q.w.cell? ⟨w.heap.size + 1, 0, none⟩ = some (sV l0) := fun q => row_str LG.out (hC q) 0 HL0.out
      have k1 : ∀ q : InC C, q.w.cell? ⟨w.heap.size + 1, 1, none⟩ = some (sV l1) := fun q => row_str LG.out (hC q) 1 Hl1.out
      have k2 : ∀ q : InC C, q.w.cell? ⟨w.heap.size + 1, 2, none⟩ = some (sV l2) := fun q => row_str LG.out (hC q) 2 Hl2.out
      have k4 : ∀ q : InC C, q.w.cell? ⟨w.heap.size + 1, 4, none⟩ = some (sV l4) := fun q => row_str LG.out (hC q) 4 Hl4.out
      have k5 : ∀ q : InC C, q.w.cell? ⟨w.heap.size + 1, 5, none⟩ = some (sV l5) := fun q => row_str LG.out (hC q) 5 Hl5.out
      clear hC hCC d0 d1 d2 d3 d4 d5 d6 d7 d8 d9 d10 e0 e1 e2 e3 e4 e5 e6 e7 e8 e9 e10 mk i1 i2 lk q3 HSS
      refine wp_region_mix [(0, true), (1, true), (2, true), (3, true), (4, true), (5, true), (6, true), (7, true), (8, true), (9, true), (10, true), (11, true), (12, true), (13, true), (14, true), (15, false), (16, true)] C mixed (by kernel_rfl) C0.out ?_
      repeat (refine mix_still (by rfl) ?_; go_big_quiet_step (exact rfl); refine wpQuiet_nil ?_)
      refine mix_main (by rfl) ?_
      rintro ⟨x1, hx1⟩
      dsimp only
      go_wp2
      refine ⟨From C (x1.alloc (.cells (([l0, l1, l2, l4, l5] : List Bs).map sV).toArray 9)), ⟨CS.out x1 _ hx1 (below_alloc x1 _), Below.refl _ _⟩, fun x hx => hx.1, ?_⟩
      have WB : Hid (∀ x, From C (x1.alloc (.cells (([l0, l1, l2, l4, l5] : List Bs).map sV).toArray 9)) x → C x ∧ x.heap[x1.heap.size]? = some (.cells (([l0, l1, l2, l4, l5] : List Bs).map sV).toArray 9 (0, 0))) := fun x hx => ⟨hx.1, (hx.2.block _ (by simp)).trans (heap_alloc_new x1 _)⟩
      have WN : Hid (cb < x1.heap.size) := Nat.lt_of_lt_of_le (Array.getElem?_eq_some_iff.1 CG.out).1 (CB.out x1 hx1).size
      generalize From C (x1.alloc (.cells (([l0, l1, l2, l4, l5] : List Bs).map sV).toArray 9)) = C1 at WB ⊢
      generalize x1.heap.size = sb at WB WN ⊢
      clear hx1 k0 k1 k2 k4 k5
      clear x1
      repeat (refine mix_still (by rfl) ?_; go_big_quiet_step (exact rfl); refine wpQuiet_nil ?_)
      refine mix_end ?_
      rintro ⟨T, hT⟩
      dsimp only
      obtain ⟨cT, wT⟩ := WB.out T hT
      have bT := CB.out T cT
      obtain ⟨Q2, hQ2⟩ : ∃ Q2, Q2 = T.alloc (.cells #[.pointer (some ⟨cb, 1, none⟩), .pointer (some ⟨cb, 2, none⟩), .pointer (some ⟨cb, 8, none⟩), .pointer (some ⟨cb, 7, none⟩)] 132) := ⟨_, rfl⟩
      have bQ2 : Below T.heap.size T Q2 := by rw [hQ2]; exact below_alloc T _
      have bSQ := onward bT bQ2
      have CG2 := hide (cdAt_below CG.out bSQ)
      have SI : Hid (cb < T.heap.size) := Nat.lt_of_lt_of_le (Array.getElem?_eq_some_iff.1 CG.out).1 bT.size
      have RG2 := hide (cdAt_below RG.out bSQ)
      have LG2 : Hid (Q2.heap[sb]? = some (.cells (([l0, l1, l2, l4, l5] : List Bs).map sV).toArray 9 (0, 0))) := (bQ2.block _ (Array.getElem?_eq_some_iff.1 wT).1).trans wT
      have IG : Hid (Q2.heap[T.heap.size]? = some (.cells #[.pointer (some ⟨cb, 1, none⟩), .pointer (some ⟨cb, 2, none⟩), .pointer (some ⟨cb, 8, none⟩), .pointer (some ⟨cb, 7, none⟩)] 132 (0, 0))) := by show Q2.heap[T.heap.size]? = _; rw [hQ2]; exact heap_alloc_new T _
      have BG2 := hide (onward BG.out bSQ)
      have HQ2 := hide hQ2
      clear hQ2 bQ2 CG RG LG BG bSQ bT cT wT hT WB CB CS C0
      clear C C1
      have CG := CG2
      have RG := RG2
      have LG := LG2
      have BG := BG2
      clear CG2 RG2 LG2 BG2
      go_wp2_with (rw [← HQ2.out])
      generalize T.heap.size = ib at *
      clear HQ2
      refine wp_loop_rounds 5 ?_
      have p0 : Q2.cell? ⟨ib, 0, none⟩ = some (.pointer (some ⟨cb, 1, none⟩)) := by simp [World.cell?, IG.out]
      have q0 : Q2.cell? ⟨sb, 0 + 1, none⟩ = some (sV l1) := row_str LG.out (Below.refl _ Q2) (0 + 1) rfl
      have NM := hide (refNum_any l1 hll1 Q2 (HE.out.env.below BG.out))
      obtain ⟨bo, hbo⟩ : ∃ bo, okN l1 = bo := ⟨_, rfl⟩
      rw [hbo] at NM
      have HOl1 := hide hbo
      clear hbo
      rw [rounds_succ]
      go_wp2_with fail
      refine NM.out.mono ?_
      rintro e Y0 ⟨⟨n0, rfl, hn0⟩, bY⟩
      clear NM p0 q0
      cases bo
      · have HR0 := pair_eq (place_not (fun h => by have := h.2.2.2.1; rw [getD_of Hl1.out, HOl1.out] at this; cases this)) HR.out
        have BY := hide (onward BG.out bY)
        have RY := hide (cdAt_below RG.out bY)
        clear CG RG LG IG BG bY hn0 HR
        obtain ⟨rfl, rfl⟩ := HR0
        have BC := hide (refBad_any Y0)
        go_wp2_with fail
        refine BC.out.mono ?_
        rintro e Z0 ⟨rfl, bZ⟩
        have RZ := cdAt_below RY.out bZ
        have BZ := hide (onward BY.out bZ)
        have RZH := hide RZ
        clear BC bZ
        obtain ⟨⟨g0, g1, g2, g3, g4, g5, g6, g7, g8, g9, g10⟩, h0, h1, h2, h3, h4, h5, h6, h7, h8, h9, h10⟩ := cd_open RZ
        clear RZ
        go_wp2
        obtain ⟨ZZ, hZ⟩ : ∃ Z, Z = putCd Z0 w.heap.size noCd := ⟨_, rfl⟩
        have ZA : CdAt ZZ w.heap.size noCd := by rw [hZ]; exact putCd_at RZH.out _
        have ZB : Below w.heap.size w ZZ := by rw [hZ]; exact putCd_below BZ.out (Nat.le_refl _) _
        change bodyPost _ _ _ _ _ (putCd Z0 w.heap.size noCd)
        rw [← hZ]
        obtain ⟨⟨z0, z1, z2, z3, z4, z5, z6, z7, z8, z9, z10⟩, -⟩ := cd_open ZA
        refine bodyPost_ret (v := .tuple #[cdV noCd, .int .i64 1]) (by simp [results, Tryz.results54, go_sem, z0, z1, z2, z3, z4, z5, z6, z7, z8, z9, z10]) rfl ⟨rfl, ZB⟩
      obtain rfl := hn0 (by first | rfl | trivial)
      have cY := cdAt_below CG.out bY
      obtain ⟨⟨d0, d1, d2, d3, d4, d5, d6, d7, d8, d9, d10⟩, e0, e1, e2, e3, e4, e5, e6, e7, e8, e9, e10⟩ := cd_open cY
      obtain ⟨G0, hG⟩ : ∃ G', G' = Y0.setCell ⟨cb, 1, none⟩ (.int .i64 (numB l1)) := ⟨_, rfl⟩
      have CG2 := hide (cdAt_ac cY (numB l1))
      rw [← hG] at CG2
      have kp : ∀ b, ¬ cb = b → G0.heap[b]? = Y0.heap[b]? := fun b hb => by rw [hG]; exact Below.heap_setCell _ _ _ b (fun e => hb e.symm)
      have RG2 : Hid (CdAt G0 w.heap.size noCd) := (kp _ (by have := SX.out; omega)).trans (cdAt_below RG.out bY)
      have LG2 := hide ((kp sb (by have := WN.out; omega)).trans ((bY.block _ (Array.getElem?_eq_some_iff.1 LG.out).1).trans LG.out))
      have IG2 := hide ((kp ib (by have := SI.out; omega)).trans ((bY.block _ (Array.getElem?_eq_some_iff.1 IG.out).1).trans IG.out))
      have BG2 : Hid (Below w.heap.size w G0) := by show Below _ _ _; rw [hG]; exact (onward BG.out bY).setCell (by have := SX.out; dsimp only; omega) _
      have HG := hide hG
      clear hG kp cY bY CG RG LG IG BG hn0
      have CG := CG2
      have RG := RG2
      have LG := LG2
      have IG := IG2
      have BG := BG2
      clear CG2 RG2 LG2 IG2 BG2
      dsimp only at CG
      go_wp2_with (rw [← HG.out])
      clear HG d0 d1 d2 d3 d4 d5 d6 d7 d8 d9 d10 e0 e1 e2 e3 e4 e5 e6 e7 e8 e9 e10
      have p1 : G0.cell? ⟨ib, 1, none⟩ = some (.pointer (some ⟨cb, 2, none⟩)) := by simp [World.cell?, IG.out]
      have q1 : G0.cell? ⟨sb, 1 + 1, none⟩ = some (sV l2) := row_str LG.out (Below.refl _ G0) (1 + 1) rfl
      have NM := hide (refNum_any l2 hll2 G0 (HE.out.env.below BG.out))
      obtain ⟨bo, hbo⟩ : ∃ bo, okN l2 = bo := ⟨_, rfl⟩
      rw [hbo] at NM
      have HOl2 := hide hbo
      clear hbo
      rw [rounds_succ]
      go_wp2_with fail
      refine NM.out.mono ?_
      rintro e Y1 ⟨⟨n1, rfl, hn1⟩, bY⟩
      clear NM p1 q1
      cases bo
      · have HR0 := pair_eq (place_not (fun h => by have := h.2.2.2.2.1; rw [getD_of Hl2.out, HOl2.out] at this; cases this)) HR.out
        have BY := hide (onward BG.out bY)
        have RY := hide (cdAt_below RG.out bY)
        clear CG RG LG IG BG bY hn1 HR
        obtain ⟨rfl, rfl⟩ := HR0
        have BC := hide (refBad_any Y1)
        go_wp2_with fail
        refine BC.out.mono ?_
        rintro e Z0 ⟨rfl, bZ⟩
        have RZ := cdAt_below RY.out bZ
        have BZ := hide (onward BY.out bZ)
        have RZH := hide RZ
        clear BC bZ
        obtain ⟨⟨g0, g1, g2, g3, g4, g5, g6, g7, g8, g9, g10⟩, h0, h1, h2, h3, h4, h5, h6, h7, h8, h9, h10⟩ := cd_open RZ
        clear RZ
        go_wp2
        obtain ⟨ZZ, hZ⟩ : ∃ Z, Z = putCd Z0 w.heap.size noCd := ⟨_, rfl⟩
        have ZA : CdAt ZZ w.heap.size noCd := by rw [hZ]; exact putCd_at RZH.out _
        have ZB : Below w.heap.size w ZZ := by rw [hZ]; exact putCd_below BZ.out (Nat.le_refl _) _
        change bodyPost _ _ _ _ _ (putCd Z0 w.heap.size noCd)
        rw [← hZ]
        obtain ⟨⟨z0, z1, z2, z3, z4, z5, z6, z7, z8, z9, z10⟩, -⟩ := cd_open ZA
        refine bodyPost_ret (v := .tuple #[cdV noCd, .int .i64 1]) (by simp [results, Tryz.results54, go_sem, z0, z1, z2, z3, z4, z5, z6, z7, z8, z9, z10]) rfl ⟨rfl, ZB⟩
      obtain rfl := hn1 (by first | rfl | trivial)
      have cY := cdAt_below CG.out bY
      obtain ⟨⟨d0, d1, d2, d3, d4, d5, d6, d7, d8, d9, d10⟩, e0, e1, e2, e3, e4, e5, e6, e7, e8, e9, e10⟩ := cd_open cY
      obtain ⟨G1, hG⟩ : ∃ G', G' = Y1.setCell ⟨cb, 2, none⟩ (.int .i64 (numB l2)) := ⟨_, rfl⟩
      have CG2 := hide (cdAt_mkt cY (numB l2))
      rw [← hG] at CG2
      have kp : ∀ b, ¬ cb = b → G1.heap[b]? = Y1.heap[b]? := fun b hb => by rw [hG]; exact Below.heap_setCell _ _ _ b (fun e => hb e.symm)
      have RG2 : Hid (CdAt G1 w.heap.size noCd) := (kp _ (by have := SX.out; omega)).trans (cdAt_below RG.out bY)
      have LG2 := hide ((kp sb (by have := WN.out; omega)).trans ((bY.block _ (Array.getElem?_eq_some_iff.1 LG.out).1).trans LG.out))
      have IG2 := hide ((kp ib (by have := SI.out; omega)).trans ((bY.block _ (Array.getElem?_eq_some_iff.1 IG.out).1).trans IG.out))
      have BG2 : Hid (Below w.heap.size w G1) := by show Below _ _ _; rw [hG]; exact (onward BG.out bY).setCell (by have := SX.out; dsimp only; omega) _
      have HG := hide hG
      clear hG kp cY bY CG RG LG IG BG hn1
      have CG := CG2
      have RG := RG2
      have LG := LG2
      have IG := IG2
      have BG := BG2
      clear CG2 RG2 LG2 IG2 BG2
      dsimp only at CG
      go_wp2_with (rw [← HG.out])
      clear HG d0 d1 d2 d3 d4 d5 d6 d7 d8 d9 d10 e0 e1 e2 e3 e4 e5 e6 e7 e8 e9 e10
      have p2 : G1.cell? ⟨ib, 2, none⟩ = some (.pointer (some ⟨cb, 8, none⟩)) := by simp [World.cell?, IG.out]
      have q2 : G1.cell? ⟨sb, 2 + 1, none⟩ = some (sV l4) := row_str LG.out (Below.refl _ G1) (2 + 1) rfl
      have NM := hide (refNum_any l4 hll4 G1 (HE.out.env.below BG.out))
      obtain ⟨bo, hbo⟩ : ∃ bo, okN l4 = bo := ⟨_, rfl⟩
      rw [hbo] at NM
      have HOl4 := hide hbo
      clear hbo
      rw [rounds_succ]
      go_wp2_with fail
      refine NM.out.mono ?_
      rintro e Y2 ⟨⟨n2, rfl, hn2⟩, bY⟩
      clear NM p2 q2
      cases bo
      · have HR0 := pair_eq (place_not (fun h => by have := h.2.2.2.2.2.1; rw [getD_of Hl4.out, HOl4.out] at this; cases this)) HR.out
        have BY := hide (onward BG.out bY)
        have RY := hide (cdAt_below RG.out bY)
        clear CG RG LG IG BG bY hn2 HR
        obtain ⟨rfl, rfl⟩ := HR0
        have BC := hide (refBad_any Y2)
        go_wp2_with fail
        refine BC.out.mono ?_
        rintro e Z0 ⟨rfl, bZ⟩
        have RZ := cdAt_below RY.out bZ
        have BZ := hide (onward BY.out bZ)
        have RZH := hide RZ
        clear BC bZ
        obtain ⟨⟨g0, g1, g2, g3, g4, g5, g6, g7, g8, g9, g10⟩, h0, h1, h2, h3, h4, h5, h6, h7, h8, h9, h10⟩ := cd_open RZ
        clear RZ
        go_wp2
        obtain ⟨ZZ, hZ⟩ : ∃ Z, Z = putCd Z0 w.heap.size noCd := ⟨_, rfl⟩
        have ZA : CdAt ZZ w.heap.size noCd := by rw [hZ]; exact putCd_at RZH.out _
        have ZB : Below w.heap.size w ZZ := by rw [hZ]; exact putCd_below BZ.out (Nat.le_refl _) _
        change bodyPost _ _ _ _ _ (putCd Z0 w.heap.size noCd)
        rw [← hZ]
        obtain ⟨⟨z0, z1, z2, z3, z4, z5, z6, z7, z8, z9, z10⟩, -⟩ := cd_open ZA
        refine bodyPost_ret (v := .tuple #[cdV noCd, .int .i64 1]) (by simp [results, Tryz.results54, go_sem, z0, z1, z2, z3, z4, z5, z6, z7, z8, z9, z10]) rfl ⟨rfl, ZB⟩
      obtain rfl := hn2 (by first | rfl | trivial)
      have cY := cdAt_below CG.out bY
      obtain ⟨⟨d0, d1, d2, d3, d4, d5, d6, d7, d8, d9, d10⟩, e0, e1, e2, e3, e4, e5, e6, e7, e8, e9, e10⟩ := cd_open cY
      obtain ⟨G2, hG⟩ : ∃ G', G' = Y2.setCell ⟨cb, 8, none⟩ (.int .i64 (numB l4)) := ⟨_, rfl⟩
      have CG2 := hide (cdAt_qt cY (numB l4))
      rw [← hG] at CG2
      have kp : ∀ b, ¬ cb = b → G2.heap[b]? = Y2.heap[b]? := fun b hb => by rw [hG]; exact Below.heap_setCell _ _ _ b (fun e => hb e.symm)
      have RG2 : Hid (CdAt G2 w.heap.size noCd) := (kp _ (by have := SX.out; omega)).trans (cdAt_below RG.out bY)
      have LG2 := hide ((kp sb (by have := WN.out; omega)).trans ((bY.block _ (Array.getElem?_eq_some_iff.1 LG.out).1).trans LG.out))
      have IG2 := hide ((kp ib (by have := SI.out; omega)).trans ((bY.block _ (Array.getElem?_eq_some_iff.1 IG.out).1).trans IG.out))
      have BG2 : Hid (Below w.heap.size w G2) := by show Below _ _ _; rw [hG]; exact (onward BG.out bY).setCell (by have := SX.out; dsimp only; omega) _
      have HG := hide hG
      clear hG kp cY bY CG RG LG IG BG hn2
      have CG := CG2
      have RG := RG2
      have LG := LG2
      have IG := IG2
      have BG := BG2
      clear CG2 RG2 LG2 IG2 BG2
      dsimp only at CG
      go_wp2_with (rw [← HG.out])
      clear HG d0 d1 d2 d3 d4 d5 d6 d7 d8 d9 d10 e0 e1 e2 e3 e4 e5 e6 e7 e8 e9 e10
      have p3 : G2.cell? ⟨ib, 3, none⟩ = some (.pointer (some ⟨cb, 7, none⟩)) := by simp [World.cell?, IG.out]
      have q3 : G2.cell? ⟨sb, 3 + 1, none⟩ = some (sV l5) := row_str LG.out (Below.refl _ G2) (3 + 1) rfl
      have NM := hide (refNum_any l5 hll5 G2 (HE.out.env.below BG.out))
      obtain ⟨bo, hbo⟩ : ∃ bo, okN l5 = bo := ⟨_, rfl⟩
      rw [hbo] at NM
      have HOl5 := hide hbo
      clear hbo
      rw [rounds_succ]
      go_wp2_with fail
      refine NM.out.mono ?_
      rintro e Y3 ⟨⟨n3, rfl, hn3⟩, bY⟩
      clear NM p3 q3
      cases bo
      · have HR0 := pair_eq (place_not (fun h => by have := h.2.2.2.2.2.2; rw [getD_of Hl5.out, HOl5.out] at this; cases this)) HR.out
        have BY := hide (onward BG.out bY)
        have RY := hide (cdAt_below RG.out bY)
        clear CG RG LG IG BG bY hn3 HR
        obtain ⟨rfl, rfl⟩ := HR0
        have BC := hide (refBad_any Y3)
        go_wp2_with fail
        refine BC.out.mono ?_
        rintro e Z0 ⟨rfl, bZ⟩
        have RZ := cdAt_below RY.out bZ
        have BZ := hide (onward BY.out bZ)
        have RZH := hide RZ
        clear BC bZ
        obtain ⟨⟨g0, g1, g2, g3, g4, g5, g6, g7, g8, g9, g10⟩, h0, h1, h2, h3, h4, h5, h6, h7, h8, h9, h10⟩ := cd_open RZ
        clear RZ
        go_wp2
        obtain ⟨ZZ, hZ⟩ : ∃ Z, Z = putCd Z0 w.heap.size noCd := ⟨_, rfl⟩
        have ZA : CdAt ZZ w.heap.size noCd := by rw [hZ]; exact putCd_at RZH.out _
        have ZB : Below w.heap.size w ZZ := by rw [hZ]; exact putCd_below BZ.out (Nat.le_refl _) _
        change bodyPost _ _ _ _ _ (putCd Z0 w.heap.size noCd)
        rw [← hZ]
        obtain ⟨⟨z0, z1, z2, z3, z4, z5, z6, z7, z8, z9, z10⟩, -⟩ := cd_open ZA
        refine bodyPost_ret (v := .tuple #[cdV noCd, .int .i64 1]) (by simp [results, Tryz.results54, go_sem, z0, z1, z2, z3, z4, z5, z6, z7, z8, z9, z10]) rfl ⟨rfl, ZB⟩
      obtain rfl := hn3 (by first | rfl | trivial)
      have cY := cdAt_below CG.out bY
      obtain ⟨⟨d0, d1, d2, d3, d4, d5, d6, d7, d8, d9, d10⟩, e0, e1, e2, e3, e4, e5, e6, e7, e8, e9, e10⟩ := cd_open cY
      obtain ⟨G3, hG⟩ : ∃ G', G' = Y3.setCell ⟨cb, 7, none⟩ (.int .i64 (numB l5)) := ⟨_, rfl⟩
      have CG2 := hide (cdAt_pr cY (numB l5))
      rw [← hG] at CG2
      have kp : ∀ b, ¬ cb = b → G3.heap[b]? = Y3.heap[b]? := fun b hb => by rw [hG]; exact Below.heap_setCell _ _ _ b (fun e => hb e.symm)
      have RG2 : Hid (CdAt G3 w.heap.size noCd) := (kp _ (by have := SX.out; omega)).trans (cdAt_below RG.out bY)
      have LG2 := hide ((kp sb (by have := WN.out; omega)).trans ((bY.block _ (Array.getElem?_eq_some_iff.1 LG.out).1).trans LG.out))
      have IG2 := hide ((kp ib (by have := SI.out; omega)).trans ((bY.block _ (Array.getElem?_eq_some_iff.1 IG.out).1).trans IG.out))
      have BG2 : Hid (Below w.heap.size w G3) := by show Below _ _ _; rw [hG]; exact (onward BG.out bY).setCell (by have := SX.out; dsimp only; omega) _
      have HG := hide hG
      clear hG kp cY bY CG RG LG IG BG hn3
      have CG := CG2
      have RG := RG2
      have LG := LG2
      have IG := IG2
      have BG := BG2
      clear CG2 RG2 LG2 IG2 BG2
      dsimp only at CG
      go_wp2_with (rw [← HG.out])
      clear HG d0 d1 d2 d3 d4 d5 d6 d7 d8 d9 d10 e0 e1 e2 e3 e4 e5 e6 e7 e8 e9 e10
      have HR0 : noCd = noCd ∧ (rc, re) = ((⟨kd, numB l1, numB l2, 0, 0, 0, 1, numB l5, numB l4, hw, false⟩ : Cd), (0 : Int)) := ⟨rfl, HR.out.symm.trans (place_is HKD3.out (.inl ⟨rfl, rfl⟩) Hl1.out Hl2.out Hl3.out Hl4.out Hl5.out Hl6.out HHW.out (by omega) rfl HOl1.out HOl2.out HOl4.out HOl5.out HRED.out)⟩
      obtain ⟨rfl, rfl⟩ := Prod.mk.inj HR0.2
      rw [rounds_succ]
      have BZ := BG
      have RZH := RG
      obtain ⟨⟨c0, c1, c2, c3, c4, c5, c6, c7, c8, c9, c10⟩, -⟩ := cd_open CG.out
      obtain ⟨⟨g0, g1, g2, g3, g4, g5, g6, g7, g8, g9, g10⟩, h0, h1, h2, h3, h4, h5, h6, h7, h8, h9, h10⟩ := cd_open RG.out
      go_wp2
      obtain ⟨ZZ, hZ⟩ : ∃ Z, Z = putCd G3 w.heap.size ⟨kd, numB l1, numB l2, 0, 0, 0, 1, numB l5, numB l4, hw, false⟩ := ⟨_, rfl⟩
      have ZA : CdAt ZZ w.heap.size ⟨kd, numB l1, numB l2, 0, 0, 0, 1, numB l5, numB l4, hw, false⟩ := by rw [hZ]; exact putCd_at RZH.out _
      have ZB : Below w.heap.size w ZZ := by rw [hZ]; exact putCd_below BZ.out (Nat.le_refl _) _
      change bodyPost _ _ _ _ _ (putCd G3 w.heap.size ⟨kd, numB l1, numB l2, 0, 0, 0, 1, numB l5, numB l4, hw, false⟩)
      rw [← hZ]
      obtain ⟨⟨z0, z1, z2, z3, z4, z5, z6, z7, z8, z9, z10⟩, -⟩ := cd_open ZA
      refine bodyPost_ret (v := .tuple #[cdV ⟨kd, numB l1, numB l2, 0, 0, 0, 1, numB l5, numB l4, hw, false⟩, .int .i64 0]) (by simp [results, Tryz.results54, go_sem, z0, z1, z2, z3, z4, z5, z6, z7, z8, z9, z10]) rfl ⟨rfl, ZB⟩
    · by_cases hs : l3 = wSell
      · subst hs
        have cY := CY.out
        have mbn : cb < Y.heap.size := (Array.getElem?_eq_some_iff.1 cY).1
        obtain ⟨M0, hM0⟩ : ∃ M, M = Y.alloc (.map #[] 0) := ⟨_, rfl⟩
        have mk : (Instr.makeMap 134 none).run Tryz.prog Y = .ok (.map (some Y.heap.size)) M0 := by rw [hM0]; exact run_makeMap_plain Y _
        have gM0 : M0.heap[Y.heap.size]? = some (.map #[] 0) := by rw [hM0]; exact heap_alloc_new Y _
        obtain ⟨M1, hM1⟩ : ∃ M, M = setB M0 Y.heap.size (.map #[eB2 0] 1) := ⟨_, rfl⟩
        have i1 : (Instr.mapUpdate 134 (.map (some Y.heap.size)) (.string ⟨#[98, 117, 121]⟩) (.int .i64 1)).run Tryz.prog M0 = .ok () M1 := by rw [hM1]; exact upd_mapS gM0 rfl
        have gM1 : M1.heap[Y.heap.size]? = some (.map #[eB2 0] 1) := by rw [hM1]; exact setB_at gM0
        obtain ⟨M2, hM2⟩ : ∃ M, M = setB M1 Y.heap.size (.map #[eB2 0, eS2 1] 2) := ⟨_, rfl⟩
        have i2 : (Instr.mapUpdate 134 (.map (some Y.heap.size)) (.string ⟨#[115, 101, 108, 108]⟩) (.int .i64 (-1))).run Tryz.prog M1 = .ok () M2 := by rw [hM2]; exact upd_mapS gM1 rfl
        have gM2 : M2.heap[Y.heap.size]? = some (.map #[eB2 0, eS2 1] 2) := by rw [hM2]; exact setB_at gM1
        have lk : (Instr.lookup 134 (.map (some Y.heap.size)) (sV wSell) false).run Tryz.prog M2 = .ok (.int .i64 (-1)) M2 := look_mapS gM2 rfl
        have bM : Below Y.heap.size Y M2 := by rw [hM2]; refine setB_below ?_ (Nat.le_refl _); rw [hM1]; refine setB_below ?_ (Nat.le_refl _); rw [hM0]; exact below_alloc Y _
        have cM := cdAt_below cY bM
        have q3 : M2.cell? ⟨w.heap.size + 1, 3, none⟩ = some (sV wSell) := row_str LY.out bM 3 Hl3.out
        obtain ⟨⟨d0, d1, d2, d3, d4, d5, d6, d7, d8, d9, d10⟩, e0, e1, e2, e3, e4, e5, e6, e7, e8, e9, e10⟩ := cd_open cM
        obtain ⟨S, hS⟩ : ∃ S, S = M2.setCell ⟨cb, 6, none⟩ (.int .i64 (-1)) := ⟨_, rfl⟩
        have CG := hide (cdAt_sd cM (-1))
        rw [← hS] at CG
        dsimp only at CG
        have kp : ∀ b, ¬ cb = b → b < Y.heap.size → S.heap[b]? = Y.heap[b]? := fun b hb hl => by rw [hS]; exact (Below.heap_setCell _ _ _ b (fun e => hb e.symm)).trans (bM.block b hl)
        have RG : Hid (CdAt S w.heap.size noCd) := (kp _ (by have := SX.out; omega) (Array.getElem?_eq_some_iff.1 RY.out).1).trans RY.out
        have LG : Hid (S.heap[w.heap.size + 1]? = some (.cells (ws.map sV).toArray 9 (0, 0))) := (kp _ (by have := SX.out; omega) (Array.getElem?_eq_some_iff.1 LY.out).1).trans LY.out
        have BG : Hid (Below w.heap.size w S) := by show Below _ _ _; rw [hS]; exact (onward BY.out bM).setCell (by have := SX.out; dsimp only; omega) _
        have HSS := hide hS
        clear hM0 gM0 hM1 gM1 hM2 gM2 bM cM kp hS mbn cY CY RY LY BY
        go_wp2_with (rw [← HSS.out])
        have hC : ∀ q : InC (fun x => Below S.heap.size S x), Below S.heap.size S q.w := fun q => q.h
        generalize hCC : (fun x => Below S.heap.size S x) = C at hC
        have CS : Hid (∀ x y, C x → Below x.heap.size x y → C y) := by rw [← hCC]; exact fun x y hx hy => onward hx hy
        have C0 : Hid (C { S with drawn := S.drawn + 1 }) := by rw [← hCC]; exact ⟨rfl, rfl, rfl, Nat.le_refl _, fun _ _ => rfl⟩
        have CB : Hid (∀ x, C x → Below S.heap.size S x) := fun x hx => hC ⟨x, hx⟩
        have k0 : ∀ q : InC C, q.w.cell? ⟨w.heap.size + 1, 0, none⟩ = some (sV l0) := fun q => row_str LG.out (hC q) 0 HL0.out
        have k1 : ∀ q : InC C, q.w.cell? ⟨w.heap.size + 1, 1, none⟩ = some (sV l1) := fun q => row_str LG.out (hC q) 1 Hl1.out
        have k2 : ∀ q : InC C, q.w.cell? ⟨w.heap.size + 1, 2, none⟩ = some (sV l2) := fun q => row_str LG.out (hC q) 2 Hl2.out
        have k4 : ∀ q : InC C, q.w.cell? ⟨w.heap.size + 1, 4, none⟩ = some (sV l4) := fun q => row_str LG.out (hC q) 4 Hl4.out
        have k5 : ∀ q : InC C, q.w.cell? ⟨w.heap.size + 1, 5, none⟩ = some (sV l5) := fun q => row_str LG.out (hC q) 5 Hl5.out
        clear hC hCC d0 d1 d2 d3 d4 d5 d6 d7 d8 d9 d10 e0 e1 e2 e3 e4 e5 e6 e7 e8 e9 e10 mk i1 i2 lk q3 HSS
        refine wp_region_mix [(0, true), (1, true), (2, true), (3, true), (4, true), (5, true), (6, true), (7, true), (8, true), (9, true), (10, true), (11, true), (12, true), (13, true), (14, true), (15, false), (16, true)] C mixed (by kernel_rfl) C0.out ?_
        repeat (refine mix_still (by rfl) ?_; go_big_quiet_step (exact rfl); refine wpQuiet_nil ?_)
        refine mix_main (by rfl) ?_
        rintro ⟨x1, hx1⟩
        dsimp only
        go_wp2
        refine ⟨From C (x1.alloc (.cells (([l0, l1, l2, l4, l5] : List Bs).map sV).toArray 9)), ⟨CS.out x1 _ hx1 (below_alloc x1 _), Below.refl _ _⟩, fun x hx => hx.1, ?_⟩
        have WB : Hid (∀ x, From C (x1.alloc (.cells (([l0, l1, l2, l4, l5] : List Bs).map sV).toArray 9)) x → C x ∧ x.heap[x1.heap.size]? = some (.cells (([l0, l1, l2, l4, l5] : List Bs).map sV).toArray 9 (0, 0))) := fun x hx => ⟨hx.1, (hx.2.block _ (by simp)).trans (heap_alloc_new x1 _)⟩
        have WN : Hid (cb < x1.heap.size) := Nat.lt_of_lt_of_le (Array.getElem?_eq_some_iff.1 CG.out).1 (CB.out x1 hx1).size
        generalize From C (x1.alloc (.cells (([l0, l1, l2, l4, l5] : List Bs).map sV).toArray 9)) = C1 at WB ⊢
        generalize x1.heap.size = sb at WB WN ⊢
        clear hx1 k0 k1 k2 k4 k5
        clear x1
        repeat (refine mix_still (by rfl) ?_; go_big_quiet_step (exact rfl); refine wpQuiet_nil ?_)
        refine mix_end ?_
        rintro ⟨T, hT⟩
        dsimp only
        obtain ⟨cT, wT⟩ := WB.out T hT
        have bT := CB.out T cT
        obtain ⟨Q2, hQ2⟩ : ∃ Q2, Q2 = T.alloc (.cells #[.pointer (some ⟨cb, 1, none⟩), .pointer (some ⟨cb, 2, none⟩), .pointer (some ⟨cb, 8, none⟩), .pointer (some ⟨cb, 7, none⟩)] 132) := ⟨_, rfl⟩
        have bQ2 : Below T.heap.size T Q2 := by rw [hQ2]; exact below_alloc T _
        have bSQ := onward bT bQ2
        have CG2 := hide (cdAt_below CG.out bSQ)
        have SI : Hid (cb < T.heap.size) := Nat.lt_of_lt_of_le (Array.getElem?_eq_some_iff.1 CG.out).1 bT.size
        have RG2 := hide (cdAt_below RG.out bSQ)
        have LG2 : Hid (Q2.heap[sb]? = some (.cells (([l0, l1, l2, l4, l5] : List Bs).map sV).toArray 9 (0, 0))) := (bQ2.block _ (Array.getElem?_eq_some_iff.1 wT).1).trans wT
        have IG : Hid (Q2.heap[T.heap.size]? = some (.cells #[.pointer (some ⟨cb, 1, none⟩), .pointer (some ⟨cb, 2, none⟩), .pointer (some ⟨cb, 8, none⟩), .pointer (some ⟨cb, 7, none⟩)] 132 (0, 0))) := by show Q2.heap[T.heap.size]? = _; rw [hQ2]; exact heap_alloc_new T _
        have BG2 := hide (onward BG.out bSQ)
        have HQ2 := hide hQ2
        clear hQ2 bQ2 CG RG LG BG bSQ bT cT wT hT WB CB CS C0
        clear C C1
        have CG := CG2
        have RG := RG2
        have LG := LG2
        have BG := BG2
        clear CG2 RG2 LG2 BG2
        go_wp2_with (rw [← HQ2.out])
        generalize T.heap.size = ib at *
        clear HQ2
        refine wp_loop_rounds 5 ?_
        have p0 : Q2.cell? ⟨ib, 0, none⟩ = some (.pointer (some ⟨cb, 1, none⟩)) := by simp [World.cell?, IG.out]
        have q0 : Q2.cell? ⟨sb, 0 + 1, none⟩ = some (sV l1) := row_str LG.out (Below.refl _ Q2) (0 + 1) rfl
        have NM := hide (refNum_any l1 hll1 Q2 (HE.out.env.below BG.out))
        obtain ⟨bo, hbo⟩ : ∃ bo, okN l1 = bo := ⟨_, rfl⟩
        rw [hbo] at NM
        have HOl1 := hide hbo
        clear hbo
        rw [rounds_succ]
        go_wp2_with fail
        refine NM.out.mono ?_
        rintro e Y0 ⟨⟨n0, rfl, hn0⟩, bY⟩
        clear NM p0 q0
        cases bo
        · have HR0 := pair_eq (place_not (fun h => by have := h.2.2.2.1; rw [getD_of Hl1.out, HOl1.out] at this; cases this)) HR.out
          have BY := hide (onward BG.out bY)
          have RY := hide (cdAt_below RG.out bY)
          clear CG RG LG IG BG bY hn0 HR
          obtain ⟨rfl, rfl⟩ := HR0
          have BC := hide (refBad_any Y0)
          go_wp2_with fail
          refine BC.out.mono ?_
          rintro e Z0 ⟨rfl, bZ⟩
          have RZ := cdAt_below RY.out bZ
          have BZ := hide (onward BY.out bZ)
          have RZH := hide RZ
          clear BC bZ
          obtain ⟨⟨g0, g1, g2, g3, g4, g5, g6, g7, g8, g9, g10⟩, h0, h1, h2, h3, h4, h5, h6, h7, h8, h9, h10⟩ := cd_open RZ
          clear RZ
          go_wp2
          obtain ⟨ZZ, hZ⟩ : ∃ Z, Z = putCd Z0 w.heap.size noCd := ⟨_, rfl⟩
          have ZA : CdAt ZZ w.heap.size noCd := by rw [hZ]; exact putCd_at RZH.out _
          have ZB : Below w.heap.size w ZZ := by rw [hZ]; exact putCd_below BZ.out (Nat.le_refl _) _
          change bodyPost _ _ _ _ _ (putCd Z0 w.heap.size noCd)
          rw [← hZ]
          obtain ⟨⟨z0, z1, z2, z3, z4, z5, z6, z7, z8, z9, z10⟩, -⟩ := cd_open ZA
          refine bodyPost_ret (v := .tuple #[cdV noCd, .int .i64 1]) (by simp [results, Tryz.results54, go_sem, z0, z1, z2, z3, z4, z5, z6, z7, z8, z9, z10]) rfl ⟨rfl, ZB⟩
        obtain rfl := hn0 (by first | rfl | trivial)
        have cY := cdAt_below CG.out bY
        obtain ⟨⟨d0, d1, d2, d3, d4, d5, d6, d7, d8, d9, d10⟩, e0, e1, e2, e3, e4, e5, e6, e7, e8, e9, e10⟩ := cd_open cY
        obtain ⟨G0, hG⟩ : ∃ G', G' = Y0.setCell ⟨cb, 1, none⟩ (.int .i64 (numB l1)) := ⟨_, rfl⟩
        have CG2 := hide (cdAt_ac cY (numB l1))
        rw [← hG] at CG2
        have kp : ∀ b, ¬ cb = b → G0.heap[b]? = Y0.heap[b]? := fun b hb => by rw [hG]; exact Below.heap_setCell _ _ _ b (fun e => hb e.symm)
        have RG2 : Hid (CdAt G0 w.heap.size noCd) := (kp _ (by have := SX.out; omega)).trans (cdAt_below RG.out bY)
        have LG2 := hide ((kp sb (by have := WN.out; omega)).trans ((bY.block _ (Array.getElem?_eq_some_iff.1 LG.out).1).trans LG.out))
        have IG2 := hide ((kp ib (by have := SI.out; omega)).trans ((bY.block _ (Array.getElem?_eq_some_iff.1 IG.out).1).trans IG.out))
        have BG2 : Hid (Below w.heap.size w G0) := by show Below _ _ _; rw [hG]; exact (onward BG.out bY).setCell (by have := SX.out; dsimp only; omega) _
        have HG := hide hG
        clear hG kp cY bY CG RG LG IG BG hn0
        have CG := CG2
        have RG := RG2
        have LG := LG2
        have IG := IG2
        have BG := BG2
        clear CG2 RG2 LG2 IG2 BG2
        dsimp only at CG
        go_wp2_with (rw [← HG.out])
        clear HG d0 d1 d2 d3 d4 d5 d6 d7 d8 d9 d10 e0 e1 e2 e3 e4 e5 e6 e7 e8 e9 e10
        have p1 : G0.cell? ⟨ib, 1, none⟩ = some (.pointer (some ⟨cb, 2, none⟩)) := by simp [World.cell?, IG.out]
        have q1 : G0.cell? ⟨sb, 1 + 1, none⟩ = some (sV l2) := row_str LG.out (Below.refl _ G0) (1 + 1) rfl
        have NM := hide (refNum_any l2 hll2 G0 (HE.out.env.below BG.out))
        obtain ⟨bo, hbo⟩ : ∃ bo, okN l2 = bo := ⟨_, rfl⟩
        rw [hbo] at NM
        have HOl2 := hide hbo
        clear hbo
        rw [rounds_succ]
        go_wp2_with fail
        refine NM.out.mono ?_
        rintro e Y1 ⟨⟨n1, rfl, hn1⟩, bY⟩
        clear NM p1 q1
        cases bo
        · have HR0 := pair_eq (place_not (fun h => by have := h.2.2.2.2.1; rw [getD_of Hl2.out, HOl2.out] at this; cases this)) HR.out
          have BY := hide (onward BG.out bY)
          have RY := hide (cdAt_below RG.out bY)
          clear CG RG LG IG BG bY hn1 HR
          obtain ⟨rfl, rfl⟩ := HR0
          have BC := hide (refBad_any Y1)
          go_wp2_with fail
          refine BC.out.mono ?_
          rintro e Z0 ⟨rfl, bZ⟩
          have RZ := cdAt_below RY.out bZ
          have BZ := hide (onward BY.out bZ)
          have RZH := hide RZ
          clear BC bZ
          obtain ⟨⟨g0, g1, g2, g3, g4, g5, g6, g7, g8, g9, g10⟩, h0, h1, h2, h3, h4, h5, h6, h7, h8, h9, h10⟩ := cd_open RZ
          clear RZ
          go_wp2
          obtain ⟨ZZ, hZ⟩ : ∃ Z, Z = putCd Z0 w.heap.size noCd := ⟨_, rfl⟩
          have ZA : CdAt ZZ w.heap.size noCd := by rw [hZ]; exact putCd_at RZH.out _
          have ZB : Below w.heap.size w ZZ := by rw [hZ]; exact putCd_below BZ.out (Nat.le_refl _) _
          change bodyPost _ _ _ _ _ (putCd Z0 w.heap.size noCd)
          rw [← hZ]
          obtain ⟨⟨z0, z1, z2, z3, z4, z5, z6, z7, z8, z9, z10⟩, -⟩ := cd_open ZA
          refine bodyPost_ret (v := .tuple #[cdV noCd, .int .i64 1]) (by simp [results, Tryz.results54, go_sem, z0, z1, z2, z3, z4, z5, z6, z7, z8, z9, z10]) rfl ⟨rfl, ZB⟩
        obtain rfl := hn1 (by first | rfl | trivial)
        have cY := cdAt_below CG.out bY
        obtain ⟨⟨d0, d1, d2, d3, d4, d5, d6, d7, d8, d9, d10⟩, e0, e1, e2, e3, e4, e5, e6, e7, e8, e9, e10⟩ := cd_open cY
        obtain ⟨G1, hG⟩ : ∃ G', G' = Y1.setCell ⟨cb, 2, none⟩ (.int .i64 (numB l2)) := ⟨_, rfl⟩
        have CG2 := hide (cdAt_mkt cY (numB l2))
        rw [← hG] at CG2
        have kp : ∀ b, ¬ cb = b → G1.heap[b]? = Y1.heap[b]? := fun b hb => by rw [hG]; exact Below.heap_setCell _ _ _ b (fun e => hb e.symm)
        have RG2 : Hid (CdAt G1 w.heap.size noCd) := (kp _ (by have := SX.out; omega)).trans (cdAt_below RG.out bY)
        have LG2 := hide ((kp sb (by have := WN.out; omega)).trans ((bY.block _ (Array.getElem?_eq_some_iff.1 LG.out).1).trans LG.out))
        have IG2 := hide ((kp ib (by have := SI.out; omega)).trans ((bY.block _ (Array.getElem?_eq_some_iff.1 IG.out).1).trans IG.out))
        have BG2 : Hid (Below w.heap.size w G1) := by show Below _ _ _; rw [hG]; exact (onward BG.out bY).setCell (by have := SX.out; dsimp only; omega) _
        have HG := hide hG
        clear hG kp cY bY CG RG LG IG BG hn1
        have CG := CG2
        have RG := RG2
        have LG := LG2
        have IG := IG2
        have BG := BG2
        clear CG2 RG2 LG2 IG2 BG2
        dsimp only at CG
        go_wp2_with (rw [← HG.out])
        clear HG d0 d1 d2 d3 d4 d5 d6 d7 d8 d9 d10 e0 e1 e2 e3 e4 e5 e6 e7 e8 e9 e10
        have p2 : G1.cell? ⟨ib, 2, none⟩ = some (.pointer (some ⟨cb, 8, none⟩)) := by simp [World.cell?, IG.out]
        have q2 : G1.cell? ⟨sb, 2 + 1, none⟩ = some (sV l4) := row_str LG.out (Below.refl _ G1) (2 + 1) rfl
        have NM := hide (refNum_any l4 hll4 G1 (HE.out.env.below BG.out))
        obtain ⟨bo, hbo⟩ : ∃ bo, okN l4 = bo := ⟨_, rfl⟩
        rw [hbo] at NM
        have HOl4 := hide hbo
        clear hbo
        rw [rounds_succ]
        go_wp2_with fail
        refine NM.out.mono ?_
        rintro e Y2 ⟨⟨n2, rfl, hn2⟩, bY⟩
        clear NM p2 q2
        cases bo
        · have HR0 := pair_eq (place_not (fun h => by have := h.2.2.2.2.2.1; rw [getD_of Hl4.out, HOl4.out] at this; cases this)) HR.out
          have BY := hide (onward BG.out bY)
          have RY := hide (cdAt_below RG.out bY)
          clear CG RG LG IG BG bY hn2 HR
          obtain ⟨rfl, rfl⟩ := HR0
          have BC := hide (refBad_any Y2)
          go_wp2_with fail
          refine BC.out.mono ?_
          rintro e Z0 ⟨rfl, bZ⟩
          have RZ := cdAt_below RY.out bZ
          have BZ := hide (onward BY.out bZ)
          have RZH := hide RZ
          clear BC bZ
          obtain ⟨⟨g0, g1, g2, g3, g4, g5, g6, g7, g8, g9, g10⟩, h0, h1, h2, h3, h4, h5, h6, h7, h8, h9, h10⟩ := cd_open RZ
          clear RZ
          go_wp2
          obtain ⟨ZZ, hZ⟩ : ∃ Z, Z = putCd Z0 w.heap.size noCd := ⟨_, rfl⟩
          have ZA : CdAt ZZ w.heap.size noCd := by rw [hZ]; exact putCd_at RZH.out _
          have ZB : Below w.heap.size w ZZ := by rw [hZ]; exact putCd_below BZ.out (Nat.le_refl _) _
          change bodyPost _ _ _ _ _ (putCd Z0 w.heap.size noCd)
          rw [← hZ]
          obtain ⟨⟨z0, z1, z2, z3, z4, z5, z6, z7, z8, z9, z10⟩, -⟩ := cd_open ZA
          refine bodyPost_ret (v := .tuple #[cdV noCd, .int .i64 1]) (by simp [results, Tryz.results54, go_sem, z0, z1, z2, z3, z4, z5, z6, z7, z8, z9, z10]) rfl ⟨rfl, ZB⟩
        obtain rfl := hn2 (by first | rfl | trivial)
        have cY := cdAt_below CG.out bY
        obtain ⟨⟨d0, d1, d2, d3, d4, d5, d6, d7, d8, d9, d10⟩, e0, e1, e2, e3, e4, e5, e6, e7, e8, e9, e10⟩ := cd_open cY
        obtain ⟨G2, hG⟩ : ∃ G', G' = Y2.setCell ⟨cb, 8, none⟩ (.int .i64 (numB l4)) := ⟨_, rfl⟩
        have CG2 := hide (cdAt_qt cY (numB l4))
        rw [← hG] at CG2
        have kp : ∀ b, ¬ cb = b → G2.heap[b]? = Y2.heap[b]? := fun b hb => by rw [hG]; exact Below.heap_setCell _ _ _ b (fun e => hb e.symm)
        have RG2 : Hid (CdAt G2 w.heap.size noCd) := (kp _ (by have := SX.out; omega)).trans (cdAt_below RG.out bY)
        have LG2 := hide ((kp sb (by have := WN.out; omega)).trans ((bY.block _ (Array.getElem?_eq_some_iff.1 LG.out).1).trans LG.out))
        have IG2 := hide ((kp ib (by have := SI.out; omega)).trans ((bY.block _ (Array.getElem?_eq_some_iff.1 IG.out).1).trans IG.out))
        have BG2 : Hid (Below w.heap.size w G2) := by show Below _ _ _; rw [hG]; exact (onward BG.out bY).setCell (by have := SX.out; dsimp only; omega) _
        have HG := hide hG
        clear hG kp cY bY CG RG LG IG BG hn2
        have CG := CG2
        have RG := RG2
        have LG := LG2
        have IG := IG2
        have BG := BG2
        clear CG2 RG2 LG2 IG2 BG2
        dsimp only at CG
        go_wp2_with (rw [← HG.out])
        clear HG d0 d1 d2 d3 d4 d5 d6 d7 d8 d9 d10 e0 e1 e2 e3 e4 e5 e6 e7 e8 e9 e10
        have p3 : G2.cell? ⟨ib, 3, none⟩ = some (.pointer (some ⟨cb, 7, none⟩)) := by simp [World.cell?, IG.out]
        have q3 : G2.cell? ⟨sb, 3 + 1, none⟩ = some (sV l5) := row_str LG.out (Below.refl _ G2) (3 + 1) rfl
        have NM := hide (refNum_any l5 hll5 G2 (HE.out.env.below BG.out))
        obtain ⟨bo, hbo⟩ : ∃ bo, okN l5 = bo := ⟨_, rfl⟩
        rw [hbo] at NM
        have HOl5 := hide hbo
        clear hbo
        rw [rounds_succ]
        go_wp2_with fail
        refine NM.out.mono ?_
        rintro e Y3 ⟨⟨n3, rfl, hn3⟩, bY⟩
        clear NM p3 q3
        cases bo
        · have HR0 := pair_eq (place_not (fun h => by have := h.2.2.2.2.2.2; rw [getD_of Hl5.out, HOl5.out] at this; cases this)) HR.out
          have BY := hide (onward BG.out bY)
          have RY := hide (cdAt_below RG.out bY)
          clear CG RG LG IG BG bY hn3 HR
          obtain ⟨rfl, rfl⟩ := HR0
          have BC := hide (refBad_any Y3)
          go_wp2_with fail
          refine BC.out.mono ?_
          rintro e Z0 ⟨rfl, bZ⟩
          have RZ := cdAt_below RY.out bZ
          have BZ := hide (onward BY.out bZ)
          have RZH := hide RZ
          clear BC bZ
          obtain ⟨⟨g0, g1, g2, g3, g4, g5, g6, g7, g8, g9, g10⟩, h0, h1, h2, h3, h4, h5, h6, h7, h8, h9, h10⟩ := cd_open RZ
          clear RZ
          go_wp2
          obtain ⟨ZZ, hZ⟩ : ∃ Z, Z = putCd Z0 w.heap.size noCd := ⟨_, rfl⟩
          have ZA : CdAt ZZ w.heap.size noCd := by rw [hZ]; exact putCd_at RZH.out _
          have ZB : Below w.heap.size w ZZ := by rw [hZ]; exact putCd_below BZ.out (Nat.le_refl _) _
          change bodyPost _ _ _ _ _ (putCd Z0 w.heap.size noCd)
          rw [← hZ]
          obtain ⟨⟨z0, z1, z2, z3, z4, z5, z6, z7, z8, z9, z10⟩, -⟩ := cd_open ZA
          refine bodyPost_ret (v := .tuple #[cdV noCd, .int .i64 1]) (by simp [results, Tryz.results54, go_sem, z0, z1, z2, z3, z4, z5, z6, z7, z8, z9, z10]) rfl ⟨rfl, ZB⟩
        obtain rfl := hn3 (by first | rfl | trivial)
        have cY := cdAt_below CG.out bY
        obtain ⟨⟨d0, d1, d2, d3, d4, d5, d6, d7, d8, d9, d10⟩, e0, e1, e2, e3, e4, e5, e6, e7, e8, e9, e10⟩ := cd_open cY
        obtain ⟨G3, hG⟩ : ∃ G', G' = Y3.setCell ⟨cb, 7, none⟩ (.int .i64 (numB l5)) := ⟨_, rfl⟩
        have CG2 := hide (cdAt_pr cY (numB l5))
        rw [← hG] at CG2
        have kp : ∀ b, ¬ cb = b → G3.heap[b]? = Y3.heap[b]? := fun b hb => by rw [hG]; exact Below.heap_setCell _ _ _ b (fun e => hb e.symm)
        have RG2 : Hid (CdAt G3 w.heap.size noCd) := (kp _ (by have := SX.out; omega)).trans (cdAt_below RG.out bY)
        have LG2 := hide ((kp sb (by have := WN.out; omega)).trans ((bY.block _ (Array.getElem?_eq_some_iff.1 LG.out).1).trans LG.out))
        have IG2 := hide ((kp ib (by have := SI.out; omega)).trans ((bY.block _ (Array.getElem?_eq_some_iff.1 IG.out).1).trans IG.out))
        have BG2 : Hid (Below w.heap.size w G3) := by show Below _ _ _; rw [hG]; exact (onward BG.out bY).setCell (by have := SX.out; dsimp only; omega) _
        have HG := hide hG
        clear hG kp cY bY CG RG LG IG BG hn3
        have CG := CG2
        have RG := RG2
        have LG := LG2
        have IG := IG2
        have BG := BG2
        clear CG2 RG2 LG2 IG2 BG2
        dsimp only at CG
        go_wp2_with (rw [← HG.out])
        clear HG d0 d1 d2 d3 d4 d5 d6 d7 d8 d9 d10 e0 e1 e2 e3 e4 e5 e6 e7 e8 e9 e10
        have HR0 : noCd = noCd ∧ (rc, re) = ((⟨kd, numB l1, numB l2, 0, 0, 0, (-1), numB l5, numB l4, hw, false⟩ : Cd), (0 : Int)) := ⟨rfl, HR.out.symm.trans (place_is HKD3.out (.inr ⟨rfl, rfl⟩) Hl1.out Hl2.out Hl3.out Hl4.out Hl5.out Hl6.out HHW.out (by omega) rfl HOl1.out HOl2.out HOl4.out HOl5.out HRED.out)⟩
        obtain ⟨rfl, rfl⟩ := Prod.mk.inj HR0.2
        rw [rounds_succ]
        have BZ := BG
        have RZH := RG
        obtain ⟨⟨c0, c1, c2, c3, c4, c5, c6, c7, c8, c9, c10⟩, -⟩ := cd_open CG.out
        obtain ⟨⟨g0, g1, g2, g3, g4, g5, g6, g7, g8, g9, g10⟩, h0, h1, h2, h3, h4, h5, h6, h7, h8, h9, h10⟩ := cd_open RG.out
        go_wp2
        obtain ⟨ZZ, hZ⟩ : ∃ Z, Z = putCd G3 w.heap.size ⟨kd, numB l1, numB l2, 0, 0, 0, (-1), numB l5, numB l4, hw, false⟩ := ⟨_, rfl⟩
        have ZA : CdAt ZZ w.heap.size ⟨kd, numB l1, numB l2, 0, 0, 0, (-1), numB l5, numB l4, hw, false⟩ := by rw [hZ]; exact putCd_at RZH.out _
        have ZB : Below w.heap.size w ZZ := by rw [hZ]; exact putCd_below BZ.out (Nat.le_refl _) _
        change bodyPost _ _ _ _ _ (putCd G3 w.heap.size ⟨kd, numB l1, numB l2, 0, 0, 0, (-1), numB l5, numB l4, hw, false⟩)
        rw [← hZ]
        obtain ⟨⟨z0, z1, z2, z3, z4, z5, z6, z7, z8, z9, z10⟩, -⟩ := cd_open ZA
        refine bodyPost_ret (v := .tuple #[cdV ⟨kd, numB l1, numB l2, 0, 0, 0, (-1), numB l5, numB l4, hw, false⟩, .int .i64 0]) (by simp [results, Tryz.results54, go_sem, z0, z1, z2, z3, z4, z5, z6, z7, z8, z9, z10]) rfl ⟨rfl, ZB⟩
      · have HR0 := pair_eq (place_not (fun h => by have := h.2.2.1; rw [getD_of Hl3.out] at this; exact this.elim hb hs)) HR.out
        have hb' : (l3 == wBuy) = false := beq_false_of_ne hb
        have hs' : (l3 == wSell) = false := beq_false_of_ne hs
        clear HR CY LY
        obtain ⟨rfl, rfl⟩ := HR0
        have BC := hide (refBad_any Y)
        go_wp2_with fail
        refine BC.out.mono ?_
        rintro e Z0 ⟨rfl, bZ⟩
        have RZ := cdAt_below RY.out bZ
        have BZ := hide (onward BY.out bZ)
        have RZH := hide RZ
        clear BC bZ
        obtain ⟨⟨g0, g1, g2, g3, g4, g5, g6, g7, g8, g9, g10⟩, h0, h1, h2, h3, h4, h5, h6, h7, h8, h9, h10⟩ := cd_open RZ
        clear RZ
        go_wp2
        obtain ⟨ZZ, hZ⟩ : ∃ Z, Z = putCd Z0 w.heap.size noCd := ⟨_, rfl⟩
        have ZA : CdAt ZZ w.heap.size noCd := by rw [hZ]; exact putCd_at RZH.out _
        have ZB : Below w.heap.size w ZZ := by rw [hZ]; exact putCd_below BZ.out (Nat.le_refl _) _
        change bodyPost _ _ _ _ _ (putCd Z0 w.heap.size noCd)
        rw [← hZ]
        obtain ⟨⟨z0, z1, z2, z3, z4, z5, z6, z7, z8, z9, z10⟩, -⟩ := cd_open ZA
        refine bodyPost_ret (v := .tuple #[cdV noCd, .int .i64 1]) (by simp [results, Tryz.results54, go_sem, z0, z1, z2, z3, z4, z5, z6, z7, z8, z9, z10]) rfl ⟨rfl, ZB⟩
end Go.Proofs.YthdjfhnhjiageaaGreatDoor.Tx
