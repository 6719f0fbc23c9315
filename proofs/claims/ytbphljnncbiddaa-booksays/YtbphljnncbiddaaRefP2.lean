/-
  The reference's Rested, by a contract: the walk.
-/
import Derived.Test.YtbphljnncbiddaaRefP
namespace Go.Proofs.Ytbphljnncbiddaa.Rk
open Go.RowKit Go.Sort Go.Maps Go.Proofs.Ytbphljnncbiddaa.Mix Go.Proofs.Ytbphljnncbiddaa.Bk

abbrev oO (a ac sd pr q : Int) : Obj := .cells #[.int .i64 a, .int .i64 ac, .int .i64 sd, .int .i64 pr, .int .i64 q] 44
theorem ov_new (x : World) (a ac sd pr q : Int) : OV (x.alloc (oO a ac sd pr q)) (some ⟨x.heap.size, 0, none⟩) 1 [(a, ac, sd, pr, q)] :=
  ⟨.inr ⟨x.heap.size, 0, rfl, fun j hj i v hv => by
    have hj0 : j = 0 := by simp at hj; exact hj
    subst hj0
    rw [Nat.zero_add]
    exact new_cell x _ _ i v (by simpa [Bk.enc] using hv)⟩, (fun e => by cases e), Nat.le_refl _⟩

set_option maxHeartbeats 2000000 in
set_option maxRecDepth 100000 in
theorem rested_any (p p' : Option Addr) (c c' : Nat) (bids asks : List Odr) (a ac sd pr q : Int) (w : World) (h : OV w p c bids) (h' : OV w p' c' asks) (hR : Right bids asks) :
    Calls Try.prog 43 #[.agg #[.slice p bids.length c, .slice p' asks.length c'], .agg #[.int .i64 a, .int .i64 ac, .int .i64 sd, .int .i64 pr, .int .i64 q]] w fun e w' => ∃ v, e = .returned (.tuple #[v, .int .i64 (mayRest bids asks (a, ac, sd, pr, q))]) ∧ BookOut w (restedB bids asks (a, ac, sd, pr, q)) (restedA bids asks (a, ac, sd, pr, q)) v w' ∧ Below w.heap.size w w' := by
  have mixed : Try.prog.follows .mixedOrders = true := by kernel_rfl
  obtain ⟨i0, hi, hz0, hz1, hz2⟩ := info_parts Try.infoO
  have hl : bids.length + asks.length ≤ 40 := hR.few
  have hbk : bookErr bids asks = 0 := bookErr_zero.2 hR
  have hid0 : a = 0 → findIn a bids asks = none := fun ha => by
    cases hf : findIn a bids asks with
    | none => rfl
    | some y =>
      have := find_mem hf
      rcases List.mem_append.1 this.1 with hy | hy
      · have := okOrder_id (hR.b.ok y hy); omega
      · have := okOrder_id (hR.a.ok y hy); omega
  have ID0 := hide hid0
  have IDS := hide (fun y (hf : findIn a bids asks = some y) => (find_mem hf).2)
  have RBAD : Hid (∀ x, mayRest bids asks (a, ac, sd, pr, q) = x → ¬ x = 0 → ∀ w', Below w.heap.size w w' → ∃ v, Ending.returned (.tuple #[.agg #[.slice none 0 0, .slice none 0 0], .int .i64 x]) = .returned (.tuple #[v, .int .i64 (mayRest bids asks (a, ac, sd, pr, q))]) ∧ BookOut w (restedB bids asks (a, ac, sd, pr, q)) (restedA bids asks (a, ac, sd, pr, q)) v w' ∧ Below w.heap.size w w') := fun x hx h0 w' hb => by
    refine ⟨_, by rw [hx], ?_, hb⟩
    unfold restedB restedA
    rw [hx, if_neg h0, if_neg h0]
    exact out_none w w'
  have ROK : Hid (mayRest bids asks (a, ac, sd, pr, q) = 0 → ∀ v w', BookOut w (restB bids (a, ac, sd, pr, q)) (restA asks (a, ac, sd, pr, q)) v w' → Below w.heap.size w w' → ∃ v', Ending.returned (.tuple #[v, .int .i64 0]) = .returned (.tuple #[v', .int .i64 (mayRest bids asks (a, ac, sd, pr, q))]) ∧ BookOut w (restedB bids asks (a, ac, sd, pr, q)) (restedA bids asks (a, ac, sd, pr, q)) v' w' ∧ Below w.heap.size w w') := fun hx v w' ho hb => by
    refine ⟨v, by rw [hx], ?_, hb⟩
    unfold restedB restedA
    rw [hx, if_pos rfl, if_pos rfl]
    exact ho
  have M2 := hide (fun h1 => may_twice (o := (a, ac, sd, pr, q)) hbk h1)
  have M3 := hide (fun h1 h2 => may_order (o := (a, ac, sd, pr, q)) hbk h1 h2)
  have M4 := hide (fun h1 h2 h3 => may_full (o := (a, ac, sd, pr, q)) hbk h1 h2 h3)
  have M5 := hide (fun h1 h2 h3 t h4 => may_post (o := (a, ac, sd, pr, q)) hbk h1 h2 h3 t h4)
  have CA := hide (fun (ho : okOrder (a, ac, sd, pr, q) = 0) => crosses_all hR ho)
  have FD := hide (fun W (hW : Below w.heap.size w W) => found_any p p' c c' bids asks a W (h.below hW) (h'.below hW) hl)
  have OR := hide (fun W (hW : Below w.heap.size w W) => orders_any p p' c c' bids asks W (h.below hW) (h'.below hW) hl)
  have BO := hide (fun (hm : mayRest bids asks (a, ac, sd, pr, q) = 0) (ho : okOrder (a, ac, sd, pr, q) = 0) W (r : Option Addr) (n cc : Nat) (hn : (bids ++ asks ++ [(a, ac, sd, pr, q)]).length = n) (hn2 : n ≤ 1000) (hro : ORow W r (bids ++ asks ++ [(a, ac, sd, pr, q)])) =>
    bookOf_any r n cc (bids ++ asks ++ [(a, ac, sd, pr, q)]) (restB bids (a, ac, sd, pr, q)) (restA asks (a, ac, sd, pr, q)) W hn hn2 hro (rest_right hm).b (nod_parts (rest_right hm)).1 (rest_permB hR ho) (by have := (rest_right hm).few; omega) (rest_right hm).a (nod_parts (rest_right hm)).2.1 (rest_permA hR ho) (by have := (rest_right hm).few; omega))
  have OKX : Hid (∀ x, x ∈ bids ++ asks → 1 ≤ opr x ∧ opr x ≤ 10000) := fun x hx => by
    rcases List.mem_append.1 hx with hx | hx
    · have := okOrder_pq (hR.b.ok x hx); omega
    · have := okOrder_pq (hR.a.ok x hx); omega
  have AF := any_find a bids asks
  rw [AF] at M2 M3 M4 M5
  obtain ⟨n, hn⟩ : ∃ n, (bids ++ asks).length = n := ⟨_, rfl⟩
  have hn40 : n ≤ 40 := by rw [← hn, List.length_append]; exact hl
  rw [← List.length_append, hn] at M4 M5
  rw [hn] at OR
  clear h h' hR hl hbk hid0 AF
  generalize restB bids (a, ac, sd, pr, q) = TB at ROK BO
  generalize restA asks (a, ac, sd, pr, q) = TA at ROK BO
  generalize restedB bids asks (a, ac, sd, pr, q) = RB at RBAD ROK ⊢
  generalize restedA bids asks (a, ac, sd, pr, q) = RA at RBAD ROK ⊢
  generalize findIn a bids asks = ff at ID0 IDS M2 M3 M4 M5 FD
  generalize hmr : mayRest bids asks (a, ac, sd, pr, q) = mr at RBAD ROK BO M2 M3 M4 M5 ⊢
  clear hmr
  generalize crosses (a, ac, sd, pr, q) (if osd (a, ac, sd, pr, q) = -1 then bids else asks) = cr at M5 CA
  generalize bids ++ asks = L at hn OR BO CA OKX
  have HN := hide hn
  clear hn
  generalize bids.length = nb at OR FD ⊢
  generalize asks.length = na at OR FD ⊢
  go_enter Try.func43, Try.ntmps43
  go_wp2_with fail
  obtain ⟨W, hW⟩ : ∃ W, W = ((w.alloc (.cells #[.slice p nb c, .slice p' na c'] 42)).alloc (oO a ac sd pr q)).alloc (.cells #[.slice none 0 0, .slice none 0 0] 42) := ⟨_, rfl⟩
  have BW : Hid (Below w.heap.size w W) := by rw [hW]; exact ((((Below.refl _ w).alloc (Nat.le_refl _) _).alloc (by simp) _).alloc (by simp; omega) _)
  have T : Hid (Two W (w.heap.size + 1 + 1)) := by rw [hW]; exact two_made _ _ _ _ _
  have e0 : W.cell? ⟨w.heap.size, 0, none⟩ = some (.slice p nb c) := by rw [hW]; exact cell_alloc (cell_alloc (new_cell _ _ _ _ _ rfl) _) _
  have e1 : W.cell? ⟨w.heap.size, 1, none⟩ = some (.slice p' na c') := by rw [hW]; exact cell_alloc (cell_alloc (new_cell _ _ _ _ _ rfl) _) _
  have f0 : W.cell? ⟨w.heap.size + 1, 0, none⟩ = some (.int .i64 a) := by rw [hW]; exact cell_alloc (new_cell2 _ _ _ _ _ _ rfl) _
  have f1 : W.cell? ⟨w.heap.size + 1, 1, none⟩ = some (.int .i64 ac) := by rw [hW]; exact cell_alloc (new_cell2 _ _ _ _ _ _ rfl) _
  have f2 : W.cell? ⟨w.heap.size + 1, 2, none⟩ = some (.int .i64 sd) := by rw [hW]; exact cell_alloc (new_cell2 _ _ _ _ _ _ rfl) _
  have f3 : W.cell? ⟨w.heap.size + 1, 3, none⟩ = some (.int .i64 pr) := by rw [hW]; exact cell_alloc (new_cell2 _ _ _ _ _ _ rfl) _
  have f4 : W.cell? ⟨w.heap.size + 1, 4, none⟩ = some (.int .i64 q) := by rw [hW]; exact cell_alloc (new_cell2 _ _ _ _ _ _ rfl) _
  have SZ : Hid (w.heap.size + 2 < W.heap.size) := by rw [hW]; exact hide (by simp)
  rw [← hW]
  clear hW
  have KEEP : Hid (∀ x, Below W.heap.size W x → x.cell? ⟨w.heap.size, 0, none⟩ = some (.slice p nb c) ∧ x.cell? ⟨w.heap.size, 1, none⟩ = some (.slice p' na c') ∧ x.cell? ⟨w.heap.size + 1, 0, none⟩ = some (.int .i64 a) ∧ x.cell? ⟨w.heap.size + 1, 1, none⟩ = some (.int .i64 ac) ∧ x.cell? ⟨w.heap.size + 1, 2, none⟩ = some (.int .i64 sd) ∧ x.cell? ⟨w.heap.size + 1, 3, none⟩ = some (.int .i64 pr) ∧ x.cell? ⟨w.heap.size + 1, 4, none⟩ = some (.int .i64 q)) := fun x hx =>
    have k := fun ad v (he : W.cell? ad = some v) => (hx.cell (World.block_lt_of_cell? _ _ he)).trans he
    ⟨k _ _ e0, k _ _ e1, k _ _ f0, k _ _ f1, k _ _ f2, k _ _ f3, k _ _ f4⟩
  have hC : ∀ q1 : InC (fun x => Below W.heap.size W x), ∀ x v, W.cell? x = some v → q1.w.cell? x = some v := fun q1 x v hx => (q1.h.cell (World.block_lt_of_cell? _ _ hx)).trans hx
  generalize hCC : (fun x => Below W.heap.size W x) = C at hC
  have g0 := fun q1 => hC q1 _ _ e0
  have g1 := fun q1 => hC q1 _ _ e1
  have l0 := fun q1 => hC q1 _ _ f0
  have CE := hide hCC
  have CS : Hid (Shut C) := by rw [← CE.out]; exact shut_below W
  have CW : Hid (∀ x, C x → Below W.heap.size W x) := fun x hx => by rw [← CE.out] at hx; exact hx
  have C0 : Hid (C { W with drawn := W.drawn + 1 }) := by rw [← CE.out]; exact below_drawn _
  clear hC hCC e0 e1 f0 f1 f2 f3 f4
  refine wp_region_mix [(0, true), (1, true), (2, true), (3, true), (4, true), (5, true), (6, true), (9, true), (10, true), (7, false), (8, false), (11, false), (12, false)] C mixed (by kernel_rfl) C0.out ?_
  by_cases ha : a = 0
  · have hok : ¬ okOrder (a, ac, sd, pr, q) = 0 := fun e => by have := okOrder_id e; dsimp only [oid] at this; omega
    have MB := hide (M3.out (by rw [ID0.out ha]; rfl) hok)
    have hab : (a != 0) = false := by simp [ha]
    clear ha
    repeat (refine mix_still (by rfl) ?_; go_big_quiet_step (exact rfl); refine wpQuiet_nil ?_)
    refine mix_main (by rfl) ?_
    rintro ⟨x1, hx1⟩
    go_wp2
    refine ⟨C, hx1, fun _ h => h, ?_⟩
    clear hx1 x1
    refine mix_main (by rfl) ?_
    rintro ⟨x1, hx1⟩
    go_wp2
    refine ⟨C, hx1, fun _ h => h, ?_⟩
    clear hx1 x1
    refine mix_main (by rfl) ?_
    rintro ⟨x1, hx1⟩
    go_wp2
    refine ⟨C, hx1, fun _ h => h, ?_⟩
    clear hx1 x1
    refine mix_main (by rfl) ?_
    rintro ⟨x1, hx1⟩
    go_wp2
    refine ⟨C, hx1, fun _ h => h, ?_⟩
    clear hx1 x1
    refine mix_end ?_
    rintro ⟨x9, hx9⟩
    dsimp only
    have B9 := hide (CW.out x9 hx9)
    obtain ⟨-, -, f0, f1, f2, f3, f4⟩ := KEEP.out x9 B9.out
    clear hx9
    have TX := hide (two_below T.out B9.out)
    have BX := hide (BW.out.trans (B9.out.mono BW.out.size))
    go_wp2_with fail
    refine (refCheckOrder_grow a ac sd pr q _).mono ?_
    rintro e w2 ⟨rfl, k2, os2, hw2⟩
    have hb2 := grow_below x9 k2 os2
    rw [← hw2] at hb2
    clear hw2 os2 k2
    have T2 := hide (two_below TX.out hb2)
    have B2 := hide (BX.out.trans (hb2.mono BX.out.size))
    have E2 := hide (RBAD.out _ MB.out hok)
    clear hb2
    generalize okOrder (a, ac, sd, pr, q) = eo at hok E2 ⊢
    obtain ⟨u0, u1, t0, t1, t2, t3⟩ := two_facts T2.out
    go_wp2
    obtain ⟨s0, s1⟩ := two_set T2.out (.slice none 0 0) (.slice none 0 0)
    refine bodyPost_ret (v := .tuple #[.agg #[.slice none 0 0, .slice none 0 0], .int .i64 eo]) (by simp [results, Try.results43, go_sem, s0, s1]) rfl (E2.out _ (two_below_set B2.out (by omega) _ _))
  · have hab : (a != 0) = true := by simp [ha]
    have HA := hide ha
    clear ha
    cases ff with
    | some y =>
      have hy := IDS.out y rfl
      have MB := hide (RBAD.out 6 (M2.out rfl) (by decide))
      obtain ⟨ya, yc, yd, yp, yq⟩ := y
      dsimp only [oid] at hy
      subst hy
      clear ID0 IDS M2 M3 M4 M5 RBAD ROK CA OR BO OKX
      repeat (refine mix_still (by rfl) ?_; go_big_quiet_step (exact rfl); refine wpQuiet_nil ?_)
      refine mix_main (by rfl) ?_
      rintro ⟨x1, hx1⟩
      have FX : Hid (Calls Try.prog 44 #[.agg #[.slice p nb c, .slice p' na c'], .int .i64 ya] x1 fun e w' => e = .returned (.agg #[.int .i64 ya, .int .i64 yc, .int .i64 yd, .int .i64 yp, .int .i64 yq]) ∧ Below x1.heap.size x1 w') := FD.out x1 (BW.out.trans ((CW.out x1 hx1).mono BW.out.size))
      go_wp2_with (go_at_call 44; refine FX.out.mono ?_; rintro e w' ⟨rfl, hb'⟩)
      refine ⟨C, CS.out x1 _ hx1 hb', fun _ h => h, ?_⟩
      clear hx1 hb' FX FD x1
      refine mix_main (by rfl) ?_
      rintro ⟨x1, hx1⟩
      go_wp2
      rename_i K hK
      refine hK _ _ ?_
      simp only [List.getElem_toArray, List.getElem_cons_zero]
      clear hK K
      go_wp2
      refine ⟨C, hx1, fun _ h => h, ?_⟩
      clear hx1 x1
      refine mix_main (by rfl) ?_
      rintro ⟨x1, hx1⟩
      go_wp2
      refine ⟨C, hx1, fun _ h => h, ?_⟩
      clear hx1 x1
      refine mix_main (by rfl) ?_
      rintro ⟨x1, hx1⟩
      go_wp2
      refine ⟨C, hx1, fun _ h => h, ?_⟩
      clear hx1 x1
      refine mix_end ?_
      rintro ⟨x9, hx9⟩
      dsimp only
      have B9 := hide (CW.out x9 hx9)
      have TX := hide (two_below T.out B9.out)
      have BX := hide (BW.out.trans (B9.out.mono BW.out.size))
      obtain ⟨u0, u1, t0, t1, t2, t3⟩ := two_facts TX.out
      clear hx9
      go_wp2
      obtain ⟨s0, s1⟩ := two_set TX.out (.slice none 0 0) (.slice none 0 0)
      refine bodyPost_ret (v := .tuple #[.agg #[.slice none 0 0, .slice none 0 0], .int .i64 6]) (by simp [results, Try.results43, go_sem, s0, s1]) rfl (MB.out _ (two_below_set BX.out (by omega) _ _))
    | none =>
      have hna : ¬ (0 : Int) = a := fun e => HA.out e.symm
      clear ID0 IDS M2
      repeat (refine mix_still (by rfl) ?_; go_big_quiet_step (exact rfl); refine wpQuiet_nil ?_)
      refine mix_main (by rfl) ?_
      rintro ⟨x1, hx1⟩
      have FX : Hid (Calls Try.prog 44 #[.agg #[.slice p nb c, .slice p' na c'], .int .i64 a] x1 fun e w' => e = .returned (.agg #[.int .i64 0, .int .i64 0, .int .i64 0, .int .i64 0, .int .i64 0]) ∧ Below x1.heap.size x1 w') := FD.out x1 (BW.out.trans ((CW.out x1 hx1).mono BW.out.size))
      go_wp2_with (go_at_call 44; refine FX.out.mono ?_; rintro e w' ⟨rfl, hb'⟩)
      refine ⟨C, CS.out x1 _ hx1 hb', fun _ h => h, ?_⟩
      clear hx1 hb' FX FD x1
      refine mix_main (by rfl) ?_
      rintro ⟨x1, hx1⟩
      go_wp2
      rename_i K hK
      refine hK _ _ ?_
      simp only [List.getElem_toArray, List.getElem_cons_zero]
      clear hK K
      go_wp2
      refine ⟨C, hx1, fun _ h => h, ?_⟩
      clear hx1 x1
      refine mix_main (by rfl) ?_
      rintro ⟨x1, hx1⟩
      go_wp2
      refine ⟨C, hx1, fun _ h => h, ?_⟩
      clear hx1 x1
      refine mix_main (by rfl) ?_
      rintro ⟨x1, hx1⟩
      go_wp2
      refine ⟨C, hx1, fun _ h => h, ?_⟩
      clear hx1 x1
      refine mix_end ?_
      rintro ⟨x9, hx9⟩
      dsimp only
      have B9 := hide (CW.out x9 hx9)
      obtain ⟨e0, e1, f0, f1, f2, f3, f4⟩ := KEEP.out x9 B9.out
      clear hx9 g0 g1 l0 hna
      by_cases hok : okOrder (a, ac, sd, pr, q) = 0
      · have M4' := hide (M4.out rfl hok)
        have M5' := hide (fun h3 => M5.out rfl hok h3 _ rfl)
        have CA' := hide (CA.out hok)
        have BO' := hide (fun hm => BO.out hm hok)
        have OS := hide (okOrder_sd hok)
        have OP := hide (okOrder_pq hok)
        go_wp2_with fail
        refine (refCheckOrder_grow a ac sd pr q _).mono ?_
        rintro e w2 ⟨rfl, k2, os2, hw2⟩
        have hb2 := grow_below x9 k2 os2
        rw [← hw2] at hb2
        clear hw2 os2 k2
        rw [hok]
        have B2 := hide (B9.out.trans (hb2.mono B9.out.size))
        obtain ⟨e0, e1, f0, f1, f2, f3, f4⟩ := KEEP.out w2 B2.out
        clear hb2 hok M3 M4 M5 CA BO
        go_wp2_with fail
        refine (OR.out _ (BW.out.trans (B2.out.mono BW.out.size))).mono ?_
        rintro e W3 ⟨g, cap, rfl, har, hb3⟩
        have B3 := hide (B2.out.trans (hb3.mono B2.out.size))
        have AR := hide har
        clear har hb3 e0 e1 f0 f1 f2 f3 f4 OR
        by_cases hfull : n = 40
        · have EB := hide (RBAD.out 7 (M4'.out (by omega)) (by decide))
          subst hfull
          have TX := hide (two_below T.out B3.out)
          have BX := hide (BW.out.trans (B3.out.mono BW.out.size))
          obtain ⟨u0, u1, t0, t1, t2, t3⟩ := two_facts TX.out
          go_wp2
          obtain ⟨s0, s1⟩ := two_set TX.out (.slice none 0 0) (.slice none 0 0)
          refine bodyPost_ret (v := .tuple #[.agg #[.slice none 0 0, .slice none 0 0], .int .i64 7]) (by simp [results, Try.results43, go_sem, s0, s1]) rfl (EB.out _ (two_below_set BX.out (by omega) _ _))
        · have hfz : ¬ (n : Int) = 40 := by omega
          have M6 := hide (M5'.out (by omega))
          clear M4' M5' hfull
          go_wp2_with fail
          rw [show ((n : Int) == 40) = false from by simp; omega]
          clear hfz
          go_loopw [38] (fun vi wr => ∃ k : Nat, vi = .int .i64 k ∧ k ≤ n ∧ Hid ((L.take k).any (against (a, ac, sd, pr, q)) = false) ∧ Hid (Below W3.heap.size W3 wr)) (fun vi _ => n - (intOf vi).toNat)
          case atStart => exact ⟨0, rfl, Nat.zero_le _, hide rfl, hide (Below.refl _ _)⟩
          case round =>
            obtain ⟨k, rfl, hk, HF, HB⟩ := hrel
            have B4 := hide (B3.out.trans (HB.out.mono B3.out.size))
            by_cases hlt : k < n
            · have hltz : (k : Int) < n := by omega
              have hkx : k < L.length := by rw [HN.out]; exact hlt
              obtain ⟨c0, c1, c2, c3, c4⟩ := orow_cells (w := wr) (b := g) (off := 0) (xs := L) (fun j hj i v hv => (HB.out.cell AR.out.lt).trans (ar_row AR.out j hj i v hv)) hkx
              rw [Nat.zero_add] at c0 c1 c2 c3 c4
              have AS := hide (any_snoc (against (a, ac, sd, pr, q)) hkx)
              have OX := OKX.out L[k]! (by rw [getElem!_pos L k hkx]; exact List.getElem_mem hkx)
              generalize L[k]! = x at c0 c1 c2 c3 c4 AS OX
              obtain ⟨xa, xc, xd, xp, xq⟩ := x
              dsimp only [oid, oac, osd, opr, oqt] at c0 c1 c2 c3 c4 OX
              have B5 := hide (B4.out.trans (((Below.refl _ wr).alloc (Nat.le_refl _) (.cells #[.int .i64 xa, .int .i64 xc, .int .i64 xd, .int .i64 xp, .int .i64 xq] 44)).mono B4.out.size))
              have HB5 := hide (HB.out.trans (((Below.refl _ wr).alloc (Nat.le_refl _) (.cells #[.int .i64 xa, .int .i64 xc, .int .i64 xd, .int .i64 xp, .int .i64 xq] 44)).mono HB.out.size))
              obtain ⟨-, -, f0, f1, f2, f3, f4⟩ := KEEP.out _ B5.out
              by_cases hsd : xd = sd
              · have hsb : (xd != sd) = false := by simp [hsd]
                have HF1 : Hid ((L.take (k + 1)).any (against (a, ac, sd, pr, q)) = false) := by rw [AS.out, HF.out]; exact hide (by simp [against, osd, hsd])
                clear hsd AS HF
                go_wp2
                go_roundw
                case rel => exact ⟨k + 1, by go_num, by omega, HF1, HB5⟩
                case measure => simp [intOf]; omega
              · have B6 := hide (B5.out.trans (((Below.refl _ (wr.alloc (.cells #[.int .i64 xa, .int .i64 xc, .int .i64 xd, .int .i64 xp, .int .i64 xq] 44))).alloc (Nat.le_refl _) (.cells #[.int .i64 a, .int .i64 ac, .int .i64 sd, .int .i64 pr, .int .i64 q] 44)).mono B5.out.size))
                have HB6 := hide (HB5.out.trans (((Below.refl _ (wr.alloc (.cells #[.int .i64 xa, .int .i64 xc, .int .i64 xd, .int .i64 xp, .int .i64 xq] 44))).alloc (Nat.le_refl _) (.cells #[.int .i64 a, .int .i64 ac, .int .i64 sd, .int .i64 pr, .int .i64 q] 44)).mono HB5.out.size))
                have MT := hide (meets_any a ac sd pr q xp (wr.alloc (.cells #[.int .i64 xa, .int .i64 xc, .int .i64 xd, .int .i64 xp, .int .i64 xq] 44)) OS.out OP.out.1 OP.out.2.1 OX.1 OX.2)
                have AG : Hid (against (a, ac, sd, pr, q) (xa, xc, xd, xp, xq) = meets (a, ac, sd, pr, q) xp) := by simp [against, osd, hsd, hide]
                cases hm : meets (a, ac, sd, pr, q) xp with
                | true =>
                  rw [hm] at MT
                  have EB := hide (RBAD.out 9 (by rw [M6.out, CA'.out, any_take (k := k + 1) _ (by rw [AS.out, AG.out, hm, Bool.or_true])]; rfl) (by decide))
                  have TX := hide (two_below T.out B6.out)
                  have BX := hide (BW.out.trans (B6.out.mono BW.out.size))
                  obtain ⟨u0, u1, t0, t1, t2, t3⟩ := two_facts TX.out
                  clear AS HF AG hm
                  go_wp2_with (go_at_call 86; refine MT.out.mono ?_; rintro e w' ⟨rfl, rfl⟩)
                  obtain ⟨s0, s1⟩ := two_set TX.out (.slice none 0 0) (.slice none 0 0)
                  refine bodyPost_ret (v := .tuple #[.agg #[.slice none 0 0, .slice none 0 0], .int .i64 9]) (by simp [results, Try.results43, go_sem, s0, s1]) rfl (EB.out _ (two_below_set BX.out (by omega) _ _))
                | false =>
                  rw [hm] at MT
                  have HF1 : Hid ((L.take (k + 1)).any (against (a, ac, sd, pr, q)) = false) := by rw [AS.out, HF.out, AG.out, hm]; exact hide rfl
                  clear AS HF AG hm
                  go_wp2_with (go_at_call 86; refine MT.out.mono ?_; rintro e w' ⟨rfl, rfl⟩)
                  go_roundw
                  case rel => exact ⟨k + 1, by go_num, by omega, HF1, HB6⟩
                  case measure => simp [intOf]; omega
            · have hk' : k = n := by omega
              subst hk'
              have hmr : mr = 0 := by
                have := HF.out
                rw [show L.take k = L from List.take_of_length_le (by rw [HN.out]; exact Nat.le_refl _)] at this
                rw [M6.out, CA'.out, this]; rfl
              have RX := hide (ROK.out hmr)
              have BX := hide (BO'.out hmr)
              have hLk := HN.out
              subst hLk
              obtain ⟨e0, e1, f0, f1, f2, f3, f4⟩ := KEEP.out wr B4.out
              have hbA := HB.out.trans (((Below.refl _ wr).alloc (Nat.le_refl _) (.cells #[.int .i64 a, .int .i64 ac, .int .i64 sd, .int .i64 pr, .int .i64 q] 44)).mono HB.out.size)
              have AX := hide (ar_same AR.out hbA.size (hbA.block g AR.out.lt))
              have BA := hide (B3.out.trans (hbA.mono B3.out.size))
              have OVN := hide (ov_new wr a ac sd pr q)
              clear hmr hbA e0 e1 HF M6 CA' BO' RBAD ROK
              go_wp2_with (at_builtin; refine ar_append AX.out OVN.out ?_ hi hz0 hz1 hz2 ?_ (.tmp 55) (.tmp 57) ?_ ?_ ?_ ?_; (simp; omega); exact rfl; exact rfl; exact rfl; exact rfl; intro g2 cap2 x7 har har0 hbel; generalize hm : (L ++ [(a, ac, sd, pr, q)]).length = m)
              have B7 := hide (BA.out.trans (hbel.mono B2.out.size))
              have CB := hide (BX.out x7 (some ⟨g2, 0, none⟩) m cap2 hm (by rw [← hm, List.length_append]; simp; omega) (ar_ov har).row)
              clear har har0 hbel hm
              go_wp2_with fail
              refine CB.out.mono ?_
              rintro e w8 ⟨p0, c0, p1, c1, rfl, v0, v1, z0, z1, hb8⟩
              have hs7 : w.heap.size + 2 < x7.heap.size := Nat.lt_of_lt_of_le SZ.out B7.out.size
              have B8 := hide (B7.out.trans (hb8.mono B7.out.size))
              have V0 := hide (ov_below_two (t := w.heap.size + 1 + 1) (v0 := .slice p0 TB.length c0) (v1 := .slice p1 TA.length c1) v0 (fun a ha => by have := z0 a ha; omega))
              have V1 := hide (ov_below_two (t := w.heap.size + 1 + 1) (v0 := .slice p0 TB.length c0) (v1 := .slice p1 TA.length c1) v1 (fun a ha => by have := z1 a ha; omega))
              have Z0 : Hid (∀ a, p0 = some a → w.heap.size ≤ a.block) := fun a ha => by have := z0 a ha; omega
              have Z1 : Hid (∀ a, p1 = some a → w.heap.size ≤ a.block) := fun a ha => by have := z1 a ha; omega
              have TX := hide (two_below T.out B8.out)
              have BX8 := hide (BW.out.trans (B8.out.mono BW.out.size))
              clear v0 v1 z0 z1 hb8 hs7 CB
              obtain ⟨u0, u1, t0, t1, t2, t3⟩ := two_facts TX.out
              go_wp2
              obtain ⟨s0, s1⟩ := two_set TX.out (.slice p0 TB.length c0) (.slice p1 TA.length c1)
              refine bodyPost_ret (v := .tuple #[.agg #[.slice p0 TB.length c0, .slice p1 TA.length c1], .int .i64 0]) (by simp [results, Try.results43, go_sem, s0, s1]) rfl (RX.out _ _ ⟨p0, c0, p1, c1, rfl, V0.out, V1.out, Z0.out, Z1.out⟩ (two_below_set BX8.out (by omega) _ _))
      · have MB := hide (M3.out rfl hok)
        have TX := hide (two_below T.out B9.out)
        have BX := hide (BW.out.trans (B9.out.mono BW.out.size))
        go_wp2_with fail
        refine (refCheckOrder_grow a ac sd pr q _).mono ?_
        rintro e w2 ⟨rfl, k2, os2, hw2⟩
        have hb2 := grow_below x9 k2 os2
        rw [← hw2] at hb2
        clear hw2 os2 k2
        have T2 := hide (two_below TX.out hb2)
        have B2 := hide (BX.out.trans (hb2.mono BX.out.size))
        have E2 := hide (RBAD.out _ MB.out hok)
        clear hb2
        generalize okOrder (a, ac, sd, pr, q) = eo at hok E2 ⊢
        obtain ⟨u0, u1, t0, t1, t2, t3⟩ := two_facts T2.out
        go_wp2
        obtain ⟨s0, s1⟩ := two_set T2.out (.slice none 0 0) (.slice none 0 0)
        refine bodyPost_ret (v := .tuple #[.agg #[.slice none 0 0, .slice none 0 0], .int .i64 eo]) (by simp [results, Try.results43, go_sem, s0, s1]) rfl (E2.out _ (two_below_set B2.out (by omega) _ _))
end Go.Proofs.Ytbphljnncbiddaa.Rk
