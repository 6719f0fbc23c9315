/-
  The law MatchFair by contracts: an order to sell, Post.
-/
import Derived.Test.YtdlohodompommaaMtFair
namespace Go.Proofs.Ytdlohodompommaa.Bk
open Go.RowKit Go.Sort Go.Maps Go.Proofs.Ytdlohodompommaa.Mix

set_option maxHeartbeats 4000000 in
set_option maxRecDepth 100000 in
theorem fair_G (p p' : Option Addr) (c c' : Nat) (bids asks : List Odr) (a ac sd pr q how : Int) (w : World) (h : OV w p c bids) (h' : OV w p' c' asks) (he : comeE bids asks (a, ac, sd, pr, q) how = 0) (hsd : sd = -1)
    (hcase : 0 ≤ comeL how (takeT bids asks (a, ac, sd, pr, q)).2.2.1 ∧ ¬ 0 < comeL how (takeT bids asks (a, ac, sd, pr, q)).2.2.1 ∧ how = 4) :
    Calls Try.prog 11 #[.agg #[.slice p bids.length c, .slice p' asks.length c'], .agg #[.int .i64 a, .int .i64 ac, .int .i64 sd, .int .i64 pr, .int .i64 q], .int .i64 how] w fun e w' => e = .returned (.bool true) ∧ Below w.heap.size w w' := by
  have hb0 : ∀ o1 o2, Below w.heap.size w ((w.alloc o1).alloc o2) := fun o1 o2 => ((Below.refl _ w).alloc (Nat.le_refl _) _).alloc (by simp) _
  obtain ⟨nb, hnb⟩ : ∃ n, bids.length = n := ⟨_, rfl⟩
  obtain ⟨na, hna⟩ : ∃ n, asks.length = n := ⟨_, rfl⟩
  obtain ⟨hR, hok, hno, hmet, hp4, hp3, hmr⟩ := come_facts he
  have hCR := come_right he
  have hq0 := okOrder_pq hok
  have hfew := hR.few
  have hcfew := hCR.few
  have CO : Hid (∀ X, Below w.heap.size w X → Calls Try.prog 48 #[.agg #[.slice p nb c, .slice p' na c'], .agg #[.int .i64 a, .int .i64 ac, .int .i64 sd, .int .i64 pr, .int .i64 q], .int .i64 how] X (ComePost X (comeB bids asks (a, ac, sd, pr, q) how) (comeA bids asks (a, ac, sd, pr, q) how) (takeT bids asks (a, ac, sd, pr, q)).2.1 (comeL how (takeT bids asks (a, ac, sd, pr, q)).2.2.1))) := fun X hX => by
    have := come_ok p p' c c' bids asks (a, ac, sd, pr, q) how X (h.below hX) (h'.below hX) he
    rw [hnb, hna] at this
    exact this
  have MT := hide matched_any
  have FS := hide (Fair.start hR hok)
  have HOK := hide hok
  have HNO := hide hno
  have HMR := hide hmr
  have HCR := hide hCR
  have HP3 := hide hp3
  have NB := hide hnb
  have NA := hide hna
  have HB := hide h
  have HA := hide h'
  have TN := hide (take_none hno)
  obtain ⟨CB, hCB⟩ : ∃ x, x = comeB bids asks (a, ac, sd, pr, q) how := ⟨_, rfl⟩
  obtain ⟨CA, hCA⟩ : ∃ x, x = comeA bids asks (a, ac, sd, pr, q) how := ⟨_, rfl⟩
  obtain ⟨L, hL⟩ : ∃ x, x = comeL how (takeT bids asks (a, ac, sd, pr, q)).2.2.1 := ⟨_, rfl⟩
  obtain ⟨F, hF⟩ : ∃ x, x = (takeT bids asks (a, ac, sd, pr, q)).2.1 := ⟨_, rfl⟩
  rw [← hCB, ← hCA, ← hL, ← hF] at CO
  rw [← hCB, ← hCA] at HCR hcfew
  rw [← hL] at hcase
  rw [← hF] at hp4
  have ECB := hide hCB
  have ECA := hide hCA
  have EL := hide hL
  have EF := hide hF
  have hL0 := hcase.1
  have CK : Hid (∀ X r r' d d', OV X r d CB → OV X r' d' CA → Calls Try.prog 34 #[.agg #[.slice r CB.length d, .slice r' CA.length d']] X fun e w' => e = .returned (.int .i64 0) ∧ Below X.heap.size X w') := fun X r r' d d' k k' => by
    have := check_any r r' d d' CB CA X k.row k'.row (by omega) (by omega)
    rw [bookErr_zero.2 HCR.out] at this
    exact this
  have HP4 := hide hp4
  have hFn : F.length ≤ 40 := by
    have h1 := takes_few (a, ac, sd, pr, q) (if sd = 1 then asks else bids) q
    rw [hF]
    show (takes (a, ac, sd, pr, q) q (if sd = 1 then asks else bids)).2.1.length ≤ 40
    split at h1
    · rename_i hs; rw [if_pos hs]; omega
    · rename_i hs; rw [if_neg hs]; omega
  rw [hnb, hna]
  clear h h' hR hok hno hmet hp4 hp3 hmr hCR hCB hCA hL hF hnb hna hfew hcfew
  have hLn : ¬ 0 < L := hcase.2.1
  have hF0 : ¬ (0 : Int) < (F.length : Int) := by rw [HP4.out hcase.2.2]; simp
  have HREV : Hid (how = 4) := hcase.2.2
  have hsb : (sd == -1) = true := by simp [hsd]
  have HSD : Hid (¬ sd = 1) := by show ¬ sd = 1; omega
  clear hsd he hcase hq0
  go_enter Try.func11, Try.ntmps11
  go_wp2_with fail
  refine (CO.out _ (hb0 _ _)).mono ?_
  rintro e w2 ⟨p1, c1, p2, c2, vF, rfl, o1, o2, of, b2, -, -⟩
  have hrev := HREV.out
  obtain ⟨pF, cF, rfl, fv, -⟩ := ownF_fv of
  have B2 := (hb0 (.cells #[.slice p nb c, .slice p' na c'] 42) (.cells #[.int .i64 a, .int .i64 ac, .int .i64 sd, .int .i64 pr, .int .i64 q] 44)).trans (b2.mono (by simp; omega))
  have k0 : w2.cell? ⟨w.heap.size, 0, none⟩ = some (.slice p nb c) := box2_a b2 rfl
  have k1 : w2.cell? ⟨w.heap.size, 1, none⟩ = some (.slice p' na c') := box2_a b2 rfl
  have m0 : w2.cell? ⟨w.heap.size + 1, 0, none⟩ = some (.int .i64 a) := (b2.cell (by simp)).trans (new_cell2 _ _ _ _ _ _ rfl)
  have m1 : w2.cell? ⟨w.heap.size + 1, 1, none⟩ = some (.int .i64 ac) := (b2.cell (by simp)).trans (new_cell2 _ _ _ _ _ _ rfl)
  have m2 : w2.cell? ⟨w.heap.size + 1, 2, none⟩ = some (.int .i64 sd) := (b2.cell (by simp)).trans (new_cell2 _ _ _ _ _ _ rfl)
  have m3 : w2.cell? ⟨w.heap.size + 1, 3, none⟩ = some (.int .i64 pr) := (b2.cell (by simp)).trans (new_cell2 _ _ _ _ _ _ rfl)
  have m4 : w2.cell? ⟨w.heap.size + 1, 4, none⟩ = some (.int .i64 q) := (b2.cell (by simp)).trans (new_cell2 _ _ _ _ _ _ rfl)
  have al := (Below.refl w2.heap.size w2).alloc (Nat.le_refl _) (.cells #[.slice p1 CB.length c1, .slice p2 CA.length c2] 42)
  have y0 := new_cell w2 #[.slice p1 CB.length c1, .slice p2 CA.length c2] 42 0 _ rfl
  have y1 := new_cell w2 #[.slice p1 CB.length c1, .slice p2 CA.length c2] 42 1 _ rfl
  have BA := hide al
  have BW2 := hide B2
  have V1 := hide o1
  have V2 := hide o2
  have VF := hide fv
  clear b2 B2 CO hb0 al o1 o2 of fv
  go_wp2_with fail
  refine (MT.out _).mono ?_
  rintro e w3 ⟨rfl, b3⟩
  have y0' := (b3.cell (World.block_lt_of_cell? _ _ y0)).trans y0
  have y1' := (b3.cell (World.block_lt_of_cell? _ _ y1)).trans y1
  have B23 := hide (BA.out.trans (b3.mono BA.out.size))
  have CKc := CK.out w3 p1 p2 c1 c2 (V1.out.below B23.out) (V2.out.below B23.out)
  clear b3 y0 y1 BA MT
  go_wp2_with fail
  refine CKc.mono ?_
  rintro e w4 ⟨rfl, b4⟩
  have z0 := (b4.cell (World.block_lt_of_cell? _ _ y0')).trans y0'
  have z1 := (b4.cell (World.block_lt_of_cell? _ _ y1')).trans y1'
  have B24 := hide (B23.out.trans (b4.mono B23.out.size))
  have l0 := (B24.out.cell (World.block_lt_of_cell? _ _ k0)).trans k0
  have l1 := (B24.out.cell (World.block_lt_of_cell? _ _ k1)).trans k1
  have n0 := (B24.out.cell (World.block_lt_of_cell? _ _ m0)).trans m0
  have n1 := (B24.out.cell (World.block_lt_of_cell? _ _ m1)).trans m1
  have n2 := (B24.out.cell (World.block_lt_of_cell? _ _ m2)).trans m2
  have n3 := (B24.out.cell (World.block_lt_of_cell? _ _ m3)).trans m3
  have n4 := (B24.out.cell (World.block_lt_of_cell? _ _ m4)).trans m4
  have BW4 := hide (BW2.out.trans (B24.out.mono BW2.out.size))
  obtain ⟨W6, hW6⟩ : ∃ W6, W6 = w4.alloc (.cells #[.slice p nb c, .slice p' na c'] 42) := ⟨_, rfl⟩
  have al := (Below.refl w4.heap.size w4).alloc (Nat.le_refl _) (.cells #[.slice p nb c, .slice p' na c'] 42)
  rw [← hW6] at al
  have HBW := HB.out.below BW4.out
  have HAW := HA.out.below BW4.out
  have ST0 : Hid (FInv W6 w4.heap.size W6 p p' c c' bids asks) := by
    rw [hW6]
    refine ⟨Below.refl _ _, ⟨_, _, heap_alloc_new _ _⟩, ?_, ?_, (HBW.below (by rw [← hW6]; exact al)), (HAW.below (by rw [← hW6]; exact al)), far_lt HBW (Nat.le_refl _), far_lt HAW (Nat.le_refl _)⟩
    · rw [NB.out]; exact new_cell _ _ _ _ _ rfl
    · rw [NA.out]; exact new_cell _ _ _ _ _ rfl
  have ST : Hid (FInv W6 w4.heap.size W6 p p' c c' (nowB bids (a, ac, sd, pr, q) (if osd (a, ac, sd, pr, q) = 1 then asks else bids)) (nowA asks (a, ac, sd, pr, q) (if osd (a, ac, sd, pr, q) = 1 then asks else bids))) := by
    have e1 : nowB bids (a, ac, sd, pr, q) (if osd (a, ac, sd, pr, q) = 1 then asks else bids) = bids := by unfold nowB; split <;> rfl
    have e2 : nowA asks (a, ac, sd, pr, q) (if osd (a, ac, sd, pr, q) = 1 then asks else bids) = asks := by unfold nowA; split <;> rfl
    rw [e1, e2]
    exact ST0
  have BV : Hid (∀ wr, Below w4.heap.size W6 wr → Below w2.heap.size w2 wr) := fun wr hwr => (B24.out.trans (al.mono B24.out.size)).trans (hwr.mono B24.out.size)
  have OC : Hid (∀ wr, Below w4.heap.size W6 wr → wr.cell? ⟨w.heap.size + 1, 0, none⟩ = some (.int .i64 a) ∧ wr.cell? ⟨w.heap.size + 1, 1, none⟩ = some (.int .i64 ac) ∧ wr.cell? ⟨w.heap.size + 1, 2, none⟩ = some (.int .i64 sd) ∧ wr.cell? ⟨w.heap.size + 1, 3, none⟩ = some (.int .i64 pr) ∧ wr.cell? ⟨w.heap.size + 1, 4, none⟩ = some (.int .i64 q) ∧ wr.cell? ⟨w2.heap.size, 0, none⟩ = some (.slice p1 CB.length c1) ∧ wr.cell? ⟨w2.heap.size, 1, none⟩ = some (.slice p2 CA.length c2)) := fun wr hwr => by
    have hh : Below w4.heap.size w4 wr := al.trans hwr
    exact ⟨(hh.cell (World.block_lt_of_cell? _ _ n0)).trans n0, (hh.cell (World.block_lt_of_cell? _ _ n1)).trans n1, (hh.cell (World.block_lt_of_cell? _ _ n2)).trans n2, (hh.cell (World.block_lt_of_cell? _ _ n3)).trans n3, (hh.cell (World.block_lt_of_cell? _ _ n4)).trans n4, (hh.cell (World.block_lt_of_cell? _ _ z0)).trans z0, (hh.cell (World.block_lt_of_cell? _ _ z1)).trans z1⟩
  have B6 : Hid (∀ wr, Below w4.heap.size W6 wr → Below w.heap.size w wr) := fun wr hwr => (BW4.out.trans (al.mono BW4.out.size)).trans (hwr.mono BW4.out.size)
  have EW := hide hW6
  clear b4 y0' y1' CKc CK al HBW HAW ST0 k0 k1 m0 m1 m2 m3 m4 n0 n1 n2 n3 n4 z0 z1 B23 hW6 BW2
  go_wp2
  rw [← EW.out]
  clear EW l0 l1
  generalize w4.heap.size = t11 at ST BV OC B6 ⊢
  go_loopw [70, 12] (fun i nn wr => ∃ (k : Nat) (F1 : List Fil) (l : Int) (Y : List Odr) (r1 r2 : Option Addr) (d1 d2 : Nat) (s : Int), i = .int .i64 k ∧ nn = .int .i64 s ∧ k ≤ F.length ∧ 0 ≤ s ∧ s ≤ 2000 ∧ Hid (F1.length = k ∧ s = L + sumQ F1) ∧ Hid (Fair bids asks (a, ac, sd, pr, q) F1 l Y) ∧ Hid (FInv W6 t11 wr r1 r2 d1 d2 (nowB bids (a, ac, sd, pr, q) Y) (nowA asks (a, ac, sd, pr, q) Y))) (fun i _ _ => F.length - (intOf i).toNat)
  case atStart => exact ⟨0, [], _, _, p, p', c, c', L, rfl, rfl, Nat.zero_le _, hL0, by omega, ⟨rfl, by simp [sumQ]⟩, FS, ST⟩
  case round =>
    clear ST FS
    obtain ⟨k, F1, l, Y, r1, r2, d1, d2, s, rfl, rfl, hkn, hs0, hs1, KS, FR, FI⟩ := hrel
    obtain ⟨m0, m1, m2, m3, m4, y0, y1⟩ := OC.out wr FI.out.bel
    by_cases hk : k < F.length
    · exact absurd hk (by omega)
    · have hke : k = F.length := by omega
      have hdn := FR.out.done (by rw [KS.out.1, hke, EF.out])
      obtain ⟨dB, dA, dl, dF⟩ := hdn
      rw [dB, dA] at FI
      have hsum := FR.out.sum
      have hpos := FR.out.t.pos
      rw [dl] at hsum hpos
      rw [dF] at hsum
      dsimp only [oqt] at hsum
      have hks := KS.out.2
      rw [dF, EL.out] at hks
      have hqq := (okOrder_pq HOK.out).2.2
      dsimp only [oqt] at hqq
      have hx1 := HCR.out.few
      have BWr := hide (BV.out wr FI.out.bel)
      have BWw := hide (B6.out wr FI.out.bel)
      have OX1 := hide (V1.out.below BWr.out)
      have OX2 := hide (V2.out.below BWr.out)
      have i0 := FI.out.c0
      have i1 := FI.out.c1
      have hp3 := HP3.out
      have hF1 : sumQ F = 0 → F = F := fun _ => rfl
      obtain ⟨TB, hTB⟩ : ∃ z, z = takeB bids asks (a, ac, sd, pr, q) := ⟨_, rfl⟩
      obtain ⟨TA, hTA⟩ : ∃ z, z = takeA bids asks (a, ac, sd, pr, q) := ⟨_, rfl⟩
      have HMR2 := HMR.out
      have TN2 := TN.out
      rw [← hTB, ← hTA] at FI HMR2 TN2
      rw [← hTB] at i0
      rw [← hTA] at i1
      have ecb := ECB.out
      have eca := ECA.out
      unfold comeB at ecb
      unfold comeA at eca
      rw [← hTB] at ecb
      rw [← hTA] at eca
      have hsq : sumQ (takeT bids asks (a, ac, sd, pr, q)).2.1 = sumQ F := by rw [EF.out]
      rw [hsq] at hsum hks
      obtain ⟨left, hleft⟩ : ∃ z, z = (takeT bids asks (a, ac, sd, pr, q)).2.2.1 := ⟨_, rfl⟩
      rw [← hleft] at hsum hpos hks HMR2 ecb eca hp3
      have FF := hide FI.out
      obtain ⟨n1, hn1⟩ : ∃ n, TB.length = n := ⟨_, rfl⟩
      obtain ⟨n2, hn2⟩ : ∃ n, TA.length = n := ⟨_, rfl⟩
      obtain ⟨n3, hn3⟩ : ∃ n, CB.length = n := ⟨_, rfl⟩
      obtain ⟨n4, hn4⟩ : ∃ n, CA.length = n := ⟨_, rfl⟩
      have SMc : Hid (∀ X q1 q2 e1 e2 MB MA m1 m2, MB = CB → MA = CA → MB.length = m1 → MA.length = m2 → Below w2.heap.size w2 X → OV X q1 e1 MB → OV X q2 e2 MA → Calls Try.prog 39 #[.agg #[.slice q1 m1 e1, .slice q2 m2 e2], .agg #[.slice p1 n3 c1, .slice p2 n4 c2]] X fun e w' => e = .returned (.bool true) ∧ Below X.heap.size X w') := fun X q1 q2 e1 e2 MB MA m1 m2 h1 h2 h3 h4 hX hB hA => by
        subst h1 h2
        have := same_any q1 q2 p1 p2 e1 e2 c1 c2 MB MA MB MA X hB.row hA.row (V1.out.below hX).row (V2.out.below hX).row (by omega) (by omega) (by omega) (by omega)
        rw [decide_eq_true ⟨rfl, rfl⟩, hn3, hn4] at this
        rw [← h3, ← h4, hn3, hn4]
        exact this
      have FNc := find_any p1 p2 c1 c2 CB CA a wr OX1.out.row OX2.out.row (by omega) (by omega)
      rw [hn3, hn4] at FNc
      rw [hn1] at i0
      rw [hn2] at i1
      rw [hn3] at y0
      rw [hn4] at y1
      have N1 := hide hn1
      have N2 := hide hn2
      have N3 := hide hn3
      have N4 := hide hn4
      have ECB2 := hide ecb
      have ECA2 := hide eca
      rw [hn3]
      rw [hn4]
      clear FI dB dA dl dF hTB hTA hleft hn1 hn2 hn3 hn4 ecb eca OX1 OX2 hsq hF1 hx1
      cases hst : stays how left
      · have mr := HMR2 hst
        have eB : Hid (CB = restB TB (restO (a, ac, sd, pr, q) left)) := by have := ECB2.out; rw [hst] at this; exact hide (by simpa using this)
        have eA : Hid (CA = restA TA (restO (a, ac, sd, pr, q) left)) := by have := ECA2.out; rw [hst] at this; exact hide (by simpa using this)
        have hbe := bookErr_zero.2 HCR.out
        have hfi : findIn a CB CA = some (restO (a, ac, sd, pr, q) left) := by rw [eB.out, eA.out]; exact rest_found mr
        rw [show findO CB CA a = (a, ac, sd, pr, left) by unfold findO; rw [if_pos hbe, hfi]; rfl, show findE CB CA a = 0 by unfold findE; rw [if_pos hbe, hfi]; rfl] at FNc
        have hl0 : ¬ left = 0 ∧ ¬ how = 2 := by
          unfold stays at hst
          simpa [not_or] using hst
        have hlp : 0 < left := by omega
        have h3 : ¬ how = 3 := fun e => by have := hp3 e; omega
        have h3b : (how == 3) = false := by simp [h3]
        have hlq : left ≤ 1000 := by
          obtain ⟨-, -, -, hok2, -, -, -⟩ := mayRest_zero.1 mr
          have := (okOrder_pq hok2).2.2.2
          exact this
        have hsl : Hid (s + left = q) := by
          have : comeL how left = 0 := by unfold comeL; rw [hst]; rfl
          rw [this] at hks
          show s + left = q
          omega
        have RSc : Hid (∀ X, OV X r1 d1 TB → OV X r2 d2 TA → Calls Try.prog 28 #[.agg #[.slice r1 n1 d1, .slice r2 n2 d2], .agg #[.int .i64 a, .int .i64 ac, .int .i64 sd, .int .i64 pr, .int .i64 left]] X (RestPost X CB CA)) := fun X hB hA => by
          have := rest_any r1 r2 d1 d2 TB TA (a, ac, sd, pr, left) X hB hA mr
          rw [N1.out, N2.out] at this
          rw [eB.out, eA.out]
          exact this
        clear hbe hfi TN2 HMR2 hks hsum hp3 hst i0 i1 m1 m2 m3 m4 mr hl0
        go_wp2_with fail
        refine FNc.mono ?_
        rintro e w9 ⟨rfl, b9⟩
        have al9 := b9.trans (((Below.refl w9.heap.size w9).alloc (Nat.le_refl _) (.cells #[.int .i64 a, .int .i64 ac, .int .i64 sd, .int .i64 pr, .int .i64 left] 44)).mono b9.size)
        have F9 := FF.out.below al9
        have i0 := F9.c0
        have i1 := F9.c1
        rw [N1.out] at i0
        rw [N2.out] at i1
        have z0 := new_cell w9 #[.int .i64 a, .int .i64 ac, .int .i64 sd, .int .i64 pr, .int .i64 left] 44 0 _ rfl
        have z1 := new_cell w9 #[.int .i64 a, .int .i64 ac, .int .i64 sd, .int .i64 pr, .int .i64 left] 44 1 _ rfl
        have z2 := new_cell w9 #[.int .i64 a, .int .i64 ac, .int .i64 sd, .int .i64 pr, .int .i64 left] 44 2 _ rfl
        have z3 := new_cell w9 #[.int .i64 a, .int .i64 ac, .int .i64 sd, .int .i64 pr, .int .i64 left] 44 3 _ rfl
        have z4 := new_cell w9 #[.int .i64 a, .int .i64 ac, .int .i64 sd, .int .i64 pr, .int .i64 left] 44 4 _ rfl
        have RSx := RSc.out _ F9.b F9.a
        have F9H := hide F9
        have BE := hide (BWw.out.trans (al9.mono BWw.out.size))
        clear al9 F9 FNc b9 y0 y1 RSc m0
        go_wp2_with fail
        refine RSx.mono ?_
        rintro e w11 ⟨p5, c5, p6, c6, rfl, o5, o6, b11, gg5, gg6⟩
        have NI := F9H.out.next b11 o5 o6 gg5 gg6
        obtain ⟨a0, a1, t0, t1, t2, t3⟩ := two_facts (F9H.out.below b11).two
        have s0 := NI.c0
        have s1 := NI.c1
        obtain ⟨m0, m1, m2, m3, m4, y0', y1'⟩ := OC.out _ NI.bel
        have SMx := SMc.out _ p5 p6 c5 c6 CB CA n3 n4 rfl rfl N3.out N4.out (BV.out _ NI.bel) NI.b NI.a
        have BE2 := hide (B6.out _ NI.bel)
        simp only [N3.out, N4.out] at SMx BE2 s0 s1 y0' y1' m0 m1 m2 m3 m4
        simp only [N3.out, N4.out]
        have hsq2 := hsl.out
        clear NI b11 o5 o6 gg5 gg6 RSx z0 z1 z2 z3 z4 i0 i1
        go_wp2_with fail
        refine SMx.mono ?_
        rintro e w13 ⟨rfl, b13⟩
        have BE3 := hide (BE2.out.trans (b13.mono BE2.out.size))
        clear b13 SMx
        go_wp2
        go_ret
        exact ⟨rfl, BE3.out⟩
      · have hL' : Hid (s = q) := by
          have : comeL how left = left := by unfold comeL; rw [hst]; rfl
          rw [this] at hks
          show s = q
          omega
        have eB : Hid (TB = CB) := by have := ECB2.out; rw [hst] at this; exact this.symm
        have eA : Hid (TA = CA) := by have := ECA2.out; rw [hst] at this; exact this.symm
        have hbe := bookErr_zero.2 HCR.out
        have hfi : findIn a CB CA = none := by rw [← eB.out, ← eA.out]; exact TN2
        rw [show findO CB CA a = noOdr by unfold findO; rw [if_pos hbe, hfi]; rfl, show findE CB CA a = 5 by unfold findE; rw [if_pos hbe, hfi]; rfl] at FNc
        have hsb' : (s == q) = true := by simp [hL'.out]
        have HF0 : Hid (how = 3 → 0 < F.length) := fun e => by
          have := hp3 e
          rcases Nat.eq_zero_or_pos F.length with h0 | h0
          · rw [List.eq_nil_of_length_eq_zero h0] at hsum
            simp [sumQ] at hsum
            omega
          · exact h0
        clear hbe hfi TN2 HMR2 hks hsum hp3 hst i0 i1 m1 m2 m3 m4
        by_cases h3 : how = 3
        · exact absurd h3 (by omega)
        · have h3b : (how == 3) = false := by simp [h3]
          go_wp2_with fail
          refine FNc.mono ?_
          rintro e w9 ⟨rfl, b9⟩
          have al9 := b9.trans (((Below.refl w9.heap.size w9).alloc (Nat.le_refl _) (.cells #[.int .i64 0, .int .i64 0, .int .i64 0, .int .i64 0, .int .i64 0] 44)).mono b9.size)
          have F9 := FF.out.below al9
          have i0 := F9.c0
          have i1 := F9.c1
          rw [N1.out] at i0
          rw [N2.out] at i1
          clear m0
          obtain ⟨m0, m1, m2, m3, m4, y0', y1'⟩ := OC.out _ F9.bel
          rw [N3.out] at y0'
          rw [N4.out] at y1'
          have z0 := new_cell w9 #[.int .i64 0, .int .i64 0, .int .i64 0, .int .i64 0, .int .i64 0] 44 0 _ rfl
          have SMx := SMc.out _ r1 r2 d1 d2 TB TA n1 n2 eB.out eA.out N1.out N2.out (BV.out _ F9.bel) F9.b F9.a
          have BE := hide (BWw.out.trans (al9.mono BWw.out.size))
          have hsq2 := hL'.out
          subst hsq2
          clear al9 F9 FNc b9 y0 y1
          go_wp2_with fail
          refine SMx.mono ?_
          rintro e w11 ⟨rfl, b11⟩
          have z0' := (b11.cell (World.block_lt_of_cell? _ _ z0)).trans z0
          have BE2 := hide (BE.out.trans (b11.mono BE.out.size))
          clear b11 SMx z0
          go_wp2
          go_ret
          exact ⟨rfl, BE2.out⟩
end Go.Proofs.Ytdlohodompommaa.Bk
