/-
  The law MatchFair by contracts: an order to buy, Now, of which something is left.
-/
import Derived.Test.YtdlohodompommaaMtFair
namespace Go.Proofs.Ytdlohodompommaa.Bk
open Go.RowKit Go.Sort Go.Maps Go.Proofs.Ytdlohodompommaa.Mix

set_option maxHeartbeats 4000000 in
set_option maxRecDepth 100000 in
theorem fair_B (p p' : Option Addr) (c c' : Nat) (bids asks : List Odr) (a ac sd pr q how : Int) (w : World) (h : OV w p c bids) (h' : OV w p' c' asks) (he : comeE bids asks (a, ac, sd, pr, q) how = 0) (hsd : sd = 1)
    (hcase : 0 ≤ comeL how (takeT bids asks (a, ac, sd, pr, q)).2.2.1 ∧ comeL how (takeT bids asks (a, ac, sd, pr, q)).2.2.1 ≤ 1000 ∧ how = 2 ∧ 0 < comeL how (takeT bids asks (a, ac, sd, pr, q)).2.2.1) :
    Calls Try.prog 11 #[.agg #[.slice p bids.length c, .slice p' asks.length c'], .agg #[.int .i64 a, .int .i64 ac, .int .i64 sd, .int .i64 pr, .int .i64 q], .int .i64 how] w fun e w' => e = .returned (.bool true) ∧ Below w.heap.size w w' := by
  have hb0 : ∀ o1 o2, Below w.heap.size w ((w.alloc o1).alloc o2) := fun o1 o2 => ((Below.refl _ w).alloc (Nat.le_refl _) _).alloc (by simp) _
  obtain ⟨nb, hnb⟩ : ∃ n, bids.length = n := ⟨_, rfl⟩
  obtain ⟨na, hna⟩ : ∃ n, asks.length = n := ⟨_, rfl⟩
  obtain ⟨hR, hok, hno, hmet, hp4, hp3, hmr⟩ := come_facts he
  have hCR := come_right he
  have hq0 := okOrder_pq hok
  have hfew := hR.few
  have hcfew := hCR.few
  have CO : Hid (∀ X, Below w.heap.size w X → Calls Try.prog 48 #[.agg #[.slice p nb c, .slice p' na c'], .agg #[.int .i64 a, .int .i64 ac, .int .i64 sd, .int .i64 pr, .int .i64 q], .int .i64 how] X (ComePost X (comeB bids asks (a, ac, sd, pr, q) how) (comeA bids asks (a, ac, sd, pr, q) how) (takeT bids asks (a, ac, sd, pr, q)).2.1 (comeL how (takeT bids asks (a, ac, sd, pr, q)).2.2.1))) := fun X hX => by
    have := come_ok p p' c c' bids asks (a, ac, sd, pr, q) how X (h.below hX) (h'.below hX) he
    rw [hnb, hna] at this
    exact this
  have MT := hide matched_any
  have FS := hide (Fair.start hR hok)
  have HOK := hide hok
  have HNO := hide hno
  have HMR := hide hmr
  have HCR := hide hCR
  have HP3 := hide hp3
  have NB := hide hnb
  have NA := hide hna
  have HB := hide h
  have HA := hide h'
  have TN := hide (take_none hno)
  obtain ⟨CB, hCB⟩ : ∃ x, x = comeB bids asks (a, ac, sd, pr, q) how := ⟨_, rfl⟩
  obtain ⟨CA, hCA⟩ : ∃ x, x = comeA bids asks (a, ac, sd, pr, q) how := ⟨_, rfl⟩
  obtain ⟨L, hL⟩ : ∃ x, x = comeL how (takeT bids asks (a, ac, sd, pr, q)).2.2.1 := ⟨_, rfl⟩
  obtain ⟨F, hF⟩ : ∃ x, x = (takeT bids asks (a, ac, sd, pr, q)).2.1 := ⟨_, rfl⟩
  rw [← hCB, ← hCA, ← hL, ← hF] at CO
  rw [← hCB, ← hCA] at HCR hcfew
  rw [← hL] at hcase
  rw [← hF] at hp4
  have ECB := hide hCB
  have ECA := hide hCA
  have EL := hide hL
  have EF := hide hF
  have hL0 := hcase.1
  have CK : Hid (∀ X r r' d d', OV X r d CB → OV X r' d' CA → Calls Try.prog 34 #[.agg #[.slice r CB.length d, .slice r' CA.length d']] X fun e w' => e = .returned (.int .i64 0) ∧ Below X.heap.size X w') := fun X r r' d d' k k' => by
    have := check_any r r' d d' CB CA X k.row k'.row (by omega) (by omega)
    rw [bookErr_zero.2 HCR.out] at this
    exact this
  have HP4 := hide hp4
  have hFn : F.length ≤ 40 := by
    have h1 := takes_few (a, ac, sd, pr, q) (if sd = 1 then asks else bids) q
    rw [hF]
    show (takes (a, ac, sd, pr, q) q (if sd = 1 then asks else bids)).2.1.length ≤ 40
    split at h1
    · rename_i hs; rw [if_pos hs]; omega
    · rename_i hs; rw [if_neg hs]; omega
  rw [hnb, hna]
  clear h h' hR hok hno hmet hp4 hp3 hmr hCR hCB hCA hL hF hnb hna hfew hcfew
  have hLp : 0 < L := hcase.2.2.2
  have hL1 : L ≤ 1000 := hcase.2.1
  have HREV : Hid (how = 2) := hcase.2.2.1
  have hsb : (sd == -1) = false := by simp [hsd]
  have HSD := hide hsd
  clear hsd he hcase hq0
  go_enter Try.func11, Try.ntmps11
  go_wp2_with fail
  refine (CO.out _ (hb0 _ _)).mono ?_
  rintro e w2 ⟨p1, c1, p2, c2, vF, rfl, o1, o2, of, b2, -, -⟩
  have hrev := HREV.out
  obtain ⟨pF, cF, rfl, fv, -⟩ := ownF_fv of
  have B2 := (hb0 (.cells #[.slice p nb c, .slice p' na c'] 42) (.cells #[.int .i64 a, .int .i64 ac, .int .i64 sd, .int .i64 pr, .int .i64 q] 44)).trans (b2.mono (by simp; omega))
  have k0 : w2.cell? ⟨w.heap.size, 0, none⟩ = some (.slice p nb c) := box2_a b2 rfl
  have k1 : w2.cell? ⟨w.heap.size, 1, none⟩ = some (.slice p' na c') := box2_a b2 rfl
  have m0 : w2.cell? ⟨w.heap.size + 1, 0, none⟩ = some (.int .i64 a) := (b2.cell (by simp)).trans (new_cell2 _ _ _ _ _ _ rfl)
  have m1 : w2.cell? ⟨w.heap.size + 1, 1, none⟩ = some (.int .i64 ac) := (b2.cell (by simp)).trans (new_cell2 _ _ _ _ _ _ rfl)
  have m2 : w2.cell? ⟨w.heap.size + 1, 2, none⟩ = some (.int .i64 sd) := (b2.cell (by simp)).trans (new_cell2 _ _ _ _ _ _ rfl)
  have m3 : w2.cell? ⟨w.heap.size + 1, 3, none⟩ = some (.int .i64 pr) := (b2.cell (by simp)).trans (new_cell2 _ _ _ _ _ _ rfl)
  have m4 : w2.cell? ⟨w.heap.size + 1, 4, none⟩ = some (.int .i64 q) := (b2.cell (by simp)).trans (new_cell2 _ _ _ _ _ _ rfl)
  have al := (Below.refl w2.heap.size w2).alloc (Nat.le_refl _) (.cells #[.slice p1 CB.length c1, .slice p2 CA.length c2] 42)
  have y0 := new_cell w2 #[.slice p1 CB.length c1, .slice p2 CA.length c2] 42 0 _ rfl
  have y1 := new_cell w2 #[.slice p1 CB.length c1, .slice p2 CA.length c2] 42 1 _ rfl
  have BA := hide al
  have BW2 := hide B2
  have V1 := hide o1
  have V2 := hide o2
  have VF := hide fv
  clear b2 B2 CO hb0 al o1 o2 of fv
  go_wp2_with fail
  refine (MT.out _).mono ?_
  rintro e w3 ⟨rfl, b3⟩
  have y0' := (b3.cell (World.block_lt_of_cell? _ _ y0)).trans y0
  have y1' := (b3.cell (World.block_lt_of_cell? _ _ y1)).trans y1
  have B23 := hide (BA.out.trans (b3.mono BA.out.size))
  have CKc := CK.out w3 p1 p2 c1 c2 (V1.out.below B23.out) (V2.out.below B23.out)
  clear b3 y0 y1 BA MT
  go_wp2_with fail
  refine CKc.mono ?_
  rintro e w4 ⟨rfl, b4⟩
  have z0 := (b4.cell (World.block_lt_of_cell? _ _ y0')).trans y0'
  have z1 := (b4.cell (World.block_lt_of_cell? _ _ y1')).trans y1'
  have B24 := hide (B23.out.trans (b4.mono B23.out.size))
  have l0 := (B24.out.cell (World.block_lt_of_cell? _ _ k0)).trans k0
  have l1 := (B24.out.cell (World.block_lt_of_cell? _ _ k1)).trans k1
  have n0 := (B24.out.cell (World.block_lt_of_cell? _ _ m0)).trans m0
  have n1 := (B24.out.cell (World.block_lt_of_cell? _ _ m1)).trans m1
  have n2 := (B24.out.cell (World.block_lt_of_cell? _ _ m2)).trans m2
  have n3 := (B24.out.cell (World.block_lt_of_cell? _ _ m3)).trans m3
  have n4 := (B24.out.cell (World.block_lt_of_cell? _ _ m4)).trans m4
  have BW4 := hide (BW2.out.trans (B24.out.mono BW2.out.size))
  obtain ⟨W6, hW6⟩ : ∃ W6, W6 = w4.alloc (.cells #[.slice p nb c, .slice p' na c'] 42) := ⟨_, rfl⟩
  have al := (Below.refl w4.heap.size w4).alloc (Nat.le_refl _) (.cells #[.slice p nb c, .slice p' na c'] 42)
  rw [← hW6] at al
  have HBW := HB.out.below BW4.out
  have HAW := HA.out.below BW4.out
  have ST0 : Hid (FInv W6 w4.heap.size W6 p p' c c' bids asks) := by
    rw [hW6]
    refine ⟨Below.refl _ _, ⟨_, _, heap_alloc_new _ _⟩, ?_, ?_, (HBW.below (by rw [← hW6]; exact al)), (HAW.below (by rw [← hW6]; exact al)), far_lt HBW (Nat.le_refl _), far_lt HAW (Nat.le_refl _)⟩
    · rw [NB.out]; exact new_cell _ _ _ _ _ rfl
    · rw [NA.out]; exact new_cell _ _ _ _ _ rfl
  have ST : Hid (FInv W6 w4.heap.size W6 p p' c c' (nowB bids (a, ac, sd, pr, q) (if osd (a, ac, sd, pr, q) = 1 then asks else bids)) (nowA asks (a, ac, sd, pr, q) (if osd (a, ac, sd, pr, q) = 1 then asks else bids))) := by
    have e1 : nowB bids (a, ac, sd, pr, q) (if osd (a, ac, sd, pr, q) = 1 then asks else bids) = bids := by unfold nowB; split <;> rfl
    have e2 : nowA asks (a, ac, sd, pr, q) (if osd (a, ac, sd, pr, q) = 1 then asks else bids) = asks := by unfold nowA; split <;> rfl
    rw [e1, e2]
    exact ST0
  have BV : Hid (∀ wr, Below w4.heap.size W6 wr → Below w2.heap.size w2 wr) := fun wr hwr => (B24.out.trans (al.mono B24.out.size)).trans (hwr.mono B24.out.size)
  have OC : Hid (∀ wr, Below w4.heap.size W6 wr → wr.cell? ⟨w.heap.size + 1, 0, none⟩ = some (.int .i64 a) ∧ wr.cell? ⟨w.heap.size + 1, 1, none⟩ = some (.int .i64 ac) ∧ wr.cell? ⟨w.heap.size + 1, 2, none⟩ = some (.int .i64 sd) ∧ wr.cell? ⟨w.heap.size + 1, 3, none⟩ = some (.int .i64 pr) ∧ wr.cell? ⟨w.heap.size + 1, 4, none⟩ = some (.int .i64 q) ∧ wr.cell? ⟨w2.heap.size, 0, none⟩ = some (.slice p1 CB.length c1) ∧ wr.cell? ⟨w2.heap.size, 1, none⟩ = some (.slice p2 CA.length c2)) := fun wr hwr => by
    have hh : Below w4.heap.size w4 wr := al.trans hwr
    exact ⟨(hh.cell (World.block_lt_of_cell? _ _ n0)).trans n0, (hh.cell (World.block_lt_of_cell? _ _ n1)).trans n1, (hh.cell (World.block_lt_of_cell? _ _ n2)).trans n2, (hh.cell (World.block_lt_of_cell? _ _ n3)).trans n3, (hh.cell (World.block_lt_of_cell? _ _ n4)).trans n4, (hh.cell (World.block_lt_of_cell? _ _ z0)).trans z0, (hh.cell (World.block_lt_of_cell? _ _ z1)).trans z1⟩
  have B6 : Hid (∀ wr, Below w4.heap.size W6 wr → Below w.heap.size w wr) := fun wr hwr => (BW4.out.trans (al.mono BW4.out.size)).trans (hwr.mono BW4.out.size)
  have EW := hide hW6
  clear b4 y0' y1' CKc CK al HBW HAW ST0 k0 k1 m0 m1 m2 m3 m4 n0 n1 n2 n3 n4 z0 z1 B23 hW6 BW2
  go_wp2
  rw [← EW.out]
  clear EW l0 l1
  generalize w4.heap.size = t11 at ST BV OC B6 ⊢
  go_loopw [70, 12] (fun i nn wr => ∃ (k : Nat) (F1 : List Fil) (l : Int) (Y : List Odr) (r1 r2 : Option Addr) (d1 d2 : Nat) (s : Int), i = .int .i64 k ∧ nn = .int .i64 s ∧ k ≤ F.length ∧ 0 ≤ s ∧ s ≤ 2000 ∧ Hid (F1.length = k ∧ s = L + sumQ F1) ∧ Hid (Fair bids asks (a, ac, sd, pr, q) F1 l Y) ∧ Hid (FInv W6 t11 wr r1 r2 d1 d2 (nowB bids (a, ac, sd, pr, q) Y) (nowA asks (a, ac, sd, pr, q) Y))) (fun i _ _ => F.length - (intOf i).toNat)
  case atStart => exact ⟨0, [], _, _, p, p', c, c', L, rfl, rfl, Nat.zero_le _, hL0, by omega, ⟨rfl, by simp [sumQ]⟩, FS, ST⟩
  case round =>
    clear ST FS
    obtain ⟨k, F1, l, Y, r1, r2, d1, d2, s, rfl, rfl, hkn, hs0, hs1, KS, FR, FI⟩ := hrel
    obtain ⟨m0, m1, m2, m3, m4, y0, y1⟩ := OC.out wr FI.out.bel
    by_cases hk : k < F.length
    · have hkz : (k : Int) < (F.length : Int) := by omega
      obtain ⟨x, Y', qq, rfl, SP, hfk, hnx⟩ := FR.out.step HOK.out (by rw [KS.out.1, ← EF.out]; exact hk)
      rw [KS.out.1, ← EF.out] at hfk
      have NX := hide hnx
      have SPH := hide SP
      have hsx := (FR.out.side HOK.out).sd x (by simp)
      have hxo := (FR.out.side HOK.out).ok x (by simp)
      have TL := hide (now_tail FR.out.r)
      have RR := hide FR.out.r
      have FQ := hide (SP.first HOK.out)
      have hac := SP.ac
      have hxe := SP.xe
      have hq1 := SP.q1
      have hq2 := SP.q2
      have hq3 := SP.q3
      have hxpq := okOrder_pq hxo
      have RST := hide (fun h1 h2 => now_rest (qq := qq) (FR.out.side HOK.out) HOK.out FR.out.r h1 h2)
      obtain ⟨fb, fo, hpF, hfc⟩ : ∃ b off, pF = some ⟨b, off, none⟩ ∧ ∀ j u, (flatF F)[j]? = some u → wr.cell? ⟨b, off + j, none⟩ = some u := by
        rcases (VF.out.below (BV.out wr FI.out.bel)).row with e | e
        · rw [e] at hk; simp at hk
        · exact e
      obtain ⟨f0, f1, f2, f3, f4, f5, f6⟩ := fv_cells hfc hk
      rw [hfk] at f0 f1 f2 f3 f4 f5 f6
      obtain ⟨xa, xac, xsd, xpr, xq⟩ := x
      dsimp only [fillOf, oid, oac, osd, opr, oqt] at f0 f1 f2 f3 f4 f5 f6 hac hq2 hsx hxpq
      have hcs : xsd = -sd := hsx
      have HFP : Hid (firstPrice (nowA asks (a, ac, sd, pr, q) ((xa, xac, xsd, xpr, xq) :: Y')) = xpr) := by
        unfold nowA
        rw [if_pos (show sd = 1 from HSD.out)]
        rfl
      obtain ⟨NBl, hNBl⟩ : ∃ z, z = nowB bids (a, ac, sd, pr, q) ((xa, xac, xsd, xpr, xq) :: Y') := ⟨_, rfl⟩
      obtain ⟨NAl, hNAl⟩ : ∃ z, z = nowA asks (a, ac, sd, pr, q) ((xa, xac, xsd, xpr, xq) :: Y') := ⟨_, rfl⟩
      rw [← hNBl, ← hNAl] at FI TL RR FQ
      obtain ⟨MB, hMB⟩ : ∃ z, z = nowB bids (a, ac, sd, pr, q) Y' := ⟨_, rfl⟩
      obtain ⟨MA, hMA⟩ : ∃ z, z = nowA asks (a, ac, sd, pr, q) Y' := ⟨_, rfl⟩
      rw [← hMB, ← hMA] at TL RST
      have EMB := hide hMB
      have EMA := hide hMA
      rw [← hNAl] at HFP
      have hfew := RR.out.few
      obtain ⟨n1, hn1⟩ : ∃ n, NBl.length = n := ⟨_, rfl⟩
      obtain ⟨n2, hn2⟩ : ∃ n, NAl.length = n := ⟨_, rfl⟩
      have i0 := FI.out.c0
      have i1 := FI.out.c1
      rw [hn1] at i0
      rw [hn2] at i1
      have BS : Hid (∀ X, Below wr.heap.size wr X → Calls Try.prog 31 #[.agg #[.slice r1 n1 d1, .slice r2 n2 d2]] X fun e w' => e = .returned (.tuple #[.int .i64 (firstPrice NBl), .int .i64 (firstPrice NAl), .int .i64 0]) ∧ Below X.heap.size X w') := fun X hX => by
        have := best_ok r1 r2 d1 d2 NBl NAl X (orow_below FI.out.b.row hX) (orow_below FI.out.a.row hX) RR.out
        rw [hn1, hn2] at this
        exact this
      rw [HFP.out] at BS
      generalize firstPrice NBl = other at BS
      have FN : Hid (∀ X, Below wr.heap.size wr X → Calls Try.prog 29 #[.agg #[.slice r1 n1 d1, .slice r2 n2 d2], .int .i64 xa] X fun e w' => e = .returned (.tuple #[.agg #[.int .i64 xa, .int .i64 xac, .int .i64 xsd, .int .i64 xpr, .int .i64 xq], .int .i64 0]) ∧ Below X.heap.size X w') := fun X hX => by
        have := find_any r1 r2 d1 d2 NBl NAl xa X (orow_below FI.out.b.row hX) (orow_below FI.out.a.row hX) (by omega) (by omega)
        have hfi : findIn xa NBl NAl = some (xa, xac, xsd, xpr, xq) := TL.out.2.2
        rw [show findO NBl NAl xa = (xa, xac, xsd, xpr, xq) by unfold findO; rw [if_pos (bookErr_zero.2 RR.out), hfi]; rfl, show findE NBl NAl xa = 0 by unfold findE; rw [if_pos (bookErr_zero.2 RR.out), hfi]; rfl, hn1, hn2] at this
        exact this
      have CC : Hid (∀ X g, Below wr.heap.size wr X → g < X.heap.size → X.cell? ⟨g, 0, none⟩ = some (.slice r1 n1 d1) → X.cell? ⟨g, 1, none⟩ = some (.slice r2 n2 d2) → Calls Try.prog 44 #[.slice (some ⟨g, 0, none⟩) 2 2] X fun e w' => ∃ v, e = .returned v ∧ w'.ownsRow X.heap.size 44 5 v (NBl ++ NAl).length (flat (NBl ++ NAl)) ∧ Below X.heap.size X w') := fun X g hX hg c0 c1 => by
        have hj : joined [(r1, d1, NBl), (r2, d2, NAl)] = NBl ++ NAl := by simp [joined]
        have := concat_any g 2 [(r1, d1, NBl), (r2, d2, NAl)] X (fun j hj => by
          have hj2 : j < 2 := hj
          match j, hj2 with
          | 0, _ => rw [← hn1] at c0; exact c0
          | 1, _ => rw [← hn2] at c1; exact c1) (fun j hj => by
          have hj2 : j < 2 := hj
          match j, hj2 with
          | 0, _ => exact FI.out.b.below hX
          | 1, _ => exact FI.out.a.below hX) hg (by simp) (by rw [hj, List.length_append]; omega)
        rw [hj] at this
        exact this
      have RM : Hid (∀ X, Below wr.heap.size wr X → Calls Try.prog 30 #[.agg #[.slice r1 n1 d1, .slice r2 n2 d2], .int .i64 xa] X (RemovePost X MB MA (xa, xac, xsd, xpr, xq))) := fun X hX => by
        have := remove_ok r1 r2 d1 d2 NBl NAl xa X (FI.out.b.below hX) (FI.out.a.below hX) RR.out (xa, xac, xsd, xpr, xq) TL.out.2.2
        rw [show without xa NBl = _ from TL.out.1, show without xa NAl = _ from TL.out.2.1, hn1, hn2] at this
        exact this
      have HFI := hide FI.out
      have XM : Hid ((xa, xac, xsd, xpr, xq) ∈ NBl ++ NAl) := hide (find_mem TL.out.2.2).1
      obtain ⟨tot, htot⟩ : ∃ t, t = n1 + n2 := ⟨_, rfl⟩
      have CT : Hid (tot ≤ 40) := by show tot ≤ 40; omega
      have LN : Hid ((NBl ++ NAl).length = tot) := by rw [List.length_append, hn1, hn2, htot]; rfl
      clear htot
      have ht40 : tot ≤ 40 := CT.out
      have hxsb : (xsd == sd) = false := by
        have := okOrder_sd HOK.out
        dsimp only [osd] at this
        simp
        omega
      have hacb : (xac == ac) = false := by simp [hac]
      have HXE := hide hxe
      have HCS := hide hcs
      have hpF' := hpF
      subst hpF'
      clear hfc hfk hnx SP hn1 hn2 hac hxe hsx hxo hNBl hNAl hcs TL hfew hMB hMA
      have alF := (Below.refl wr.heap.size wr).alloc (Nat.le_refl _) (.cells #[.int .i64 xa, .int .i64 a, .int .i64 xac, .int .i64 ac, .int .i64 sd, .int .i64 xpr, .int .i64 qq] 74)
      have CE : Hid (Cells (wr.alloc (.cells #[.int .i64 xa, .int .i64 a, .int .i64 xac, .int .i64 ac, .int .i64 sd, .int .i64 xpr, .int .i64 qq] 74)) [(⟨t11, 0, none⟩, .slice r1 n1 d1), (⟨t11, 1, none⟩, .slice r2 n2 d2), (⟨w.heap.size + 1, 0, none⟩, .int .i64 a), (⟨w.heap.size + 1, 1, none⟩, .int .i64 ac), (⟨w.heap.size + 1, 2, none⟩, .int .i64 sd), (⟨w.heap.size + 1, 3, none⟩, .int .i64 pr), (⟨w.heap.size + 1, 4, none⟩, .int .i64 q), (⟨wr.heap.size, 0, none⟩, .int .i64 xa), (⟨wr.heap.size, 1, none⟩, .int .i64 a), (⟨wr.heap.size, 2, none⟩, .int .i64 xac), (⟨wr.heap.size, 3, none⟩, .int .i64 ac), (⟨wr.heap.size, 5, none⟩, .int .i64 xpr), (⟨wr.heap.size, 6, none⟩, .int .i64 qq)]) :=
        ⟨cell_alloc i0 _, cell_alloc i1 _, cell_alloc m0 _, cell_alloc m1 _, cell_alloc m2 _, cell_alloc m3 _, cell_alloc m4 _, new_cell _ _ _ 0 _ rfl, new_cell _ _ _ 1 _ rfl, new_cell _ _ _ 2 _ rfl, new_cell _ _ _ 3 _ rfl, new_cell _ _ _ 5 _ rfl, new_cell _ _ _ 6 _ rfl, trivial⟩
      have ALF := hide alF
      obtain ⟨g0, g1, -, -, -, -, -, -, -, -, -, -, -, -⟩ := CE.out
      clear i0 i1 m0 m1 m2 m3 m4 y0 y1 alF hpF
      go_wp2_with fail
      refine (BS.out _ ALF.out).mono ?_
      rintro e w5 ⟨rfl, b5⟩
      have h5 : Hid (wr.heap.size < w5.heap.size) := by have := b5.size; simp at this; exact this
      have CE5 := hide (cells_below b5 CE.out)
      have B5 := hide (ALF.out.trans (b5.mono ALF.out.size))
      obtain ⟨g0, g1, -, -, -, -, -, g7, -, -, -, -, -, -⟩ := CE5.out
      clear f0 f1 f2 f3 f4 f5 f6 b5 CE ALF BS
      go_wp2_with fail
      refine (FN.out _ B5.out).mono ?_
      rintro e w6 ⟨rfl, b6⟩
      have al6 := (Below.refl w6.heap.size w6).alloc (Nat.le_refl _) (.cells #[.int .i64 xa, .int .i64 xac, .int .i64 xsd, .int .i64 xpr, .int .i64 xq] 44)
      have b6' := b6.trans (al6.mono b6.size)
      have CE6 := hide (cells_below b6' CE5.out)
      have B6r := hide (B5.out.trans (b6'.mono B5.out.size))
      have P18 : Hid (Five (w6.alloc (.cells #[.int .i64 xa, .int .i64 xac, .int .i64 xsd, .int .i64 xpr, .int .i64 xq] 44)) w6.heap.size) := ⟨_, _, _, _, _, heap_alloc_new _ _⟩
      have PC : Hid (Cells (w6.alloc (.cells #[.int .i64 xa, .int .i64 xac, .int .i64 xsd, .int .i64 xpr, .int .i64 xq] 44)) [(⟨w6.heap.size, 0, none⟩, .int .i64 xa), (⟨w6.heap.size, 1, none⟩, .int .i64 xac), (⟨w6.heap.size, 2, none⟩, .int .i64 xsd), (⟨w6.heap.size, 3, none⟩, .int .i64 xpr), (⟨w6.heap.size, 4, none⟩, .int .i64 xq)]) :=
        ⟨new_cell _ _ _ 0 _ rfl, new_cell _ _ _ 1 _ rfl, new_cell _ _ _ 2 _ rfl, new_cell _ _ _ 3 _ rfl, new_cell _ _ _ 4 _ rfl, trivial⟩
      have h18 : Hid (wr.heap.size < w6.heap.size ∧ t11 < wr.heap.size) := ⟨Nat.lt_of_lt_of_le h5.out b6.size, two_lt HFI.out.two⟩
      obtain ⟨g0, g1, o0, o1, o2, o3, o4, g7, g8, g9, g10, g12, g13, -⟩ := CE6.out
      obtain ⟨x0, x1, x2, x3, x4, -⟩ := PC.out
      have alC := (Below.refl (w6.alloc (.cells #[.int .i64 xa, .int .i64 xac, .int .i64 xsd, .int .i64 xpr, .int .i64 xq] 44)).heap.size (w6.alloc (.cells #[.int .i64 xa, .int .i64 xac, .int .i64 xsd, .int .i64 xpr, .int .i64 xq] 44))).alloc (Nat.le_refl _) (.cells #[.slice r1 n1 d1, .slice r2 n2 d2] 40)
      have B7 := hide (B6r.out.trans (alC.mono B6r.out.size))
      have CCc := CC.out _ (w6.alloc (.cells #[.int .i64 xa, .int .i64 xac, .int .i64 xsd, .int .i64 xpr, .int .i64 xq] 44)).heap.size B7.out (by simp) (new_cell _ _ _ _ _ rfl) (new_cell _ _ _ _ _ rfl)
      have CE7 := hide (cells_below alC CE6.out)
      have PC7 := hide (cells_below alC PC.out)
      have P187 := hide (five_below P18.out alC)
      have hsz6 : (w6.alloc (.cells #[.int .i64 xa, .int .i64 xac, .int .i64 xsd, .int .i64 xpr, .int .i64 xq] 44)).heap.size = w6.heap.size + 1 := by simp
      rw [hsz6] at CCc
      have hmul : wrap64 (wrap64 (xpr - pr) * sd) ≤ 0 := by
        have hp := okOrder_pq HOK.out
        have hs := okOrder_sd HOK.out
        have hx := HXE.out
        dsimp only [opr, osd, oqt] at hp hs hxpq
        unfold xes at hx
        dsimp only [osd, opr] at hx
        rcases hs with e | e
        · rw [if_pos e] at hx
          simp at hx
          rw [e, wrap_in (xpr - pr) (by omega), Int.mul_one, wrap_in _ (by omega)]
          omega
        · rw [if_neg (by omega)] at hx
          simp at hx
          rw [e, wrap_in (xpr - pr) (by omega), wrap_in _ (by omega)]
          omega
      clear b6 b6' al6 alC CE5 B5 FN CE6 PC P18 hsz6
      go_wp2_with fail
      refine CCc.mono ?_
      rintro e w7 ⟨v, rfl, hown, b7⟩
      obtain ⟨pq, cq, rfl, hovq, -⟩ := own_ov hown
      rw [LN.out]
      have CE8 := hide (cells_below b7 CE7.out)
      have PC8 := hide (cells_below b7 PC7.out)
      have P188 := hide (five_below P187.out b7)
      have B8 := hide (B7.out.trans (b7.mono B7.out.size))
      have Z7 : Hid (w6.heap.size < w7.heap.size) := five_lt P188.out
      obtain ⟨qb, qo, hpq, hqc⟩ : ∃ b off, pq = some ⟨b, off, none⟩ ∧ ∀ j, j < (NBl ++ NAl).length → ∀ i v, (enc (NBl ++ NAl)[j]!)[i]? = some v → w7.cell? ⟨b, off + j * 5 + i, none⟩ = some v := by
        rcases hovq.row with e | e
        · have := XM.out; rw [e] at this; cases this
        · exact e
      subst hpq
      have HQC := hide hqc
      clear hown b7 hovq hqc CE7 PC7 P187 B7 CCc CC g0 g1 g7 g8 g9 g10 g12 g13 o0 o1 o2 o3 o4 x0 x1 x2 x3 x4 hmul B6r XM
      go_wp2
      obtain ⟨wo, hwo⟩ : ∃ wo, wo = wr := ⟨_, rfl⟩
      subst hwo
      go_loopw [175] (fun j wj => ∃ jj : Nat, j = .int .i64 jj ∧ jj ≤ tot ∧ Hid (Below w7.heap.size w7 wj)) (fun j _ => tot - (intOf j).toNat)
      case atStart => exact ⟨0, rfl, Nat.zero_le _, Below.refl _ _⟩
      case round =>
        obtain ⟨jj, rfl, hj, BJ⟩ := hrel
        by_cases hjl : jj < tot
        · have hjz : (jj : Int) < (tot : Int) := by omega
          obtain ⟨q0, q1, q2, q3, q4⟩ := orow_cells HQC.out (j := jj) (by rw [LN.out]; exact hjl)
          have hym : (NBl ++ NAl)[jj]! ∈ NBl ++ NAl := by rw [getElem!_pos _ jj (by rw [LN.out]; exact hjl)]; exact List.getElem_mem _
          have YF := hide (FQ.out _ hym)
          generalize (NBl ++ NAl)[jj]! = y at q0 q1 q2 q3 q4 YF
          obtain ⟨ya, yac, ysd, ypr, yq⟩ := y
          dsimp only [oid, oac, osd, opr, oqt] at q0 q1 q2 q3 q4 YF
          have up := fun (x : Addr) (v : Value) (hx : w7.cell? x = some v) => (BJ.out.cell (World.block_lt_of_cell? _ _ hx)).trans hx
          have q0' := up _ _ q0
          have q1' := up _ _ q1
          have q2' := up _ _ q2
          have q3' := up _ _ q3
          have q4' := up _ _ q4
          obtain ⟨x0, x1, x2, x3, x4, -⟩ := cells_below BJ.out PC8.out
          have v0 := cell_alloc x0 (.cells #[.int .i64 ya, .int .i64 yac, .int .i64 ysd, .int .i64 ypr, .int .i64 yq] 44)
          have v1 := cell_alloc x1 (.cells #[.int .i64 ya, .int .i64 yac, .int .i64 ysd, .int .i64 ypr, .int .i64 yq] 44)
          have v2 := cell_alloc x2 (.cells #[.int .i64 ya, .int .i64 yac, .int .i64 ysd, .int .i64 ypr, .int .i64 yq] 44)
          have v3 := cell_alloc x3 (.cells #[.int .i64 ya, .int .i64 yac, .int .i64 ysd, .int .i64 ypr, .int .i64 yq] 44)
          have v4 := cell_alloc x4 (.cells #[.int .i64 ya, .int .i64 yac, .int .i64 ysd, .int .i64 ypr, .int .i64 yq] 44)
          have BJ2 := hide (BJ.out.alloc BJ.out.size (.cells #[.int .i64 ya, .int .i64 yac, .int .i64 ysd, .int .i64 ypr, .int .i64 yq] 44))
          clear up q0 q1 q2 q3 q4 x0 x1 x2 x3 x4 hym
          by_cases hsS : ysd = xsd
          · by_cases hiS : ya = xa
            · clear YF
              subst hsS
              subst hiS
              go_wp2
              go_roundw
              case rel => exact ⟨jj + 1, by go_num, by omega, BJ2⟩
              case measure => simp [intOf]; omega
            · have hb2 : (ya == xa) = false := by simp [hiS]
              have hah := YF.out hsS hiS
              have AH := fun W => ahead_grow ya yac ysd ypr yq xa xac xsd xpr xq W
              rw [hah] at AH
              clear YF hah
              subst hsS
              go_wp2_with fail
              refine (AH _).mono ?_
              rintro e wa ⟨rfl, ka, osa, rfl⟩
              have BJ3 := hide (BJ2.out.trans ((grow_below _ ka osa).mono BJ2.out.size))
              go_wp2
              go_roundw
              case rel => exact ⟨jj + 1, by go_num, by omega, BJ3⟩
              case measure => simp [intOf]; omega
          · have hb1 : (ysd == xsd) = false := by simp [hsS]
            clear hsS YF
            go_wp2
            go_roundw
            case rel => exact ⟨jj + 1, by go_num, by omega, BJ2⟩
            case measure => simp [intOf]; omega
        · have hje : jj = tot := by omega
          subst hje
          have CE9 := hide (cells_below BJ.out CE8.out)
          have PC9 := hide (cells_below BJ.out PC8.out)
          have P9 := hide (five_below P188.out BJ.out)
          have B9 := hide (B8.out.trans (BJ.out.mono B8.out.size))
          have Z9 : Hid (w6.heap.size < wr.heap.size) := Nat.lt_of_lt_of_le Z7.out BJ.out.size
          obtain ⟨g0, g1, -, -, -, -, -, g7, -, -, -, -, g13, -⟩ := CE9.out
          clear CE8 PC8 P188 BJ B8 HQC FQ
          go_wp2_with fail
          refine (RM.out _ B9.out).mono ?_
          rintro e w10 ⟨p3, c3, p4, c4, rfl, o3, o4, b10, gg3, gg4⟩
          have al10 := ((Below.refl w10.heap.size w10).alloc (Nat.le_refl _) (.cells #[.slice p3 MB.length c3, .slice p4 MA.length c4] 42)).alloc (by simp) (.cells #[.int .i64 xa, .int .i64 xac, .int .i64 xsd, .int .i64 xpr, .int .i64 xq] 44)
          have b11 := b10.trans (al10.mono b10.size)
          have T23 := made2_two w10 (.slice p3 MB.length c3) (.slice p4 MA.length c4) (.cells #[.int .i64 xa, .int .i64 xac, .int .i64 xsd, .int .i64 xpr, .int .i64 xq] 44)
          have n230 := cell_alloc (new_cell w10 #[.slice p3 MB.length c3, .slice p4 MA.length c4] 42 0 _ rfl) (.cells #[.int .i64 xa, .int .i64 xac, .int .i64 xsd, .int .i64 xpr, .int .i64 xq] 44)
          have n231 := cell_alloc (new_cell w10 #[.slice p3 MB.length c3, .slice p4 MA.length c4] 42 1 _ rfl) (.cells #[.int .i64 xa, .int .i64 xac, .int .i64 xsd, .int .i64 xpr, .int .i64 xq] 44)
          have w3' := o3.below al10
          have w4' := o4.below al10
          have P10 := five_below P9.out b11
          obtain ⟨x0, x1, x2, x3, x4, -⟩ := cells_below b11 PC9.out
          obtain ⟨-, -, -, -, -, -, -, -, -, -, -, -, h13, -⟩ := cells_below b11 CE9.out
          have B11 := B9.out.trans (b11.mono B9.out.size)
          have z10 : w6.heap.size < w10.heap.size := Nat.lt_of_lt_of_le Z9.out b10.size
          have hL5 := five_last P10 x0 x1 x2 x3 (.int .i64 (xq - qq))
          have k13 : (((w10.alloc (.cells #[.slice p3 MB.length c3, .slice p4 MA.length c4] 42)).alloc (.cells #[.int .i64 xa, .int .i64 xac, .int .i64 xsd, .int .i64 xpr, .int .i64 xq] 44)).setCell ⟨w6.heap.size, 4, none⟩ (.int .i64 (xq - qq))).cell? ⟨wo.heap.size, 6, none⟩ = some (.int .i64 qq) := (set_other ((w10.alloc (.cells #[.slice p3 MB.length c3, .slice p4 MA.length c4] 42)).alloc (.cells #[.int .i64 xa, .int .i64 xac, .int .i64 xsd, .int .i64 xpr, .int .i64 xq] 44)) (t := w6.heap.size) (a := ⟨wo.heap.size, 6, none⟩) (by have := h18.out.1; simp; omega) 4 _).trans h13
          have k230 : (((w10.alloc (.cells #[.slice p3 MB.length c3, .slice p4 MA.length c4] 42)).alloc (.cells #[.int .i64 xa, .int .i64 xac, .int .i64 xsd, .int .i64 xpr, .int .i64 xq] 44)).setCell ⟨w6.heap.size, 4, none⟩ (.int .i64 (xq - qq))).cell? ⟨w10.heap.size, 0, none⟩ = some (.slice p3 MB.length c3) := (set_other ((w10.alloc (.cells #[.slice p3 MB.length c3, .slice p4 MA.length c4] 42)).alloc (.cells #[.int .i64 xa, .int .i64 xac, .int .i64 xsd, .int .i64 xpr, .int .i64 xq] 44)) (t := w6.heap.size) (a := ⟨w10.heap.size, 0, none⟩) (by simp; omega) 4 _).trans n230
          have k231 : (((w10.alloc (.cells #[.slice p3 MB.length c3, .slice p4 MA.length c4] 42)).alloc (.cells #[.int .i64 xa, .int .i64 xac, .int .i64 xsd, .int .i64 xpr, .int .i64 xq] 44)).setCell ⟨w6.heap.size, 4, none⟩ (.int .i64 (xq - qq))).cell? ⟨w10.heap.size, 1, none⟩ = some (.slice p4 MA.length c4) := (set_other ((w10.alloc (.cells #[.slice p3 MB.length c3, .slice p4 MA.length c4] 42)).alloc (.cells #[.int .i64 xa, .int .i64 xac, .int .i64 xsd, .int .i64 xpr, .int .i64 xq] 44)) (t := w6.heap.size) (a := ⟨w10.heap.size, 1, none⟩) (by simp; omega) 4 _).trans n231
          have T23' := hide (two_set1 (k := 4) T23 (show w10.heap.size ≠ w6.heap.size by omega) (.int .i64 (xq - qq)))
          have V3 := hide (ov_set (k := 4) (t := w6.heap.size) w3' (fun ad ha => by have := gg3 ad ha; have := Z9.out; omega) (.int .i64 (xq - qq)))
          have V4 := hide (ov_set (k := 4) (t := w6.heap.size) w4' (fun ad ha => by have := gg4 ad ha; have := Z9.out; omega) (.int .i64 (xq - qq)))
          have B12 : Hid (Below wo.heap.size wo (((w10.alloc (.cells #[.slice p3 MB.length c3, .slice p4 MA.length c4] 42)).alloc (.cells #[.int .i64 xa, .int .i64 xac, .int .i64 xsd, .int .i64 xpr, .int .i64 xq] 44)).setCell ⟨w6.heap.size, 4, none⟩ (.int .i64 (xq - qq)))) := B11.setCell (by show wo.heap.size ≤ w6.heap.size; have := h18.out.1; omega) _
          have G3 : Hid (∀ ad, p3 = some ad → wo.heap.size ≤ ad.block) := fun ad ha => by have := gg3 ad ha; have := h18.out.1; have := Z9.out; omega
          have G4 : Hid (∀ ad, p4 = some ad → wo.heap.size ≤ ad.block) := fun ad ha => by have := gg4 ad ha; have := h18.out.1; have := Z9.out; omega
          have Z10 := hide z10
          obtain ⟨l0, l1, l2, l3, l4⟩ := hL5
          obtain ⟨-, u0', u1', u2', u3', u4'⟩ := five_facts P10
          clear b10 al10 b11 T23 n230 n231 w3' w4' P10 B11 gg3 gg4 o3 o4 CE9 PC9 P9 B9 g0 g1 g7 RM z10
          by_cases hql : qq < xq
          · have hpos : 0 < xq - qq := by omega
            obtain ⟨mr, rb, ra⟩ := RST.out (by omega) hql
            have RS := rest_any p3 p4 c3 c4 MB MA (less (xa, xac, xsd, xpr, xq) qq) _ V3.out V4.out mr
            rw [rb, ra] at RS
            obtain ⟨NF⟩ : Nonempty (Fair bids asks (a, ac, sd, pr, q) (F1 ++ [fillOf (xa, xac, xsd, xpr, xq) (a, ac, sd, pr, q) qq]) (l - qq) (less (xa, xac, xsd, xpr, xq) qq :: Y')) := by
              rcases NX.out with ⟨e, _⟩ | ⟨_, f⟩
              · exact absurd e (by show ¬ qq = xq; omega)
              · exact ⟨f⟩
            have NFH := hide NF
            obtain ⟨QB, hQB⟩ : ∃ z, z = nowB bids (a, ac, sd, pr, q) (less (xa, xac, xsd, xpr, xq) qq :: Y') := ⟨_, rfl⟩
            obtain ⟨QA, hQA⟩ : ∃ z, z = nowA asks (a, ac, sd, pr, q) (less (xa, xac, xsd, xpr, xq) qq :: Y') := ⟨_, rfl⟩
            rw [← hQB, ← hQA] at RS
            have EQB := hide hQB
            have EQA := hide hQA
            have SK : Hid ((F1 ++ [fillOf (xa, xac, xsd, xpr, xq) (a, ac, sd, pr, q) qq]).length = k + 1 ∧ s + qq = L + sumQ (F1 ++ [fillOf (xa, xac, xsd, xpr, xq) (a, ac, sd, pr, q) qq])) := by
              refine ⟨by rw [List.length_append, KS.out.1]; rfl, ?_⟩
              rw [sumQ_snoc, KS.out.2]
              show L + sumQ F1 + qq = L + (sumQ F1 + qq)
              omega
            have hsm : s + qq ≤ 2000 := by
              have h1 := NFH.out.sum
              have h2 := NFH.out.t.pos
              have h3 := (okOrder_pq HOK.out).2.2
              have h4 := SK.out.2
              dsimp only [oqt] at h1 h3
              omega
            clear mr rb ra NF hQB hQA
            go_wp2_with fail
            refine RS.mono ?_
            rintro e w12 ⟨p5, c5, p6, c6, rfl, o5, o6, b12, gg5, gg6⟩
            have T12 := hide (two_below T23'.out b12)
            have B13 := B12.out.trans (b12.mono B12.out.size)
            have j13 := (b12.cell (World.block_lt_of_cell? _ _ k13)).trans k13
            have tl23 : w10.heap.size < (((w10.alloc (.cells #[.slice p3 MB.length c3, .slice p4 MA.length c4] 42)).alloc (.cells #[.int .i64 xa, .int .i64 xac, .int .i64 xsd, .int .i64 xpr, .int .i64 xq] 44)).setCell ⟨w6.heap.size, 4, none⟩ (.int .i64 (xq - qq))).heap.size := two_lt T23'.out
            have hwo := h18.out.1
            have hw6 := Z10.out
            obtain ⟨a0, a1, t0, t1, t2, t3⟩ := two_facts T12.out
            obtain ⟨s0, s1⟩ := two_set T12.out (.slice p5 QB.length c5) (.slice p6 QA.length c6)
            have j13' : ((w12.setCell ⟨w10.heap.size, 0, none⟩ (.slice p5 QB.length c5)).setCell ⟨w10.heap.size, 1, none⟩ (.slice p6 QA.length c6)).cell? ⟨wo.heap.size, 6, none⟩ = some (.int .i64 qq) :=
              (set_other _ (t := w10.heap.size) (a := ⟨wo.heap.size, 6, none⟩) (by simp; omega) 1 _).trans ((set_other _ (t := w10.heap.size) (a := ⟨wo.heap.size, 6, none⟩) (by simp; omega) 0 _).trans j13)
            have V5 := ov_two o5 (t := w10.heap.size) (fun ad ha => by have := gg5 ad ha; omega) (.slice p5 QB.length c5) (.slice p6 QA.length c6)
            have V6 := ov_two o6 (t := w10.heap.size) (fun ad ha => by have := gg6 ad ha; omega) (.slice p5 QB.length c5) (.slice p6 QA.length c6)
            have B14 := two_below_set B13 (show wo.heap.size ≤ w10.heap.size by omega) (.slice p5 QB.length c5) (.slice p6 QA.length c6)
            have NI := hide (HFI.out.next B14 V5 V6 (fun ad ha => by have := gg5 ad ha; omega) (fun ad ha => by have := gg6 ad ha; omega))
            obtain ⟨b0, b1, e0, e1, e2, e3⟩ := two_facts (HFI.out.below B14).two
            clear b12 B13 tl23 hwo hw6 V5 V6 B14 o5 o6 gg5 gg6 k13 k230 k231 l0 l1 l2 l3 l4 u0' u1' u2' u3' u4' x0 x1 x2 x3 x4 h13 j13 T12 RS
            go_wp2_with fail
            go_region
            go_wp2
            go_roundw
            case rel => exact ⟨k + 1, F1 ++ [fillOf (xa, xac, xsd, xpr, xq) (a, ac, sd, pr, q) qq], l - qq, _, p5, p6, c5, c6, s + qq, by go_num, rfl, by omega, by omega, by omega, SK, NFH, by rw [← EQB.out, ← EQA.out]; exact hide NI.out.drew⟩
            case measure => simp [intOf]; omega
          · have hqe : qq = xq := by omega
            have hpos : ¬ 0 < xq - qq := by omega
            obtain ⟨NF⟩ : Nonempty (Fair bids asks (a, ac, sd, pr, q) (F1 ++ [fillOf (xa, xac, xsd, xpr, xq) (a, ac, sd, pr, q) qq]) (l - qq) Y') := by
              rcases NX.out with ⟨_, f⟩ | ⟨e, _⟩
              · exact ⟨f⟩
              · exact absurd e (by show ¬ qq < xq; omega)
            have NFH := hide NF
            have SK : Hid ((F1 ++ [fillOf (xa, xac, xsd, xpr, xq) (a, ac, sd, pr, q) qq]).length = k + 1 ∧ s + qq = L + sumQ (F1 ++ [fillOf (xa, xac, xsd, xpr, xq) (a, ac, sd, pr, q) qq])) := by
              refine ⟨by rw [List.length_append, KS.out.1]; rfl, ?_⟩
              rw [sumQ_snoc, KS.out.2]
              show L + sumQ F1 + qq = L + (sumQ F1 + qq)
              omega
            have hsm : s + qq ≤ 2000 := by
              have h1 := NFH.out.sum
              have h2 := NFH.out.t.pos
              have h3 := (okOrder_pq HOK.out).2.2
              have h4 := SK.out.2
              dsimp only [oqt] at h1 h3
              omega
            have NI := hide (HFI.out.next B12.out V3.out V4.out G3.out G4.out)
            obtain ⟨b0, b1, e0, e1, e2, e3⟩ := two_facts (HFI.out.below B12.out).two
            have hz : Hid (qq = xq) := hqe
            clear NF hqe l0 l1 l2 l3 x0 x1 x2 x3
            go_wp2_with fail
            go_region
            go_wp2
            go_roundw
            case rel => exact ⟨k + 1, F1 ++ [fillOf (xa, xac, xsd, xpr, xq) (a, ac, sd, pr, q) qq], l - qq, _, p3, p4, c3, c4, s + qq, by go_num, rfl, by omega, by omega, by omega, SK, NFH, by rw [← EMB.out, ← EMA.out]; exact hide NI.out.drew⟩
            case measure => simp [intOf]; omega
    · have hke : k = F.length := by omega
      have hdn := FR.out.done (by rw [KS.out.1, hke, EF.out])
      obtain ⟨dB, dA, dl, dF⟩ := hdn
      rw [dB, dA] at FI
      have hsum := FR.out.sum
      have hpos := FR.out.t.pos
      rw [dl] at hsum hpos
      rw [dF] at hsum
      dsimp only [oqt] at hsum
      have hks := KS.out.2
      rw [dF, EL.out] at hks
      have hqq := (okOrder_pq HOK.out).2.2
      dsimp only [oqt] at hqq
      have hx1 := HCR.out.few
      have BWr := hide (BV.out wr FI.out.bel)
      have BWw := hide (B6.out wr FI.out.bel)
      have OX1 := hide (V1.out.below BWr.out)
      have OX2 := hide (V2.out.below BWr.out)
      have i0 := FI.out.c0
      have i1 := FI.out.c1
      have hp3 := HP3.out
      have hF1 : sumQ F = 0 → F = F := fun _ => rfl
      obtain ⟨TB, hTB⟩ : ∃ z, z = takeB bids asks (a, ac, sd, pr, q) := ⟨_, rfl⟩
      obtain ⟨TA, hTA⟩ : ∃ z, z = takeA bids asks (a, ac, sd, pr, q) := ⟨_, rfl⟩
      have HMR2 := HMR.out
      have TN2 := TN.out
      rw [← hTB, ← hTA] at FI HMR2 TN2
      rw [← hTB] at i0
      rw [← hTA] at i1
      have ecb := ECB.out
      have eca := ECA.out
      unfold comeB at ecb
      unfold comeA at eca
      rw [← hTB] at ecb
      rw [← hTA] at eca
      have hsq : sumQ (takeT bids asks (a, ac, sd, pr, q)).2.1 = sumQ F := by rw [EF.out]
      rw [hsq] at hsum hks
      obtain ⟨left, hleft⟩ : ∃ z, z = (takeT bids asks (a, ac, sd, pr, q)).2.2.1 := ⟨_, rfl⟩
      rw [← hleft] at hsum hpos hks HMR2 ecb eca hp3
      have FF := hide FI.out
      obtain ⟨n1, hn1⟩ : ∃ n, TB.length = n := ⟨_, rfl⟩
      obtain ⟨n2, hn2⟩ : ∃ n, TA.length = n := ⟨_, rfl⟩
      obtain ⟨n3, hn3⟩ : ∃ n, CB.length = n := ⟨_, rfl⟩
      obtain ⟨n4, hn4⟩ : ∃ n, CA.length = n := ⟨_, rfl⟩
      have SMc : Hid (∀ X q1 q2 e1 e2 MB MA m1 m2, MB = CB → MA = CA → MB.length = m1 → MA.length = m2 → Below w2.heap.size w2 X → OV X q1 e1 MB → OV X q2 e2 MA → Calls Try.prog 39 #[.agg #[.slice q1 m1 e1, .slice q2 m2 e2], .agg #[.slice p1 n3 c1, .slice p2 n4 c2]] X fun e w' => e = .returned (.bool true) ∧ Below X.heap.size X w') := fun X q1 q2 e1 e2 MB MA m1 m2 h1 h2 h3 h4 hX hB hA => by
        subst h1 h2
        have := same_any q1 q2 p1 p2 e1 e2 c1 c2 MB MA MB MA X hB.row hA.row (V1.out.below hX).row (V2.out.below hX).row (by omega) (by omega) (by omega) (by omega)
        rw [decide_eq_true ⟨rfl, rfl⟩, hn3, hn4] at this
        rw [← h3, ← h4, hn3, hn4]
        exact this
      have FNc := find_any p1 p2 c1 c2 CB CA a wr OX1.out.row OX2.out.row (by omega) (by omega)
      rw [hn3, hn4] at FNc
      rw [hn1] at i0
      rw [hn2] at i1
      rw [hn3] at y0
      rw [hn4] at y1
      have N1 := hide hn1
      have N2 := hide hn2
      have N3 := hide hn3
      have N4 := hide hn4
      have ECB2 := hide ecb
      have ECA2 := hide eca
      rw [hn3]
      rw [hn4]
      clear FI dB dA dl dF hTB hTA hleft hn1 hn2 hn3 hn4 ecb eca OX1 OX2 hsq hF1 hx1
      cases hst : stays how left
      · exact absurd hst (by rw [hrev]; simp [stays])
      · have hL' : Hid (s = q) := by
          have : comeL how left = left := by unfold comeL; rw [hst]; rfl
          rw [this] at hks
          show s = q
          omega
        have eB : Hid (TB = CB) := by have := ECB2.out; rw [hst] at this; exact this.symm
        have eA : Hid (TA = CA) := by have := ECA2.out; rw [hst] at this; exact this.symm
        have hbe := bookErr_zero.2 HCR.out
        have hfi : findIn a CB CA = none := by rw [← eB.out, ← eA.out]; exact TN2
        rw [show findO CB CA a = noOdr by unfold findO; rw [if_pos hbe, hfi]; rfl, show findE CB CA a = 5 by unfold findE; rw [if_pos hbe, hfi]; rfl] at FNc
        have hsb' : (s == q) = true := by simp [hL'.out]
        have HF0 : Hid (how = 3 → 0 < F.length) := fun e => by
          have := hp3 e
          rcases Nat.eq_zero_or_pos F.length with h0 | h0
          · rw [List.eq_nil_of_length_eq_zero h0] at hsum
            simp [sumQ] at hsum
            omega
          · exact h0
        clear hbe hfi TN2 HMR2 hks hsum hp3 hst i0 i1 m1 m2 m3 m4
        by_cases h3 : how = 3
        · exact absurd h3 (by omega)
        · have h3b : (how == 3) = false := by simp [h3]
          go_wp2_with fail
          refine FNc.mono ?_
          rintro e w9 ⟨rfl, b9⟩
          have al9 := b9.trans (((Below.refl w9.heap.size w9).alloc (Nat.le_refl _) (.cells #[.int .i64 0, .int .i64 0, .int .i64 0, .int .i64 0, .int .i64 0] 44)).mono b9.size)
          have F9 := FF.out.below al9
          have i0 := F9.c0
          have i1 := F9.c1
          rw [N1.out] at i0
          rw [N2.out] at i1
          clear m0
          obtain ⟨m0, m1, m2, m3, m4, y0', y1'⟩ := OC.out _ F9.bel
          rw [N3.out] at y0'
          rw [N4.out] at y1'
          have z0 := new_cell w9 #[.int .i64 0, .int .i64 0, .int .i64 0, .int .i64 0, .int .i64 0] 44 0 _ rfl
          have SMx := SMc.out _ r1 r2 d1 d2 TB TA n1 n2 eB.out eA.out N1.out N2.out (BV.out _ F9.bel) F9.b F9.a
          have BE := hide (BWw.out.trans (al9.mono BWw.out.size))
          have hsq2 := hL'.out
          subst hsq2
          clear al9 F9 FNc b9 y0 y1
          go_wp2_with fail
          refine SMx.mono ?_
          rintro e w11 ⟨rfl, b11⟩
          have z0' := (b11.cell (World.block_lt_of_cell? _ _ z0)).trans z0
          have BE2 := hide (BE.out.trans (b11.mono BE.out.size))
          clear b11 SMx z0
          go_wp2
          go_ret
          exact ⟨rfl, BE2.out⟩
end Go.Proofs.Ytdlohodompommaa.Bk
