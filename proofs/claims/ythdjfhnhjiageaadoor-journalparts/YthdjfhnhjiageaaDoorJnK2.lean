/-
  JournalParts, walked to its end.
-/
import Derived.Test.YthdjfhnhjiageaaDoorJnK1
namespace Go.Proofs.YthdjfhnhjiageaaDoor.Tx
open Go.RowKit Go.Lib Go.Sort Go.Proofs.YthdjfhnhjiageaaDoor.Mix
theorem flatD_len (L : List Cd) : (L.flatMap encD).length = L.length * 11 := by
  induction L with
  | nil => rfl
  | cons c L ih => simp only [List.flatMap_cons, List.length_append, ih, List.length_cons]; simp; omega
theorem own_two {B : Nat} {V : World} {lv : Value} {L : List Cd} {a b : Cd} (h : OwnC B V lv (L ++ [a] ++ [b])) : ∃ g cap, lv = .slice (some ⟨g, 0, none⟩) (L.length + 2) cap ∧ ∀ X, Below V.heap.size V X → (∀ i v, (encD b)[i]? = some v → X.cell? ⟨g, (L.length + 1) * 11 + i, none⟩ = some v) ∧ ∀ i v, (encD a)[i]? = some v → X.cell? ⟨g, L.length * 11 + i, none⟩ = some v := by
  have hl : (L ++ [a] ++ [b]).length = L.length + 2 := by simp
  rcases h.2 with ⟨-, e⟩ | ⟨g, cap, cur, rfl, hb, hg, hnc, hm, hs, ht⟩
  · rw [hl] at e; omega
  · refine ⟨g, cap, by rw [hl], fun X hX => ?_⟩
    have hgX : X.heap[g]? = some (.cells cur 25 (0, 0)) := (hX.block g (Array.getElem?_eq_some_iff.1 hg).1).trans hg
    have get : ∀ j v, ((L ++ [a] ++ [b]).flatMap encD)[j]? = some v → X.cell? ⟨g, j, none⟩ = some v := fun j v hv => by
      rw [← ht, List.getElem?_take] at hv
      split at hv
      · simp only [World.cell?, hgX]
        simpa using hv
      · cases hv
    have la := flatD_len L
    constructor
    · intro i v hv
      refine get _ v ?_
      rw [List.flatMap_append, List.getElem?_append_right (by rw [flatD_len]; simp), flatD_len]
      simp only [List.length_append, List.length_cons, List.length_nil, Nat.zero_add, Nat.add_sub_cancel_left]
      simpa using hv
    · intro i v hv
      refine get _ v ?_
      have hi : i < 11 := (List.getElem?_eq_some_iff.1 hv).1
      rw [List.append_assoc, List.flatMap_append, List.getElem?_append_right (by rw [la]; omega), la, Nat.add_sub_cancel_left, List.flatMap_append, List.getElem?_append_left (by rw [flatD_len]; simpa using hi)]
      simpa using hv
set_option maxHeartbeats 16000000 in
set_option maxRecDepth 100000 in
theorem parts_D (p : Option Addr) (n c : Nat) (p' : Option Addr) (n' c' : Nat) (d : Dk) (c1 c2 : Cd) (w : World) (h : Bt w p n c d.safe) (h' : Bt w p' n' c' d.wait) (hn : n ≤ 140737488351232) (hn' : n' ≤ 140737488351232) (f1 : c1.fits) (f2 : c2.fits) (E : Env w)
    (x y z q q2 : Dk) (L : List Cd) (hx : putD d c1 = (x, 0)) (hxl : x.safe.length ≤ 20000) (hxl' : x.wait.length ≤ 20000) (hy : putD x c2 = (y, 0)) (hyl : y.safe.length ≤ 20000) (hyl' : y.wait.length ≤ 20000) (hz : syncD y = (z, 0)) (hzl : z.safe.length ≤ 20000) (hzl' : z.wait.length ≤ 20000)
    (hq : syncD x = (q, 0)) (hql : q.safe.length ≤ 20000) (hql' : q.wait.length ≤ 20000) (hq2 : putD q c2 = (q2, 0)) (hq2l : q2.safe.length ≤ 20000) (hq2l' : q2.wait.length ≤ 20000) (hq3 : syncD q2 = (z, 0)) (hc : crashD z 0 = (z, 0)) (hr : recD z = (z, L ++ [c1] ++ [c2], 0)) (hL : L.length ≤ 60) :
    Calls Tryd.prog 4 #[dkV p n c p' n' c', cdV c1, cdV c2] w fun e w' => e = .returned (.bool true) ∧ Below w.heap.size w w' := by
  have mixed : Tryd.prog.follows .mixedOrders = true := by kernel_rfl
  have eqc1 := eqC c1 c1
  have eqc2 := eqC c2 c2
  rw [sameC_iff.2 rfl] at eqc1 eqc2
  obtain ⟨W, hW⟩ : ∃ W, W = ((w.alloc (dkO (.slice p n c) (.slice p' n' c'))).alloc (cdO c1)).alloc (cdO c2) := ⟨_, rfl⟩
  have bW : Below w.heap.size w W := by rw [hW]; exact below3 w _ _ _
  have gW : Bx W w.heap.size p n c p' n' c' d := by
    have h0 : W.heap[w.heap.size]? = some (dkO (.slice p n c) (.slice p' n' c')) := by
      rw [hW]
      exact dk_below (dk_below (heap_alloc_new w _) (below_alloc _ _)) (below_alloc _ _)
    exact ⟨h0, h.below bW, h'.below bW⟩
  have tW : CdAt W (w.heap.size + 1) c1 := by
    rw [hW]
    have := heap_alloc_new (w.alloc (dkO (.slice p n c) (.slice p' n' c'))) (cdO c1)
    simp only [World.size_alloc] at this
    exact cdAt_below this (below_alloc _ _)
  have uW : CdAt W (w.heap.size + 1 + 1) c2 := by
    rw [hW]
    have := heap_alloc_new ((w.alloc (dkO (.slice p n c) (.slice p' n' c'))).alloc (cdO c1)) (cdO c2)
    simp only [World.size_alloc] at this
    exact this
  have P1 := hide (put_any p n c p' n' c' d c1 W gW.one gW.two hn hn' f1 (E.below bW))
  have J1 : Hid (∀ X, Below w.heap.size w X → _) := fun X bX => journaled_any X (E.below bX)
  have HE := hide E
  have HW := hide hW
  have BW := hide bW
  have TW := hide tW
  have UW := hide uW
  have F2 := hide f2
  obtain ⟨g0, g1, -, -⟩ := dk_cell gW.box
  obtain ⟨k0, k1, k2, k3, k4, k5, k6, k7, k8, k9, k10⟩ := cd_all tW
  clear hW bW gW tW uW f1 f2 h h' hn hn' E
  rw [hx] at P1
  clear hx
  obtain ⟨kd, ka, km, kn, ki, ko, ks, kp, kq, kh, kr⟩ := c1
  obtain ⟨ld, la, lm, ln, li, lo, ls, lp, lq, lh, lr⟩ := c2
  go_enter Tryd.func4, Tryd.ntmps4
  go_wp2_with (rw [← HW.out])
  refine P1.out.mono ?_
  rintro e X ⟨⟨v, rfl, hdv⟩, bX⟩
  obtain ⟨px, nx, cx, px', nx', cx', rfl, hx1, hx2, -, -⟩ := hdv
  obtain ⟨V, hV⟩ : ∃ V, V = X.alloc (dkO (.slice px nx cx) (.slice px' nx' cx')) := ⟨_, rfl⟩
  have bV : Below X.heap.size X V := by rw [hV]; exact below_alloc X _
  have XB : Hid (Bx V X.heap.size px nx cx px' nx' cx' x) := by show Bx V _ _ _ _ _ _ _ _; rw [hV]; exact bx_new hx1 hx2
  have bWV := onward bX bV
  have BV := hide (onward BW.out bWV)
  have TV := hide (cdAt_below TW.out bWV)
  have UV := hide (cdAt_below UW.out bWV)
  have JV := hide (J1.out V BV.out)
  have HV := hide hV
  clear P1 HW BW TW UW hV bV bWV bX hx1 hx2 g0 g1 k0 k1 k2 k3 k4 k5 k6 k7 k8 k9 k10
  clear W
  go_wp2_with (rw [← HV.out])
  clear HV
  generalize X.heap.size = bx at *
  clear X
  refine JV.out.mono ?_
  rintro e X ⟨rfl, bX⟩
  have BX := hide (onward BV.out bX)
  have XX := hide (XB.out.below bX)
  have TX := hide (cdAt_below TV.out bX)
  have UX := hide (cdAt_below UV.out bX)
  clear JV BV XB TV UV bX
  clear V
  have P2 := hide (put_any px nx cx px' nx' cx' x ⟨ld, la, lm, ln, li, lo, ls, lp, lq, lh, lr⟩ X XX.out.one XX.out.two (bt_few XX.out.one _ (by omega)) (bt_few XX.out.two _ (by omega)) F2.out (HE.out.below BX.out))
  rw [hy] at P2
  obtain ⟨g0, g1, -, -⟩ := dk_cell XX.out.box
  obtain ⟨k0, k1, k2, k3, k4, k5, k6, k7, k8, k9, k10⟩ := cd_all UX.out
  clear hy J1
  go_wp2_with fail
  refine P2.out.mono ?_
  rintro e Z ⟨⟨v, rfl, hdv⟩, bZ⟩
  obtain ⟨py, ny, cy, py', ny', cy', rfl, hx1, hx2, -, -⟩ := hdv
  obtain ⟨V, hV⟩ : ∃ V, V = Z.alloc (dkO (.slice py ny cy) (.slice py' ny' cy')) := ⟨_, rfl⟩
  have bV : Below Z.heap.size Z V := by rw [hV]; exact below_alloc Z _
  have NB : Hid (Bx V Z.heap.size py ny cy py' ny' cy' y) := by show Bx V _ _ _ _ _ _ _ _; rw [hV]; exact bx_new hx1 hx2
  have bXV := onward bZ bV
  have BV := hide (onward BX.out bXV)
  have HV := hide hV
  clear P2 g0 g1 k0 k1 k2 k3 k4 k5 k6 k7 k8 k9 k10
  have XX2 := hide (XX.out.below bXV)
  have TX2 := hide (cdAt_below TX.out bXV)
  have UX2 := hide (cdAt_below UX.out bXV)
  clear XX TX UX BX bXV bZ bV hV hx1 hx2
  have XX := XX2
  have TX := TX2
  have UX := UX2
  have BX := BV
  clear XX2 TX2 UX2 BV
  have YV := NB
  clear NB
  have S3 := hide (sync_any py ny cy py' ny' cy' y V YV.out.one YV.out.two (bt_few YV.out.one _ (by omega)) (bt_few YV.out.two _ (by omega)) (HE.out.below BX.out))
  rw [hz] at S3
  obtain ⟨g0, g1, -, -⟩ := dk_cell YV.out.box
  clear hz YV
  go_wp2_with (rw [← HV.out])
  clear HV
  clear X
  generalize Z.heap.size = yb at *
  clear Z
  refine S3.out.mono ?_
  rintro e Z ⟨⟨v, rfl, hdv⟩, bZ⟩
  obtain ⟨X, hXX⟩ : ∃ X, X = V := ⟨_, rfl⟩
  subst hXX
  obtain ⟨pz, nz, cz, pz', nz', cz', rfl, hx1, hx2, -, -⟩ := hdv
  obtain ⟨V, hV⟩ : ∃ V, V = Z.alloc (dkO (.slice pz nz cz) (.slice pz' nz' cz')) := ⟨_, rfl⟩
  have bV : Below Z.heap.size Z V := by rw [hV]; exact below_alloc Z _
  have NB : Hid (Bx V Z.heap.size pz nz cz pz' nz' cz' z) := by show Bx V _ _ _ _ _ _ _ _; rw [hV]; exact bx_new hx1 hx2
  have bXV := onward bZ bV
  have BV := hide (onward BX.out bXV)
  have HV := hide hV
  clear S3 g0 g1
  have XX2 := hide (XX.out.below bXV)
  have TX2 := hide (cdAt_below TX.out bXV)
  have UX2 := hide (cdAt_below UX.out bXV)
  clear XX TX UX BX bXV bZ bV hV hx1 hx2
  have XX := XX2
  have TX := TX2
  have UX := UX2
  have BX := BV
  clear XX2 TX2 UX2 BV
  have ZV := NB
  clear NB
  have S4 := hide (sync_any px nx cx px' nx' cx' x V XX.out.one XX.out.two (bt_few XX.out.one _ (by omega)) (bt_few XX.out.two _ (by omega)) (HE.out.below BX.out))
  rw [hq] at S4
  obtain ⟨g0, g1, -, -⟩ := dk_cell XX.out.box
  clear hq XX
  go_wp2_with (rw [← HV.out])
  clear HV
  clear X
  generalize Z.heap.size = zb at *
  clear Z
  refine S4.out.mono ?_
  rintro e A ⟨⟨v, rfl, hdv⟩, bA⟩
  have ZA := hide (ZV.out.below bA)
  have TA := hide (cdAt_below TX.out bA)
  have UA := hide (cdAt_below UX.out bA)
  have BA := hide (onward BX.out bA)
  clear S4 g0 g1 ZV TX UX BX bA
  obtain ⟨pq, nq, cq, pq', nq', cq', rfl, hx1, hx2, -, -⟩ := hdv
  clear V
  obtain ⟨V, hV⟩ : ∃ V, V = A.alloc (dkO (.slice pq nq cq) (.slice pq' nq' cq')) := ⟨_, rfl⟩
  have bV : Below A.heap.size A V := by rw [hV]; exact below_alloc A _
  have QV : Hid (Bx V A.heap.size pq nq cq pq' nq' cq' q) := by show Bx V _ _ _ _ _ _ _ _; rw [hV]; exact bx_new hx1 hx2
  have UV := hide (cdAt_below UA.out bV)
  have HV := hide hV
  have SV : Hid (A.heap.size + 1 ≤ V.heap.size) := by show A.heap.size + 1 ≤ V.heap.size; rw [hV]; simp
  have BV := hide bV
  have P5 := hide (put_any pq nq cq pq' nq' cq' q ⟨ld, la, lm, ln, li, lo, ls, lp, lq, lh, lr⟩ V QV.out.one QV.out.two (bt_few QV.out.one _ (by omega)) (bt_few QV.out.two _ (by omega)) F2.out (HE.out.below (onward BA.out bV)))
  rw [hq2] at P5
  obtain ⟨g0, g1, -, -⟩ := dk_cell QV.out.box
  obtain ⟨k0, k1, k2, k3, k4, k5, k6, k7, k8, k9, k10⟩ := cd_all UV.out
  clear hV bV UV hx1 hx2 hq2
  go_wp2_with (rw [← HV.out])
  clear HV
  refine P5.out.mono ?_
  rintro e Z ⟨⟨v, rfl, hdv⟩, bZ⟩
  clear P5 g0 g1 k0 k1 k2 k3 k4 k5 k6 k7 k8 k9 k10
  obtain ⟨ps, ns, cs, ps', ns', cs', rfl, hs1, hs2, hm1, hm2⟩ := hdv
  have rz := dk_below QV.out.box bZ
  have hm1' := hm1.mono SV.out
  have hm2' := hm2.mono SV.out
  obtain ⟨U, hU⟩ : ∃ U, U = (Z.setCell ⟨A.heap.size, 0, none⟩ (.slice ps ns cs)).setCell ⟨A.heap.size, 1, none⟩ (.slice ps' ns' cs') := ⟨_, rfl⟩
  have bU : Below A.heap.size A U := by rw [hU]; exact ((onward BV.out bZ).setCell (Nat.le_refl _) _).setCell (Nat.le_refl _) _
  have QU : Hid (Bx U A.heap.size ps ns cs ps' ns' cs' q2) := by
    refine ⟨?_, ?_, ?_⟩
    · rw [hU]; exact dk_put rz _ _
    · rw [hU]; exact (hs1.set hm1' _ _).set hm1' _ _
    · rw [hU]; exact (hs2.set hm2' _ _).set hm2' _ _
  have SU : Hid (A.heap.size + 1 ≤ U.heap.size) := (Array.getElem?_eq_some_iff.1 QU.out.box).1
  obtain ⟨⟨u0, o0⟩, ⟨u1, o1⟩, fr0, fr1⟩ := dk_opq rz
  obtain ⟨g0, g1, -, -⟩ := dk_cell QU.out.box
  have HU := hide hU
  have BU := hide bU
  clear hs1 hs2 hm1 hm2 hm1' hm2' rz hU bU bZ QV SV BV
  have S6 := hide (sync_any ps ns cs ps' ns' cs' q2 U QU.out.one QU.out.two (bt_few QU.out.one _ (by omega)) (bt_few QU.out.two _ (by omega)) (HE.out.below (onward BA.out BU.out)))
  rw [hq3] at S6
  clear hq3
  go_wp2_with (rw [← HU.out])
  clear HU o0 o1 fr0 fr1 g0 g1
  clear Z V
  refine S6.out.mono ?_
  clear S6
  have QV := QU
  have SV := SU
  have BV := BU
  clear QU SU BU
  rintro e Z ⟨⟨v, rfl, hdv⟩, bZ⟩
  obtain ⟨ps, ns, cs, ps', ns', cs', rfl, hs1, hs2, hm1, hm2⟩ := hdv
  have rz := dk_below QV.out.box bZ
  have hm1' := hm1.mono SV.out
  have hm2' := hm2.mono SV.out
  obtain ⟨U, hU⟩ : ∃ U, U = (Z.setCell ⟨A.heap.size, 0, none⟩ (.slice ps ns cs)).setCell ⟨A.heap.size, 1, none⟩ (.slice ps' ns' cs') := ⟨_, rfl⟩
  have bU : Below A.heap.size A U := by rw [hU]; exact ((onward BV.out bZ).setCell (Nat.le_refl _) _).setCell (Nat.le_refl _) _
  have QU : Hid (Bx U A.heap.size ps ns cs ps' ns' cs' z) := by
    refine ⟨?_, ?_, ?_⟩
    · rw [hU]; exact dk_put rz _ _
    · rw [hU]; exact (hs1.set hm1' _ _).set hm1' _ _
    · rw [hU]; exact (hs2.set hm2' _ _).set hm2' _ _
  have SU : Hid (A.heap.size + 1 ≤ U.heap.size) := (Array.getElem?_eq_some_iff.1 QU.out.box).1
  obtain ⟨⟨u0, o0⟩, ⟨u1, o1⟩, fr0, fr1⟩ := dk_opq rz
  obtain ⟨g0, g1, -, -⟩ := dk_cell QU.out.box
  have HU := hide hU
  have BU := hide bU
  clear hs1 hs2 hm1 hm2 hm1' hm2' rz hU bU bZ QV SV BV
  have ZU := hide (ZA.out.below BU.out)
  obtain ⟨y0, y1, -, -⟩ := dk_cell ZU.out.box
  have e1 : ns = nz := by rw [← QU.out.one.len, ← ZU.out.one.len]
  have e2 : ns' = nz' := by rw [← QU.out.two.len, ← ZU.out.two.len]
  subst e1 e2
  have D7 := hide (sameDisk_any pz ns cz pz' ns' cz' ps cs ps' cs' z U ZU.out.one ZU.out.two QU.out.one QU.out.two (bt_few ZU.out.one _ (by omega)) (bt_few ZU.out.two _ (by omega)))
  go_wp2_with (rw [← HU.out])
  clear HU o0 o1 fr0 fr1 g0 g1 y0 y1
  clear Z
  refine D7.out.mono ?_
  rintro e X ⟨rfl, bX⟩
  have bAX := onward BU.out bX
  have BX := hide (onward BA.out bAX)
  have ZX := hide (ZA.out.below bAX)
  have TX := hide (cdAt_below TA.out bAX)
  have UX := hide (cdAt_below UA.out bAX)
  clear D7 bX bAX QU SU BU ZA TA UA BA ZU
  have S8 := hide (crash_any pz ns cz pz' ns' cz' z 0 X ZX.out.one ZX.out.two (bt_few ZX.out.one _ (by omega)) (bt_few ZX.out.two _ (by omega)) (HE.out.below BX.out))
  rw [hc] at S8
  obtain ⟨g0, g1, -, -⟩ := dk_cell ZX.out.box
  clear hc
  go_wp2_with fail
  refine S8.out.mono ?_
  rintro e Z ⟨⟨v, rfl, hdv⟩, bZ⟩
  obtain ⟨pk, nk, ck, pk', nk', ck', rfl, hx1, hx2, -, -⟩ := hdv
  obtain ⟨V, hV⟩ : ∃ V, V = Z.alloc (dkO (.slice pk nk ck) (.slice pk' nk' ck')) := ⟨_, rfl⟩
  have bV : Below Z.heap.size Z V := by rw [hV]; exact below_alloc Z _
  have NB : Hid (Bx V Z.heap.size pk nk ck pk' nk' ck' z) := by show Bx V _ _ _ _ _ _ _ _; rw [hV]; exact bx_new hx1 hx2
  have bXV := onward bZ bV
  have BV := hide (onward BX.out bXV)
  have HV := hide hV
  have ZV := hide (ZX.out.below bXV)
  have TV := hide (cdAt_below TX.out bXV)
  have UV := hide (cdAt_below UX.out bXV)
  have S9 := hide (recover_any pz ns cz pz' ns' cz' z V ZV.out.one ZV.out.two (bt_few ZV.out.one _ (by omega)) (bt_few ZV.out.two _ (by omega)) (HE.out.below BV.out))
  rw [hr] at S9
  clear S8 g0 g1 hr hV bV bXV bZ hx1 hx2 ZX TX UX BX
  obtain ⟨g0, g1, -, -⟩ := dk_cell ZV.out.box
  go_wp2_with (rw [← HV.out])
  clear HV g0 g1
  clear X
  generalize Z.heap.size = kb at *
  clear Z
  refine S9.out.mono ?_
  rintro e Z ⟨⟨v, lv, rfl, hdv, hown⟩, bZ⟩
  obtain ⟨X, hXX⟩ : ∃ X, X = V := ⟨_, rfl⟩
  subst hXX
  have BX := BV
  clear BV
  have KX := NB
  clear NB
  obtain ⟨pr, nr, cr, pr', nr', cr', rfl, hx1, hx2, -, -⟩ := hdv
  obtain ⟨V, hV⟩ : ∃ V, V = Z.alloc (dkO (.slice pr nr cr) (.slice pr' nr' cr')) := ⟨_, rfl⟩
  have bV : Below Z.heap.size Z V := by rw [hV]; exact below_alloc Z _
  have NB : Hid (Bx V Z.heap.size pr nr cr pr' nr' cr' z) := by show Bx V _ _ _ _ _ _ _ _; rw [hV]; exact bx_new hx1 hx2
  have bXV := onward bZ bV
  have BV := hide (onward BX.out bXV)
  have HV := hide hV
  have ZZ := hide (ZV.out.below bXV)
  have TZ := hide (cdAt_below TV.out bXV)
  have UZ := hide (cdAt_below UV.out bXV)
  have KZ := hide (KX.out.below bXV)
  have OZ := hide (own_on hown bV (Nat.le_refl _))
  clear S9 hV bV bXV bZ hx1 hx2 ZV TV UV BX KX hown
  obtain ⟨g, cap, rfl, OC⟩ := own_two OZ.out
  have OCH := hide OC
  clear OC OZ
  generalize L.length = N at *
  have e1 : nk = ns := by rw [← KZ.out.one.len, ← ZZ.out.one.len]
  have e2 : nk' = ns' := by rw [← KZ.out.two.len, ← ZZ.out.two.len]
  have e3 : nr = ns := by rw [← NB.out.one.len, ← ZZ.out.one.len]
  have e4 : nr' = ns' := by rw [← NB.out.two.len, ← ZZ.out.two.len]
  subst e1 e2 e3 e4
  have hC : ∀ q : InC (fun x => Below V.heap.size V x), Below V.heap.size V q.w := fun q => q.h
  generalize hCC : (fun x => Below V.heap.size V x) = C at hC
  have CS : ∀ x y, C x → Below x.heap.size x y → C y := by rw [← hCC]; exact fun x y hx hy => onward hx hy
  have C0 : Hid (C V.drew) := by rw [← hCC]; exact (Below.refl _ V).drew
  have CB := hide hC
  have K1 := hide (fun q : InC C => calls_inC CS q (sameDisk_any pk nr ck pk' nr' ck' pz cz pz' cz' z q.w (KZ.out.one.below (hC q)) (KZ.out.two.below (hC q)) (ZZ.out.one.below (hC q)) (ZZ.out.two.below (hC q)) (bt_few ZZ.out.one _ (by omega)) (bt_few ZZ.out.two _ (by omega))))
  have K2 := hide (fun q : InC C => calls_inC CS q (sameDisk_any pr nr cr pr' nr' cr' pz cz pz' cz' z q.w (NB.out.one.below (hC q)) (NB.out.two.below (hC q)) (ZZ.out.one.below (hC q)) (ZZ.out.two.below (hC q)) (bt_few ZZ.out.one _ (by omega)) (bt_few ZZ.out.two _ (by omega))))
  have kk0 : ∀ q : InC C, q.w.cell? ⟨kb, 0, none⟩ = some (.slice pk nr ck) := fun q => (dk_cell (KZ.out.below (hC q)).box).1
  have kk1 : ∀ q : InC C, q.w.cell? ⟨kb, 1, none⟩ = some (.slice pk' nr' ck') := fun q => (dk_cell (KZ.out.below (hC q)).box).2.1
  have kz0 : ∀ q : InC C, q.w.cell? ⟨zb, 0, none⟩ = some (.slice pz nr cz) := fun q => (dk_cell (ZZ.out.below (hC q)).box).1
  have kz1 : ∀ q : InC C, q.w.cell? ⟨zb, 1, none⟩ = some (.slice pz' nr' cz') := fun q => (dk_cell (ZZ.out.below (hC q)).box).2.1
  have kr0 : ∀ q : InC C, q.w.cell? ⟨Z.heap.size, 0, none⟩ = some (.slice pr nr cr) := fun q => (dk_cell (NB.out.below (hC q)).box).1
  have kr1 : ∀ q : InC C, q.w.cell? ⟨Z.heap.size, 1, none⟩ = some (.slice pr' nr' cr') := fun q => (dk_cell (NB.out.below (hC q)).box).2.1
  have t0 : ∀ q : InC C, q.w.cell? ⟨w.heap.size + 1, 0, none⟩ = some (.int .i64 kd) := fun q => cd_cells TZ.out (hC q) 0 rfl
  have t1 : ∀ q : InC C, q.w.cell? ⟨w.heap.size + 1, 1, none⟩ = some (.int .i64 ka) := fun q => cd_cells TZ.out (hC q) 1 rfl
  have t2 : ∀ q : InC C, q.w.cell? ⟨w.heap.size + 1, 2, none⟩ = some (.int .i64 km) := fun q => cd_cells TZ.out (hC q) 2 rfl
  have t3 : ∀ q : InC C, q.w.cell? ⟨w.heap.size + 1, 3, none⟩ = some (.int .i64 kn) := fun q => cd_cells TZ.out (hC q) 3 rfl
  have t4 : ∀ q : InC C, q.w.cell? ⟨w.heap.size + 1, 4, none⟩ = some (.int .i64 ki) := fun q => cd_cells TZ.out (hC q) 4 rfl
  have t5 : ∀ q : InC C, q.w.cell? ⟨w.heap.size + 1, 5, none⟩ = some (.int .i64 ko) := fun q => cd_cells TZ.out (hC q) 5 rfl
  have t6 : ∀ q : InC C, q.w.cell? ⟨w.heap.size + 1, 6, none⟩ = some (.int .i64 ks) := fun q => cd_cells TZ.out (hC q) 6 rfl
  have t7 : ∀ q : InC C, q.w.cell? ⟨w.heap.size + 1, 7, none⟩ = some (.int .i64 kp) := fun q => cd_cells TZ.out (hC q) 7 rfl
  have t8 : ∀ q : InC C, q.w.cell? ⟨w.heap.size + 1, 8, none⟩ = some (.int .i64 kq) := fun q => cd_cells TZ.out (hC q) 8 rfl
  have t9 : ∀ q : InC C, q.w.cell? ⟨w.heap.size + 1, 9, none⟩ = some (.int .i64 kh) := fun q => cd_cells TZ.out (hC q) 9 rfl
  have t10 : ∀ q : InC C, q.w.cell? ⟨w.heap.size + 1, 10, none⟩ = some (.bool kr) := fun q => cd_cells TZ.out (hC q) 10 rfl
  have u0 : ∀ q : InC C, q.w.cell? ⟨w.heap.size + 1 + 1, 0, none⟩ = some (.int .i64 ld) := fun q => cd_cells UZ.out (hC q) 0 rfl
  have u1 : ∀ q : InC C, q.w.cell? ⟨w.heap.size + 1 + 1, 1, none⟩ = some (.int .i64 la) := fun q => cd_cells UZ.out (hC q) 1 rfl
  have u2 : ∀ q : InC C, q.w.cell? ⟨w.heap.size + 1 + 1, 2, none⟩ = some (.int .i64 lm) := fun q => cd_cells UZ.out (hC q) 2 rfl
  have u3 : ∀ q : InC C, q.w.cell? ⟨w.heap.size + 1 + 1, 3, none⟩ = some (.int .i64 ln) := fun q => cd_cells UZ.out (hC q) 3 rfl
  have u4 : ∀ q : InC C, q.w.cell? ⟨w.heap.size + 1 + 1, 4, none⟩ = some (.int .i64 li) := fun q => cd_cells UZ.out (hC q) 4 rfl
  have u5 : ∀ q : InC C, q.w.cell? ⟨w.heap.size + 1 + 1, 5, none⟩ = some (.int .i64 lo) := fun q => cd_cells UZ.out (hC q) 5 rfl
  have u6 : ∀ q : InC C, q.w.cell? ⟨w.heap.size + 1 + 1, 6, none⟩ = some (.int .i64 ls) := fun q => cd_cells UZ.out (hC q) 6 rfl
  have u7 : ∀ q : InC C, q.w.cell? ⟨w.heap.size + 1 + 1, 7, none⟩ = some (.int .i64 lp) := fun q => cd_cells UZ.out (hC q) 7 rfl
  have u8 : ∀ q : InC C, q.w.cell? ⟨w.heap.size + 1 + 1, 8, none⟩ = some (.int .i64 lq) := fun q => cd_cells UZ.out (hC q) 8 rfl
  have u9 : ∀ q : InC C, q.w.cell? ⟨w.heap.size + 1 + 1, 9, none⟩ = some (.int .i64 lh) := fun q => cd_cells UZ.out (hC q) 9 rfl
  have u10 : ∀ q : InC C, q.w.cell? ⟨w.heap.size + 1 + 1, 10, none⟩ = some (.bool lr) := fun q => cd_cells UZ.out (hC q) 10 rfl
  have hc2 := fun (q : InC C) i v hv => (OCH.out q.w (hC q)).1 i v hv
  have hc1 := fun (q : InC C) i v hv => (OCH.out q.w (hC q)).2 i v hv
  have HC1 := hide hc1
  have HC2 := hide hc2
  clear hc1 hc2 hC hCC CS KZ ZZ NB TZ UZ OCH
  obtain ⟨M, hM⟩ : ∃ M, M = N + 2 := ⟨_, rfl⟩
  rw [← hM]
  have HM := hide hM
  have hM1 : (1 : Int) < (M : Int) := by omega
  have hM2 : M ≤ 100 := by omega
  clear hM
  have v0 : ∀ q : InC C, q.w.cell? ⟨g, (M - 1) * 11, none⟩ = some (.int .i64 ld) := fun q => by rw [show M - 1 = N + 1 by rw [HM.out]; omega]; exact HC2.out q 0 _ rfl
  have v1 : ∀ q : InC C, q.w.cell? ⟨g, (M - 1) * 11 + 1, none⟩ = some (.int .i64 la) := fun q => by rw [show M - 1 = N + 1 by rw [HM.out]; omega]; exact HC2.out q 1 _ rfl
  have v2 : ∀ q : InC C, q.w.cell? ⟨g, (M - 1) * 11 + 2, none⟩ = some (.int .i64 lm) := fun q => by rw [show M - 1 = N + 1 by rw [HM.out]; omega]; exact HC2.out q 2 _ rfl
  have v3 : ∀ q : InC C, q.w.cell? ⟨g, (M - 1) * 11 + 3, none⟩ = some (.int .i64 ln) := fun q => by rw [show M - 1 = N + 1 by rw [HM.out]; omega]; exact HC2.out q 3 _ rfl
  have v4 : ∀ q : InC C, q.w.cell? ⟨g, (M - 1) * 11 + 4, none⟩ = some (.int .i64 li) := fun q => by rw [show M - 1 = N + 1 by rw [HM.out]; omega]; exact HC2.out q 4 _ rfl
  have v5 : ∀ q : InC C, q.w.cell? ⟨g, (M - 1) * 11 + 5, none⟩ = some (.int .i64 lo) := fun q => by rw [show M - 1 = N + 1 by rw [HM.out]; omega]; exact HC2.out q 5 _ rfl
  have v6 : ∀ q : InC C, q.w.cell? ⟨g, (M - 1) * 11 + 6, none⟩ = some (.int .i64 ls) := fun q => by rw [show M - 1 = N + 1 by rw [HM.out]; omega]; exact HC2.out q 6 _ rfl
  have v7 : ∀ q : InC C, q.w.cell? ⟨g, (M - 1) * 11 + 7, none⟩ = some (.int .i64 lp) := fun q => by rw [show M - 1 = N + 1 by rw [HM.out]; omega]; exact HC2.out q 7 _ rfl
  have v8 : ∀ q : InC C, q.w.cell? ⟨g, (M - 1) * 11 + 8, none⟩ = some (.int .i64 lq) := fun q => by rw [show M - 1 = N + 1 by rw [HM.out]; omega]; exact HC2.out q 8 _ rfl
  have v9 : ∀ q : InC C, q.w.cell? ⟨g, (M - 1) * 11 + 9, none⟩ = some (.int .i64 lh) := fun q => by rw [show M - 1 = N + 1 by rw [HM.out]; omega]; exact HC2.out q 9 _ rfl
  have v10 : ∀ q : InC C, q.w.cell? ⟨g, (M - 1) * 11 + 10, none⟩ = some (.bool lr) := fun q => by rw [show M - 1 = N + 1 by rw [HM.out]; omega]; exact HC2.out q 10 _ rfl
  have x0 : ∀ q : InC C, q.w.cell? ⟨g, (M - 2) * 11, none⟩ = some (.int .i64 kd) := fun q => by rw [show M - 2 = N by rw [HM.out]; omega]; exact HC1.out q 0 _ rfl
  have x1 : ∀ q : InC C, q.w.cell? ⟨g, (M - 2) * 11 + 1, none⟩ = some (.int .i64 ka) := fun q => by rw [show M - 2 = N by rw [HM.out]; omega]; exact HC1.out q 1 _ rfl
  have x2 : ∀ q : InC C, q.w.cell? ⟨g, (M - 2) * 11 + 2, none⟩ = some (.int .i64 km) := fun q => by rw [show M - 2 = N by rw [HM.out]; omega]; exact HC1.out q 2 _ rfl
  have x3 : ∀ q : InC C, q.w.cell? ⟨g, (M - 2) * 11 + 3, none⟩ = some (.int .i64 kn) := fun q => by rw [show M - 2 = N by rw [HM.out]; omega]; exact HC1.out q 3 _ rfl
  have x4 : ∀ q : InC C, q.w.cell? ⟨g, (M - 2) * 11 + 4, none⟩ = some (.int .i64 ki) := fun q => by rw [show M - 2 = N by rw [HM.out]; omega]; exact HC1.out q 4 _ rfl
  have x5 : ∀ q : InC C, q.w.cell? ⟨g, (M - 2) * 11 + 5, none⟩ = some (.int .i64 ko) := fun q => by rw [show M - 2 = N by rw [HM.out]; omega]; exact HC1.out q 5 _ rfl
  have x6 : ∀ q : InC C, q.w.cell? ⟨g, (M - 2) * 11 + 6, none⟩ = some (.int .i64 ks) := fun q => by rw [show M - 2 = N by rw [HM.out]; omega]; exact HC1.out q 6 _ rfl
  have x7 : ∀ q : InC C, q.w.cell? ⟨g, (M - 2) * 11 + 7, none⟩ = some (.int .i64 kp) := fun q => by rw [show M - 2 = N by rw [HM.out]; omega]; exact HC1.out q 7 _ rfl
  have x8 : ∀ q : InC C, q.w.cell? ⟨g, (M - 2) * 11 + 8, none⟩ = some (.int .i64 kq) := fun q => by rw [show M - 2 = N by rw [HM.out]; omega]; exact HC1.out q 8 _ rfl
  have x9 : ∀ q : InC C, q.w.cell? ⟨g, (M - 2) * 11 + 9, none⟩ = some (.int .i64 kh) := fun q => by rw [show M - 2 = N by rw [HM.out]; omega]; exact HC1.out q 9 _ rfl
  have x10 : ∀ q : InC C, q.w.cell? ⟨g, (M - 2) * 11 + 10, none⟩ = some (.bool kr) := fun q => by rw [show M - 2 = N by rw [HM.out]; omega]; exact HC1.out q 10 _ rfl
  clear HC1 HC2 HM
  go_wp2_with (rw [← HV.out])
  refine wp_region_inC C mixed (by kernel_rfl) C0.out ?_
  iterate 14 (go_big_quiet_step (first | (go_at_call 15; refine K1.out _) | exact rfl))
  repeat (go_big_quiet_step (first | (go_at_call 15; refine K2.out _) | exact rfl))
  refine wpQuiet_nil ?_
  rintro _ ⟨q6, rfl⟩
  have B2 := hide (onward BV.out (CB.out q6))
  go_wp2
  go_ret
  exact ⟨rfl, B2.out⟩
theorem parts_any (p : Option Addr) (n c : Nat) (p' : Option Addr) (n' c' : Nat) (d : Dk) (c1 c2 : Cd) (w : World) (h : Bt w p n c d.safe) (h' : Bt w p' n' c' d.wait) (hn : n ≤ 140737488351232) (hn' : n' ≤ 140737488351232) (f1 : c1.fits) (f2 : c2.fits) (E : Env w) :
    Calls Tryd.prog 4 #[dkV p n c p' n' c', cdV c1, cdV c2] w fun e w' => e = .returned (.bool true) ∧ Below w.heap.size w w' := by
  obtain ⟨⟨x, xe⟩, hx⟩ : ∃ r, putD d c1 = r := ⟨_, rfl⟩
  by_cases hxe : xe = 0
  · subst hxe
    obtain ⟨a1, a2, a3, a4⟩ := put_ok hx
    have xs : x.safe.length + x.wait.length ≤ 20000 := by rw [a4]; simp only [List.length_append] at a3 ⊢; omega
    obtain ⟨⟨y, ye⟩, hy⟩ : ∃ r, putD x c2 = r := ⟨_, rfl⟩
    by_cases hye : ye = 0
    · subst hye
      obtain ⟨b1, b2, b3, b4⟩ := put_ok hy
      have ys : y.safe.length + y.wait.length ≤ 20000 := by rw [b4]; simp only [List.length_append] at b3 ⊢; omega
      obtain ⟨⟨z, ze⟩, hz⟩ : ∃ r, syncD y = r := ⟨_, rfl⟩
      by_cases hze : ze = 0
      · subst hze
        have zs : z.safe.length + z.wait.length ≤ 20000 := by rw [(sync_ok hz).2.2]; simpa using ys
        obtain ⟨q, q2, L, e1, e2, e3, e4, e5⟩ := parts_plain f1 f2 hx hy hz
        have qs : q.safe.length + q.wait.length ≤ 20000 := by rw [(sync_ok e1).2.2]; simpa using xs
        obtain ⟨d1, d2, d3, d4⟩ := put_ok e2
        have q2s : q2.safe.length + q2.wait.length ≤ 20000 := by rw [d4]; simp only [List.length_append] at d3 ⊢; omega
        have hL : L.length ≤ 60 := by
          have h1 : (recD z).2.1 = L ++ [c1] ++ [c2] := by rw [e5]
          unfold recD at h1
          split at h1
          · simp at h1
          · have h2 := (read_num (z.safe ++ z.wait).length 0 (z.safe ++ z.wait) (by omega)).1
            have h3 := congrArg List.length h1
            unfold readL at h3
            simp only [List.length_append, List.length_cons, List.length_nil] at h3 h2
            omega
        exact parts_D p n c p' n' c' d c1 c2 w h h' hn hn' f1 f2 E x y z q q2 L hx (by omega) (by omega) hy (by omega) (by omega) hz (by omega) (by omega) e1 (by omega) (by omega) e2 (by omega) (by omega) e3 e4 e5 hL
      · have := sync_err y
        rw [hz] at this
        exact parts_C p n c p' n' c' d c1 c2 w h h' hn hn' f1 f2 E x y z ze hx (by omega) (by omega) hy (by omega) (by omega) hz (this.resolve_left hze)
    · exact parts_B p n c p' n' c' d c1 c2 w h h' hn hn' f1 f2 E x y ye hx (by omega) (by omega) hy hye
  · exact parts_A p n c p' n' c' d c1 c2 w h h' hn hn' f1 f2 E x xe hx hxe
end Go.Proofs.YthdjfhnhjiageaaDoor.Tx
