/-
  JournalParts, walked.
-/
import Derived.Test.YthdjfhnhjiageaaDoorJnJ
namespace Go.Proofs.YthdjfhnhjiageaaDoor.Tx
open Go.RowKit Go.Lib Go.Sort Go.Proofs.YthdjfhnhjiageaaDoor.Mix
theorem cd_all {X : World} {B : Nat} {c : Cd} (h : CdAt X B c) : X.cell? ⟨B, 0, none⟩ = some (.int .i64 c.kind) ∧ X.cell? ⟨B, 1, none⟩ = some (.int .i64 c.ac) ∧ X.cell? ⟨B, 2, none⟩ = some (.int .i64 c.mkt) ∧ X.cell? ⟨B, 3, none⟩ = some (.int .i64 c.n) ∧ X.cell? ⟨B, 4, none⟩ = some (.int .i64 c.oi) ∧ X.cell? ⟨B, 5, none⟩ = some (.int .i64 c.oa) ∧ X.cell? ⟨B, 6, none⟩ = some (.int .i64 c.sd) ∧ X.cell? ⟨B, 7, none⟩ = some (.int .i64 c.pr) ∧ X.cell? ⟨B, 8, none⟩ = some (.int .i64 c.qt) ∧ X.cell? ⟨B, 9, none⟩ = some (.int .i64 c.how) ∧ X.cell? ⟨B, 10, none⟩ = some (.bool c.red) := by
  simp [World.cell?, h]
/-- a disk in a box. -/
structure Bx (X : World) (b : Nat) (p : Option Addr) (n c : Nat) (p' : Option Addr) (n' c' : Nat) (d : Dk) : Prop where
  box : X.heap[b]? = some (dkO (.slice p n c) (.slice p' n' c'))
  one : Bt X p n c d.safe
  two : Bt X p' n' c' d.wait
theorem Bx.below {X Y : World} {b : Nat} {p : Option Addr} {n c : Nat} {p' : Option Addr} {n' c' : Nat} {d : Dk} (h : Bx X b p n c p' n' c' d) (hb : Below X.heap.size X Y) : Bx Y b p n c p' n' c' d := ⟨dk_below h.box hb, h.one.below hb, h.two.below hb⟩
theorem bx_new {X : World} {p : Option Addr} {n c : Nat} {p' : Option Addr} {n' c' : Nat} {d : Dk} (h1 : Bt X p n c d.safe) (h2 : Bt X p' n' c' d.wait) : Bx (X.alloc (dkO (.slice p n c) (.slice p' n' c'))) X.heap.size p n c p' n' c' d :=
  ⟨heap_alloc_new X _, h1.below (below_alloc X _), h2.below (below_alloc X _)⟩
theorem check_few {d : Dk} (h : checkD d = 0) : d.safe.length ≤ 20000 ∧ d.wait.length ≤ 20000 := by
  have := (check_zero h).1
  omega
set_option maxHeartbeats 8000000 in
set_option maxRecDepth 100000 in
theorem parts_A (p : Option Addr) (n c : Nat) (p' : Option Addr) (n' c' : Nat) (d : Dk) (c1 c2 : Cd) (w : World) (h : Bt w p n c d.safe) (h' : Bt w p' n' c' d.wait) (hn : n ≤ 140737488351232) (hn' : n' ≤ 140737488351232) (f1 : c1.fits) (f2 : c2.fits) (E : Env w)
    (x : Dk) (xe : Int) (hx : putD d c1 = (x, xe)) (hxe : ¬ xe = 0) :
    Calls Tryd.prog 4 #[dkV p n c p' n' c', cdV c1, cdV c2] w fun e w' => e = .returned (.bool true) ∧ Below w.heap.size w w' := by
  obtain ⟨W, hW⟩ : ∃ W, W = ((w.alloc (dkO (.slice p n c) (.slice p' n' c'))).alloc (cdO c1)).alloc (cdO c2) := ⟨_, rfl⟩
  have bW : Below w.heap.size w W := by rw [hW]; exact below3 w _ _ _
  have gW : Bx W w.heap.size p n c p' n' c' d := by
    have h0 : W.heap[w.heap.size]? = some (dkO (.slice p n c) (.slice p' n' c')) := by
      rw [hW]
      exact dk_below (dk_below (heap_alloc_new w _) (below_alloc _ _)) (below_alloc _ _)
    exact ⟨h0, h.below bW, h'.below bW⟩
  have tW : CdAt W (w.heap.size + 1) c1 := by
    rw [hW]
    have := heap_alloc_new (w.alloc (dkO (.slice p n c) (.slice p' n' c'))) (cdO c1)
    simp only [World.size_alloc] at this
    exact cdAt_below this (below_alloc _ _)
  have uW : CdAt W (w.heap.size + 1 + 1) c2 := by
    rw [hW]
    have := heap_alloc_new ((w.alloc (dkO (.slice p n c) (.slice p' n' c'))).alloc (cdO c1)) (cdO c2)
    simp only [World.size_alloc] at this
    exact this
  have P1 := hide (put_any p n c p' n' c' d c1 W gW.one gW.two hn hn' f1 (E.below bW))
  have J1 : Hid (∀ X, Below w.heap.size w X → _) := fun X bX => journaled_any X (E.below bX)
  have HE := hide E
  have HW := hide hW
  have BW := hide bW
  have TW := hide tW
  have UW := hide uW
  have F2 := hide f2
  obtain ⟨g0, g1, -, -⟩ := dk_cell gW.box
  obtain ⟨k0, k1, k2, k3, k4, k5, k6, k7, k8, k9, k10⟩ := cd_all tW
  clear hW bW gW tW uW f1 f2 h h' hn hn' E
  rw [hx] at P1
  clear hx
  obtain ⟨kd, ka, km, kn, ki, ko, ks, kp, kq, kh, kr⟩ := c1
  obtain ⟨ld, la, lm, ln, li, lo, ls, lp, lq, lh, lr⟩ := c2
  go_enter Tryd.func4, Tryd.ntmps4
  go_wp2_with (rw [← HW.out])
  refine P1.out.mono ?_
  rintro e X ⟨⟨v, rfl, hdv⟩, bX⟩
  obtain ⟨px, nx, cx, px', nx', cx', rfl, hx1, hx2, -, -⟩ := hdv
  obtain ⟨V, hV⟩ : ∃ V, V = X.alloc (dkO (.slice px nx cx) (.slice px' nx' cx')) := ⟨_, rfl⟩
  have bV : Below X.heap.size X V := by rw [hV]; exact below_alloc X _
  have XB : Hid (Bx V X.heap.size px nx cx px' nx' cx' x) := by show Bx V _ _ _ _ _ _ _ _; rw [hV]; exact bx_new hx1 hx2
  have bWV := onward bX bV
  have BV := hide (onward BW.out bWV)
  have TV := hide (cdAt_below TW.out bWV)
  have UV := hide (cdAt_below UW.out bWV)
  have JV := hide (J1.out V BV.out)
  have HV := hide hV
  clear P1 HW BW TW UW hV bV bWV bX hx1 hx2 g0 g1 k0 k1 k2 k3 k4 k5 k6 k7 k8 k9 k10
  clear W
  go_wp2_with (rw [← HV.out])
  clear HV
  generalize X.heap.size = bx at *
  clear X
  refine JV.out.mono ?_
  rintro e X ⟨rfl, bX⟩
  have BX := hide (onward BV.out bX)
  have XX := hide (XB.out.below bX)
  have TX := hide (cdAt_below TV.out bX)
  have UX := hide (cdAt_below UV.out bX)
  clear JV BV XB TV UV bX
  clear V
  have JX := hide (J1.out X BX.out)
  clear XX TX UX J1
  go_wp2_with fail
  refine JX.out.mono ?_
  rintro e Y ⟨rfl, bY⟩
  have BY := hide (onward BX.out bY)
  clear JX bY BX
  go_wp2
  go_ret
  exact ⟨rfl, BY.out⟩
set_option maxHeartbeats 8000000 in
set_option maxRecDepth 100000 in
theorem parts_B (p : Option Addr) (n c : Nat) (p' : Option Addr) (n' c' : Nat) (d : Dk) (c1 c2 : Cd) (w : World) (h : Bt w p n c d.safe) (h' : Bt w p' n' c' d.wait) (hn : n ≤ 140737488351232) (hn' : n' ≤ 140737488351232) (f1 : c1.fits) (f2 : c2.fits) (E : Env w)
    (x y : Dk) (ye : Int) (hx : putD d c1 = (x, 0)) (hxl : x.safe.length ≤ 20000) (hxl' : x.wait.length ≤ 20000) (hy : putD x c2 = (y, ye)) (hye : ¬ ye = 0) :
    Calls Tryd.prog 4 #[dkV p n c p' n' c', cdV c1, cdV c2] w fun e w' => e = .returned (.bool true) ∧ Below w.heap.size w w' := by
  obtain ⟨W, hW⟩ : ∃ W, W = ((w.alloc (dkO (.slice p n c) (.slice p' n' c'))).alloc (cdO c1)).alloc (cdO c2) := ⟨_, rfl⟩
  have bW : Below w.heap.size w W := by rw [hW]; exact below3 w _ _ _
  have gW : Bx W w.heap.size p n c p' n' c' d := by
    have h0 : W.heap[w.heap.size]? = some (dkO (.slice p n c) (.slice p' n' c')) := by
      rw [hW]
      exact dk_below (dk_below (heap_alloc_new w _) (below_alloc _ _)) (below_alloc _ _)
    exact ⟨h0, h.below bW, h'.below bW⟩
  have tW : CdAt W (w.heap.size + 1) c1 := by
    rw [hW]
    have := heap_alloc_new (w.alloc (dkO (.slice p n c) (.slice p' n' c'))) (cdO c1)
    simp only [World.size_alloc] at this
    exact cdAt_below this (below_alloc _ _)
  have uW : CdAt W (w.heap.size + 1 + 1) c2 := by
    rw [hW]
    have := heap_alloc_new ((w.alloc (dkO (.slice p n c) (.slice p' n' c'))).alloc (cdO c1)) (cdO c2)
    simp only [World.size_alloc] at this
    exact this
  have P1 := hide (put_any p n c p' n' c' d c1 W gW.one gW.two hn hn' f1 (E.below bW))
  have J1 : Hid (∀ X, Below w.heap.size w X → _) := fun X bX => journaled_any X (E.below bX)
  have HE := hide E
  have HW := hide hW
  have BW := hide bW
  have TW := hide tW
  have UW := hide uW
  have F2 := hide f2
  obtain ⟨g0, g1, -, -⟩ := dk_cell gW.box
  obtain ⟨k0, k1, k2, k3, k4, k5, k6, k7, k8, k9, k10⟩ := cd_all tW
  clear hW bW gW tW uW f1 f2 h h' hn hn' E
  rw [hx] at P1
  clear hx
  obtain ⟨kd, ka, km, kn, ki, ko, ks, kp, kq, kh, kr⟩ := c1
  obtain ⟨ld, la, lm, ln, li, lo, ls, lp, lq, lh, lr⟩ := c2
  go_enter Tryd.func4, Tryd.ntmps4
  go_wp2_with (rw [← HW.out])
  refine P1.out.mono ?_
  rintro e X ⟨⟨v, rfl, hdv⟩, bX⟩
  obtain ⟨px, nx, cx, px', nx', cx', rfl, hx1, hx2, -, -⟩ := hdv
  obtain ⟨V, hV⟩ : ∃ V, V = X.alloc (dkO (.slice px nx cx) (.slice px' nx' cx')) := ⟨_, rfl⟩
  have bV : Below X.heap.size X V := by rw [hV]; exact below_alloc X _
  have XB : Hid (Bx V X.heap.size px nx cx px' nx' cx' x) := by show Bx V _ _ _ _ _ _ _ _; rw [hV]; exact bx_new hx1 hx2
  have bWV := onward bX bV
  have BV := hide (onward BW.out bWV)
  have TV := hide (cdAt_below TW.out bWV)
  have UV := hide (cdAt_below UW.out bWV)
  have JV := hide (J1.out V BV.out)
  have HV := hide hV
  clear P1 HW BW TW UW hV bV bWV bX hx1 hx2 g0 g1 k0 k1 k2 k3 k4 k5 k6 k7 k8 k9 k10
  clear W
  go_wp2_with (rw [← HV.out])
  clear HV
  generalize X.heap.size = bx at *
  clear X
  refine JV.out.mono ?_
  rintro e X ⟨rfl, bX⟩
  have BX := hide (onward BV.out bX)
  have XX := hide (XB.out.below bX)
  have TX := hide (cdAt_below TV.out bX)
  have UX := hide (cdAt_below UV.out bX)
  clear JV BV XB TV UV bX
  clear V
  have P2 := hide (put_any px nx cx px' nx' cx' x ⟨ld, la, lm, ln, li, lo, ls, lp, lq, lh, lr⟩ X XX.out.one XX.out.two (bt_few XX.out.one _ (by omega)) (bt_few XX.out.two _ (by omega)) F2.out (HE.out.below BX.out))
  rw [hy] at P2
  obtain ⟨g0, g1, -, -⟩ := dk_cell XX.out.box
  obtain ⟨k0, k1, k2, k3, k4, k5, k6, k7, k8, k9, k10⟩ := cd_all UX.out
  clear hy J1
  go_wp2_with fail
  refine P2.out.mono ?_
  rintro e Z ⟨⟨v, rfl, hdv⟩, bZ⟩
  obtain ⟨py, ny, cy, py', ny', cy', rfl, hx1, hx2, -, -⟩ := hdv
  obtain ⟨V, hV⟩ : ∃ V, V = Z.alloc (dkO (.slice py ny cy) (.slice py' ny' cy')) := ⟨_, rfl⟩
  have bV : Below Z.heap.size Z V := by rw [hV]; exact below_alloc Z _
  have NB : Hid (Bx V Z.heap.size py ny cy py' ny' cy' y) := by show Bx V _ _ _ _ _ _ _ _; rw [hV]; exact bx_new hx1 hx2
  have bXV := onward bZ bV
  have BV := hide (onward BX.out bXV)
  have HV := hide hV
  clear P2 g0 g1 k0 k1 k2 k3 k4 k5 k6 k7 k8 k9 k10
  clear XX TX UX BX NB bXV bZ bV hV hx1 hx2
  go_wp2_with (rw [← HV.out])
  go_ret
  exact ⟨rfl, BV.out⟩
set_option maxHeartbeats 8000000 in
set_option maxRecDepth 100000 in
theorem parts_C (p : Option Addr) (n c : Nat) (p' : Option Addr) (n' c' : Nat) (d : Dk) (c1 c2 : Cd) (w : World) (h : Bt w p n c d.safe) (h' : Bt w p' n' c' d.wait) (hn : n ≤ 140737488351232) (hn' : n' ≤ 140737488351232) (f1 : c1.fits) (f2 : c2.fits) (E : Env w)
    (x y z : Dk) (ze : Int) (hx : putD d c1 = (x, 0)) (hxl : x.safe.length ≤ 20000) (hxl' : x.wait.length ≤ 20000) (hy : putD x c2 = (y, 0)) (hyl : y.safe.length ≤ 20000) (hyl' : y.wait.length ≤ 20000) (hz : syncD y = (z, ze)) (hze : ze = 1 ∨ ze = 2 ∨ ze = 13) :
    Calls Tryd.prog 4 #[dkV p n c p' n' c', cdV c1, cdV c2] w fun e w' => e = .returned (.bool true) ∧ Below w.heap.size w w' := by
  obtain ⟨W, hW⟩ : ∃ W, W = ((w.alloc (dkO (.slice p n c) (.slice p' n' c'))).alloc (cdO c1)).alloc (cdO c2) := ⟨_, rfl⟩
  have bW : Below w.heap.size w W := by rw [hW]; exact below3 w _ _ _
  have gW : Bx W w.heap.size p n c p' n' c' d := by
    have h0 : W.heap[w.heap.size]? = some (dkO (.slice p n c) (.slice p' n' c')) := by
      rw [hW]
      exact dk_below (dk_below (heap_alloc_new w _) (below_alloc _ _)) (below_alloc _ _)
    exact ⟨h0, h.below bW, h'.below bW⟩
  have tW : CdAt W (w.heap.size + 1) c1 := by
    rw [hW]
    have := heap_alloc_new (w.alloc (dkO (.slice p n c) (.slice p' n' c'))) (cdO c1)
    simp only [World.size_alloc] at this
    exact cdAt_below this (below_alloc _ _)
  have uW : CdAt W (w.heap.size + 1 + 1) c2 := by
    rw [hW]
    have := heap_alloc_new ((w.alloc (dkO (.slice p n c) (.slice p' n' c'))).alloc (cdO c1)) (cdO c2)
    simp only [World.size_alloc] at this
    exact this
  have P1 := hide (put_any p n c p' n' c' d c1 W gW.one gW.two hn hn' f1 (E.below bW))
  have J1 : Hid (∀ X, Below w.heap.size w X → _) := fun X bX => journaled_any X (E.below bX)
  have HE := hide E
  have HW := hide hW
  have BW := hide bW
  have TW := hide tW
  have UW := hide uW
  have F2 := hide f2
  obtain ⟨g0, g1, -, -⟩ := dk_cell gW.box
  obtain ⟨k0, k1, k2, k3, k4, k5, k6, k7, k8, k9, k10⟩ := cd_all tW
  clear hW bW gW tW uW f1 f2 h h' hn hn' E
  rw [hx] at P1
  clear hx
  obtain ⟨kd, ka, km, kn, ki, ko, ks, kp, kq, kh, kr⟩ := c1
  obtain ⟨ld, la, lm, ln, li, lo, ls, lp, lq, lh, lr⟩ := c2
  go_enter Tryd.func4, Tryd.ntmps4
  go_wp2_with (rw [← HW.out])
  refine P1.out.mono ?_
  rintro e X ⟨⟨v, rfl, hdv⟩, bX⟩
  obtain ⟨px, nx, cx, px', nx', cx', rfl, hx1, hx2, -, -⟩ := hdv
  obtain ⟨V, hV⟩ : ∃ V, V = X.alloc (dkO (.slice px nx cx) (.slice px' nx' cx')) := ⟨_, rfl⟩
  have bV : Below X.heap.size X V := by rw [hV]; exact below_alloc X _
  have XB : Hid (Bx V X.heap.size px nx cx px' nx' cx' x) := by show Bx V _ _ _ _ _ _ _ _; rw [hV]; exact bx_new hx1 hx2
  have bWV := onward bX bV
  have BV := hide (onward BW.out bWV)
  have TV := hide (cdAt_below TW.out bWV)
  have UV := hide (cdAt_below UW.out bWV)
  have JV := hide (J1.out V BV.out)
  have HV := hide hV
  clear P1 HW BW TW UW hV bV bWV bX hx1 hx2 g0 g1 k0 k1 k2 k3 k4 k5 k6 k7 k8 k9 k10
  clear W
  go_wp2_with (rw [← HV.out])
  clear HV
  generalize X.heap.size = bx at *
  clear X
  refine JV.out.mono ?_
  rintro e X ⟨rfl, bX⟩
  have BX := hide (onward BV.out bX)
  have XX := hide (XB.out.below bX)
  have TX := hide (cdAt_below TV.out bX)
  have UX := hide (cdAt_below UV.out bX)
  clear JV BV XB TV UV bX
  clear V
  have P2 := hide (put_any px nx cx px' nx' cx' x ⟨ld, la, lm, ln, li, lo, ls, lp, lq, lh, lr⟩ X XX.out.one XX.out.two (bt_few XX.out.one _ (by omega)) (bt_few XX.out.two _ (by omega)) F2.out (HE.out.below BX.out))
  rw [hy] at P2
  obtain ⟨g0, g1, -, -⟩ := dk_cell XX.out.box
  obtain ⟨k0, k1, k2, k3, k4, k5, k6, k7, k8, k9, k10⟩ := cd_all UX.out
  clear hy J1
  go_wp2_with fail
  refine P2.out.mono ?_
  rintro e Z ⟨⟨v, rfl, hdv⟩, bZ⟩
  obtain ⟨py, ny, cy, py', ny', cy', rfl, hx1, hx2, -, -⟩ := hdv
  obtain ⟨V, hV⟩ : ∃ V, V = Z.alloc (dkO (.slice py ny cy) (.slice py' ny' cy')) := ⟨_, rfl⟩
  have bV : Below Z.heap.size Z V := by rw [hV]; exact below_alloc Z _
  have NB : Hid (Bx V Z.heap.size py ny cy py' ny' cy' y) := by show Bx V _ _ _ _ _ _ _ _; rw [hV]; exact bx_new hx1 hx2
  have bXV := onward bZ bV
  have BV := hide (onward BX.out bXV)
  have HV := hide hV
  clear P2 g0 g1 k0 k1 k2 k3 k4 k5 k6 k7 k8 k9 k10
  have XX2 := hide (XX.out.below bXV)
  have TX2 := hide (cdAt_below TX.out bXV)
  have UX2 := hide (cdAt_below UX.out bXV)
  clear XX TX UX BX bXV bZ bV hV hx1 hx2
  have XX := XX2
  have TX := TX2
  have UX := UX2
  have BX := BV
  clear XX2 TX2 UX2 BV
  have YV := NB
  clear NB
  have S3 := hide (sync_any py ny cy py' ny' cy' y V YV.out.one YV.out.two (bt_few YV.out.one _ (by omega)) (bt_few YV.out.two _ (by omega)) (HE.out.below BX.out))
  rw [hz] at S3
  obtain ⟨g0, g1, -, -⟩ := dk_cell YV.out.box
  clear hz YV
  go_wp2_with (rw [← HV.out])
  clear HV
  clear X
  generalize Z.heap.size = yb at *
  clear Z
  refine S3.out.mono ?_
  rintro e Z ⟨⟨v, rfl, hdv⟩, bZ⟩
  obtain ⟨X, hXX⟩ : ∃ X, X = V := ⟨_, rfl⟩
  subst hXX
  obtain ⟨pz, nz, cz, pz', nz', cz', rfl, hx1, hx2, -, -⟩ := hdv
  obtain ⟨V, hV⟩ : ∃ V, V = Z.alloc (dkO (.slice pz nz cz) (.slice pz' nz' cz')) := ⟨_, rfl⟩
  have bV : Below Z.heap.size Z V := by rw [hV]; exact below_alloc Z _
  have NB : Hid (Bx V Z.heap.size pz nz cz pz' nz' cz' z) := by show Bx V _ _ _ _ _ _ _ _; rw [hV]; exact bx_new hx1 hx2
  have bXV := onward bZ bV
  have BV := hide (onward BX.out bXV)
  have HV := hide hV
  clear S3 g0 g1
  clear XX TX UX BX NB bXV bZ bV hV hx1 hx2
  rcases hze with rfl | rfl | rfl
  · go_wp2_with (rw [← HV.out])
    go_ret
    exact ⟨rfl, BV.out⟩
  · go_wp2_with (rw [← HV.out])
    go_ret
    exact ⟨rfl, BV.out⟩
  · go_wp2_with (rw [← HV.out])
    go_ret
    exact ⟨rfl, BV.out⟩
end Go.Proofs.YthdjfhnhjiageaaDoor.Tx
