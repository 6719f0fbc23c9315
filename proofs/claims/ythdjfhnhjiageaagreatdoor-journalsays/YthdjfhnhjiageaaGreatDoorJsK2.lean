/-
  JournalSays, walked: a right disk, a right command.
-/
import Derived.Test.YthdjfhnhjiageaaGreatDoorJsK1
import Derived.Test.YthdjfhnhjiageaaGreatDoorTxT4
namespace Go.Proofs.YthdjfhnhjiageaaGreatDoor.Tx
open Go.RowKit Go.Lib Go.Sort Go.Proofs.YthdjfhnhjiageaaGreatDoor.Mix
set_option maxHeartbeats 8000000 in
set_option maxRecDepth 100000 in
theorem says_2 (p : Option Addr) (n c : Nat) (p' : Option Addr) (n' c' : Nat) (d : Dk) (cm : Cd) (k : Int) (w : World) (h : Bt w p n c d.safe) (h' : Bt w p' n' c' d.wait) (hn : n ≤ 140737488351232) (hn' : n' ≤ 140737488351232) (f : cm.fits) (E : EnvS w) (hce : checkD d = 0)
    (CK : Hid (∀ W, Below w.heap.size w W → Calls Tryz.prog 13 #[cdV cm] W fun e w' => e = .returned (.int .i64 (checkC cm)) ∧ Below W.heap.size W w'))
    (hpc : checkC cm = 0) (s : Bs) (TK : Hid (∀ W, Below w.heap.size w W → Calls Tryz.prog 14 #[cdV cm] W fun e w' => e = .returned (sV s) ∧ Below W.heap.size W w')) (hful : 20000 < n + n' + (s.length + 1)) (hsl : s.length ≤ 200) (bD xD rD : Dk) (be xe : Int) (L : List Cd) (ha : putD d cm = (noDk, 7)) (hb : syncD d = (bD, be)) (hx : crashD d k = (xD, xe)) (hr : recD d = (rD, L, 0))
    (HR : Hid (rD.safe.length ≤ 100000 ∧ rD.wait.length ≤ 100000)) (HR2 : Hid (L.length ≤ 1000))
    (hS : (bD = noDk ∧ checkD ⟨d.safe ++ d.wait, []⟩ = be ∧ ¬ be = 0) ∨ (bD = ⟨d.safe ++ d.wait, []⟩ ∧ checkD ⟨d.safe ++ d.wait, []⟩ = 0 ∧ be = 0))
    (hX : (k < 0 ∧ xD = noDk ∧ xe = 3) ∨ (¬ k < 0 ∧ (n' : Int) < k ∧ xD = noDk ∧ xe = 3) ∨ (∃ j : Nat, k = j ∧ j ≤ n' ∧ xD = ⟨d.safe, d.wait.take j⟩ ∧ xe = 0)) :
    Calls Tryz.prog 3 #[dkV p n c p' n' c', cdV cm, .int .i64 k] w fun e w' => e = .returned (.bool true) ∧ Below w.heap.size w w' := by
  have mixed : Tryz.prog.follows .mixedOrders = true := by kernel_rfl
  have he := hce
  have hrec := hr
  have HL : Hid (d.safe.length = n ∧ d.wait.length = n') := ⟨h.len, h'.len⟩
  have hz : n + n' ≤ 20000 := by have := (check_zero hce).1; rw [h.len, h'.len] at this; exact this
  rw [hpc] at CK
  clear hpc
  obtain ⟨W, hW⟩ : ∃ W, W = (w.alloc (dkO (.slice p n c) (.slice p' n' c'))).alloc (cdO cm) := ⟨_, rfl⟩
  have bW : Below w.heap.size w W := by rw [hW]; exact ((Below.refl _ w).alloc (Nat.le_refl _) _).alloc (by simp) _
  have gW : Bx W w.heap.size p n c p' n' c' d := ⟨by rw [hW]; exact dk_below (heap_alloc_new w _) (below_alloc _ _), h.below bW, h'.below bW⟩
  have tW : CdAt W (w.heap.size + 1) cm := by
    rw [hW]
    have := heap_alloc_new (w.alloc (dkO (.slice p n c) (.slice p' n' c'))) (cdO cm)
    simp only [World.size_alloc] at this
    exact this
  have P1 := hide (put_any p n c p' n' c' d cm W gW.one gW.two hn hn' f (E.env.below bW))
  have P2 : Hid (∀ X, Below w.heap.size w X → _) := fun X bX => sync_any p n c p' n' c' d X (h.below bX) (h'.below bX) hn hn' (E.env.below bX)
  have P3 : Hid (∀ X, Below w.heap.size w X → _) := fun X bX => crash_any p n c p' n' c' d k X (h.below bX) (h'.below bX) hn hn' (E.env.below bX)
  have P4 : Hid (∀ X, Below w.heap.size w X → _) := fun X bX => recover_any p n c p' n' c' d X (h.below bX) (h'.below bX) hn hn' (E.env.below bX)
  have P5 : Hid (∀ X, Below w.heap.size w X → _) := fun X bX => refCheckD_any p n c p' n' c' d X (h.below bX) (h'.below bX) hn hn' (E.below bX)
  have P6 : Hid (∀ X, Below w.heap.size w X → _) := fun X bX => journaled_any X (E.env.below bX)
  have P7 : Hid (∀ X, Below w.heap.size w X → _) := fun X bX => checkD_any p n c p' n' c' d X (h.below bX) (h'.below bX) hn hn' (E.env.below bX)
  rw [ha] at P1
  rw [hb] at P2
  rw [hx] at P3
  rw [hr] at P4
  rw [hce] at P5 P7
  clear ha hb hx hr hce
  obtain ⟨K0, S0, Y0, O0⟩ := grow (shut_below w) (shut_and (bx_shut w.heap.size p n c p' n' c' d) (cd_shut (w.heap.size + 1) cm)) bW ⟨gW, tW⟩
  have SH0 := hide S0
  have KO0 := hide O0
  have HW := hide hW
  obtain ⟨g0, g1, -, -⟩ := dk_cell gW.box
  obtain ⟨k0, k1, k2, k3, k4, k5, k6, k7, k8, k9, k10⟩ := cd_all tW
  have KX0 := hide Y0
  have DO0 : Hid (∀ x, K0 x → K0 x) := fun x hx => hx
  clear hW bW gW tW S0 O0 Y0
  obtain ⟨cd, ca, cg, cn, ci, co, cs, cp, cq, ch, cr⟩ := cm
  go_enter Tryz.func3, Tryz.ntmps3
  go_wp2_with (rw [← HW.out])
  refine P1.out.mono ?_
  clear P1 HW g0 g1 k0 k1 k2 k3 k4 k5 k6 k7 k8 k9 k10
  rintro e X ⟨⟨v, rfl, hdv⟩, bX⟩
  obtain ⟨pA, nA, cA, pA', nA', cA', rfl, hx1, hx2, -, -⟩ := hdv
  obtain ⟨V, hV⟩ : ∃ V, V = X.alloc (dkO (.slice pA nA cA) (.slice pA' nA' cA')) := ⟨_, rfl⟩
  have bV : Below X.heap.size X V := by rw [hV]; exact below_alloc X _
  have nb : Bx V X.heap.size pA nA cA pA' nA' cA' noDk := by rw [hV]; exact bx_new hx1 hx2
  obtain ⟨K1, S1, Y1, O1⟩ := grow SH0.out (bx_shut X.heap.size pA nA cA pA' nA' cA' noDk) (SH0.out _ _ KX0.out (onward bX bV)) nb
  have SH1 := hide S1
  have KX1 := hide Y1
  have KO1 := hide O1
  have HV := hide hV
  have DO1 : Hid (∀ x, K1 x → K0 x) := fun x hx => DO0.out x (KO1.out x hx).1
  clear hV bV nb bX hx1 hx2 KX0 SH0 S1 Y1 O1
  have Q := hide (P2.out V (KO0.out V (DO1.out V KX1.out)).1)
  obtain ⟨g0, g1, -, -⟩ := dk_cell (KO0.out V (DO1.out V KX1.out)).2.1.box
  clear P2
  go_wp2_with (rw [← HV.out])
  clear HV
  generalize X.heap.size = bA at *
  clear X
  refine Q.out.mono ?_
  clear Q g0 g1
  rintro e X ⟨⟨v, rfl, hdv⟩, bX⟩
  obtain ⟨pB, nB, cB, pB', nB', cB', rfl, hx1, hx2, -, -⟩ := hdv
  obtain ⟨V, hV⟩ : ∃ V, V = X.alloc (dkO (.slice pB nB cB) (.slice pB' nB' cB')) := ⟨_, rfl⟩
  have bV : Below X.heap.size X V := by rw [hV]; exact below_alloc X _
  have nb : Bx V X.heap.size pB nB cB pB' nB' cB' bD := by rw [hV]; exact bx_new hx1 hx2
  obtain ⟨K2, S2, Y2, O2⟩ := grow SH1.out (bx_shut X.heap.size pB nB cB pB' nB' cB' bD) (SH1.out _ _ KX1.out (onward bX bV)) nb
  have SH2 := hide S2
  have KX2 := hide Y2
  have KO2 := hide O2
  have HV := hide hV
  have DO2 : Hid (∀ x, K2 x → K0 x) := fun x hx => DO1.out x (KO2.out x hx).1
  clear hV bV nb bX hx1 hx2 KX1 SH1 S2 Y2 O2
  have Q := hide (P3.out V (KO0.out V (DO2.out V KX2.out)).1)
  obtain ⟨g0, g1, -, -⟩ := dk_cell (KO0.out V (DO2.out V KX2.out)).2.1.box
  clear P3
  go_wp2_with (rw [← HV.out])
  clear HV
  generalize X.heap.size = bB at *
  clear X
  refine Q.out.mono ?_
  clear Q g0 g1
  rintro e X ⟨⟨v, rfl, hdv⟩, bX⟩
  obtain ⟨pX, nX, cX, pX', nX', cX', rfl, hx1, hx2, -, -⟩ := hdv
  obtain ⟨V, hV⟩ : ∃ V, V = X.alloc (dkO (.slice pX nX cX) (.slice pX' nX' cX')) := ⟨_, rfl⟩
  have bV : Below X.heap.size X V := by rw [hV]; exact below_alloc X _
  have nb : Bx V X.heap.size pX nX cX pX' nX' cX' xD := by rw [hV]; exact bx_new hx1 hx2
  obtain ⟨K3, S3, Y3, O3⟩ := grow SH2.out (bx_shut X.heap.size pX nX cX pX' nX' cX' xD) (SH2.out _ _ KX2.out (onward bX bV)) nb
  have SH3 := hide S3
  have KX3 := hide Y3
  have KO3 := hide O3
  have HV := hide hV
  have DO3 : Hid (∀ x, K3 x → K0 x) := fun x hx => DO2.out x (KO3.out x hx).1
  clear hV bV nb bX hx1 hx2 KX2 SH2 S3 Y3 O3
  have Q := hide (P4.out V (KO0.out V (DO3.out V KX3.out)).1)
  obtain ⟨g0, g1, -, -⟩ := dk_cell (KO0.out V (DO3.out V KX3.out)).2.1.box
  clear P4
  go_wp2_with (rw [← HV.out])
  clear HV
  generalize X.heap.size = bX at *
  clear X
  refine Q.out.mono ?_
  clear Q g0 g1
  rintro e X ⟨⟨v, lv, rfl, hdv, hown⟩, bX⟩
  obtain ⟨pR, nR, cR, pR', nR', cR', rfl, hx1, hx2, -, -⟩ := hdv
  obtain ⟨pl, cl, rfl⟩ := ownC_slice hown
  obtain ⟨V, hV⟩ : ∃ V, V = X.alloc (dkO (.slice pR nR cR) (.slice pR' nR' cR')) := ⟨_, rfl⟩
  have bV : Below X.heap.size X V := by rw [hV]; exact below_alloc X _
  have nb : Bx V X.heap.size pR nR cR pR' nR' cR' rD := by rw [hV]; exact bx_new hx1 hx2
  obtain ⟨K4, S4, Y4, O4⟩ := grow SH3.out (shut_and (bx_shut X.heap.size pR nR cR pR' nR' cR' rD) (own_shut 0 (.slice pl (List.length L) cl) L)) (SH3.out _ _ KX3.out (onward bX bV)) ⟨nb, own_on (own_low hown (B' := 0) (Nat.zero_le _)) bV (Nat.le_refl _)⟩
  obtain ⟨K5, S5, Y5, O5⟩ := grow S4 (bx_shut V.heap.size none 0 0 none 0 0 noDk) (S4 _ _ Y4 (below_alloc V (dkO (.slice none 0 0) (.slice none 0 0)))) (bx_new (bt_none V) (bt_none V))
  have SH5 := hide S5
  have KX5 := hide Y5
  have KO4 := hide O4
  have KO5 := hide O5
  have HV := hide hV
  have DO5 : Hid (∀ x, K5 x → K0 x) := fun x hx => DO3.out x (KO4.out x (KO5.out x hx).1).1
  clear hV bV nb bX hx1 hx2 hown KX3 SH3 S4 Y4 O4 S5 Y5 O5
  have Q := hide (P5.out _ (KO0.out _ (DO5.out _ KX5.out)).1)
  obtain ⟨g0, g1, -, -⟩ := dk_cell (KO0.out _ (DO5.out _ KX5.out)).2.1.box
  clear P5
  go_wp2_with (rw [← HV.out])
  clear HV
  generalize X.heap.size = bR at *
  clear X
  refine Q.out.mono ?_
  rintro e X ⟨rfl, bX⟩
  have KX6 := hide (SH5.out _ _ KX5.out bX)
  have Q6 := hide (P6.out X (KO0.out X (DO5.out X KX6.out)).1)
  clear Q g0 g1 KX5 bX P6
  generalize V.heap.size = bN at *
  clear V
  go_wp2_with fail
  refine Q6.out.mono ?_
  rintro e V ⟨rfl, bX⟩
  have KX5 := hide (SH5.out _ _ KX6.out bX)
  have Q := hide (P7.out V (KO0.out V (DO5.out V KX5.out)).1)
  obtain ⟨g0, g1, -, -⟩ := dk_cell (KO0.out V (DO5.out V KX5.out)).2.1.box
  clear Q6 KX6 bX P7
  clear X
  go_wp2_with fail
  refine Q.out.mono ?_
  rintro e X ⟨rfl, bX⟩
  have KX6 := hide (SH5.out _ _ KX5.out bX)
  clear Q g0 g1 KX5 bX
  clear V
  have AcA : Hid (∀ x, K5 x → Bx x bA pA nA cA pA' nA' cA' noDk) := fun x hx => (KO1.out x (KO2.out x (KO3.out x (KO4.out x (KO5.out x hx).1).1).1).1).2
  have AcB : Hid (∀ x, K5 x → Bx x bB pB nB cB pB' nB' cB' bD) := fun x hx => (KO2.out x (KO3.out x (KO4.out x (KO5.out x hx).1).1).1).2
  have AcX : Hid (∀ x, K5 x → Bx x bX pX nX cX pX' nX' cX' xD) := fun x hx => (KO3.out x (KO4.out x (KO5.out x hx).1).1).2
  have AcR : Hid (∀ x, K5 x → Bx x bR pR nR cR pR' nR' cR' rD) := fun x hx => (KO4.out x (KO5.out x hx).1).2.1
  have AcL : Hid (∀ x, K5 x → OwnC 0 x (.slice pl (List.length L) cl) L) := fun x hx => (KO4.out x (KO5.out x hx).1).2.2
  have AcN : Hid (∀ x, K5 x → Bx x bN none 0 0 none 0 0 noDk) := fun x hx => (KO5.out x hx).2
  have AcD : Hid (∀ x, K5 x → Bx x w.heap.size p n c p' n' c' d) := fun x hx => (KO0.out x (DO5.out x hx)).2.1
  have AcC : Hid (∀ x, K5 x → CdAt x (w.heap.size + 1) ⟨cd, ca, cg, cn, ci, co, cs, cp, cq, ch, cr⟩) := fun x hx => (KO0.out x (DO5.out x hx)).2.2
  have AcW : Hid (∀ x, K5 x → Below w.heap.size w x) := fun x hx => (KO0.out x (DO5.out x hx)).1
  clear KO1 KO2 KO3 KO4 KO5 KO0 DO0 DO1 DO2 DO3 DO5 K1 K2 K3 K4 K0
  obtain ⟨k0, k1, k2, k3, k4, k5, k6, k7, k8, k9, k10⟩ := cd_all (AcC.out X KX6.out)
  have Q := hide (CK.out X (AcW.out X KX6.out))
  go_wp2_with fail
  refine Q.out.mono ?_
  clear Q k0 k1 k2 k3 k4 k5 k6 k7 k8 k9 k10
  rintro e X ⟨rfl, bY⟩
  have KX6 := hide (SH5.out _ _ KX6.out bY)
  clear bY
  obtain ⟨k0, k1, k2, k3, k4, k5, k6, k7, k8, k9, k10⟩ := cd_all (AcC.out X KX6.out)
  have Q := hide (TK.out X (AcW.out X KX6.out))
  go_wp2_with fail
  refine Q.out.mono ?_
  clear Q k0 k1 k2 k3 k4 k5 k6 k7 k8 k9 k10
  rintro e X ⟨rfl, bY⟩
  have KX6 := hide (SH5.out _ _ KX6.out bY)
  clear bY
  obtain ⟨g0, g1, -, -⟩ := dk_cell (AcD.out X KX6.out).box
  obtain ⟨a0, a1, -, -⟩ := dk_cell (AcA.out X KX6.out).box
  obtain ⟨b0, b1, -, -⟩ := dk_cell (AcN.out X KX6.out).box
  have Q := hide (bx_same (AcA.out X KX6.out) (AcN.out X KX6.out) (by decide) (by decide))
  go_wp2_with fail
  refine Q.out.mono ?_
  clear Q a0 a1 b0 b1
  rintro e X ⟨rfl, bY⟩
  have KX6 := hide (SH5.out _ _ KX6.out bY)
  clear bY
  clear g0 g1
  generalize sB s ++ { data := #[10] } = sl at *
  rcases hS with ⟨rfl, hal, hbe⟩ | ⟨rfl, hal, rfl⟩
  · have CT := hide (cat_two (AcD.out X KX6.out).one (AcD.out X KX6.out).two hz)
    obtain ⟨g0, g1, -, -⟩ := dk_cell (AcD.out X KX6.out).box
    go_wp2_with fail
    refine CT.out.mono ?_
    clear CT g0 g1
    rintro e Y ⟨⟨q, m, rfl, hq⟩, bY⟩
    obtain ⟨V, hV⟩ : ∃ V, V = Y.alloc (dkO (.slice q (n + n') m) (.slice none 0 0)) := ⟨_, rfl⟩
    have bV : Below Y.heap.size Y V := by rw [hV]; exact below_alloc Y _
    have al : Bx V Y.heap.size q (n + n') m none 0 0 ⟨d.safe ++ d.wait, []⟩ := by rw [hV]; exact bx_new hq (bt_none _)
    have KX7 := hide (SH5.out _ _ KX6.out (onward bY bV))
    have Q := hide (refCheckD_any q (n + n') m none 0 0 ⟨d.safe ++ d.wait, []⟩ V al.one al.two (by omega) (by decide) (E.below (AcW.out V KX7.out)))
    rw [hal] at Q
    obtain ⟨g0, g1, -, -⟩ := dk_cell al.box
    have ALV := hide al
    have HV := hide hV
    clear hV bV bY hq al KX6
    go_wp2_with (rw [← HV.out])
    clear HV
    generalize Y.heap.size = bQ at *
    clear Y
    refine Q.out.mono ?_
    clear Q g0 g1
    rintro e X ⟨rfl, bX⟩
    have KX6 := hide (SH5.out _ _ KX7.out bX)
    have AL := hide (ALV.out.below bX)
    clear bX KX7 ALV
    clear V
    obtain ⟨a0, a1, -, -⟩ := dk_cell (AcB.out X KX6.out).box
    obtain ⟨b0, b1, -, -⟩ := dk_cell (AcN.out X KX6.out).box
    have Q := hide (bx_same (AcB.out X KX6.out) (AcN.out X KX6.out) (by decide) (by decide))
    go_wp2_with fail
    refine Q.out.mono ?_
    clear Q a0 a1 b0 b1
    rintro e X ⟨rfl, bY⟩
    have KX6 := hide (SH5.out _ _ KX6.out bY)
    clear bY
    clear AL
    rcases hX with ⟨hk, rfl, rfl⟩ | ⟨hk, hk2, rfl, rfl⟩ | ⟨j, rfl, hj, rfl, rfl⟩
    · obtain ⟨g0, g1, -, -⟩ := dk_cell (AcD.out X KX6.out).box
      obtain ⟨a0, a1, -, -⟩ := dk_cell (AcX.out X KX6.out).box
      obtain ⟨b0, b1, -, -⟩ := dk_cell (AcN.out X KX6.out).box
      have Q := hide (bx_same (AcX.out X KX6.out) (AcN.out X KX6.out) (by decide) (by decide))
      go_wp2_with fail
      refine Q.out.mono ?_
      clear Q a0 a1 b0 b1
      rintro e X ⟨rfl, bY⟩
      have KX6 := hide (SH5.out _ _ KX6.out bY)
      clear bY
      clear g0 g1
      have Q := hide (recovered_any p n c p' n' c' d X (AcD.out X KX6.out).one (AcD.out X KX6.out).two he (E.below (AcW.out X KX6.out)))
      rw [hrec] at Q
      obtain ⟨g0, g1, -, -⟩ := dk_cell (AcD.out X KX6.out).box
      go_wp2_with fail
      refine Q.out.mono ?_
      clear Q g0 g1
      rintro e Y ⟨⟨v, lv, rfl, hdv, hown⟩, bY⟩
      obtain ⟨pE, nE, cE, pE', nE', cE', rfl, hx1, hx2, -, -⟩ := hdv
      obtain ⟨pm, cl2, rfl⟩ := ownC_slice hown
      obtain ⟨V, hV⟩ : ∃ V, V = Y.alloc (dkO (.slice pE nE cE) (.slice pE' nE' cE')) := ⟨_, rfl⟩
      have bV : Below Y.heap.size Y V := by rw [hV]; exact below_alloc Y _
      have al : Bx V Y.heap.size pE nE cE pE' nE' cE' rD := by rw [hV]; exact bx_new hx1 hx2
      have KX7 := hide (SH5.out _ _ KX6.out (onward bY bV))
      have OL := hide (own_on (own_low hown (B' := 0) (Nat.zero_le _)) bV (Nat.le_refl _))
      have Q := hide (bx_same (AcR.out V KX7.out) al HR.out.1 HR.out.2)
      obtain ⟨a0, a1, -, -⟩ := dk_cell (AcR.out V KX7.out).box
      obtain ⟨g0, g1, -, -⟩ := dk_cell al.box
      have HV := hide hV
      clear hV bV bY hx1 hx2 hown al KX6
      go_wp2_with (rw [← HV.out])
      clear HV
      generalize Y.heap.size = bQ at *
      clear Y
      refine Q.out.mono ?_
      clear Q g0 g1 a0 a1
      rintro e X ⟨rfl, bX⟩
      have KX6 := hide (SH5.out _ _ KX7.out bX)
      have Q := hide (equalD_same _ _ L X (AcL.out X KX6.out) (own_on OL.out bX (Nat.le_refl _)) HR2.out)
      clear OL bX KX7
      clear V
      go_wp2_with fail
      refine Q.out.mono ?_
      clear Q
      rintro e X ⟨rfl, bX⟩
      have KX6 := hide (SH5.out _ _ KX6.out bX)
      have BW := hide (AcW.out X KX6.out)
      go_wp2
      go_ret
      exact ⟨rfl, BW.out⟩
    · obtain ⟨g0, g1, -, -⟩ := dk_cell (AcD.out X KX6.out).box
      obtain ⟨a0, a1, -, -⟩ := dk_cell (AcX.out X KX6.out).box
      obtain ⟨b0, b1, -, -⟩ := dk_cell (AcN.out X KX6.out).box
      have Q := hide (bx_same (AcX.out X KX6.out) (AcN.out X KX6.out) (by decide) (by decide))
      go_wp2_with fail
      refine Q.out.mono ?_
      clear Q a0 a1 b0 b1
      rintro e X ⟨rfl, bY⟩
      have KX6 := hide (SH5.out _ _ KX6.out bY)
      clear bY
      clear g0 g1
      have Q := hide (recovered_any p n c p' n' c' d X (AcD.out X KX6.out).one (AcD.out X KX6.out).two he (E.below (AcW.out X KX6.out)))
      rw [hrec] at Q
      obtain ⟨g0, g1, -, -⟩ := dk_cell (AcD.out X KX6.out).box
      go_wp2_with fail
      refine Q.out.mono ?_
      clear Q g0 g1
      rintro e Y ⟨⟨v, lv, rfl, hdv, hown⟩, bY⟩
      obtain ⟨pE, nE, cE, pE', nE', cE', rfl, hx1, hx2, -, -⟩ := hdv
      obtain ⟨pm, cl2, rfl⟩ := ownC_slice hown
      obtain ⟨V, hV⟩ : ∃ V, V = Y.alloc (dkO (.slice pE nE cE) (.slice pE' nE' cE')) := ⟨_, rfl⟩
      have bV : Below Y.heap.size Y V := by rw [hV]; exact below_alloc Y _
      have al : Bx V Y.heap.size pE nE cE pE' nE' cE' rD := by rw [hV]; exact bx_new hx1 hx2
      have KX7 := hide (SH5.out _ _ KX6.out (onward bY bV))
      have OL := hide (own_on (own_low hown (B' := 0) (Nat.zero_le _)) bV (Nat.le_refl _))
      have Q := hide (bx_same (AcR.out V KX7.out) al HR.out.1 HR.out.2)
      obtain ⟨a0, a1, -, -⟩ := dk_cell (AcR.out V KX7.out).box
      obtain ⟨g0, g1, -, -⟩ := dk_cell al.box
      have HV := hide hV
      clear hV bV bY hx1 hx2 hown al KX6
      go_wp2_with (rw [← HV.out])
      clear HV
      generalize Y.heap.size = bQ at *
      clear Y
      refine Q.out.mono ?_
      clear Q g0 g1 a0 a1
      rintro e X ⟨rfl, bX⟩
      have KX6 := hide (SH5.out _ _ KX7.out bX)
      have Q := hide (equalD_same _ _ L X (AcL.out X KX6.out) (own_on OL.out bX (Nat.le_refl _)) HR2.out)
      clear OL bX KX7
      clear V
      go_wp2_with fail
      refine Q.out.mono ?_
      clear Q
      rintro e X ⟨rfl, bX⟩
      have KX6 := hide (SH5.out _ _ KX6.out bX)
      have BW := hide (AcW.out X KX6.out)
      go_wp2
      go_ret
      exact ⟨rfl, BW.out⟩
    · have hcap := (AcD.out X KX6.out).two.cap
      obtain ⟨g0, g1, -, -⟩ := dk_cell (AcD.out X KX6.out).box
      have hC : ∀ q : InC (fun x => Below X.heap.size X x), Below X.heap.size X q.w := fun q => q.h
      generalize hCC : (fun x => Below X.heap.size X x) = C at hC
      have CS : ∀ x y, C x → Below x.heap.size x y → C y := by rw [← hCC]; exact fun x y hx hy => onward hx hy
      have C0 : Hid (C X.drew) := by rw [← hCC]; exact (Below.refl _ X).drew
      have CB := hide hC
      have K1 := hide (fun q : InC C => calls_inC CS q (bt_same ((AcX.out X KX6.out).below (hC q)) ((AcD.out X KX6.out).one.below (hC q)) (((AcD.out X KX6.out).two.below (hC q)).take hj) (by rw [HL.out.1]; omega) (by rw [List.length_take, HL.out.2]; omega)))
      have x0 : ∀ q : InC C, q.w.cell? ⟨bX, 0, none⟩ = some (.slice pX nX cX) := fun q => (dk_cell ((AcX.out X KX6.out).below (hC q)).box).1
      have x1 : ∀ q : InC C, q.w.cell? ⟨bX, 1, none⟩ = some (.slice pX' nX' cX') := fun q => (dk_cell ((AcX.out X KX6.out).below (hC q)).box).2.1
      have d0 : ∀ q : InC C, q.w.cell? ⟨w.heap.size, 0, none⟩ = some (.slice p n c) := fun q => (dk_cell ((AcD.out X KX6.out).below (hC q)).box).1
      have d1 : ∀ q : InC C, q.w.cell? ⟨w.heap.size, 1, none⟩ = some (.slice p' n' c') := fun q => (dk_cell ((AcD.out X KX6.out).below (hC q)).box).2.1
      clear hC hCC CS
      go_wp2_with fail
      refine wp_region_inC C mixed (by kernel_rfl) C0.out ?_
      repeat (go_big_quiet_step (first | (go_at_call 12; refine K1.out _) | exact rfl))
      refine wpQuiet_nil ?_
      rintro _ ⟨q6, rfl⟩
      have KX7 := hide (SH5.out _ _ KX6.out (CB.out q6))
      clear K1 x0 x1 d0 d1 g0 g1 CB C0 KX6
      generalize q6.w = X at KX7 ⊢
      have KX6 := hide KX7.out
      clear KX7 q6
      have Q := hide (recovered_any p n c p' n' c' d X (AcD.out X KX6.out).one (AcD.out X KX6.out).two he (E.below (AcW.out X KX6.out)))
      rw [hrec] at Q
      obtain ⟨g0, g1, -, -⟩ := dk_cell (AcD.out X KX6.out).box
      go_wp2_with fail
      refine Q.out.mono ?_
      clear Q g0 g1
      rintro e Y ⟨⟨v, lv, rfl, hdv, hown⟩, bY⟩
      obtain ⟨pE, nE, cE, pE', nE', cE', rfl, hx1, hx2, -, -⟩ := hdv
      obtain ⟨pm, cl2, rfl⟩ := ownC_slice hown
      obtain ⟨V, hV⟩ : ∃ V, V = Y.alloc (dkO (.slice pE nE cE) (.slice pE' nE' cE')) := ⟨_, rfl⟩
      have bV : Below Y.heap.size Y V := by rw [hV]; exact below_alloc Y _
      have al : Bx V Y.heap.size pE nE cE pE' nE' cE' rD := by rw [hV]; exact bx_new hx1 hx2
      have KX7 := hide (SH5.out _ _ KX6.out (onward bY bV))
      have OL := hide (own_on (own_low hown (B' := 0) (Nat.zero_le _)) bV (Nat.le_refl _))
      have Q := hide (bx_same (AcR.out V KX7.out) al HR.out.1 HR.out.2)
      obtain ⟨a0, a1, -, -⟩ := dk_cell (AcR.out V KX7.out).box
      obtain ⟨g0, g1, -, -⟩ := dk_cell al.box
      have HV := hide hV
      clear hV bV bY hx1 hx2 hown al KX6
      go_wp2_with (rw [← HV.out])
      clear HV
      generalize Y.heap.size = bQ at *
      clear Y
      refine Q.out.mono ?_
      clear Q g0 g1 a0 a1
      rintro e X ⟨rfl, bX⟩
      have KX6 := hide (SH5.out _ _ KX7.out bX)
      have Q := hide (equalD_same _ _ L X (AcL.out X KX6.out) (own_on OL.out bX (Nat.le_refl _)) HR2.out)
      clear OL bX KX7
      clear V
      go_wp2_with fail
      refine Q.out.mono ?_
      clear Q
      rintro e X ⟨rfl, bX⟩
      have KX6 := hide (SH5.out _ _ KX6.out bX)
      have BW := hide (AcW.out X KX6.out)
      go_wp2
      go_ret
      exact ⟨rfl, BW.out⟩
  · have CT := hide (cat_two (AcD.out X KX6.out).one (AcD.out X KX6.out).two hz)
    obtain ⟨g0, g1, -, -⟩ := dk_cell (AcD.out X KX6.out).box
    go_wp2_with fail
    refine CT.out.mono ?_
    clear CT g0 g1
    rintro e Y ⟨⟨q, m, rfl, hq⟩, bY⟩
    obtain ⟨V, hV⟩ : ∃ V, V = Y.alloc (dkO (.slice q (n + n') m) (.slice none 0 0)) := ⟨_, rfl⟩
    have bV : Below Y.heap.size Y V := by rw [hV]; exact below_alloc Y _
    have al : Bx V Y.heap.size q (n + n') m none 0 0 ⟨d.safe ++ d.wait, []⟩ := by rw [hV]; exact bx_new hq (bt_none _)
    have KX7 := hide (SH5.out _ _ KX6.out (onward bY bV))
    have Q := hide (refCheckD_any q (n + n') m none 0 0 ⟨d.safe ++ d.wait, []⟩ V al.one al.two (by omega) (by decide) (E.below (AcW.out V KX7.out)))
    rw [hal] at Q
    obtain ⟨g0, g1, -, -⟩ := dk_cell al.box
    have ALV := hide al
    have HV := hide hV
    clear hV bV bY hq al KX6
    go_wp2_with (rw [← HV.out])
    clear HV
    generalize Y.heap.size = bQ at *
    clear Y
    refine Q.out.mono ?_
    clear Q g0 g1
    rintro e X ⟨rfl, bX⟩
    have KX6 := hide (SH5.out _ _ KX7.out bX)
    have AL := hide (ALV.out.below bX)
    clear bX KX7 ALV
    clear V
    obtain ⟨a0, a1, -, -⟩ := dk_cell (AcB.out X KX6.out).box
    obtain ⟨b0, b1, -, -⟩ := dk_cell AL.out.box
    have Q := hide (bx_same (AcB.out X KX6.out) AL.out (by rw [List.length_append, HL.out.1, HL.out.2]; omega) (Nat.zero_le _))
    go_wp2_with fail
    refine Q.out.mono ?_
    clear Q a0 a1 b0 b1
    rintro e X ⟨rfl, bY⟩
    have KX6 := hide (SH5.out _ _ KX6.out bY)
    clear bY AL
    rcases hX with ⟨hk, rfl, rfl⟩ | ⟨hk, hk2, rfl, rfl⟩ | ⟨j, rfl, hj, rfl, rfl⟩
    · obtain ⟨g0, g1, -, -⟩ := dk_cell (AcD.out X KX6.out).box
      obtain ⟨a0, a1, -, -⟩ := dk_cell (AcX.out X KX6.out).box
      obtain ⟨b0, b1, -, -⟩ := dk_cell (AcN.out X KX6.out).box
      have Q := hide (bx_same (AcX.out X KX6.out) (AcN.out X KX6.out) (by decide) (by decide))
      go_wp2_with fail
      refine Q.out.mono ?_
      clear Q a0 a1 b0 b1
      rintro e X ⟨rfl, bY⟩
      have KX6 := hide (SH5.out _ _ KX6.out bY)
      clear bY
      clear g0 g1
      have Q := hide (recovered_any p n c p' n' c' d X (AcD.out X KX6.out).one (AcD.out X KX6.out).two he (E.below (AcW.out X KX6.out)))
      rw [hrec] at Q
      obtain ⟨g0, g1, -, -⟩ := dk_cell (AcD.out X KX6.out).box
      go_wp2_with fail
      refine Q.out.mono ?_
      clear Q g0 g1
      rintro e Y ⟨⟨v, lv, rfl, hdv, hown⟩, bY⟩
      obtain ⟨pE, nE, cE, pE', nE', cE', rfl, hx1, hx2, -, -⟩ := hdv
      obtain ⟨pm, cl2, rfl⟩ := ownC_slice hown
      obtain ⟨V, hV⟩ : ∃ V, V = Y.alloc (dkO (.slice pE nE cE) (.slice pE' nE' cE')) := ⟨_, rfl⟩
      have bV : Below Y.heap.size Y V := by rw [hV]; exact below_alloc Y _
      have al : Bx V Y.heap.size pE nE cE pE' nE' cE' rD := by rw [hV]; exact bx_new hx1 hx2
      have KX7 := hide (SH5.out _ _ KX6.out (onward bY bV))
      have OL := hide (own_on (own_low hown (B' := 0) (Nat.zero_le _)) bV (Nat.le_refl _))
      have Q := hide (bx_same (AcR.out V KX7.out) al HR.out.1 HR.out.2)
      obtain ⟨a0, a1, -, -⟩ := dk_cell (AcR.out V KX7.out).box
      obtain ⟨g0, g1, -, -⟩ := dk_cell al.box
      have HV := hide hV
      clear hV bV bY hx1 hx2 hown al KX6
      go_wp2_with (rw [← HV.out])
      clear HV
      generalize Y.heap.size = bQ at *
      clear Y
      refine Q.out.mono ?_
      clear Q g0 g1 a0 a1
      rintro e X ⟨rfl, bX⟩
      have KX6 := hide (SH5.out _ _ KX7.out bX)
      have Q := hide (equalD_same _ _ L X (AcL.out X KX6.out) (own_on OL.out bX (Nat.le_refl _)) HR2.out)
      clear OL bX KX7
      clear V
      go_wp2_with fail
      refine Q.out.mono ?_
      clear Q
      rintro e X ⟨rfl, bX⟩
      have KX6 := hide (SH5.out _ _ KX6.out bX)
      have BW := hide (AcW.out X KX6.out)
      go_wp2
      go_ret
      exact ⟨rfl, BW.out⟩
    · obtain ⟨g0, g1, -, -⟩ := dk_cell (AcD.out X KX6.out).box
      obtain ⟨a0, a1, -, -⟩ := dk_cell (AcX.out X KX6.out).box
      obtain ⟨b0, b1, -, -⟩ := dk_cell (AcN.out X KX6.out).box
      have Q := hide (bx_same (AcX.out X KX6.out) (AcN.out X KX6.out) (by decide) (by decide))
      go_wp2_with fail
      refine Q.out.mono ?_
      clear Q a0 a1 b0 b1
      rintro e X ⟨rfl, bY⟩
      have KX6 := hide (SH5.out _ _ KX6.out bY)
      clear bY
      clear g0 g1
      have Q := hide (recovered_any p n c p' n' c' d X (AcD.out X KX6.out).one (AcD.out X KX6.out).two he (E.below (AcW.out X KX6.out)))
      rw [hrec] at Q
      obtain ⟨g0, g1, -, -⟩ := dk_cell (AcD.out X KX6.out).box
      go_wp2_with fail
      refine Q.out.mono ?_
      clear Q g0 g1
      rintro e Y ⟨⟨v, lv, rfl, hdv, hown⟩, bY⟩
      obtain ⟨pE, nE, cE, pE', nE', cE', rfl, hx1, hx2, -, -⟩ := hdv
      obtain ⟨pm, cl2, rfl⟩ := ownC_slice hown
      obtain ⟨V, hV⟩ : ∃ V, V = Y.alloc (dkO (.slice pE nE cE) (.slice pE' nE' cE')) := ⟨_, rfl⟩
      have bV : Below Y.heap.size Y V := by rw [hV]; exact below_alloc Y _
      have al : Bx V Y.heap.size pE nE cE pE' nE' cE' rD := by rw [hV]; exact bx_new hx1 hx2
      have KX7 := hide (SH5.out _ _ KX6.out (onward bY bV))
      have OL := hide (own_on (own_low hown (B' := 0) (Nat.zero_le _)) bV (Nat.le_refl _))
      have Q := hide (bx_same (AcR.out V KX7.out) al HR.out.1 HR.out.2)
      obtain ⟨a0, a1, -, -⟩ := dk_cell (AcR.out V KX7.out).box
      obtain ⟨g0, g1, -, -⟩ := dk_cell al.box
      have HV := hide hV
      clear hV bV bY hx1 hx2 hown al KX6
      go_wp2_with (rw [← HV.out])
      clear HV
      generalize Y.heap.size = bQ at *
      clear Y
      refine Q.out.mono ?_
      clear Q g0 g1 a0 a1
      rintro e X ⟨rfl, bX⟩
      have KX6 := hide (SH5.out _ _ KX7.out bX)
      have Q := hide (equalD_same _ _ L X (AcL.out X KX6.out) (own_on OL.out bX (Nat.le_refl _)) HR2.out)
      clear OL bX KX7
      clear V
      go_wp2_with fail
      refine Q.out.mono ?_
      clear Q
      rintro e X ⟨rfl, bX⟩
      have KX6 := hide (SH5.out _ _ KX6.out bX)
      have BW := hide (AcW.out X KX6.out)
      go_wp2
      go_ret
      exact ⟨rfl, BW.out⟩
    · have hcap := (AcD.out X KX6.out).two.cap
      obtain ⟨g0, g1, -, -⟩ := dk_cell (AcD.out X KX6.out).box
      have hC : ∀ q : InC (fun x => Below X.heap.size X x), Below X.heap.size X q.w := fun q => q.h
      generalize hCC : (fun x => Below X.heap.size X x) = C at hC
      have CS : ∀ x y, C x → Below x.heap.size x y → C y := by rw [← hCC]; exact fun x y hx hy => onward hx hy
      have C0 : Hid (C X.drew) := by rw [← hCC]; exact (Below.refl _ X).drew
      have CB := hide hC
      have K1 := hide (fun q : InC C => calls_inC CS q (bt_same ((AcX.out X KX6.out).below (hC q)) ((AcD.out X KX6.out).one.below (hC q)) (((AcD.out X KX6.out).two.below (hC q)).take hj) (by rw [HL.out.1]; omega) (by rw [List.length_take, HL.out.2]; omega)))
      have x0 : ∀ q : InC C, q.w.cell? ⟨bX, 0, none⟩ = some (.slice pX nX cX) := fun q => (dk_cell ((AcX.out X KX6.out).below (hC q)).box).1
      have x1 : ∀ q : InC C, q.w.cell? ⟨bX, 1, none⟩ = some (.slice pX' nX' cX') := fun q => (dk_cell ((AcX.out X KX6.out).below (hC q)).box).2.1
      have d0 : ∀ q : InC C, q.w.cell? ⟨w.heap.size, 0, none⟩ = some (.slice p n c) := fun q => (dk_cell ((AcD.out X KX6.out).below (hC q)).box).1
      have d1 : ∀ q : InC C, q.w.cell? ⟨w.heap.size, 1, none⟩ = some (.slice p' n' c') := fun q => (dk_cell ((AcD.out X KX6.out).below (hC q)).box).2.1
      clear hC hCC CS
      go_wp2_with fail
      refine wp_region_inC C mixed (by kernel_rfl) C0.out ?_
      repeat (go_big_quiet_step (first | (go_at_call 12; refine K1.out _) | exact rfl))
      refine wpQuiet_nil ?_
      rintro _ ⟨q6, rfl⟩
      have KX7 := hide (SH5.out _ _ KX6.out (CB.out q6))
      clear K1 x0 x1 d0 d1 g0 g1 CB C0 KX6
      generalize q6.w = X at KX7 ⊢
      have KX6 := hide KX7.out
      clear KX7 q6
      have Q := hide (recovered_any p n c p' n' c' d X (AcD.out X KX6.out).one (AcD.out X KX6.out).two he (E.below (AcW.out X KX6.out)))
      rw [hrec] at Q
      obtain ⟨g0, g1, -, -⟩ := dk_cell (AcD.out X KX6.out).box
      go_wp2_with fail
      refine Q.out.mono ?_
      clear Q g0 g1
      rintro e Y ⟨⟨v, lv, rfl, hdv, hown⟩, bY⟩
      obtain ⟨pE, nE, cE, pE', nE', cE', rfl, hx1, hx2, -, -⟩ := hdv
      obtain ⟨pm, cl2, rfl⟩ := ownC_slice hown
      obtain ⟨V, hV⟩ : ∃ V, V = Y.alloc (dkO (.slice pE nE cE) (.slice pE' nE' cE')) := ⟨_, rfl⟩
      have bV : Below Y.heap.size Y V := by rw [hV]; exact below_alloc Y _
      have al : Bx V Y.heap.size pE nE cE pE' nE' cE' rD := by rw [hV]; exact bx_new hx1 hx2
      have KX7 := hide (SH5.out _ _ KX6.out (onward bY bV))
      have OL := hide (own_on (own_low hown (B' := 0) (Nat.zero_le _)) bV (Nat.le_refl _))
      have Q := hide (bx_same (AcR.out V KX7.out) al HR.out.1 HR.out.2)
      obtain ⟨a0, a1, -, -⟩ := dk_cell (AcR.out V KX7.out).box
      obtain ⟨g0, g1, -, -⟩ := dk_cell al.box
      have HV := hide hV
      clear hV bV bY hx1 hx2 hown al KX6
      go_wp2_with (rw [← HV.out])
      clear HV
      generalize Y.heap.size = bQ at *
      clear Y
      refine Q.out.mono ?_
      clear Q g0 g1 a0 a1
      rintro e X ⟨rfl, bX⟩
      have KX6 := hide (SH5.out _ _ KX7.out bX)
      have Q := hide (equalD_same _ _ L X (AcL.out X KX6.out) (own_on OL.out bX (Nat.le_refl _)) HR2.out)
      clear OL bX KX7
      clear V
      go_wp2_with fail
      refine Q.out.mono ?_
      clear Q
      rintro e X ⟨rfl, bX⟩
      have KX6 := hide (SH5.out _ _ KX6.out bX)
      have BW := hide (AcW.out X KX6.out)
      go_wp2
      go_ret
      exact ⟨rfl, BW.out⟩
end Go.Proofs.YthdjfhnhjiageaaGreatDoor.Tx
