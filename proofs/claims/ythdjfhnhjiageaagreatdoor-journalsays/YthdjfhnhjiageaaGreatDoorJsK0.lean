/-
  JournalSays, walked: what all ways begin with; a disk that is wrong.
-/
import Derived.Test.YthdjfhnhjiageaaGreatDoorMgR
import Derived.Test.YthdjfhnhjiageaaGreatDoorMgC
import Derived.Test.YthdjfhnhjiageaaGreatDoorMgJ
namespace Go.Proofs.YthdjfhnhjiageaaGreatDoor.Tx
open Go.RowKit Go.Lib Go.Sort Go.Proofs.YthdjfhnhjiageaaGreatDoor.Mix
theorem cd_all {X : World} {B : Nat} {c : Cd} (h : CdAt X B c) : X.cell? ⟨B, 0, none⟩ = some (.int .i64 c.kind) ∧ X.cell? ⟨B, 1, none⟩ = some (.int .i64 c.ac) ∧ X.cell? ⟨B, 2, none⟩ = some (.int .i64 c.mkt) ∧ X.cell? ⟨B, 3, none⟩ = some (.int .i64 c.n) ∧ X.cell? ⟨B, 4, none⟩ = some (.int .i64 c.oi) ∧ X.cell? ⟨B, 5, none⟩ = some (.int .i64 c.oa) ∧ X.cell? ⟨B, 6, none⟩ = some (.int .i64 c.sd) ∧ X.cell? ⟨B, 7, none⟩ = some (.int .i64 c.pr) ∧ X.cell? ⟨B, 8, none⟩ = some (.int .i64 c.qt) ∧ X.cell? ⟨B, 9, none⟩ = some (.int .i64 c.how) ∧ X.cell? ⟨B, 10, none⟩ = some (.bool c.red) := by
  simp [World.cell?, h]
/-- a disk in a box. -/
structure Bx (X : World) (b : Nat) (p : Option Addr) (n c : Nat) (p' : Option Addr) (n' c' : Nat) (d : Dk) : Prop where
  box : X.heap[b]? = some (dkO (.slice p n c) (.slice p' n' c'))
  one : Bt X p n c d.safe
  two : Bt X p' n' c' d.wait
theorem Bx.below {X Y : World} {b : Nat} {p : Option Addr} {n c : Nat} {p' : Option Addr} {n' c' : Nat} {d : Dk} (h : Bx X b p n c p' n' c' d) (hb : Below X.heap.size X Y) : Bx Y b p n c p' n' c' d := ⟨dk_below h.box hb, h.one.below hb, h.two.below hb⟩
theorem bx_new {X : World} {p : Option Addr} {n c : Nat} {p' : Option Addr} {n' c' : Nat} {d : Dk} (h1 : Bt X p n c d.safe) (h2 : Bt X p' n' c' d.wait) : Bx (X.alloc (dkO (.slice p n c) (.slice p' n' c'))) X.heap.size p n c p' n' c' d :=
  ⟨heap_alloc_new X _, h1.below (below_alloc X _), h2.below (below_alloc X _)⟩
/-- what holds on, whatever is laid behind. -/
def Shut (K : World → Prop) : Prop := ∀ x y, K x → Below x.heap.size x y → K y
theorem shut_and {K F : World → Prop} (hK : Shut K) (hF : Shut F) : Shut (fun x => K x ∧ F x) := fun x y h hb => ⟨hK x y h.1 hb, hF x y h.2 hb⟩
theorem grow {K F : World → Prop} (hK : Shut K) (hF : Shut F) {V : World} (h1 : K V) (h2 : F V) : ∃ K' : World → Prop, Shut K' ∧ K' V ∧ ∀ x, K' x → K x ∧ F x := ⟨fun x => K x ∧ F x, shut_and hK hF, ⟨h1, h2⟩, fun _ h => h⟩
theorem shut_below (w : World) : Shut (Below w.heap.size w) := fun _ _ h hb => onward h hb
theorem bx_shut (b : Nat) (p : Option Addr) (n c : Nat) (p' : Option Addr) (n' c' : Nat) (d : Dk) : Shut (fun x => Bx x b p n c p' n' c' d) := fun _ _ h hb => h.below hb
theorem cd_shut (b : Nat) (cm : Cd) : Shut (fun x => CdAt x b cm) := fun _ _ h hb => cdAt_below h hb
theorem own_shut (B : Nat) (v : Value) (L : List Cd) : Shut (fun x => OwnC B x v L) := fun _ _ h hb => own_on h hb (Nat.le_refl _)
theorem bx_same {X : World} {b : Nat} {p : Option Addr} {n c : Nat} {p' : Option Addr} {n' c' : Nat} {b2 : Nat} {q : Option Addr} {m e : Nat} {q' : Option Addr} {m' e' : Nat} {d : Dk} (h1 : Bx X b p n c p' n' c' d) (h2 : Bx X b2 q m e q' m' e' d) (hs : d.safe.length ≤ 100000) (hw : d.wait.length ≤ 100000) :
    Calls Tryz.prog 12 #[dkV p n c p' n' c', dkV q m e q' m' e'] X fun e w' => e = .returned (.bool true) ∧ Below X.heap.size X w' := by
  obtain rfl : n = m := h1.one.len.symm.trans h2.one.len
  obtain rfl : n' = m' := h1.two.len.symm.trans h2.two.len
  exact sameDisk_any p n c p' n' c' q e q' e' d X h1.one h1.two h2.one h2.two (by rw [← h1.one.len]; exact hs) (by rw [← h1.two.len]; exact hw)
set_option maxHeartbeats 8000000 in
set_option maxRecDepth 100000 in
theorem says_bad (p : Option Addr) (n c : Nat) (p' : Option Addr) (n' c' : Nat) (d : Dk) (cm : Cd) (k : Int) (w : World) (h : Bt w p n c d.safe) (h' : Bt w p' n' c' d.wait) (hn : n ≤ 140737488351232) (hn' : n' ≤ 140737488351232) (f : cm.fits) (E : EnvS w) (ce : Int) (hce : checkD d = ce) (h0 : ¬ ce = 0)
    (ha : putD d cm = (noDk, ce)) (hb : syncD d = (noDk, ce)) (hx : crashD d k = (noDk, ce)) (hr : recD d = (noDk, [], ce)) :
    Calls Tryz.prog 3 #[dkV p n c p' n' c', cdV cm, .int .i64 k] w fun e w' => e = .returned (.bool true) ∧ Below w.heap.size w w' := by
  obtain ⟨W, hW⟩ : ∃ W, W = (w.alloc (dkO (.slice p n c) (.slice p' n' c'))).alloc (cdO cm) := ⟨_, rfl⟩
  have bW : Below w.heap.size w W := by rw [hW]; exact ((Below.refl _ w).alloc (Nat.le_refl _) _).alloc (by simp) _
  have gW : Bx W w.heap.size p n c p' n' c' d := ⟨by rw [hW]; exact dk_below (heap_alloc_new w _) (below_alloc _ _), h.below bW, h'.below bW⟩
  have tW : CdAt W (w.heap.size + 1) cm := by
    rw [hW]
    have := heap_alloc_new (w.alloc (dkO (.slice p n c) (.slice p' n' c'))) (cdO cm)
    simp only [World.size_alloc] at this
    exact this
  have P1 := hide (put_any p n c p' n' c' d cm W gW.one gW.two hn hn' f (E.env.below bW))
  have P2 : Hid (∀ X, Below w.heap.size w X → _) := fun X bX => sync_any p n c p' n' c' d X (h.below bX) (h'.below bX) hn hn' (E.env.below bX)
  have P3 : Hid (∀ X, Below w.heap.size w X → _) := fun X bX => crash_any p n c p' n' c' d k X (h.below bX) (h'.below bX) hn hn' (E.env.below bX)
  have P4 : Hid (∀ X, Below w.heap.size w X → _) := fun X bX => recover_any p n c p' n' c' d X (h.below bX) (h'.below bX) hn hn' (E.env.below bX)
  have P5 : Hid (∀ X, Below w.heap.size w X → _) := fun X bX => refCheckD_any p n c p' n' c' d X (h.below bX) (h'.below bX) hn hn' (E.below bX)
  have P6 : Hid (∀ X, Below w.heap.size w X → _) := fun X bX => journaled_any X (E.env.below bX)
  have P7 : Hid (∀ X, Below w.heap.size w X → _) := fun X bX => checkD_any p n c p' n' c' d X (h.below bX) (h'.below bX) hn hn' (E.env.below bX)
  rw [ha] at P1
  rw [hb] at P2
  rw [hx] at P3
  rw [hr] at P4
  rw [hce] at P5 P7
  clear ha hb hx hr hce
  obtain ⟨K0, S0, Y0, O0⟩ := grow (shut_below w) (shut_and (bx_shut w.heap.size p n c p' n' c' d) (cd_shut (w.heap.size + 1) cm)) bW ⟨gW, tW⟩
  have SH0 := hide S0
  have KO0 := hide O0
  have HW := hide hW
  obtain ⟨g0, g1, -, -⟩ := dk_cell gW.box
  obtain ⟨k0, k1, k2, k3, k4, k5, k6, k7, k8, k9, k10⟩ := cd_all tW
  have KX0 := hide Y0
  have DO0 : Hid (∀ x, K0 x → K0 x) := fun x hx => hx
  clear hW bW gW tW S0 O0 Y0
  obtain ⟨cd, ca, cg, cn, ci, co, cs, cp, cq, ch, cr⟩ := cm
  go_enter Tryz.func3, Tryz.ntmps3
  go_wp2_with (rw [← HW.out])
  refine P1.out.mono ?_
  clear P1 HW g0 g1 k0 k1 k2 k3 k4 k5 k6 k7 k8 k9 k10
  rintro e X ⟨⟨v, rfl, hdv⟩, bX⟩
  obtain ⟨pA, nA, cA, pA', nA', cA', rfl, hx1, hx2, -, -⟩ := hdv
  obtain ⟨V, hV⟩ : ∃ V, V = X.alloc (dkO (.slice pA nA cA) (.slice pA' nA' cA')) := ⟨_, rfl⟩
  have bV : Below X.heap.size X V := by rw [hV]; exact below_alloc X _
  have nb : Bx V X.heap.size pA nA cA pA' nA' cA' noDk := by rw [hV]; exact bx_new hx1 hx2
  obtain ⟨K1, S1, Y1, O1⟩ := grow SH0.out (bx_shut X.heap.size pA nA cA pA' nA' cA' noDk) (SH0.out _ _ KX0.out (onward bX bV)) nb
  have SH1 := hide S1
  have KX1 := hide Y1
  have KO1 := hide O1
  have HV := hide hV
  have DO1 : Hid (∀ x, K1 x → K0 x) := fun x hx => DO0.out x (KO1.out x hx).1
  clear hV bV nb bX hx1 hx2 KX0 SH0 S1 Y1 O1
  have Q := hide (P2.out V (KO0.out V (DO1.out V KX1.out)).1)
  obtain ⟨g0, g1, -, -⟩ := dk_cell (KO0.out V (DO1.out V KX1.out)).2.1.box
  clear P2
  go_wp2_with (rw [← HV.out])
  clear HV
  generalize X.heap.size = bA at *
  clear X
  refine Q.out.mono ?_
  clear Q g0 g1
  rintro e X ⟨⟨v, rfl, hdv⟩, bX⟩
  obtain ⟨pB, nB, cB, pB', nB', cB', rfl, hx1, hx2, -, -⟩ := hdv
  obtain ⟨V, hV⟩ : ∃ V, V = X.alloc (dkO (.slice pB nB cB) (.slice pB' nB' cB')) := ⟨_, rfl⟩
  have bV : Below X.heap.size X V := by rw [hV]; exact below_alloc X _
  have nb : Bx V X.heap.size pB nB cB pB' nB' cB' noDk := by rw [hV]; exact bx_new hx1 hx2
  obtain ⟨K2, S2, Y2, O2⟩ := grow SH1.out (bx_shut X.heap.size pB nB cB pB' nB' cB' noDk) (SH1.out _ _ KX1.out (onward bX bV)) nb
  have SH2 := hide S2
  have KX2 := hide Y2
  have KO2 := hide O2
  have HV := hide hV
  have DO2 : Hid (∀ x, K2 x → K0 x) := fun x hx => DO1.out x (KO2.out x hx).1
  clear hV bV nb bX hx1 hx2 KX1 SH1 S2 Y2 O2
  have Q := hide (P3.out V (KO0.out V (DO2.out V KX2.out)).1)
  obtain ⟨g0, g1, -, -⟩ := dk_cell (KO0.out V (DO2.out V KX2.out)).2.1.box
  clear P3
  go_wp2_with (rw [← HV.out])
  clear HV
  generalize X.heap.size = bB at *
  clear X
  refine Q.out.mono ?_
  clear Q g0 g1
  rintro e X ⟨⟨v, rfl, hdv⟩, bX⟩
  obtain ⟨pX, nX, cX, pX', nX', cX', rfl, hx1, hx2, -, -⟩ := hdv
  obtain ⟨V, hV⟩ : ∃ V, V = X.alloc (dkO (.slice pX nX cX) (.slice pX' nX' cX')) := ⟨_, rfl⟩
  have bV : Below X.heap.size X V := by rw [hV]; exact below_alloc X _
  have nb : Bx V X.heap.size pX nX cX pX' nX' cX' noDk := by rw [hV]; exact bx_new hx1 hx2
  obtain ⟨K3, S3, Y3, O3⟩ := grow SH2.out (bx_shut X.heap.size pX nX cX pX' nX' cX' noDk) (SH2.out _ _ KX2.out (onward bX bV)) nb
  have SH3 := hide S3
  have KX3 := hide Y3
  have KO3 := hide O3
  have HV := hide hV
  have DO3 : Hid (∀ x, K3 x → K0 x) := fun x hx => DO2.out x (KO3.out x hx).1
  clear hV bV nb bX hx1 hx2 KX2 SH2 S3 Y3 O3
  have Q := hide (P4.out V (KO0.out V (DO3.out V KX3.out)).1)
  obtain ⟨g0, g1, -, -⟩ := dk_cell (KO0.out V (DO3.out V KX3.out)).2.1.box
  clear P4
  go_wp2_with (rw [← HV.out])
  clear HV
  generalize X.heap.size = bX at *
  clear X
  refine Q.out.mono ?_
  clear Q g0 g1
  rintro e X ⟨⟨v, lv, rfl, hdv, hown⟩, bX⟩
  obtain ⟨pR, nR, cR, pR', nR', cR', rfl, hx1, hx2, -, -⟩ := hdv
  obtain ⟨pl, cl, rfl⟩ := ownC_slice hown
  obtain ⟨V, hV⟩ : ∃ V, V = X.alloc (dkO (.slice pR nR cR) (.slice pR' nR' cR')) := ⟨_, rfl⟩
  have bV : Below X.heap.size X V := by rw [hV]; exact below_alloc X _
  have nb : Bx V X.heap.size pR nR cR pR' nR' cR' noDk := by rw [hV]; exact bx_new hx1 hx2
  obtain ⟨K4, S4, Y4, O4⟩ := grow SH3.out (shut_and (bx_shut X.heap.size pR nR cR pR' nR' cR' noDk) (own_shut 0 (.slice pl (List.length []) cl) [])) (SH3.out _ _ KX3.out (onward bX bV)) ⟨nb, own_on (own_low hown (B' := 0) (Nat.zero_le _)) bV (Nat.le_refl _)⟩
  obtain ⟨K5, S5, Y5, O5⟩ := grow S4 (bx_shut V.heap.size none 0 0 none 0 0 noDk) (S4 _ _ Y4 (below_alloc V (dkO (.slice none 0 0) (.slice none 0 0)))) (bx_new (bt_none V) (bt_none V))
  have SH5 := hide S5
  have KX5 := hide Y5
  have KO4 := hide O4
  have KO5 := hide O5
  have HV := hide hV
  have DO5 : Hid (∀ x, K5 x → K0 x) := fun x hx => DO3.out x (KO4.out x (KO5.out x hx).1).1
  clear hV bV nb bX hx1 hx2 hown KX3 SH3 S4 Y4 O4 S5 Y5 O5
  have Q := hide (P5.out _ (KO0.out _ (DO5.out _ KX5.out)).1)
  obtain ⟨g0, g1, -, -⟩ := dk_cell (KO0.out _ (DO5.out _ KX5.out)).2.1.box
  clear P5
  go_wp2_with (rw [← HV.out])
  clear HV
  generalize X.heap.size = bR at *
  clear X
  refine Q.out.mono ?_
  rintro e X ⟨rfl, bX⟩
  have KX6 := hide (SH5.out _ _ KX5.out bX)
  have Q6 := hide (P6.out X (KO0.out X (DO5.out X KX6.out)).1)
  clear Q g0 g1 KX5 bX P6
  generalize V.heap.size = bN at *
  clear V
  go_wp2_with fail
  refine Q6.out.mono ?_
  rintro e V ⟨rfl, bX⟩
  have KX5 := hide (SH5.out _ _ KX6.out bX)
  have Q := hide (P7.out V (KO0.out V (DO5.out V KX5.out)).1)
  obtain ⟨g0, g1, -, -⟩ := dk_cell (KO0.out V (DO5.out V KX5.out)).2.1.box
  clear Q6 KX6 bX P7
  clear X
  go_wp2_with fail
  refine Q.out.mono ?_
  rintro e X ⟨rfl, bX⟩
  have KX6 := hide (SH5.out _ _ KX5.out bX)
  clear Q g0 g1 KX5 bX
  clear V
  have AcA : Hid (∀ x, K5 x → Bx x bA pA nA cA pA' nA' cA' noDk) := fun x hx => (KO1.out x (KO2.out x (KO3.out x (KO4.out x (KO5.out x hx).1).1).1).1).2
  have AcB : Hid (∀ x, K5 x → Bx x bB pB nB cB pB' nB' cB' noDk) := fun x hx => (KO2.out x (KO3.out x (KO4.out x (KO5.out x hx).1).1).1).2
  have AcX : Hid (∀ x, K5 x → Bx x bX pX nX cX pX' nX' cX' noDk) := fun x hx => (KO3.out x (KO4.out x (KO5.out x hx).1).1).2
  have AcR : Hid (∀ x, K5 x → Bx x bR pR nR cR pR' nR' cR' noDk) := fun x hx => (KO4.out x (KO5.out x hx).1).2.1
  have AcL : Hid (∀ x, K5 x → OwnC 0 x (.slice pl (List.length []) cl) []) := fun x hx => (KO4.out x (KO5.out x hx).1).2.2
  have AcN : Hid (∀ x, K5 x → Bx x bN none 0 0 none 0 0 noDk) := fun x hx => (KO5.out x hx).2
  have AcD : Hid (∀ x, K5 x → Bx x w.heap.size p n c p' n' c' d) := fun x hx => (KO0.out x (DO5.out x hx)).2.1
  have AcC : Hid (∀ x, K5 x → CdAt x (w.heap.size + 1) ⟨cd, ca, cg, cn, ci, co, cs, cp, cq, ch, cr⟩) := fun x hx => (KO0.out x (DO5.out x hx)).2.2
  have AcW : Hid (∀ x, K5 x → Below w.heap.size w x) := fun x hx => (KO0.out x (DO5.out x hx)).1
  clear KO1 KO2 KO3 KO4 KO5 KO0 DO0 DO1 DO2 DO3 DO5 K1 K2 K3 K4 K0
  obtain ⟨a0, a1, -, -⟩ := dk_cell (AcA.out X KX6.out).box
  obtain ⟨b0, b1, -, -⟩ := dk_cell (AcN.out X KX6.out).box
  have Q := hide (bx_same (AcA.out X KX6.out) (AcN.out X KX6.out) (by decide) (by decide))
  go_wp2_with fail
  refine Q.out.mono ?_
  clear Q a0 a1 b0 b1
  rintro e X ⟨rfl, bY⟩
  have KX6 := hide (SH5.out _ _ KX6.out bY)
  clear bY
  obtain ⟨a0, a1, -, -⟩ := dk_cell (AcB.out X KX6.out).box
  obtain ⟨b0, b1, -, -⟩ := dk_cell (AcN.out X KX6.out).box
  have Q := hide (bx_same (AcB.out X KX6.out) (AcN.out X KX6.out) (by decide) (by decide))
  go_wp2_with fail
  refine Q.out.mono ?_
  clear Q a0 a1 b0 b1
  rintro e X ⟨rfl, bY⟩
  have KX6 := hide (SH5.out _ _ KX6.out bY)
  clear bY
  obtain ⟨a0, a1, -, -⟩ := dk_cell (AcX.out X KX6.out).box
  obtain ⟨b0, b1, -, -⟩ := dk_cell (AcN.out X KX6.out).box
  have Q := hide (bx_same (AcX.out X KX6.out) (AcN.out X KX6.out) (by decide) (by decide))
  go_wp2_with fail
  refine Q.out.mono ?_
  clear Q a0 a1 b0 b1
  rintro e X ⟨rfl, bY⟩
  have KX6 := hide (SH5.out _ _ KX6.out bY)
  clear bY
  obtain ⟨a0, a1, -, -⟩ := dk_cell (AcR.out X KX6.out).box
  obtain ⟨b0, b1, -, -⟩ := dk_cell (AcN.out X KX6.out).box
  have Q := hide (bx_same (AcR.out X KX6.out) (AcN.out X KX6.out) (by decide) (by decide))
  go_wp2_with fail
  refine Q.out.mono ?_
  clear Q a0 a1 b0 b1
  rintro e X ⟨rfl, bY⟩
  have KX6 := hide (SH5.out _ _ KX6.out bY)
  clear bY
  have BW := hide (AcW.out X KX6.out)
  go_wp2
  go_ret
  exact ⟨rfl, BW.out⟩
end Go.Proofs.YthdjfhnhjiageaaGreatDoor.Tx
