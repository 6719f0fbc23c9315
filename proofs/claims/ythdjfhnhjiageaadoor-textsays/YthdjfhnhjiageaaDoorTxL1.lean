/-
  TextSays, walked.
-/
import Derived.Test.YthdjfhnhjiageaaDoorTxN7
import Derived.Test.YthdjfhnhjiageaaDoorTxT4
import Derived.Test.YthdjfhnhjiageaaDoorTxS3
import Derived.Test.YthdjfhnhjiageaaDoorTxB1
namespace Go.Proofs.YthdjfhnhjiageaaDoor.Tx
open Go.RowKit Go.Lib Go.Sort
set_option linter.unusedVariables false

def EqNo (pc : Cd) : Prop := ∀ w, Sem.run Tryd.prog (Op.equalIn 10000 25 (cdV pc) (cdV noCd)) w = .ok true w
set_option maxHeartbeats 8000000 in
set_option maxRecDepth 100000 in
theorem says_00 (c pc : Cd) (s t : Bs) (ce pe : Int) (w : World) (E : EnvS w) (hc : ce = 0) (hs : s.length ≤ 20000) (ec : ∀ w, Sem.run Tryd.prog (Op.equalIn 10000 25 (cdV pc) (cdV pc)) w = .ok true w)
    (PC : ∀ W, Below w.heap.size w W → Calls Tryd.prog 5 #[cdV c] W fun e w' => e = .returned (.tuple #[sV t, .int .i64 ce]) ∧ Below W.heap.size W w')
    (PS : ∀ W, Below w.heap.size w W → Calls Tryd.prog 6 #[sV s] W fun e w' => e = .returned (.tuple #[cdV pc, .int .i64 pe]) ∧ Below W.heap.size W w')
    (CK : ∀ W, Below w.heap.size w W → Calls Tryd.prog 7 #[cdV c] W fun e w' => e = .returned (.int .i64 ce) ∧ Below W.heap.size W w')
    (CH : ∀ W, Below w.heap.size w W → Calls Tryd.prog 9 #[cdV c] W fun e w' => e = .returned (.int .i64 ce) ∧ Below W.heap.size W w')
    (CT : Hid (ce = 0 → ∀ W, Below w.heap.size w W → Calls Tryd.prog 10 #[cdV c] W fun e w' => e = .returned (sV t) ∧ Below W.heap.size W w'))
    (RD : Hid (s.length ≤ 20000 → ∀ W, Below w.heap.size w W → Calls Tryd.prog 11 #[sV s] W fun e w' => e = .returned (.tuple #[cdV pc, .int .i64 pe]) ∧ Below W.heap.size W w')) :
    Calls Tryd.prog 3 #[cdV c, sV s] w fun e w' => e = .returned (.bool true) ∧ Below w.heap.size w w' := by
  have hz : ¬ (20000 : Int) < (s.length : Int) := by omega
  subst hc
  have P1 := hide PC
  have P2 := hide PS
  have K1 := hide CK
  have H1 := hide CH
  have SPE : Hid (∀ X, Below w.heap.size w X → _) := fun X bX => spelt_any X (E.env.below bX)
  obtain ⟨kind, ac, mkt, n, oi, oa, sd, pr, qt, how, red⟩ := c
  obtain ⟨W, hW⟩ : ∃ W, W = w.alloc (cdO ⟨kind, ac, mkt, n, oi, oa, sd, pr, qt, how, red⟩) := ⟨_, rfl⟩
  have BW : Hid (Below w.heap.size w W) := by show Below _ _ _; rw [hW]; exact below_alloc w _
  have CA : Hid (CdAt W w.heap.size ⟨kind, ac, mkt, n, oi, oa, sd, pr, qt, how, red⟩) := by show W.heap[w.heap.size]? = _; rw [hW]; exact heap_alloc_new w _
  have HW := hide hW
  have C1 := hide (P1.out W BW.out)
  clear hW PC PS CK CH E P1
  obtain ⟨a0, a1, a2, a3, a4, a5, a6, a7, a8, a9, a10⟩ := (cd_open CA.out).1
  go_enter Tryd.func3, Tryd.ntmps3
  go_wp2_with (rw [← HW.out])
  clear a0 a1 a2 a3 a4 a5 a6 a7 a8 a9 a10
  refine C1.out.mono ?_
  rintro e X1 ⟨rfl, b1⟩
  have B1 := hide (onward BW.out b1)
  have C2 := hide (P2.out X1 B1.out)
  have CA1 := hide (cdAt_below CA.out b1)
  clear C1 b1 BW HW CA P2
  clear W
  go_wp2_with fail
  refine C2.out.mono ?_
  rintro e X2 ⟨rfl, b2⟩
  obtain ⟨qk, qa, qm, qn, qi, qo, qs, qp, qq, qh, qr⟩ := pc
  obtain ⟨V, hV⟩ : ∃ V, V = X2.alloc (cdO ⟨qk, qa, qm, qn, qi, qo, qs, qp, qq, qh, qr⟩) := ⟨_, rfl⟩
  have bV : Below X2.heap.size X2 V := by rw [hV]; exact below_alloc X2 _
  have DA : Hid (CdAt V X2.heap.size ⟨qk, qa, qm, qn, qi, qo, qs, qp, qq, qh, qr⟩) := by show V.heap[X2.heap.size]? = _; rw [hV]; exact heap_alloc_new X2 _
  have b2V := onward b2 bV
  have BV := hide (onward B1.out b2V)
  have CA := hide (cdAt_below CA1.out b2V)
  have HV := hide hV
  have C3 := hide (K1.out V BV.out)
  clear C2 b2 bV b2V CA1 B1 hV K1
  clear X1
  obtain ⟨a0, a1, a2, a3, a4, a5, a6, a7, a8, a9, a10⟩ := (cd_open CA.out).1
  go_wp2_with (rw [← HV.out])
  clear a0 a1 a2 a3 a4 a5 a6 a7 a8 a9 a10
  refine C3.out.mono ?_
  rintro e X3 ⟨rfl, b3⟩
  have B3 := hide (onward BV.out b3)
  have CA3 := hide (cdAt_below CA.out b3)
  have DA3 := hide (cdAt_below DA.out b3)
  have C4 := hide (SPE.out X3 B3.out)
  clear C3 b3 BV CA DA HV SPE
  generalize X2.heap.size = db at *
  clear V X2
  go_wp2_with fail
  refine C4.out.mono ?_
  rintro e X4 ⟨rfl, b4⟩
  have B4 := hide (onward B3.out b4)
  have CA := hide (cdAt_below CA3.out b4)
  have DA := hide (cdAt_below DA3.out b4)
  have C5 := hide (H1.out X4 B4.out)
  clear C4 b4 B3 CA3 DA3 H1
  clear X3
  obtain ⟨a0, a1, a2, a3, a4, a5, a6, a7, a8, a9, a10⟩ := (cd_open CA.out).1
  go_wp2_with fail
  clear a0 a1 a2 a3 a4 a5 a6 a7 a8 a9 a10
  refine C5.out.mono ?_
  rintro e X ⟨rfl, b5⟩
  have BX := hide (onward B4.out b5)
  have CX := hide (cdAt_below CA.out b5)
  have DX := hide (cdAt_below DA.out b5)
  clear C5 b5 B4 CA DA
  clear X4
  have C6 := hide (CT.out (by first | rfl | trivial) X BX.out)
  clear CT
  have CA := CX
  obtain ⟨a0, a1, a2, a3, a4, a5, a6, a7, a8, a9, a10⟩ := (cd_open CA.out).1
  clear CA
  go_wp2_with fail
  clear a0 a1 a2 a3 a4 a5 a6 a7 a8 a9 a10
  refine C6.out.mono ?_
  rintro e Y ⟨rfl, b6⟩
  have BY := hide (onward BX.out b6)
  have DY := hide (cdAt_below DX.out b6)
  clear C6 b6 BX CX DX
  clear X
  have C7 := hide (RD.out (by omega) Y BY.out)
  clear RD
  go_wp2_with fail
  refine C7.out.mono ?_
  rintro e Z ⟨rfl, b7⟩
  obtain ⟨V, hV⟩ : ∃ V, V = Z.alloc (cdO ⟨qk, qa, qm, qn, qi, qo, qs, qp, qq, qh, qr⟩) := ⟨_, rfl⟩
  have bV : Below Z.heap.size Z V := by rw [hV]; exact below_alloc Z _
  have NA : CdAt V Z.heap.size ⟨qk, qa, qm, qn, qi, qo, qs, qp, qq, qh, qr⟩ := by show V.heap[Z.heap.size]? = _; rw [hV]; exact heap_alloc_new Z _
  have b7V := onward b7 bV
  have BV := hide (onward BY.out b7V)
  have CA := hide (cdAt_below DY.out b7V)
  have HV := hide hV
  obtain ⟨n0, n1, n2, n3, n4, n5, n6, n7, n8, n9, n10⟩ := (cd_open NA).1
  obtain ⟨a0, a1, a2, a3, a4, a5, a6, a7, a8, a9, a10⟩ := (cd_open CA.out).1
  clear hV bV b7 b7V C7 NA CA DY BY
  go_wp2_with (rw [← HV.out])
  go_ret
  exact ⟨rfl, BV.out⟩
set_option maxHeartbeats 8000000 in
set_option maxRecDepth 100000 in
theorem says_01 (c pc : Cd) (s t : Bs) (ce pe : Int) (w : World) (E : EnvS w) (hc : ce = 0) (hs : 20000 < s.length) (hp : pe = 2) (ez : EqNo pc) (ec : ∀ w, Sem.run Tryd.prog (Op.equalIn 10000 25 (cdV pc) (cdV pc)) w = .ok true w)
    (PC : ∀ W, Below w.heap.size w W → Calls Tryd.prog 5 #[cdV c] W fun e w' => e = .returned (.tuple #[sV t, .int .i64 ce]) ∧ Below W.heap.size W w')
    (PS : ∀ W, Below w.heap.size w W → Calls Tryd.prog 6 #[sV s] W fun e w' => e = .returned (.tuple #[cdV pc, .int .i64 pe]) ∧ Below W.heap.size W w')
    (CK : ∀ W, Below w.heap.size w W → Calls Tryd.prog 7 #[cdV c] W fun e w' => e = .returned (.int .i64 ce) ∧ Below W.heap.size W w')
    (CH : ∀ W, Below w.heap.size w W → Calls Tryd.prog 9 #[cdV c] W fun e w' => e = .returned (.int .i64 ce) ∧ Below W.heap.size W w')
    (CT : Hid (ce = 0 → ∀ W, Below w.heap.size w W → Calls Tryd.prog 10 #[cdV c] W fun e w' => e = .returned (sV t) ∧ Below W.heap.size W w'))
    (RD : Hid (s.length ≤ 20000 → ∀ W, Below w.heap.size w W → Calls Tryd.prog 11 #[sV s] W fun e w' => e = .returned (.tuple #[cdV pc, .int .i64 pe]) ∧ Below W.heap.size W w')) :
    Calls Tryd.prog 3 #[cdV c, sV s] w fun e w' => e = .returned (.bool true) ∧ Below w.heap.size w w' := by
  have hz : (20000 : Int) < (s.length : Int) := by omega
  subst hc hp
  unfold EqNo at ez
  have P1 := hide PC
  have P2 := hide PS
  have K1 := hide CK
  have H1 := hide CH
  have SPE : Hid (∀ X, Below w.heap.size w X → _) := fun X bX => spelt_any X (E.env.below bX)
  obtain ⟨kind, ac, mkt, n, oi, oa, sd, pr, qt, how, red⟩ := c
  obtain ⟨W, hW⟩ : ∃ W, W = w.alloc (cdO ⟨kind, ac, mkt, n, oi, oa, sd, pr, qt, how, red⟩) := ⟨_, rfl⟩
  have BW : Hid (Below w.heap.size w W) := by show Below _ _ _; rw [hW]; exact below_alloc w _
  have CA : Hid (CdAt W w.heap.size ⟨kind, ac, mkt, n, oi, oa, sd, pr, qt, how, red⟩) := by show W.heap[w.heap.size]? = _; rw [hW]; exact heap_alloc_new w _
  have HW := hide hW
  have C1 := hide (P1.out W BW.out)
  clear hW PC PS CK CH E P1
  obtain ⟨a0, a1, a2, a3, a4, a5, a6, a7, a8, a9, a10⟩ := (cd_open CA.out).1
  go_enter Tryd.func3, Tryd.ntmps3
  go_wp2_with (rw [← HW.out])
  clear a0 a1 a2 a3 a4 a5 a6 a7 a8 a9 a10
  refine C1.out.mono ?_
  rintro e X1 ⟨rfl, b1⟩
  have B1 := hide (onward BW.out b1)
  have C2 := hide (P2.out X1 B1.out)
  have CA1 := hide (cdAt_below CA.out b1)
  clear C1 b1 BW HW CA P2
  clear W
  go_wp2_with fail
  refine C2.out.mono ?_
  rintro e X2 ⟨rfl, b2⟩
  obtain ⟨qk, qa, qm, qn, qi, qo, qs, qp, qq, qh, qr⟩ := pc
  obtain ⟨V, hV⟩ : ∃ V, V = X2.alloc (cdO ⟨qk, qa, qm, qn, qi, qo, qs, qp, qq, qh, qr⟩) := ⟨_, rfl⟩
  have bV : Below X2.heap.size X2 V := by rw [hV]; exact below_alloc X2 _
  have DA : Hid (CdAt V X2.heap.size ⟨qk, qa, qm, qn, qi, qo, qs, qp, qq, qh, qr⟩) := by show V.heap[X2.heap.size]? = _; rw [hV]; exact heap_alloc_new X2 _
  have b2V := onward b2 bV
  have BV := hide (onward B1.out b2V)
  have CA := hide (cdAt_below CA1.out b2V)
  have HV := hide hV
  have C3 := hide (K1.out V BV.out)
  clear C2 b2 bV b2V CA1 B1 hV K1
  clear X1
  obtain ⟨a0, a1, a2, a3, a4, a5, a6, a7, a8, a9, a10⟩ := (cd_open CA.out).1
  go_wp2_with (rw [← HV.out])
  clear a0 a1 a2 a3 a4 a5 a6 a7 a8 a9 a10
  refine C3.out.mono ?_
  rintro e X3 ⟨rfl, b3⟩
  have B3 := hide (onward BV.out b3)
  have CA3 := hide (cdAt_below CA.out b3)
  have DA3 := hide (cdAt_below DA.out b3)
  have C4 := hide (SPE.out X3 B3.out)
  clear C3 b3 BV CA DA HV SPE
  generalize X2.heap.size = db at *
  clear V X2
  go_wp2_with fail
  refine C4.out.mono ?_
  rintro e X4 ⟨rfl, b4⟩
  have B4 := hide (onward B3.out b4)
  have CA := hide (cdAt_below CA3.out b4)
  have DA := hide (cdAt_below DA3.out b4)
  have C5 := hide (H1.out X4 B4.out)
  clear C4 b4 B3 CA3 DA3 H1
  clear X3
  obtain ⟨a0, a1, a2, a3, a4, a5, a6, a7, a8, a9, a10⟩ := (cd_open CA.out).1
  go_wp2_with fail
  clear a0 a1 a2 a3 a4 a5 a6 a7 a8 a9 a10
  refine C5.out.mono ?_
  rintro e X ⟨rfl, b5⟩
  have BX := hide (onward B4.out b5)
  have CX := hide (cdAt_below CA.out b5)
  have DX := hide (cdAt_below DA.out b5)
  clear C5 b5 B4 CA DA
  clear X4
  have C6 := hide (CT.out (by first | rfl | trivial) X BX.out)
  clear CT
  have CA := CX
  obtain ⟨a0, a1, a2, a3, a4, a5, a6, a7, a8, a9, a10⟩ := (cd_open CA.out).1
  clear CA
  go_wp2_with fail
  clear a0 a1 a2 a3 a4 a5 a6 a7 a8 a9 a10
  refine C6.out.mono ?_
  rintro e Y ⟨rfl, b6⟩
  have BY := hide (onward BX.out b6)
  have DY := hide (cdAt_below DX.out b6)
  clear C6 b6 BX CX DX
  clear X
  have CA := DY
  obtain ⟨a0, a1, a2, a3, a4, a5, a6, a7, a8, a9, a10⟩ := (cd_open CA.out).1
  clear CA
  go_wp2
  go_ret
  exact ⟨rfl, BY.out⟩
set_option maxHeartbeats 8000000 in
set_option maxRecDepth 100000 in
theorem says_10 (c pc : Cd) (s t : Bs) (ce pe : Int) (w : World) (E : EnvS w) (hc : ¬ ce = 0) (ht : t = []) (hs : s.length ≤ 20000) (ec : ∀ w, Sem.run Tryd.prog (Op.equalIn 10000 25 (cdV pc) (cdV pc)) w = .ok true w)
    (PC : ∀ W, Below w.heap.size w W → Calls Tryd.prog 5 #[cdV c] W fun e w' => e = .returned (.tuple #[sV t, .int .i64 ce]) ∧ Below W.heap.size W w')
    (PS : ∀ W, Below w.heap.size w W → Calls Tryd.prog 6 #[sV s] W fun e w' => e = .returned (.tuple #[cdV pc, .int .i64 pe]) ∧ Below W.heap.size W w')
    (CK : ∀ W, Below w.heap.size w W → Calls Tryd.prog 7 #[cdV c] W fun e w' => e = .returned (.int .i64 ce) ∧ Below W.heap.size W w')
    (CH : ∀ W, Below w.heap.size w W → Calls Tryd.prog 9 #[cdV c] W fun e w' => e = .returned (.int .i64 ce) ∧ Below W.heap.size W w')
    (CT : Hid (ce = 0 → ∀ W, Below w.heap.size w W → Calls Tryd.prog 10 #[cdV c] W fun e w' => e = .returned (sV t) ∧ Below W.heap.size W w'))
    (RD : Hid (s.length ≤ 20000 → ∀ W, Below w.heap.size w W → Calls Tryd.prog 11 #[sV s] W fun e w' => e = .returned (.tuple #[cdV pc, .int .i64 pe]) ∧ Below W.heap.size W w')) :
    Calls Tryd.prog 3 #[cdV c, sV s] w fun e w' => e = .returned (.bool true) ∧ Below w.heap.size w w' := by
  have hz : ¬ (20000 : Int) < (s.length : Int) := by omega
  subst ht
  have P1 := hide PC
  have P2 := hide PS
  have K1 := hide CK
  have H1 := hide CH
  have SPE : Hid (∀ X, Below w.heap.size w X → _) := fun X bX => spelt_any X (E.env.below bX)
  obtain ⟨kind, ac, mkt, n, oi, oa, sd, pr, qt, how, red⟩ := c
  obtain ⟨W, hW⟩ : ∃ W, W = w.alloc (cdO ⟨kind, ac, mkt, n, oi, oa, sd, pr, qt, how, red⟩) := ⟨_, rfl⟩
  have BW : Hid (Below w.heap.size w W) := by show Below _ _ _; rw [hW]; exact below_alloc w _
  have CA : Hid (CdAt W w.heap.size ⟨kind, ac, mkt, n, oi, oa, sd, pr, qt, how, red⟩) := by show W.heap[w.heap.size]? = _; rw [hW]; exact heap_alloc_new w _
  have HW := hide hW
  have C1 := hide (P1.out W BW.out)
  clear hW PC PS CK CH E P1
  obtain ⟨a0, a1, a2, a3, a4, a5, a6, a7, a8, a9, a10⟩ := (cd_open CA.out).1
  go_enter Tryd.func3, Tryd.ntmps3
  go_wp2_with (rw [← HW.out])
  clear a0 a1 a2 a3 a4 a5 a6 a7 a8 a9 a10
  refine C1.out.mono ?_
  rintro e X1 ⟨rfl, b1⟩
  have B1 := hide (onward BW.out b1)
  have C2 := hide (P2.out X1 B1.out)
  have CA1 := hide (cdAt_below CA.out b1)
  clear C1 b1 BW HW CA P2
  clear W
  go_wp2_with fail
  refine C2.out.mono ?_
  rintro e X2 ⟨rfl, b2⟩
  obtain ⟨qk, qa, qm, qn, qi, qo, qs, qp, qq, qh, qr⟩ := pc
  obtain ⟨V, hV⟩ : ∃ V, V = X2.alloc (cdO ⟨qk, qa, qm, qn, qi, qo, qs, qp, qq, qh, qr⟩) := ⟨_, rfl⟩
  have bV : Below X2.heap.size X2 V := by rw [hV]; exact below_alloc X2 _
  have DA : Hid (CdAt V X2.heap.size ⟨qk, qa, qm, qn, qi, qo, qs, qp, qq, qh, qr⟩) := by show V.heap[X2.heap.size]? = _; rw [hV]; exact heap_alloc_new X2 _
  have b2V := onward b2 bV
  have BV := hide (onward B1.out b2V)
  have CA := hide (cdAt_below CA1.out b2V)
  have HV := hide hV
  have C3 := hide (K1.out V BV.out)
  clear C2 b2 bV b2V CA1 B1 hV K1
  clear X1
  obtain ⟨a0, a1, a2, a3, a4, a5, a6, a7, a8, a9, a10⟩ := (cd_open CA.out).1
  go_wp2_with (rw [← HV.out])
  clear a0 a1 a2 a3 a4 a5 a6 a7 a8 a9 a10
  refine C3.out.mono ?_
  rintro e X3 ⟨rfl, b3⟩
  have B3 := hide (onward BV.out b3)
  have CA3 := hide (cdAt_below CA.out b3)
  have DA3 := hide (cdAt_below DA.out b3)
  have C4 := hide (SPE.out X3 B3.out)
  clear C3 b3 BV CA DA HV SPE
  generalize X2.heap.size = db at *
  clear V X2
  go_wp2_with fail
  refine C4.out.mono ?_
  rintro e X4 ⟨rfl, b4⟩
  have B4 := hide (onward B3.out b4)
  have CA := hide (cdAt_below CA3.out b4)
  have DA := hide (cdAt_below DA3.out b4)
  have C5 := hide (H1.out X4 B4.out)
  clear C4 b4 B3 CA3 DA3 H1
  clear X3
  obtain ⟨a0, a1, a2, a3, a4, a5, a6, a7, a8, a9, a10⟩ := (cd_open CA.out).1
  go_wp2_with fail
  clear a0 a1 a2 a3 a4 a5 a6 a7 a8 a9 a10
  refine C5.out.mono ?_
  rintro e X ⟨rfl, b5⟩
  have BX := hide (onward B4.out b5)
  have CX := hide (cdAt_below CA.out b5)
  have DX := hide (cdAt_below DA.out b5)
  clear C5 b5 B4 CA DA
  clear X4
  have BY := BX
  have DY := DX
  obtain ⟨Y, hXY⟩ : ∃ Y, Y = X := ⟨_, rfl⟩
  subst hXY
  clear BX DX CX
  have C7 := hide (RD.out (by omega) Y BY.out)
  clear RD
  go_wp2_with fail
  refine C7.out.mono ?_
  rintro e Z ⟨rfl, b7⟩
  obtain ⟨V, hV⟩ : ∃ V, V = Z.alloc (cdO ⟨qk, qa, qm, qn, qi, qo, qs, qp, qq, qh, qr⟩) := ⟨_, rfl⟩
  have bV : Below Z.heap.size Z V := by rw [hV]; exact below_alloc Z _
  have NA : CdAt V Z.heap.size ⟨qk, qa, qm, qn, qi, qo, qs, qp, qq, qh, qr⟩ := by show V.heap[Z.heap.size]? = _; rw [hV]; exact heap_alloc_new Z _
  have b7V := onward b7 bV
  have BV := hide (onward BY.out b7V)
  have CA := hide (cdAt_below DY.out b7V)
  have HV := hide hV
  obtain ⟨n0, n1, n2, n3, n4, n5, n6, n7, n8, n9, n10⟩ := (cd_open NA).1
  obtain ⟨a0, a1, a2, a3, a4, a5, a6, a7, a8, a9, a10⟩ := (cd_open CA.out).1
  clear hV bV b7 b7V C7 NA CA DY BY
  go_wp2_with (rw [← HV.out])
  go_ret
  exact ⟨rfl, BV.out⟩
set_option maxHeartbeats 8000000 in
set_option maxRecDepth 100000 in
theorem says_11 (c pc : Cd) (s t : Bs) (ce pe : Int) (w : World) (E : EnvS w) (hc : ¬ ce = 0) (ht : t = []) (hs : 20000 < s.length) (hp : pe = 2) (ez : EqNo pc) (ec : ∀ w, Sem.run Tryd.prog (Op.equalIn 10000 25 (cdV pc) (cdV pc)) w = .ok true w)
    (PC : ∀ W, Below w.heap.size w W → Calls Tryd.prog 5 #[cdV c] W fun e w' => e = .returned (.tuple #[sV t, .int .i64 ce]) ∧ Below W.heap.size W w')
    (PS : ∀ W, Below w.heap.size w W → Calls Tryd.prog 6 #[sV s] W fun e w' => e = .returned (.tuple #[cdV pc, .int .i64 pe]) ∧ Below W.heap.size W w')
    (CK : ∀ W, Below w.heap.size w W → Calls Tryd.prog 7 #[cdV c] W fun e w' => e = .returned (.int .i64 ce) ∧ Below W.heap.size W w')
    (CH : ∀ W, Below w.heap.size w W → Calls Tryd.prog 9 #[cdV c] W fun e w' => e = .returned (.int .i64 ce) ∧ Below W.heap.size W w')
    (CT : Hid (ce = 0 → ∀ W, Below w.heap.size w W → Calls Tryd.prog 10 #[cdV c] W fun e w' => e = .returned (sV t) ∧ Below W.heap.size W w'))
    (RD : Hid (s.length ≤ 20000 → ∀ W, Below w.heap.size w W → Calls Tryd.prog 11 #[sV s] W fun e w' => e = .returned (.tuple #[cdV pc, .int .i64 pe]) ∧ Below W.heap.size W w')) :
    Calls Tryd.prog 3 #[cdV c, sV s] w fun e w' => e = .returned (.bool true) ∧ Below w.heap.size w w' := by
  have hz : (20000 : Int) < (s.length : Int) := by omega
  subst ht hp
  unfold EqNo at ez
  have P1 := hide PC
  have P2 := hide PS
  have K1 := hide CK
  have H1 := hide CH
  have SPE : Hid (∀ X, Below w.heap.size w X → _) := fun X bX => spelt_any X (E.env.below bX)
  obtain ⟨kind, ac, mkt, n, oi, oa, sd, pr, qt, how, red⟩ := c
  obtain ⟨W, hW⟩ : ∃ W, W = w.alloc (cdO ⟨kind, ac, mkt, n, oi, oa, sd, pr, qt, how, red⟩) := ⟨_, rfl⟩
  have BW : Hid (Below w.heap.size w W) := by show Below _ _ _; rw [hW]; exact below_alloc w _
  have CA : Hid (CdAt W w.heap.size ⟨kind, ac, mkt, n, oi, oa, sd, pr, qt, how, red⟩) := by show W.heap[w.heap.size]? = _; rw [hW]; exact heap_alloc_new w _
  have HW := hide hW
  have C1 := hide (P1.out W BW.out)
  clear hW PC PS CK CH E P1
  obtain ⟨a0, a1, a2, a3, a4, a5, a6, a7, a8, a9, a10⟩ := (cd_open CA.out).1
  go_enter Tryd.func3, Tryd.ntmps3
  go_wp2_with (rw [← HW.out])
  clear a0 a1 a2 a3 a4 a5 a6 a7 a8 a9 a10
  refine C1.out.mono ?_
  rintro e X1 ⟨rfl, b1⟩
  have B1 := hide (onward BW.out b1)
  have C2 := hide (P2.out X1 B1.out)
  have CA1 := hide (cdAt_below CA.out b1)
  clear C1 b1 BW HW CA P2
  clear W
  go_wp2_with fail
  refine C2.out.mono ?_
  rintro e X2 ⟨rfl, b2⟩
  obtain ⟨qk, qa, qm, qn, qi, qo, qs, qp, qq, qh, qr⟩ := pc
  obtain ⟨V, hV⟩ : ∃ V, V = X2.alloc (cdO ⟨qk, qa, qm, qn, qi, qo, qs, qp, qq, qh, qr⟩) := ⟨_, rfl⟩
  have bV : Below X2.heap.size X2 V := by rw [hV]; exact below_alloc X2 _
  have DA : Hid (CdAt V X2.heap.size ⟨qk, qa, qm, qn, qi, qo, qs, qp, qq, qh, qr⟩) := by show V.heap[X2.heap.size]? = _; rw [hV]; exact heap_alloc_new X2 _
  have b2V := onward b2 bV
  have BV := hide (onward B1.out b2V)
  have CA := hide (cdAt_below CA1.out b2V)
  have HV := hide hV
  have C3 := hide (K1.out V BV.out)
  clear C2 b2 bV b2V CA1 B1 hV K1
  clear X1
  obtain ⟨a0, a1, a2, a3, a4, a5, a6, a7, a8, a9, a10⟩ := (cd_open CA.out).1
  go_wp2_with (rw [← HV.out])
  clear a0 a1 a2 a3 a4 a5 a6 a7 a8 a9 a10
  refine C3.out.mono ?_
  rintro e X3 ⟨rfl, b3⟩
  have B3 := hide (onward BV.out b3)
  have CA3 := hide (cdAt_below CA.out b3)
  have DA3 := hide (cdAt_below DA.out b3)
  have C4 := hide (SPE.out X3 B3.out)
  clear C3 b3 BV CA DA HV SPE
  generalize X2.heap.size = db at *
  clear V X2
  go_wp2_with fail
  refine C4.out.mono ?_
  rintro e X4 ⟨rfl, b4⟩
  have B4 := hide (onward B3.out b4)
  have CA := hide (cdAt_below CA3.out b4)
  have DA := hide (cdAt_below DA3.out b4)
  have C5 := hide (H1.out X4 B4.out)
  clear C4 b4 B3 CA3 DA3 H1
  clear X3
  obtain ⟨a0, a1, a2, a3, a4, a5, a6, a7, a8, a9, a10⟩ := (cd_open CA.out).1
  go_wp2_with fail
  clear a0 a1 a2 a3 a4 a5 a6 a7 a8 a9 a10
  refine C5.out.mono ?_
  rintro e X ⟨rfl, b5⟩
  have BX := hide (onward B4.out b5)
  have CX := hide (cdAt_below CA.out b5)
  have DX := hide (cdAt_below DA.out b5)
  clear C5 b5 B4 CA DA
  clear X4
  have BY := BX
  have DY := DX
  clear BX DX CX
  have CA := DY
  obtain ⟨a0, a1, a2, a3, a4, a5, a6, a7, a8, a9, a10⟩ := (cd_open CA.out).1
  clear CA
  go_wp2
  go_ret
  exact ⟨rfl, BY.out⟩
theorem says_any (c : Cd) (s : Bs) (w : World) (hc : c.fits) (E : EnvS w) :
    Calls Tryd.prog 3 #[cdV c, sV s] w fun e w' => e = .returned (.bool true) ∧ Below w.heap.size w w' := by
  have PC := fun W hW => print_any c W hc (E.env.below hW)
  have PS := fun W hW => parse_any s W (E.env.below hW)
  have CK := fun W (hW : Below w.heap.size w W) => refCheck_any c W
  have CH := fun W (hW : Below w.heap.size w W) => check_any c W hc.sd
  have CT : Hid (checkC c = 0 → ∀ W, Below w.heap.size w W → Calls Tryd.prog 10 #[cdV c] W fun e w' => e = .returned (sV (printS c)) ∧ Below W.heap.size W w') := fun h0 W hW => by
    unfold printS
    rw [if_pos h0]
    exact text_any c h0 hc W (E.below hW)
  have RD : Hid (s.length ≤ 20000 → ∀ W, Below w.heap.size w W → _) := fun hs W hW => refRead_is s hs W (E.below hW)
  have ec := eqC (parseC s).1 (parseC s).1
  rw [sameC_iff.2 rfl] at ec
  by_cases h0 : checkC c = 0
  · by_cases hs : s.length ≤ 20000
    · exact says_00 c _ s _ _ _ w E h0 hs ec PC PS CK CH CT RD
    · have hp : parseC s = (noCd, 2) := by unfold parseC; rw [if_pos (by omega)]
      exact says_01 c _ s _ _ _ w E h0 (by omega) (by rw [hp]) (by rw [hp]; have := eqC noCd noCd; rw [sameC_iff.2 rfl] at this; unfold EqNo; exact this) ec PC PS CK CH CT RD
  · have ht : printS c = [] := by unfold printS; rw [if_neg h0]
    by_cases hs : s.length ≤ 20000
    · exact says_10 c _ s _ _ _ w E h0 ht hs ec PC PS CK CH CT RD
    · have hp : parseC s = (noCd, 2) := by unfold parseC; rw [if_pos (by omega)]
      exact says_11 c _ s _ _ _ w E h0 ht (by omega) (by rw [hp]) (by rw [hp]; have := eqC noCd noCd; rw [sameC_iff.2 rfl] at this; unfold EqNo; exact this) ec PC PS CK CH CT RD
end Go.Proofs.YthdjfhnhjiageaaDoor.Tx
