/-
  TextBack, walked: what is printed is read; unlike commands have unlike texts; no text has a line feed.
-/
import Derived.Test.YtioapcbgjoflcaaDoorTxB1
namespace Go.Proofs.YtioapcbgjoflcaaDoor.Tx
open Go.RowKit Go.Lib Go.Sort Go.Proofs.YtioapcbgjoflcaaDoor.Mix

theorem bytes_cells (w : World) (t : Bs) (j : Nat) (hj : j < t.length) : (bytesWorld w 5 (sB t)).cell? ⟨w.heap.size, j, none⟩ = some (.int .u8 (t.getD j 0).toNat) := by
  have := bytesWorld_cell w 5 (sB t) j (by rw [sB_size]; exact hj)
  simpa using this
theorem conv_any (t : Bs) (w : World) : (convert 9 36 (.string (sB t))).run Tryd.prog w = .ok (.slice (some ⟨w.heap.size, 0, none⟩) t.length (grownCap w t.length 0 5)) (bytesWorld w 5 (sB t)) := by
  have := Go.Lib.run_convert_string_bytes (P := Tryd.prog) w 9 36 5 (sB t) Tryd.underlying9 Tryd.underlying36 Tryd.underlying5
  rw [sB_size] at this
  exact this
set_option maxHeartbeats 8000000 in
set_option maxRecDepth 100000 in
theorem back_both (c d : Cd) (s t u : Bs) (x : Cd) (xe : Int) (same : Bool) (w : World) (E : Env w) (tl : t.length ≤ 200) (HLF : Hid ((10 : UInt8) ∉ t))
    (PC : ∀ W, Below w.heap.size w W → Calls Tryd.prog 5 #[cdV c] W fun e w' => e = .returned (.tuple #[sV t, .int .i64 0]) ∧ Below W.heap.size W w')
    (PD : ∀ W, Below w.heap.size w W → Calls Tryd.prog 5 #[cdV d] W fun e w' => e = .returned (.tuple #[sV u, .int .i64 0]) ∧ Below W.heap.size W w')
    (PT0 : Hid (∀ W, Below w.heap.size w W → Calls Tryd.prog 6 #[sV t] W fun e w' => e = .returned (.tuple #[cdV c, .int .i64 0]) ∧ Below W.heap.size W w'))
    (PS : Hid (∀ W, Below w.heap.size w W → Calls Tryd.prog 6 #[sV s] W fun e w' => e = .returned (.tuple #[cdV x, .int .i64 xe]) ∧ Below W.heap.size W w'))
    (PP : Hid (xe = 0 → ∀ W, Below w.heap.size w W → Calls Tryd.prog 5 #[cdV x] W fun e w' => e = .returned (.tuple #[sV s, .int .i64 0]) ∧ Below W.heap.size W w'))
    (eq : ∀ w, Sem.run Tryd.prog (Op.equalIn 10000 25 (cdV c) (cdV d)) w = .ok same w) (ec : ∀ w, Sem.run Tryd.prog (Op.equalIn 10000 25 (cdV c) (cdV c)) w = .ok true w) (tu : (t == u) = same) :
    Calls Tryd.prog 4 #[cdV c, cdV d, sV s] w fun e w' => e = .returned (.bool true) ∧ Below w.heap.size w w' := by
  obtain ⟨W, hW⟩ : ∃ W, W = (w.alloc (cdO c)).alloc (cdO d) := ⟨_, rfl⟩
  have HW := hide hW
  have BW : Hid (Below w.heap.size w W) := by rw [hW]; exact ((Below.refl _ w).alloc (Nat.le_refl _) _).alloc (by simp) _
  have CA : CdAt W w.heap.size c := by
    show W.heap[w.heap.size]? = _
    rw [hW, Below.heap_alloc _ _ _ (by simp)]
    exact heap_alloc_new w _
  have CB : CdAt W (w.heap.size + 1) d := by
    show W.heap[w.heap.size + 1]? = _
    rw [hW]
    have := heap_alloc_new (w.alloc (cdO c)) (cdO d)
    simp only [World.size_alloc] at this
    exact this
  have EW := E.below BW.out
  have P1 := hide (PC W BW.out)
  have HPD := hide PD
  have HSP := hide (fun W' hW' => spelt_any W' (E.below hW'))
  obtain ⟨kind, ac, mkt, n, oi, oa, sd, pr, qt, how, red⟩ := c
  obtain ⟨kind2, ac2, mkt2, n2, oi2, oa2, sd2, pr2, qt2, how2, red2⟩ := d
  dsimp only [cdO] at HW
  have CAH := hide CA
  have CBH := hide CB
  have a0 := cd_cells CA (Below.refl _ W) 0 rfl
  have a1 := cd_cells CA (Below.refl _ W) 1 rfl
  have a2 := cd_cells CA (Below.refl _ W) 2 rfl
  have a3 := cd_cells CA (Below.refl _ W) 3 rfl
  have a4 := cd_cells CA (Below.refl _ W) 4 rfl
  have a5 := cd_cells CA (Below.refl _ W) 5 rfl
  have a6 := cd_cells CA (Below.refl _ W) 6 rfl
  have a7 := cd_cells CA (Below.refl _ W) 7 rfl
  have a8 := cd_cells CA (Below.refl _ W) 8 rfl
  have a9 := cd_cells CA (Below.refl _ W) 9 rfl
  have a10 := cd_cells CA (Below.refl _ W) 10 rfl
  simp only [List.getElem_toArray, List.getElem_cons_zero, List.getElem_cons_succ] at a0 a1 a2 a3 a4 a5 a6 a7 a8 a9 a10
  clear hW PC PD E EW CA CB
  go_enter Tryd.func4, Tryd.ntmps4
  go_wp2_with (rw [← HW.out])
  refine P1.out.mono ?_
  rintro e w1 ⟨rfl, hb⟩
  have BW1 := hide (onward BW.out hb)
  have CA1 := hide (cdAt_below CAH.out hb)
  have CB1 := hide (cdAt_below CBH.out hb)
  have P2 := hide (HPD.out w1 BW1.out)
  have cb := CB1.out
  have b0 := cd_cells cb (Below.refl _ w1) 0 rfl
  have b1 := cd_cells cb (Below.refl _ w1) 1 rfl
  have b2 := cd_cells cb (Below.refl _ w1) 2 rfl
  have b3 := cd_cells cb (Below.refl _ w1) 3 rfl
  have b4 := cd_cells cb (Below.refl _ w1) 4 rfl
  have b5 := cd_cells cb (Below.refl _ w1) 5 rfl
  have b6 := cd_cells cb (Below.refl _ w1) 6 rfl
  have b7 := cd_cells cb (Below.refl _ w1) 7 rfl
  have b8 := cd_cells cb (Below.refl _ w1) 8 rfl
  have b9 := cd_cells cb (Below.refl _ w1) 9 rfl
  have b10 := cd_cells cb (Below.refl _ w1) 10 rfl
  simp only [List.getElem_toArray, List.getElem_cons_zero, List.getElem_cons_succ] at b0 b1 b2 b3 b4 b5 b6 b7 b8 b9 b10
  clear hb a0 a1 a2 a3 a4 a5 a6 a7 a8 a9 a10 P1 HPD CAH CBH BW HW cb
  clear W
  go_wp2_with fail
  refine P2.out.mono ?_
  rintro e w2 ⟨rfl, hb⟩
  have BW2 := hide (onward BW1.out hb)
  have CA2 := hide (cdAt_below CA1.out hb)
  have CB2 := hide (cdAt_below CB1.out hb)
  have SP := hide (HSP.out w2 BW2.out)
  clear hb b0 b1 b2 b3 b4 b5 b6 b7 b8 b9 b10 P2 CA1 CB1 BW1 HSP
  clear w1
  go_wp2_with fail
  refine SP.out.mono ?_
  rintro e w3 ⟨rfl, hb⟩
  have BW3 := hide (onward BW2.out hb)
  have CA3 := hide (cdAt_below CA2.out hb)
  have CB3 := hide (cdAt_below CB2.out hb)
  have ca := CA3.out
  have cb := CB3.out
  have a0 := cd_cells ca (Below.refl _ w3) 0 rfl
  have a1 := cd_cells ca (Below.refl _ w3) 1 rfl
  have a2 := cd_cells ca (Below.refl _ w3) 2 rfl
  have a3 := cd_cells ca (Below.refl _ w3) 3 rfl
  have a4 := cd_cells ca (Below.refl _ w3) 4 rfl
  have a5 := cd_cells ca (Below.refl _ w3) 5 rfl
  have a6 := cd_cells ca (Below.refl _ w3) 6 rfl
  have a7 := cd_cells ca (Below.refl _ w3) 7 rfl
  have a8 := cd_cells ca (Below.refl _ w3) 8 rfl
  have a9 := cd_cells ca (Below.refl _ w3) 9 rfl
  have a10 := cd_cells ca (Below.refl _ w3) 10 rfl
  simp only [List.getElem_toArray, List.getElem_cons_zero, List.getElem_cons_succ] at a0 a1 a2 a3 a4 a5 a6 a7 a8 a9 a10
  have b0 := cd_cells cb (Below.refl _ w3) 0 rfl
  have b1 := cd_cells cb (Below.refl _ w3) 1 rfl
  have b2 := cd_cells cb (Below.refl _ w3) 2 rfl
  have b3 := cd_cells cb (Below.refl _ w3) 3 rfl
  have b4 := cd_cells cb (Below.refl _ w3) 4 rfl
  have b5 := cd_cells cb (Below.refl _ w3) 5 rfl
  have b6 := cd_cells cb (Below.refl _ w3) 6 rfl
  have b7 := cd_cells cb (Below.refl _ w3) 7 rfl
  have b8 := cd_cells cb (Below.refl _ w3) 8 rfl
  have b9 := cd_cells cb (Below.refl _ w3) 9 rfl
  have b10 := cd_cells cb (Below.refl _ w3) 10 rfl
  simp only [List.getElem_toArray, List.getElem_cons_zero, List.getElem_cons_succ] at b0 b1 b2 b3 b4 b5 b6 b7 b8 b9 b10
  clear hb SP CA2 CB2 BW2 ca cb
  clear w2
  have PT := hide (PT0.out w3 BW3.out)
  clear PT0
  go_wp2_with fail
  refine PT.out.mono ?_
  rintro e w4 ⟨rfl, hb⟩
  obtain ⟨W4, hW4⟩ : ∃ W4, W4 = w4.alloc (cdO ⟨kind, ac, mkt, n, oi, oa, sd, pr, qt, how, red⟩) := ⟨_, rfl⟩
  have HW4 := hide hW4
  have b4 : Below w4.heap.size w4 W4 := by rw [hW4]; exact below_alloc _ _
  have CX : CdAt W4 w4.heap.size ⟨kind, ac, mkt, n, oi, oa, sd, pr, qt, how, red⟩ := by show W4.heap[w4.heap.size]? = _; rw [hW4]; exact heap_alloc_new w4 _
  have BW4 := hide (onward BW3.out (onward hb b4))
  have ca := cdAt_below CA3.out (onward hb b4)
  clear a0 a1 a2 a3 a4 a5 a6 a7 a8 a9 a10 
  have a0 := cd_cells ca (Below.refl _ W4) 0 rfl
  have a1 := cd_cells ca (Below.refl _ W4) 1 rfl
  have a2 := cd_cells ca (Below.refl _ W4) 2 rfl
  have a3 := cd_cells ca (Below.refl _ W4) 3 rfl
  have a4 := cd_cells ca (Below.refl _ W4) 4 rfl
  have a5 := cd_cells ca (Below.refl _ W4) 5 rfl
  have a6 := cd_cells ca (Below.refl _ W4) 6 rfl
  have a7 := cd_cells ca (Below.refl _ W4) 7 rfl
  have a8 := cd_cells ca (Below.refl _ W4) 8 rfl
  have a9 := cd_cells ca (Below.refl _ W4) 9 rfl
  have a10 := cd_cells ca (Below.refl _ W4) 10 rfl
  simp only [List.getElem_toArray, List.getElem_cons_zero, List.getElem_cons_succ] at a0 a1 a2 a3 a4 a5 a6 a7 a8 a9 a10
  have x0 := cd_cells CX (Below.refl _ W4) 0 rfl
  have x1 := cd_cells CX (Below.refl _ W4) 1 rfl
  have x2 := cd_cells CX (Below.refl _ W4) 2 rfl
  have x3 := cd_cells CX (Below.refl _ W4) 3 rfl
  have x4 := cd_cells CX (Below.refl _ W4) 4 rfl
  have x5 := cd_cells CX (Below.refl _ W4) 5 rfl
  have x6 := cd_cells CX (Below.refl _ W4) 6 rfl
  have x7 := cd_cells CX (Below.refl _ W4) 7 rfl
  have x8 := cd_cells CX (Below.refl _ W4) 8 rfl
  have x9 := cd_cells CX (Below.refl _ W4) 9 rfl
  have x10 := cd_cells CX (Below.refl _ W4) 10 rfl
  simp only [List.getElem_toArray, List.getElem_cons_zero, List.getElem_cons_succ] at x0 x1 x2 x3 x4 x5 x6 x7 x8 x9 x10
  have CV := conv_any t W4
  have CN := hide (contains_lf W4.heap.size t.length (grownCap W4 t.length 0 5) t (bytesWorld W4 5 (sB t)) rfl (by omega) (fun j hj => bytes_cells W4 t j hj) HLF.out)
  have BW5 : Hid (Below w.heap.size w (bytesWorld W4 5 (sB t))) := onward BW4.out (bytesWorld_below W4 _ _)
  obtain ⟨W5, hW5⟩ : ∃ W5, W5 = bytesWorld W4 5 (sB t) := ⟨_, rfl⟩
  rw [← hW5] at CV CN BW5
  generalize grownCap W4 t.length 0 5 = gc at *
  clear hW5 hW4 b4 CX ca hb PT CA3
  go_wp2_with (rw [← HW4.out])
  refine CN.out.mono ?_
  rintro e w6 ⟨rfl, hw6⟩
  rw [hw6]
  clear hw6 CN CV a0 a1 a2 a3 a4 a5 a6 a7 a8 a9 a10 x0 x1 x2 x3 x4 x5 x6 x7 x8 x9 x10 b0 b1 b2 b3 b4 b5 b6 b7 b8 b9 b10 HW4
  have P5 := hide (PS.out W5 BW5.out)
  go_wp2_with fail
  refine P5.out.mono ?_
  rintro e w8 ⟨rfl, hb⟩
  have BW8 := hide (onward BW5.out hb)
  clear hb P5
  by_cases hx : xe = 0
  · have PX := hide (PP.out hx)
    subst hx
    obtain ⟨xk, xac, xmkt, xn, xoi, xoa, xsd, xpr, xqt, xhow, xred⟩ := x
    have P6 := hide (PX.out (w8.alloc (cdO ⟨xk, xac, xmkt, xn, xoi, xoa, xsd, xpr, xqt, xhow, xred⟩)) (onward BW8.out (below_alloc _ _)))
    go_wp2_with fail
    refine P6.out.mono ?_
    rintro e w9 ⟨rfl, hb⟩
    have BW9 := hide (onward (onward BW8.out (below_alloc _ _)) hb)
    clear hb P6
    go_wp2
    go_ret
    exact ⟨rfl, BW9.out⟩
  · obtain ⟨xk, xac, xmkt, xn, xoi, xoa, xsd, xpr, xqt, xhow, xred⟩ := x
    go_wp2
    go_ret
    exact ⟨rfl, onward BW8.out (below_alloc _ _)⟩
set_option maxHeartbeats 8000000 in
set_option maxRecDepth 100000 in
theorem back_one (c d : Cd) (s t u : Bs) (x : Cd) (xe fe : Int) (hfe : ¬ fe = 0) (w : World) (E : Env w) (tl : t.length ≤ 200) (HLF : Hid ((10 : UInt8) ∉ t))
    (PC : ∀ W, Below w.heap.size w W → Calls Tryd.prog 5 #[cdV c] W fun e w' => e = .returned (.tuple #[sV t, .int .i64 0]) ∧ Below W.heap.size W w')
    (PD : ∀ W, Below w.heap.size w W → Calls Tryd.prog 5 #[cdV d] W fun e w' => e = .returned (.tuple #[sV u, .int .i64 fe]) ∧ Below W.heap.size W w')
    (PT0 : Hid (∀ W, Below w.heap.size w W → Calls Tryd.prog 6 #[sV t] W fun e w' => e = .returned (.tuple #[cdV c, .int .i64 0]) ∧ Below W.heap.size W w'))
    (PS : Hid (∀ W, Below w.heap.size w W → Calls Tryd.prog 6 #[sV s] W fun e w' => e = .returned (.tuple #[cdV x, .int .i64 xe]) ∧ Below W.heap.size W w'))
    (PP : Hid (xe = 0 → ∀ W, Below w.heap.size w W → Calls Tryd.prog 5 #[cdV x] W fun e w' => e = .returned (.tuple #[sV s, .int .i64 0]) ∧ Below W.heap.size W w'))
    (ec : ∀ w, Sem.run Tryd.prog (Op.equalIn 10000 25 (cdV c) (cdV c)) w = .ok true w) :
    Calls Tryd.prog 4 #[cdV c, cdV d, sV s] w fun e w' => e = .returned (.bool true) ∧ Below w.heap.size w w' := by
  obtain ⟨W, hW⟩ : ∃ W, W = (w.alloc (cdO c)).alloc (cdO d) := ⟨_, rfl⟩
  have HW := hide hW
  have BW : Hid (Below w.heap.size w W) := by rw [hW]; exact ((Below.refl _ w).alloc (Nat.le_refl _) _).alloc (by simp) _
  have CA : CdAt W w.heap.size c := by
    show W.heap[w.heap.size]? = _
    rw [hW, Below.heap_alloc _ _ _ (by simp)]
    exact heap_alloc_new w _
  have CB : CdAt W (w.heap.size + 1) d := by
    show W.heap[w.heap.size + 1]? = _
    rw [hW]
    have := heap_alloc_new (w.alloc (cdO c)) (cdO d)
    simp only [World.size_alloc] at this
    exact this
  have EW := E.below BW.out
  have P1 := hide (PC W BW.out)
  have HPD := hide PD
  have HSP := hide (fun W' hW' => spelt_any W' (E.below hW'))
  obtain ⟨kind, ac, mkt, n, oi, oa, sd, pr, qt, how, red⟩ := c
  obtain ⟨kind2, ac2, mkt2, n2, oi2, oa2, sd2, pr2, qt2, how2, red2⟩ := d
  dsimp only [cdO] at HW
  have CAH := hide CA
  have CBH := hide CB
  have a0 := cd_cells CA (Below.refl _ W) 0 rfl
  have a1 := cd_cells CA (Below.refl _ W) 1 rfl
  have a2 := cd_cells CA (Below.refl _ W) 2 rfl
  have a3 := cd_cells CA (Below.refl _ W) 3 rfl
  have a4 := cd_cells CA (Below.refl _ W) 4 rfl
  have a5 := cd_cells CA (Below.refl _ W) 5 rfl
  have a6 := cd_cells CA (Below.refl _ W) 6 rfl
  have a7 := cd_cells CA (Below.refl _ W) 7 rfl
  have a8 := cd_cells CA (Below.refl _ W) 8 rfl
  have a9 := cd_cells CA (Below.refl _ W) 9 rfl
  have a10 := cd_cells CA (Below.refl _ W) 10 rfl
  simp only [List.getElem_toArray, List.getElem_cons_zero, List.getElem_cons_succ] at a0 a1 a2 a3 a4 a5 a6 a7 a8 a9 a10
  clear hW PC PD E EW CA CB
  go_enter Tryd.func4, Tryd.ntmps4
  go_wp2_with (rw [← HW.out])
  refine P1.out.mono ?_
  rintro e w1 ⟨rfl, hb⟩
  have BW1 := hide (onward BW.out hb)
  have CA1 := hide (cdAt_below CAH.out hb)
  have CB1 := hide (cdAt_below CBH.out hb)
  have P2 := hide (HPD.out w1 BW1.out)
  have cb := CB1.out
  have b0 := cd_cells cb (Below.refl _ w1) 0 rfl
  have b1 := cd_cells cb (Below.refl _ w1) 1 rfl
  have b2 := cd_cells cb (Below.refl _ w1) 2 rfl
  have b3 := cd_cells cb (Below.refl _ w1) 3 rfl
  have b4 := cd_cells cb (Below.refl _ w1) 4 rfl
  have b5 := cd_cells cb (Below.refl _ w1) 5 rfl
  have b6 := cd_cells cb (Below.refl _ w1) 6 rfl
  have b7 := cd_cells cb (Below.refl _ w1) 7 rfl
  have b8 := cd_cells cb (Below.refl _ w1) 8 rfl
  have b9 := cd_cells cb (Below.refl _ w1) 9 rfl
  have b10 := cd_cells cb (Below.refl _ w1) 10 rfl
  simp only [List.getElem_toArray, List.getElem_cons_zero, List.getElem_cons_succ] at b0 b1 b2 b3 b4 b5 b6 b7 b8 b9 b10
  clear hb a0 a1 a2 a3 a4 a5 a6 a7 a8 a9 a10 P1 HPD CAH CBH BW HW cb
  clear W
  go_wp2_with fail
  refine P2.out.mono ?_
  rintro e w2 ⟨rfl, hb⟩
  have BW2 := hide (onward BW1.out hb)
  have CA2 := hide (cdAt_below CA1.out hb)
  have CB2 := hide (cdAt_below CB1.out hb)
  have SP := hide (HSP.out w2 BW2.out)
  clear hb b0 b1 b2 b3 b4 b5 b6 b7 b8 b9 b10 P2 CA1 CB1 BW1 HSP
  clear w1
  go_wp2_with fail
  refine SP.out.mono ?_
  rintro e w3 ⟨rfl, hb⟩
  have BW3 := hide (onward BW2.out hb)
  have CA3 := hide (cdAt_below CA2.out hb)
  have CB3 := hide (cdAt_below CB2.out hb)
  have ca := CA3.out
  have cb := CB3.out
  have a0 := cd_cells ca (Below.refl _ w3) 0 rfl
  have a1 := cd_cells ca (Below.refl _ w3) 1 rfl
  have a2 := cd_cells ca (Below.refl _ w3) 2 rfl
  have a3 := cd_cells ca (Below.refl _ w3) 3 rfl
  have a4 := cd_cells ca (Below.refl _ w3) 4 rfl
  have a5 := cd_cells ca (Below.refl _ w3) 5 rfl
  have a6 := cd_cells ca (Below.refl _ w3) 6 rfl
  have a7 := cd_cells ca (Below.refl _ w3) 7 rfl
  have a8 := cd_cells ca (Below.refl _ w3) 8 rfl
  have a9 := cd_cells ca (Below.refl _ w3) 9 rfl
  have a10 := cd_cells ca (Below.refl _ w3) 10 rfl
  simp only [List.getElem_toArray, List.getElem_cons_zero, List.getElem_cons_succ] at a0 a1 a2 a3 a4 a5 a6 a7 a8 a9 a10
  have b0 := cd_cells cb (Below.refl _ w3) 0 rfl
  have b1 := cd_cells cb (Below.refl _ w3) 1 rfl
  have b2 := cd_cells cb (Below.refl _ w3) 2 rfl
  have b3 := cd_cells cb (Below.refl _ w3) 3 rfl
  have b4 := cd_cells cb (Below.refl _ w3) 4 rfl
  have b5 := cd_cells cb (Below.refl _ w3) 5 rfl
  have b6 := cd_cells cb (Below.refl _ w3) 6 rfl
  have b7 := cd_cells cb (Below.refl _ w3) 7 rfl
  have b8 := cd_cells cb (Below.refl _ w3) 8 rfl
  have b9 := cd_cells cb (Below.refl _ w3) 9 rfl
  have b10 := cd_cells cb (Below.refl _ w3) 10 rfl
  simp only [List.getElem_toArray, List.getElem_cons_zero, List.getElem_cons_succ] at b0 b1 b2 b3 b4 b5 b6 b7 b8 b9 b10
  clear hb SP CA2 CB2 BW2 ca cb
  clear w2
  have PT := hide (PT0.out w3 BW3.out)
  clear PT0
  go_wp2_with fail
  refine PT.out.mono ?_
  rintro e w4 ⟨rfl, hb⟩
  obtain ⟨W4, hW4⟩ : ∃ W4, W4 = w4.alloc (cdO ⟨kind, ac, mkt, n, oi, oa, sd, pr, qt, how, red⟩) := ⟨_, rfl⟩
  have HW4 := hide hW4
  have b4 : Below w4.heap.size w4 W4 := by rw [hW4]; exact below_alloc _ _
  have CX : CdAt W4 w4.heap.size ⟨kind, ac, mkt, n, oi, oa, sd, pr, qt, how, red⟩ := by show W4.heap[w4.heap.size]? = _; rw [hW4]; exact heap_alloc_new w4 _
  have BW4 := hide (onward BW3.out (onward hb b4))
  have ca := cdAt_below CA3.out (onward hb b4)
  clear a0 a1 a2 a3 a4 a5 a6 a7 a8 a9 a10 
  have a0 := cd_cells ca (Below.refl _ W4) 0 rfl
  have a1 := cd_cells ca (Below.refl _ W4) 1 rfl
  have a2 := cd_cells ca (Below.refl _ W4) 2 rfl
  have a3 := cd_cells ca (Below.refl _ W4) 3 rfl
  have a4 := cd_cells ca (Below.refl _ W4) 4 rfl
  have a5 := cd_cells ca (Below.refl _ W4) 5 rfl
  have a6 := cd_cells ca (Below.refl _ W4) 6 rfl
  have a7 := cd_cells ca (Below.refl _ W4) 7 rfl
  have a8 := cd_cells ca (Below.refl _ W4) 8 rfl
  have a9 := cd_cells ca (Below.refl _ W4) 9 rfl
  have a10 := cd_cells ca (Below.refl _ W4) 10 rfl
  simp only [List.getElem_toArray, List.getElem_cons_zero, List.getElem_cons_succ] at a0 a1 a2 a3 a4 a5 a6 a7 a8 a9 a10
  have x0 := cd_cells CX (Below.refl _ W4) 0 rfl
  have x1 := cd_cells CX (Below.refl _ W4) 1 rfl
  have x2 := cd_cells CX (Below.refl _ W4) 2 rfl
  have x3 := cd_cells CX (Below.refl _ W4) 3 rfl
  have x4 := cd_cells CX (Below.refl _ W4) 4 rfl
  have x5 := cd_cells CX (Below.refl _ W4) 5 rfl
  have x6 := cd_cells CX (Below.refl _ W4) 6 rfl
  have x7 := cd_cells CX (Below.refl _ W4) 7 rfl
  have x8 := cd_cells CX (Below.refl _ W4) 8 rfl
  have x9 := cd_cells CX (Below.refl _ W4) 9 rfl
  have x10 := cd_cells CX (Below.refl _ W4) 10 rfl
  simp only [List.getElem_toArray, List.getElem_cons_zero, List.getElem_cons_succ] at x0 x1 x2 x3 x4 x5 x6 x7 x8 x9 x10
  have CV := conv_any t W4
  have CN := hide (contains_lf W4.heap.size t.length (grownCap W4 t.length 0 5) t (bytesWorld W4 5 (sB t)) rfl (by omega) (fun j hj => bytes_cells W4 t j hj) HLF.out)
  have BW5 : Hid (Below w.heap.size w (bytesWorld W4 5 (sB t))) := onward BW4.out (bytesWorld_below W4 _ _)
  obtain ⟨W5, hW5⟩ : ∃ W5, W5 = bytesWorld W4 5 (sB t) := ⟨_, rfl⟩
  rw [← hW5] at CV CN BW5
  generalize grownCap W4 t.length 0 5 = gc at *
  clear hW5 hW4 b4 CX ca hb PT CA3
  go_wp2_with (rw [← HW4.out])
  refine CN.out.mono ?_
  rintro e w6 ⟨rfl, hw6⟩
  rw [hw6]
  clear hw6 CN CV a0 a1 a2 a3 a4 a5 a6 a7 a8 a9 a10 x0 x1 x2 x3 x4 x5 x6 x7 x8 x9 x10 b0 b1 b2 b3 b4 b5 b6 b7 b8 b9 b10 HW4
  have P5 := hide (PS.out W5 BW5.out)
  go_wp2_with fail
  refine P5.out.mono ?_
  rintro e w8 ⟨rfl, hb⟩
  have BW8 := hide (onward BW5.out hb)
  clear hb P5
  by_cases hx : xe = 0
  · have PX := hide (PP.out hx)
    subst hx
    obtain ⟨xk, xac, xmkt, xn, xoi, xoa, xsd, xpr, xqt, xhow, xred⟩ := x
    have P6 := hide (PX.out (w8.alloc (cdO ⟨xk, xac, xmkt, xn, xoi, xoa, xsd, xpr, xqt, xhow, xred⟩)) (onward BW8.out (below_alloc _ _)))
    go_wp2_with fail
    refine P6.out.mono ?_
    rintro e w9 ⟨rfl, hb⟩
    have BW9 := hide (onward (onward BW8.out (below_alloc _ _)) hb)
    clear hb P6
    go_wp2
    go_ret
    exact ⟨rfl, BW9.out⟩
  · obtain ⟨xk, xac, xmkt, xn, xoi, xoa, xsd, xpr, xqt, xhow, xred⟩ := x
    go_wp2
    go_ret
    exact ⟨rfl, onward BW8.out (below_alloc _ _)⟩
set_option maxHeartbeats 8000000 in
set_option maxRecDepth 100000 in
theorem back_none (c d : Cd) (s t u : Bs) (x : Cd) (xe ce fe : Int) (hce : ¬ ce = 0) (w : World) (E : Env w)
    (PC : ∀ W, Below w.heap.size w W → Calls Tryd.prog 5 #[cdV c] W fun e w' => e = .returned (.tuple #[sV t, .int .i64 ce]) ∧ Below W.heap.size W w')
    (PD : ∀ W, Below w.heap.size w W → Calls Tryd.prog 5 #[cdV d] W fun e w' => e = .returned (.tuple #[sV u, .int .i64 fe]) ∧ Below W.heap.size W w')
    (PS : Hid (∀ W, Below w.heap.size w W → Calls Tryd.prog 6 #[sV s] W fun e w' => e = .returned (.tuple #[cdV x, .int .i64 xe]) ∧ Below W.heap.size W w'))
    (PP : Hid (xe = 0 → ∀ W, Below w.heap.size w W → Calls Tryd.prog 5 #[cdV x] W fun e w' => e = .returned (.tuple #[sV s, .int .i64 0]) ∧ Below W.heap.size W w')) :
    Calls Tryd.prog 4 #[cdV c, cdV d, sV s] w fun e w' => e = .returned (.bool true) ∧ Below w.heap.size w w' := by
  obtain ⟨W, hW⟩ : ∃ W, W = (w.alloc (cdO c)).alloc (cdO d) := ⟨_, rfl⟩
  have HW := hide hW
  have BW : Hid (Below w.heap.size w W) := by rw [hW]; exact ((Below.refl _ w).alloc (Nat.le_refl _) _).alloc (by simp) _
  have CA : CdAt W w.heap.size c := by
    show W.heap[w.heap.size]? = _
    rw [hW, Below.heap_alloc _ _ _ (by simp)]
    exact heap_alloc_new w _
  have CB : CdAt W (w.heap.size + 1) d := by
    show W.heap[w.heap.size + 1]? = _
    rw [hW]
    have := heap_alloc_new (w.alloc (cdO c)) (cdO d)
    simp only [World.size_alloc] at this
    exact this
  have EW := E.below BW.out
  have P1 := hide (PC W BW.out)
  have HPD := hide PD
  have HSP := hide (fun W' hW' => spelt_any W' (E.below hW'))
  obtain ⟨kind, ac, mkt, n, oi, oa, sd, pr, qt, how, red⟩ := c
  obtain ⟨kind2, ac2, mkt2, n2, oi2, oa2, sd2, pr2, qt2, how2, red2⟩ := d
  dsimp only [cdO] at HW
  have CAH := hide CA
  have CBH := hide CB
  have a0 := cd_cells CA (Below.refl _ W) 0 rfl
  have a1 := cd_cells CA (Below.refl _ W) 1 rfl
  have a2 := cd_cells CA (Below.refl _ W) 2 rfl
  have a3 := cd_cells CA (Below.refl _ W) 3 rfl
  have a4 := cd_cells CA (Below.refl _ W) 4 rfl
  have a5 := cd_cells CA (Below.refl _ W) 5 rfl
  have a6 := cd_cells CA (Below.refl _ W) 6 rfl
  have a7 := cd_cells CA (Below.refl _ W) 7 rfl
  have a8 := cd_cells CA (Below.refl _ W) 8 rfl
  have a9 := cd_cells CA (Below.refl _ W) 9 rfl
  have a10 := cd_cells CA (Below.refl _ W) 10 rfl
  simp only [List.getElem_toArray, List.getElem_cons_zero, List.getElem_cons_succ] at a0 a1 a2 a3 a4 a5 a6 a7 a8 a9 a10
  clear hW PC PD E EW CA CB
  go_enter Tryd.func4, Tryd.ntmps4
  go_wp2_with (rw [← HW.out])
  refine P1.out.mono ?_
  rintro e w1 ⟨rfl, hb⟩
  have BW1 := hide (onward BW.out hb)
  have CA1 := hide (cdAt_below CAH.out hb)
  have CB1 := hide (cdAt_below CBH.out hb)
  have P2 := hide (HPD.out w1 BW1.out)
  have cb := CB1.out
  have b0 := cd_cells cb (Below.refl _ w1) 0 rfl
  have b1 := cd_cells cb (Below.refl _ w1) 1 rfl
  have b2 := cd_cells cb (Below.refl _ w1) 2 rfl
  have b3 := cd_cells cb (Below.refl _ w1) 3 rfl
  have b4 := cd_cells cb (Below.refl _ w1) 4 rfl
  have b5 := cd_cells cb (Below.refl _ w1) 5 rfl
  have b6 := cd_cells cb (Below.refl _ w1) 6 rfl
  have b7 := cd_cells cb (Below.refl _ w1) 7 rfl
  have b8 := cd_cells cb (Below.refl _ w1) 8 rfl
  have b9 := cd_cells cb (Below.refl _ w1) 9 rfl
  have b10 := cd_cells cb (Below.refl _ w1) 10 rfl
  simp only [List.getElem_toArray, List.getElem_cons_zero, List.getElem_cons_succ] at b0 b1 b2 b3 b4 b5 b6 b7 b8 b9 b10
  clear hb a0 a1 a2 a3 a4 a5 a6 a7 a8 a9 a10 P1 HPD CAH CBH BW HW cb
  clear W
  go_wp2_with fail
  refine P2.out.mono ?_
  rintro e w2 ⟨rfl, hb⟩
  have BW2 := hide (onward BW1.out hb)
  have CA2 := hide (cdAt_below CA1.out hb)
  have CB2 := hide (cdAt_below CB1.out hb)
  have SP := hide (HSP.out w2 BW2.out)
  clear hb b0 b1 b2 b3 b4 b5 b6 b7 b8 b9 b10 P2 CA1 CB1 BW1 HSP
  clear w1
  go_wp2_with fail
  refine SP.out.mono ?_
  rintro e w3 ⟨rfl, hb⟩
  have BW3 := hide (onward BW2.out hb)
  have CA3 := hide (cdAt_below CA2.out hb)
  have CB3 := hide (cdAt_below CB2.out hb)
  have ca := CA3.out
  have cb := CB3.out
  have a0 := cd_cells ca (Below.refl _ w3) 0 rfl
  have a1 := cd_cells ca (Below.refl _ w3) 1 rfl
  have a2 := cd_cells ca (Below.refl _ w3) 2 rfl
  have a3 := cd_cells ca (Below.refl _ w3) 3 rfl
  have a4 := cd_cells ca (Below.refl _ w3) 4 rfl
  have a5 := cd_cells ca (Below.refl _ w3) 5 rfl
  have a6 := cd_cells ca (Below.refl _ w3) 6 rfl
  have a7 := cd_cells ca (Below.refl _ w3) 7 rfl
  have a8 := cd_cells ca (Below.refl _ w3) 8 rfl
  have a9 := cd_cells ca (Below.refl _ w3) 9 rfl
  have a10 := cd_cells ca (Below.refl _ w3) 10 rfl
  simp only [List.getElem_toArray, List.getElem_cons_zero, List.getElem_cons_succ] at a0 a1 a2 a3 a4 a5 a6 a7 a8 a9 a10
  have b0 := cd_cells cb (Below.refl _ w3) 0 rfl
  have b1 := cd_cells cb (Below.refl _ w3) 1 rfl
  have b2 := cd_cells cb (Below.refl _ w3) 2 rfl
  have b3 := cd_cells cb (Below.refl _ w3) 3 rfl
  have b4 := cd_cells cb (Below.refl _ w3) 4 rfl
  have b5 := cd_cells cb (Below.refl _ w3) 5 rfl
  have b6 := cd_cells cb (Below.refl _ w3) 6 rfl
  have b7 := cd_cells cb (Below.refl _ w3) 7 rfl
  have b8 := cd_cells cb (Below.refl _ w3) 8 rfl
  have b9 := cd_cells cb (Below.refl _ w3) 9 rfl
  have b10 := cd_cells cb (Below.refl _ w3) 10 rfl
  simp only [List.getElem_toArray, List.getElem_cons_zero, List.getElem_cons_succ] at b0 b1 b2 b3 b4 b5 b6 b7 b8 b9 b10
  clear hb SP CA2 CB2 BW2 ca cb
  clear w2
  clear a0 a1 a2 a3 a4 a5 a6 a7 a8 a9 a10 b0 b1 b2 b3 b4 b5 b6 b7 b8 b9 b10
  have P5 := hide (PS.out w3 BW3.out)
  go_wp2_with fail
  refine P5.out.mono ?_
  rintro e w8 ⟨rfl, hb⟩
  have BW8 := hide (onward BW3.out hb)
  clear hb P5
  by_cases hx : xe = 0
  · have PX := hide (PP.out hx)
    subst hx
    obtain ⟨xk, xac, xmkt, xn, xoi, xoa, xsd, xpr, xqt, xhow, xred⟩ := x
    have P6 := hide (PX.out (w8.alloc (cdO ⟨xk, xac, xmkt, xn, xoi, xoa, xsd, xpr, xqt, xhow, xred⟩)) (onward BW8.out (below_alloc _ _)))
    go_wp2_with fail
    refine P6.out.mono ?_
    rintro e w9 ⟨rfl, hb⟩
    have BW9 := hide (onward (onward BW8.out (below_alloc _ _)) hb)
    clear hb P6
    go_wp2
    go_ret
    exact ⟨rfl, BW9.out⟩
  · obtain ⟨xk, xac, xmkt, xn, xoi, xoa, xsd, xpr, xqt, xhow, xred⟩ := x
    go_wp2
    go_ret
    exact ⟨rfl, onward BW8.out (below_alloc _ _)⟩
theorem back_any (c d : Cd) (s : Bs) (w : World) (hc : c.fits) (hd : d.fits) (E : Env w) :
    Calls Tryd.prog 4 #[cdV c, cdV d, sV s] w fun e w' => e = .returned (.bool true) ∧ Below w.heap.size w w' := by
  have PC := fun W hW => print_any c W hc (E.below hW)
  have PD := fun W hW => print_any d W hd (E.below hW)
  have PS : Hid _ := fun W hW => parse_any s W (E.below hW)
  have PP : Hid ((parseC s).2 = 0 → ∀ W, Below w.heap.size w W → Calls Tryd.prog 5 #[cdV (parseC s).1] W fun e w' => e = .returned (.tuple #[sV s, .int .i64 0]) ∧ Below W.heap.size W w') := fun h0 W hW => by
    have hp : parseC s = ((parseC s).1, 0) := by rw [← h0]
    obtain ⟨h1, h2⟩ := print_parse hp
    have hf : (parseC s).1.fits := by
      unfold parseC
      split
      · exact ⟨by unfold i64; decide, by unfold i64; decide, by unfold i64; decide, by unfold i64; decide, by unfold i64; decide, by unfold i64; decide, by unfold i64; decide, by unfold i64; decide, by unfold i64; decide, by unfold i64; decide⟩
      · split
        · exact guessW_fits _
        · exact ⟨by unfold i64; decide, by unfold i64; decide, by unfold i64; decide, by unfold i64; decide, by unfold i64; decide, by unfold i64; decide, by unfold i64; decide, by unfold i64; decide, by unfold i64; decide, by unfold i64; decide⟩
    have := print_any (parseC s).1 W hf (E.below hW)
    unfold printS at this
    rw [if_pos h1, h1, h2] at this
    exact this
  have ec := eqC c c
  rw [sameC_iff.2 rfl] at ec
  unfold printS at PC PD
  by_cases h1 : checkC c = 0
  · rw [if_pos h1, h1] at PC
    have PT : Hid (∀ W, Below w.heap.size w W → Calls Tryd.prog 6 #[sV (printC c)] W fun e w' => e = .returned (.tuple #[cdV c, .int .i64 0]) ∧ Below W.heap.size W w') := fun W hW => by
      have := parse_any (printC c) W (E.below hW)
      rw [parse_print h1 hc] at this
      exact this
    by_cases h2 : checkC d = 0
    · rw [if_pos h2, h2] at PD
      refine back_both c d s (printC c) (printC d) _ _ (sameC c d) w E (print_len hc) (print_lf h1) PC PD PT PS PP (eqC c d) ec ?_
      cases hs : sameC c d
      · exact beq_false_of_ne (fun e => by rw [sameC_iff.2 (print_inj h1 h2 hc hd e)] at hs; cases hs)
      · rw [sameC_iff.1 hs]; exact beq_self_eq_true _
    · exact back_one c d s (printC c) _ _ _ _ h2 w E (print_len hc) (print_lf h1) PC PD PT PS PP ec
  · exact back_none c d s _ _ _ _ _ _ h1 w E PC PD PS PP
end Go.Proofs.YtioapcbgjoflcaaDoor.Tx
