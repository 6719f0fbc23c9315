/-
  Package text by contracts: guess, Parse.
-/
import Derived.Test.YthdjfhnhjiageaaGreatDoorTxG0
import Derived.Test.YthdjfhnhjiageaaGreatDoorTxG1
import Derived.Test.YthdjfhnhjiageaaGreatDoorTxG2
import Derived.Test.YthdjfhnhjiageaaGreatDoorTxG3
import Derived.Test.YthdjfhnhjiageaaGreatDoorTxG4
import Derived.Test.YthdjfhnhjiageaaGreatDoorTxG5
import Derived.Test.YthdjfhnhjiageaaGreatDoorTxG6
namespace Go.Proofs.YthdjfhnhjiageaaGreatDoor.Tx
open Go.RowKit Go.Lib Go.Sort Go.Proofs.YthdjfhnhjiageaaGreatDoor.Mix

theorem idxFrom_bd (x : Bs) : ∀ (l : List Bs) (k : Nat), -1 ≤ idxFrom x k l ∧ idxFrom x k l ≤ k + l.length
  | [], k => by unfold idxFrom; simp only [List.length_nil]; omega
  | y :: l, k => by
    unfold idxFrom
    have := idxFrom_bd x l (k + 1)
    split
    · simp only [List.length_cons]; omega
    · simp only [List.length_cons]; omega
theorem idxW_bd (l : List Bs) (hl : l.length = 8) (x : Bs) : -1 ≤ idxW l x ∧ idxW l x ≤ 8 := by
  have := idxFrom_bd x l 0
  unfold idxW
  omega
theorem num_fits (l : Bs) : i64 (numB l) := by
  unfold numB i64
  cases h : atoiAll l with
  | ok v => exact atoiAll_bounds h
  | «syntax» => dsimp only; omega
  | range => dsimp only; unfold atoiSat; split <;> omega
theorem guessW_fits (ws : List Bs) : (guessW ws).fits := by
  have n1 := num_fits (ws.getD 1 [])
  have n2 := num_fits (ws.getD 2 [])
  have n4 := num_fits (ws.getD 4 [])
  have n5 := num_fits (ws.getD 5 [])
  have k0 := idxW_bd kindsL rfl (ws.getD 0 [])
  have k3 := idxW_bd sidesL rfl (ws.getD 3 [])
  have k6 := idxW_bd howsL rfl (ws.getD 6 [])
  have z : i64 0 := by unfold i64; omega
  have hk : i64 (idxW kindsL (ws.getD 0 [])) := by unfold i64; omega
  have hs : i64 (idxW sidesL (ws.getD 3 []) - 1) := by unfold i64; omega
  have hh : i64 (idxW howsL (ws.getD 6 [])) := by unfold i64; omega
  unfold guessW
  split
  · exact ⟨hk, n1, z, n2, z, z, z, z, z, z⟩
  · split
    · exact ⟨hk, z, n1, n2, z, z, z, z, z, z⟩
    · split
      · exact ⟨hk, n1, n2, z, z, z, hs, n5, n4, hh⟩
      · exact ⟨hk, z, z, z, z, z, z, z, z, z⟩
theorem guess_any (s : Bs) (hs : s.length ≤ 20000) (w : World) (E : Env w) :
    Calls Tryz.prog 73 #[sV s] w fun e w' => e = .returned (cdV (guessC s)) ∧ Below w.heap.size w w' := by
  have sh : ∀ i, ((splitW s).getD i []).length ≤ 281474976710656 := fun i => by have := word_short s i; omega
  have h1 := sh 1
  have h2 := sh 2
  have h4 := sh 4
  have h5 := sh 5
  have he : eightW (splitW s) = [(splitW s).getD 0 [], (splitW s).getD 1 [], (splitW s).getD 2 [], (splitW s).getD 3 [], (splitW s).getD 4 [], (splitW s).getD 5 [], (splitW s).getD 6 [], (splitW s).getD 7 []] := rfl
  unfold guessC guessW
  have k3 := idxW_bd sidesL rfl ((splitW s).getD 3 [])
  have hw : IntKind.i64.wrap (idxW sidesL ((splitW s).getD 3 []) - 1) = idxW sidesL ((splitW s).getD 3 []) - 1 := IntWalk.i64_in _ ⟨by omega, by omega⟩
  have hrb : ((splitW s).getD 7 [] == wReduce) = decide ((splitW s).getD 7 [] = wReduce) := by
    by_cases h : (splitW s).getD 7 [] = wReduce
    · rw [h]; decide
    · rw [decide_eq_false h]; exact beq_false_of_ne h
  generalize (splitW s).getD 0 [] = l0 at *
  generalize (splitW s).getD 1 [] = l1 at *
  generalize (splitW s).getD 2 [] = l2 at *
  generalize (splitW s).getD 3 [] = l3 at *
  generalize (splitW s).getD 4 [] = l4 at *
  generalize (splitW s).getD 5 [] = l5 at *
  generalize (splitW s).getD 6 [] = l6 at *
  generalize (splitW s).getD 7 [] = l7 at *
  obtain ⟨kd, hk⟩ : ∃ kd, idxW kindsL l0 = kd := ⟨_, rfl⟩
  rw [hk]
  by_cases n1 : kd = 1
  · subst n1; exact guess_1 s l0 l1 l2 l3 l4 l5 l6 l7 he h1 h2 hs w E hk
  by_cases n2 : kd = 2
  · subst n2; exact guess_2 s l0 l1 l2 l3 l4 l5 l6 l7 he h1 h2 hs w E hk
  by_cases n4 : kd = 4
  · subst n4; exact guess_4 s l0 l1 l2 l3 l4 l5 l6 l7 he h1 h2 hs w E hk
  by_cases n5 : kd = 5
  · subst n5; exact guess_5 s l0 l1 l2 l3 l4 l5 l6 l7 he h1 h2 hs w E hk
  by_cases n6 : kd = 6
  · subst n6; exact guess_6 s l0 l1 l2 l3 l4 l5 l6 l7 he h1 h2 hs w E hk
  by_cases n3 : kd = 3
  · subst n3
    exact guess_3 s l0 l1 l2 l3 l4 l5 l6 l7 _ _ _ _ he h1 h2 h4 h5 hs w E hk rfl hw rfl hrb
  rw [if_neg (by omega), if_neg (by omega), if_neg (by omega)]
  exact guess_no kd s l0 l1 l2 l3 l4 l5 l6 l7 he hs w E hk n1 n2 n3 n4 n5 n6

set_option maxHeartbeats 4000000 in
set_option maxRecDepth 100000 in
theorem parse_long (s : Bs) (hs : 20000 < s.length) (w : World) : Calls Tryz.prog 52 #[sV s] w fun e w' => e = .returned (.tuple #[cdV noCd, .int .i64 2]) ∧ Below w.heap.size w w' := by
  have hz : (20000 : Int) < (s.length : Int) := by omega
  go_enter Tryz.func52, Tryz.ntmps52
  go_wp2
  refine bodyPost_ret (v := .tuple #[cdV noCd, .int .i64 2]) (by simp [results, Tryz.results52, go_sem]) rfl ?_
  exact ⟨rfl, below_alloc w _⟩
set_option maxHeartbeats 4000000 in
set_option maxRecDepth 100000 in
theorem parse_yes (s : Bs) (c : Cd) (hs : s.length ≤ 20000) (w : World)
    (GU : ∀ W, Below w.heap.size w W → Calls Tryz.prog 73 #[sV s] W fun e w' => e = .returned (cdV c) ∧ Below W.heap.size W w')
    (PR : ∀ W, Below w.heap.size w W → Calls Tryz.prog 27 #[cdV c] W fun e w' => e = .returned (.tuple #[sV s, .int .i64 0]) ∧ Below W.heap.size W w') :
    Calls Tryz.prog 52 #[sV s] w fun e w' => e = .returned (.tuple #[cdV c, .int .i64 0]) ∧ Below w.heap.size w w' := by
  have hz : (s.length : Int) ≤ 20000 := by omega
  have hz2 : ¬ (20000 : Int) < (s.length : Int) := by omega
  obtain ⟨W, hW⟩ : ∃ W, W = w.alloc (cdO noCd) := ⟨_, rfl⟩
  have BW : Hid (Below w.heap.size w W) := by rw [hW]; exact below_alloc w _
  have RT : Hid (CdAt W w.heap.size noCd) := by show W.heap[w.heap.size]? = _; rw [hW]; exact heap_alloc_new w _
  have HW := hide hW
  have G1 := hide (GU W BW.out)
  have P1 := hide PR
  clear GU PR hW hs
  go_enter Tryz.func52, Tryz.ntmps52
  go_wp2_with (rw [← HW.out])
  refine G1.out.mono ?_
  rintro e X ⟨rfl, hb⟩
  have RX := hide (cdAt_below RT.out hb)
  have BX := hide (onward BW.out hb)
  clear G1 hb RT BW HW
  clear W
  obtain ⟨kind, ac, mkt, n, oi, oa, sd, pr, qt, how, red⟩ := c
  obtain ⟨Y, hY⟩ : ∃ Y, Y = X.alloc (cdO ⟨kind, ac, mkt, n, oi, oa, sd, pr, qt, how, red⟩) := ⟨_, rfl⟩
  have AY : CdAt Y X.heap.size ⟨kind, ac, mkt, n, oi, oa, sd, pr, qt, how, red⟩ := by show Y.heap[X.heap.size]? = _; rw [hY]; exact heap_alloc_new X _
  have bY : Below X.heap.size X Y := by rw [hY]; exact below_alloc X _
  have RY := hide (cdAt_below RX.out bY)
  have BY := hide (onward BX.out bY)
  have PY := hide (P1.out Y BY.out)
  have HY := hide hY
  have AYH := hide AY
  have c0 := cd_cells AY (Below.refl _ Y) 0 rfl
  have f0 := cd_frozen AY 0
  have c1 := cd_cells AY (Below.refl _ Y) 1 rfl
  have f1 := cd_frozen AY 1
  have c2 := cd_cells AY (Below.refl _ Y) 2 rfl
  have f2 := cd_frozen AY 2
  have c3 := cd_cells AY (Below.refl _ Y) 3 rfl
  have f3 := cd_frozen AY 3
  have c4 := cd_cells AY (Below.refl _ Y) 4 rfl
  have f4 := cd_frozen AY 4
  have c5 := cd_cells AY (Below.refl _ Y) 5 rfl
  have f5 := cd_frozen AY 5
  have c6 := cd_cells AY (Below.refl _ Y) 6 rfl
  have f6 := cd_frozen AY 6
  have c7 := cd_cells AY (Below.refl _ Y) 7 rfl
  have f7 := cd_frozen AY 7
  have c8 := cd_cells AY (Below.refl _ Y) 8 rfl
  have f8 := cd_frozen AY 8
  have c9 := cd_cells AY (Below.refl _ Y) 9 rfl
  have f9 := cd_frozen AY 9
  have c10 := cd_cells AY (Below.refl _ Y) 10 rfl
  have f10 := cd_frozen AY 10
  simp only [List.getElem_toArray, List.getElem_cons_zero, List.getElem_cons_succ] at c0 c1 c2 c3 c4 c5 c6 c7 c8 c9 c10
  clear hY bY RX BX P1 f0 f1 f2 f3 f4 f5 f6 f7 f8 f9 f10 AY
  go_wp2_with (rw [← HY.out])
  refine PY.out.mono ?_
  rintro e Z0 ⟨rfl, hb⟩
  have AZ := cdAt_below AYH.out hb
  have RZ := cdAt_below RY.out hb
  have BZ := hide (onward BY.out hb)
  have RZH := hide RZ
  clear hb PY c0 c1 c2 c3 c4 c5 c6 c7 c8 c9 c10 AYH RY BY HY
  clear Y
  generalize X.heap.size = bk at *
  have g0 := cd_cells RZ (Below.refl _ Z0) 0 rfl
  have g1 := cd_cells RZ (Below.refl _ Z0) 1 rfl
  have g2 := cd_cells RZ (Below.refl _ Z0) 2 rfl
  have g3 := cd_cells RZ (Below.refl _ Z0) 3 rfl
  have g4 := cd_cells RZ (Below.refl _ Z0) 4 rfl
  have g5 := cd_cells RZ (Below.refl _ Z0) 5 rfl
  have g6 := cd_cells RZ (Below.refl _ Z0) 6 rfl
  have g7 := cd_cells RZ (Below.refl _ Z0) 7 rfl
  have g8 := cd_cells RZ (Below.refl _ Z0) 8 rfl
  have g9 := cd_cells RZ (Below.refl _ Z0) 9 rfl
  have g10 := cd_cells RZ (Below.refl _ Z0) 10 rfl
  have h0 := cd_frozen RZ 0
  have h1 := cd_frozen RZ 1
  have h2 := cd_frozen RZ 2
  have h3 := cd_frozen RZ 3
  have h4 := cd_frozen RZ 4
  have h5 := cd_frozen RZ 5
  have h6 := cd_frozen RZ 6
  have h7 := cd_frozen RZ 7
  have h8 := cd_frozen RZ 8
  have h9 := cd_frozen RZ 9
  have h10 := cd_frozen RZ 10
  simp only [List.getElem_toArray, List.getElem_cons_zero, List.getElem_cons_succ] at g0 g1 g2 g3 g4 g5 g6 g7 g8 g9 g10
  have c0 := cd_cells AZ (Below.refl _ Z0) 0 rfl
  have f0 := cd_frozen AZ 0
  have c1 := cd_cells AZ (Below.refl _ Z0) 1 rfl
  have f1 := cd_frozen AZ 1
  have c2 := cd_cells AZ (Below.refl _ Z0) 2 rfl
  have f2 := cd_frozen AZ 2
  have c3 := cd_cells AZ (Below.refl _ Z0) 3 rfl
  have f3 := cd_frozen AZ 3
  have c4 := cd_cells AZ (Below.refl _ Z0) 4 rfl
  have f4 := cd_frozen AZ 4
  have c5 := cd_cells AZ (Below.refl _ Z0) 5 rfl
  have f5 := cd_frozen AZ 5
  have c6 := cd_cells AZ (Below.refl _ Z0) 6 rfl
  have f6 := cd_frozen AZ 6
  have c7 := cd_cells AZ (Below.refl _ Z0) 7 rfl
  have f7 := cd_frozen AZ 7
  have c8 := cd_cells AZ (Below.refl _ Z0) 8 rfl
  have f8 := cd_frozen AZ 8
  have c9 := cd_cells AZ (Below.refl _ Z0) 9 rfl
  have f9 := cd_frozen AZ 9
  have c10 := cd_cells AZ (Below.refl _ Z0) 10 rfl
  have f10 := cd_frozen AZ 10
  simp only [List.getElem_toArray, List.getElem_cons_zero, List.getElem_cons_succ] at c0 c1 c2 c3 c4 c5 c6 c7 c8 c9 c10
  clear RZ AZ f0 f1 f2 f3 f4 f5 f6 f7 f8 f9 f10
  go_wp2
  obtain ⟨Z, hZ⟩ : ∃ Z, Z = putCd Z0 w.heap.size ⟨kind, ac, mkt, n, oi, oa, sd, pr, qt, how, red⟩ := ⟨_, rfl⟩
  have ZA : CdAt Z w.heap.size ⟨kind, ac, mkt, n, oi, oa, sd, pr, qt, how, red⟩ := by rw [hZ]; exact putCd_at RZH.out _
  have ZB : Below w.heap.size w Z := by rw [hZ]; exact putCd_below BZ.out (Nat.le_refl _) _
  change bodyPost _ _ _ _ _ (putCd Z0 w.heap.size ⟨kind, ac, mkt, n, oi, oa, sd, pr, qt, how, red⟩)
  rw [← hZ]
  have z0 := cd_cells ZA (Below.refl _ Z) 0 rfl
  have z1 := cd_cells ZA (Below.refl _ Z) 1 rfl
  have z2 := cd_cells ZA (Below.refl _ Z) 2 rfl
  have z3 := cd_cells ZA (Below.refl _ Z) 3 rfl
  have z4 := cd_cells ZA (Below.refl _ Z) 4 rfl
  have z5 := cd_cells ZA (Below.refl _ Z) 5 rfl
  have z6 := cd_cells ZA (Below.refl _ Z) 6 rfl
  have z7 := cd_cells ZA (Below.refl _ Z) 7 rfl
  have z8 := cd_cells ZA (Below.refl _ Z) 8 rfl
  have z9 := cd_cells ZA (Below.refl _ Z) 9 rfl
  have z10 := cd_cells ZA (Below.refl _ Z) 10 rfl
  simp only [List.getElem_toArray, List.getElem_cons_zero, List.getElem_cons_succ] at z0 z1 z2 z3 z4 z5 z6 z7 z8 z9 z10
  refine bodyPost_ret (v := .tuple #[cdV ⟨kind, ac, mkt, n, oi, oa, sd, pr, qt, how, red⟩, .int .i64 0]) (by simp [results, Tryz.results52, go_sem, z0, z1, z2, z3, z4, z5, z6, z7, z8, z9, z10]) rfl ⟨rfl, ZB⟩
set_option maxHeartbeats 4000000 in
set_option maxRecDepth 100000 in
theorem parse_no1 (s : Bs) (c : Cd) (pb : Bs) (pe : Int) (hs : s.length ≤ 20000) (w : World)
    (GU : ∀ W, Below w.heap.size w W → Calls Tryz.prog 73 #[sV s] W fun e w' => e = .returned (cdV c) ∧ Below W.heap.size W w')
    (PR : ∀ W, Below w.heap.size w W → Calls Tryz.prog 27 #[cdV c] W fun e w' => e = .returned (.tuple #[sV pb, .int .i64 pe]) ∧ Below W.heap.size W w') (hpe : ¬ pe = 0) :
    Calls Tryz.prog 52 #[sV s] w fun e w' => e = .returned (.tuple #[cdV noCd, .int .i64 1]) ∧ Below w.heap.size w w' := by
  have hz : (s.length : Int) ≤ 20000 := by omega
  have hz2 : ¬ (20000 : Int) < (s.length : Int) := by omega
  obtain ⟨W, hW⟩ : ∃ W, W = w.alloc (cdO noCd) := ⟨_, rfl⟩
  have BW : Hid (Below w.heap.size w W) := by rw [hW]; exact below_alloc w _
  have RT : Hid (CdAt W w.heap.size noCd) := by show W.heap[w.heap.size]? = _; rw [hW]; exact heap_alloc_new w _
  have HW := hide hW
  have G1 := hide (GU W BW.out)
  have P1 := hide PR
  clear GU PR hW hs
  go_enter Tryz.func52, Tryz.ntmps52
  go_wp2_with (rw [← HW.out])
  refine G1.out.mono ?_
  rintro e X ⟨rfl, hb⟩
  have RX := hide (cdAt_below RT.out hb)
  have BX := hide (onward BW.out hb)
  clear G1 hb RT BW HW
  clear W
  obtain ⟨kind, ac, mkt, n, oi, oa, sd, pr, qt, how, red⟩ := c
  obtain ⟨Y, hY⟩ : ∃ Y, Y = X.alloc (cdO ⟨kind, ac, mkt, n, oi, oa, sd, pr, qt, how, red⟩) := ⟨_, rfl⟩
  have AY : CdAt Y X.heap.size ⟨kind, ac, mkt, n, oi, oa, sd, pr, qt, how, red⟩ := by show Y.heap[X.heap.size]? = _; rw [hY]; exact heap_alloc_new X _
  have bY : Below X.heap.size X Y := by rw [hY]; exact below_alloc X _
  have RY := hide (cdAt_below RX.out bY)
  have BY := hide (onward BX.out bY)
  have PY := hide (P1.out Y BY.out)
  have HY := hide hY
  have AYH := hide AY
  have c0 := cd_cells AY (Below.refl _ Y) 0 rfl
  have f0 := cd_frozen AY 0
  have c1 := cd_cells AY (Below.refl _ Y) 1 rfl
  have f1 := cd_frozen AY 1
  have c2 := cd_cells AY (Below.refl _ Y) 2 rfl
  have f2 := cd_frozen AY 2
  have c3 := cd_cells AY (Below.refl _ Y) 3 rfl
  have f3 := cd_frozen AY 3
  have c4 := cd_cells AY (Below.refl _ Y) 4 rfl
  have f4 := cd_frozen AY 4
  have c5 := cd_cells AY (Below.refl _ Y) 5 rfl
  have f5 := cd_frozen AY 5
  have c6 := cd_cells AY (Below.refl _ Y) 6 rfl
  have f6 := cd_frozen AY 6
  have c7 := cd_cells AY (Below.refl _ Y) 7 rfl
  have f7 := cd_frozen AY 7
  have c8 := cd_cells AY (Below.refl _ Y) 8 rfl
  have f8 := cd_frozen AY 8
  have c9 := cd_cells AY (Below.refl _ Y) 9 rfl
  have f9 := cd_frozen AY 9
  have c10 := cd_cells AY (Below.refl _ Y) 10 rfl
  have f10 := cd_frozen AY 10
  simp only [List.getElem_toArray, List.getElem_cons_zero, List.getElem_cons_succ] at c0 c1 c2 c3 c4 c5 c6 c7 c8 c9 c10
  clear hY bY RX BX P1 f0 f1 f2 f3 f4 f5 f6 f7 f8 f9 f10 AY
  go_wp2_with (rw [← HY.out])
  refine PY.out.mono ?_
  rintro e Z0 ⟨rfl, hb⟩
  have AZ := cdAt_below AYH.out hb
  have RZ := cdAt_below RY.out hb
  have BZ := hide (onward BY.out hb)
  have RZH := hide RZ
  clear hb PY c0 c1 c2 c3 c4 c5 c6 c7 c8 c9 c10 AYH RY BY HY
  clear Y
  generalize X.heap.size = bk at *
  have g0 := cd_cells RZ (Below.refl _ Z0) 0 rfl
  have g1 := cd_cells RZ (Below.refl _ Z0) 1 rfl
  have g2 := cd_cells RZ (Below.refl _ Z0) 2 rfl
  have g3 := cd_cells RZ (Below.refl _ Z0) 3 rfl
  have g4 := cd_cells RZ (Below.refl _ Z0) 4 rfl
  have g5 := cd_cells RZ (Below.refl _ Z0) 5 rfl
  have g6 := cd_cells RZ (Below.refl _ Z0) 6 rfl
  have g7 := cd_cells RZ (Below.refl _ Z0) 7 rfl
  have g8 := cd_cells RZ (Below.refl _ Z0) 8 rfl
  have g9 := cd_cells RZ (Below.refl _ Z0) 9 rfl
  have g10 := cd_cells RZ (Below.refl _ Z0) 10 rfl
  have h0 := cd_frozen RZ 0
  have h1 := cd_frozen RZ 1
  have h2 := cd_frozen RZ 2
  have h3 := cd_frozen RZ 3
  have h4 := cd_frozen RZ 4
  have h5 := cd_frozen RZ 5
  have h6 := cd_frozen RZ 6
  have h7 := cd_frozen RZ 7
  have h8 := cd_frozen RZ 8
  have h9 := cd_frozen RZ 9
  have h10 := cd_frozen RZ 10
  simp only [List.getElem_toArray, List.getElem_cons_zero, List.getElem_cons_succ] at g0 g1 g2 g3 g4 g5 g6 g7 g8 g9 g10
  have c0 := cd_cells AZ (Below.refl _ Z0) 0 rfl
  have f0 := cd_frozen AZ 0
  have c1 := cd_cells AZ (Below.refl _ Z0) 1 rfl
  have f1 := cd_frozen AZ 1
  have c2 := cd_cells AZ (Below.refl _ Z0) 2 rfl
  have f2 := cd_frozen AZ 2
  have c3 := cd_cells AZ (Below.refl _ Z0) 3 rfl
  have f3 := cd_frozen AZ 3
  have c4 := cd_cells AZ (Below.refl _ Z0) 4 rfl
  have f4 := cd_frozen AZ 4
  have c5 := cd_cells AZ (Below.refl _ Z0) 5 rfl
  have f5 := cd_frozen AZ 5
  have c6 := cd_cells AZ (Below.refl _ Z0) 6 rfl
  have f6 := cd_frozen AZ 6
  have c7 := cd_cells AZ (Below.refl _ Z0) 7 rfl
  have f7 := cd_frozen AZ 7
  have c8 := cd_cells AZ (Below.refl _ Z0) 8 rfl
  have f8 := cd_frozen AZ 8
  have c9 := cd_cells AZ (Below.refl _ Z0) 9 rfl
  have f9 := cd_frozen AZ 9
  have c10 := cd_cells AZ (Below.refl _ Z0) 10 rfl
  have f10 := cd_frozen AZ 10
  simp only [List.getElem_toArray, List.getElem_cons_zero, List.getElem_cons_succ] at c0 c1 c2 c3 c4 c5 c6 c7 c8 c9 c10
  clear RZ AZ f0 f1 f2 f3 f4 f5 f6 f7 f8 f9 f10
  go_wp2
  obtain ⟨Z, hZ⟩ : ∃ Z, Z = putCd Z0 w.heap.size noCd := ⟨_, rfl⟩
  have ZA : CdAt Z w.heap.size noCd := by rw [hZ]; exact putCd_at RZH.out _
  have ZB : Below w.heap.size w Z := by rw [hZ]; exact putCd_below BZ.out (Nat.le_refl _) _
  change bodyPost _ _ _ _ _ (putCd Z0 w.heap.size noCd)
  rw [← hZ]
  have z0 := cd_cells ZA (Below.refl _ Z) 0 rfl
  have z1 := cd_cells ZA (Below.refl _ Z) 1 rfl
  have z2 := cd_cells ZA (Below.refl _ Z) 2 rfl
  have z3 := cd_cells ZA (Below.refl _ Z) 3 rfl
  have z4 := cd_cells ZA (Below.refl _ Z) 4 rfl
  have z5 := cd_cells ZA (Below.refl _ Z) 5 rfl
  have z6 := cd_cells ZA (Below.refl _ Z) 6 rfl
  have z7 := cd_cells ZA (Below.refl _ Z) 7 rfl
  have z8 := cd_cells ZA (Below.refl _ Z) 8 rfl
  have z9 := cd_cells ZA (Below.refl _ Z) 9 rfl
  have z10 := cd_cells ZA (Below.refl _ Z) 10 rfl
  simp only [List.getElem_toArray, List.getElem_cons_zero, List.getElem_cons_succ] at z0 z1 z2 z3 z4 z5 z6 z7 z8 z9 z10
  refine bodyPost_ret (v := .tuple #[cdV noCd, .int .i64 1]) (by simp [results, Tryz.results52, go_sem, z0, z1, z2, z3, z4, z5, z6, z7, z8, z9, z10]) rfl ⟨rfl, ZB⟩
set_option maxHeartbeats 4000000 in
set_option maxRecDepth 100000 in
theorem parse_no2 (s : Bs) (c : Cd) (pb : Bs) (hs : s.length ≤ 20000) (w : World)
    (GU : ∀ W, Below w.heap.size w W → Calls Tryz.prog 73 #[sV s] W fun e w' => e = .returned (cdV c) ∧ Below W.heap.size W w')
    (PR : ∀ W, Below w.heap.size w W → Calls Tryz.prog 27 #[cdV c] W fun e w' => e = .returned (.tuple #[sV pb, .int .i64 0]) ∧ Below W.heap.size W w') (_hps : ¬ pb = s) (hpb : (pb == s) = false) :
    Calls Tryz.prog 52 #[sV s] w fun e w' => e = .returned (.tuple #[cdV noCd, .int .i64 1]) ∧ Below w.heap.size w w' := by
  have hz : (s.length : Int) ≤ 20000 := by omega
  have hz2 : ¬ (20000 : Int) < (s.length : Int) := by omega
  obtain ⟨W, hW⟩ : ∃ W, W = w.alloc (cdO noCd) := ⟨_, rfl⟩
  have BW : Hid (Below w.heap.size w W) := by rw [hW]; exact below_alloc w _
  have RT : Hid (CdAt W w.heap.size noCd) := by show W.heap[w.heap.size]? = _; rw [hW]; exact heap_alloc_new w _
  have HW := hide hW
  have G1 := hide (GU W BW.out)
  have P1 := hide PR
  clear GU PR hW hs
  go_enter Tryz.func52, Tryz.ntmps52
  go_wp2_with (rw [← HW.out])
  refine G1.out.mono ?_
  rintro e X ⟨rfl, hb⟩
  have RX := hide (cdAt_below RT.out hb)
  have BX := hide (onward BW.out hb)
  clear G1 hb RT BW HW
  clear W
  obtain ⟨kind, ac, mkt, n, oi, oa, sd, pr, qt, how, red⟩ := c
  obtain ⟨Y, hY⟩ : ∃ Y, Y = X.alloc (cdO ⟨kind, ac, mkt, n, oi, oa, sd, pr, qt, how, red⟩) := ⟨_, rfl⟩
  have AY : CdAt Y X.heap.size ⟨kind, ac, mkt, n, oi, oa, sd, pr, qt, how, red⟩ := by show Y.heap[X.heap.size]? = _; rw [hY]; exact heap_alloc_new X _
  have bY : Below X.heap.size X Y := by rw [hY]; exact below_alloc X _
  have RY := hide (cdAt_below RX.out bY)
  have BY := hide (onward BX.out bY)
  have PY := hide (P1.out Y BY.out)
  have HY := hide hY
  have AYH := hide AY
  have c0 := cd_cells AY (Below.refl _ Y) 0 rfl
  have f0 := cd_frozen AY 0
  have c1 := cd_cells AY (Below.refl _ Y) 1 rfl
  have f1 := cd_frozen AY 1
  have c2 := cd_cells AY (Below.refl _ Y) 2 rfl
  have f2 := cd_frozen AY 2
  have c3 := cd_cells AY (Below.refl _ Y) 3 rfl
  have f3 := cd_frozen AY 3
  have c4 := cd_cells AY (Below.refl _ Y) 4 rfl
  have f4 := cd_frozen AY 4
  have c5 := cd_cells AY (Below.refl _ Y) 5 rfl
  have f5 := cd_frozen AY 5
  have c6 := cd_cells AY (Below.refl _ Y) 6 rfl
  have f6 := cd_frozen AY 6
  have c7 := cd_cells AY (Below.refl _ Y) 7 rfl
  have f7 := cd_frozen AY 7
  have c8 := cd_cells AY (Below.refl _ Y) 8 rfl
  have f8 := cd_frozen AY 8
  have c9 := cd_cells AY (Below.refl _ Y) 9 rfl
  have f9 := cd_frozen AY 9
  have c10 := cd_cells AY (Below.refl _ Y) 10 rfl
  have f10 := cd_frozen AY 10
  simp only [List.getElem_toArray, List.getElem_cons_zero, List.getElem_cons_succ] at c0 c1 c2 c3 c4 c5 c6 c7 c8 c9 c10
  clear hY bY RX BX P1 f0 f1 f2 f3 f4 f5 f6 f7 f8 f9 f10 AY
  go_wp2_with (rw [← HY.out])
  refine PY.out.mono ?_
  rintro e Z0 ⟨rfl, hb⟩
  have AZ := cdAt_below AYH.out hb
  have RZ := cdAt_below RY.out hb
  have BZ := hide (onward BY.out hb)
  have RZH := hide RZ
  clear hb PY c0 c1 c2 c3 c4 c5 c6 c7 c8 c9 c10 AYH RY BY HY
  clear Y
  generalize X.heap.size = bk at *
  have g0 := cd_cells RZ (Below.refl _ Z0) 0 rfl
  have g1 := cd_cells RZ (Below.refl _ Z0) 1 rfl
  have g2 := cd_cells RZ (Below.refl _ Z0) 2 rfl
  have g3 := cd_cells RZ (Below.refl _ Z0) 3 rfl
  have g4 := cd_cells RZ (Below.refl _ Z0) 4 rfl
  have g5 := cd_cells RZ (Below.refl _ Z0) 5 rfl
  have g6 := cd_cells RZ (Below.refl _ Z0) 6 rfl
  have g7 := cd_cells RZ (Below.refl _ Z0) 7 rfl
  have g8 := cd_cells RZ (Below.refl _ Z0) 8 rfl
  have g9 := cd_cells RZ (Below.refl _ Z0) 9 rfl
  have g10 := cd_cells RZ (Below.refl _ Z0) 10 rfl
  have h0 := cd_frozen RZ 0
  have h1 := cd_frozen RZ 1
  have h2 := cd_frozen RZ 2
  have h3 := cd_frozen RZ 3
  have h4 := cd_frozen RZ 4
  have h5 := cd_frozen RZ 5
  have h6 := cd_frozen RZ 6
  have h7 := cd_frozen RZ 7
  have h8 := cd_frozen RZ 8
  have h9 := cd_frozen RZ 9
  have h10 := cd_frozen RZ 10
  simp only [List.getElem_toArray, List.getElem_cons_zero, List.getElem_cons_succ] at g0 g1 g2 g3 g4 g5 g6 g7 g8 g9 g10
  have c0 := cd_cells AZ (Below.refl _ Z0) 0 rfl
  have f0 := cd_frozen AZ 0
  have c1 := cd_cells AZ (Below.refl _ Z0) 1 rfl
  have f1 := cd_frozen AZ 1
  have c2 := cd_cells AZ (Below.refl _ Z0) 2 rfl
  have f2 := cd_frozen AZ 2
  have c3 := cd_cells AZ (Below.refl _ Z0) 3 rfl
  have f3 := cd_frozen AZ 3
  have c4 := cd_cells AZ (Below.refl _ Z0) 4 rfl
  have f4 := cd_frozen AZ 4
  have c5 := cd_cells AZ (Below.refl _ Z0) 5 rfl
  have f5 := cd_frozen AZ 5
  have c6 := cd_cells AZ (Below.refl _ Z0) 6 rfl
  have f6 := cd_frozen AZ 6
  have c7 := cd_cells AZ (Below.refl _ Z0) 7 rfl
  have f7 := cd_frozen AZ 7
  have c8 := cd_cells AZ (Below.refl _ Z0) 8 rfl
  have f8 := cd_frozen AZ 8
  have c9 := cd_cells AZ (Below.refl _ Z0) 9 rfl
  have f9 := cd_frozen AZ 9
  have c10 := cd_cells AZ (Below.refl _ Z0) 10 rfl
  have f10 := cd_frozen AZ 10
  simp only [List.getElem_toArray, List.getElem_cons_zero, List.getElem_cons_succ] at c0 c1 c2 c3 c4 c5 c6 c7 c8 c9 c10
  clear RZ AZ f0 f1 f2 f3 f4 f5 f6 f7 f8 f9 f10
  go_wp2
  obtain ⟨Z, hZ⟩ : ∃ Z, Z = putCd Z0 w.heap.size noCd := ⟨_, rfl⟩
  have ZA : CdAt Z w.heap.size noCd := by rw [hZ]; exact putCd_at RZH.out _
  have ZB : Below w.heap.size w Z := by rw [hZ]; exact putCd_below BZ.out (Nat.le_refl _) _
  change bodyPost _ _ _ _ _ (putCd Z0 w.heap.size noCd)
  rw [← hZ]
  have z0 := cd_cells ZA (Below.refl _ Z) 0 rfl
  have z1 := cd_cells ZA (Below.refl _ Z) 1 rfl
  have z2 := cd_cells ZA (Below.refl _ Z) 2 rfl
  have z3 := cd_cells ZA (Below.refl _ Z) 3 rfl
  have z4 := cd_cells ZA (Below.refl _ Z) 4 rfl
  have z5 := cd_cells ZA (Below.refl _ Z) 5 rfl
  have z6 := cd_cells ZA (Below.refl _ Z) 6 rfl
  have z7 := cd_cells ZA (Below.refl _ Z) 7 rfl
  have z8 := cd_cells ZA (Below.refl _ Z) 8 rfl
  have z9 := cd_cells ZA (Below.refl _ Z) 9 rfl
  have z10 := cd_cells ZA (Below.refl _ Z) 10 rfl
  simp only [List.getElem_toArray, List.getElem_cons_zero, List.getElem_cons_succ] at z0 z1 z2 z3 z4 z5 z6 z7 z8 z9 z10
  refine bodyPost_ret (v := .tuple #[cdV noCd, .int .i64 1]) (by simp [results, Tryz.results52, go_sem, z0, z1, z2, z3, z4, z5, z6, z7, z8, z9, z10]) rfl ⟨rfl, ZB⟩
theorem parse_any (s : Bs) (w : World) (E : Env w) : Calls Tryz.prog 52 #[sV s] w fun e w' => e = .returned (.tuple #[cdV (parseC s).1, .int .i64 (parseC s).2]) ∧ Below w.heap.size w w' := by
  unfold parseC
  by_cases hs : 20000 < s.length
  · rw [if_pos hs]
    exact parse_long s hs w
  · rw [if_neg hs]
    have hs' : s.length ≤ 20000 := by omega
    have hf : (guessC s).fits := guessW_fits _
    have GU := fun W hW => guess_any s hs' W (E.below hW)
    have PR := fun W hW => print_any (guessC s) W hf (E.below hW)
    unfold printS at PR
    by_cases hc : checkC (guessC s) = 0
    · rw [if_pos hc, hc] at PR
      by_cases hp : printC (guessC s) = s
      · rw [if_pos ⟨hc, hp⟩]
        rw [hp] at PR
        exact parse_yes s (guessC s) hs' w GU PR
      · rw [if_neg (fun h => hp h.2)]
        exact parse_no2 s (guessC s) (printC (guessC s)) hs' w GU PR hp (beq_false_of_ne hp)
    · rw [if_neg (fun h => hc h.1)]
      rw [if_neg hc] at PR
      exact parse_no1 s (guessC s) [] _ hs' w GU PR hc
end Go.Proofs.YthdjfhnhjiageaaGreatDoor.Tx
