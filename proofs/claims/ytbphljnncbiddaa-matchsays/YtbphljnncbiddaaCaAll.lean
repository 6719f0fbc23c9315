/-
  The reference's Came, by a contract: where it fails.
-/
import Derived.Test.YtbphljnncbiddaaTkAll
import Derived.Test.YtbphljnncbiddaaRefAll
import Derived.Test.YtbphljnncbiddaaEqF
namespace Go.Proofs.Ytbphljnncbiddaa.Tk
open Go.RowKit Go.Sort Go.Maps Go.Proofs.Ytbphljnncbiddaa.Mix Go.Proofs.Ytbphljnncbiddaa.Bk Go.Proofs.Ytbphljnncbiddaa.Rk

/-- what Come, and Came, answer. -/
abbrev CamePost (w : World) (B A : List Odr) (F : List Fil) (left r : Int) (e : Ending) (w' : World) : Prop :=
  ∃ p1 c1 p2 c2 vF, e = .returned (.tuple #[.agg #[.slice p1 B.length c1, .slice p2 A.length c2], vF, .int .i64 left, .int .i64 r]) ∧ OV w' p1 c1 B ∧ OV w' p2 c2 A ∧ w'.ownsRow w.heap.size 74 7 vF F.length (flatF F) ∧ Below w.heap.size w w'

theorem camef_any (x : Int) (w : World) :
    Calls Try.prog 95 #[.int .i64 x] w fun e w' => e = .returned (.tuple #[.agg #[.slice none 0 0, .slice none 0 0], .slice none 0 0, .int .i64 0, .int .i64 x]) ∧ Below w.heap.size w w' := by
  go_enter Try.func95, Try.ntmps95
  go_wp2
  refine bodyPost_ret (v := .tuple #[.agg #[.slice none 0 0, .slice none 0 0], .slice none 0 0, .int .i64 0, .int .i64 x]) (by simp [results, Try.results95, go_sem]) rfl ⟨rfl, ?_⟩
  exact (Below.refl _ w).alloc (Nat.le_refl _) _

set_option maxHeartbeats 2000000 in
set_option maxRecDepth 100000 in
theorem came_1 (p p' : Option Addr) (c c' nb na : Nat) (a ac sd pr q how : Int) (w : World) (ha : ¬ a = 0) (yc yd yp yq : Int)
    (FD : Hid (∀ X, Below w.heap.size w X → Calls Try.prog 44 #[.agg #[.slice p nb c, .slice p' na c'], .int .i64 a] X fun e w' => e = .returned (.agg #[.int .i64 a, .int .i64 yc, .int .i64 yd, .int .i64 yp, .int .i64 yq]) ∧ Below X.heap.size X w')) :
    Calls Try.prog 54 #[.agg #[.slice p nb c, .slice p' na c'], .agg #[.int .i64 a, .int .i64 ac, .int .i64 sd, .int .i64 pr, .int .i64 q], .int .i64 how] w (CamePost w [] [] [] 0 6) := by
  have hab : (a != 0) = true := by simp [ha]
  clear ha
  have mixed : Try.prog.follows .mixedOrders = true := by kernel_rfl
  have F1 := hide camef_any
  go_enter Try.func54, Try.ntmps54
  go_wp2_with fail
  obtain ⟨W, hW⟩ : ∃ W, W = ((w.alloc (.cells #[.slice p nb c, .slice p' na c'] 42)).alloc (oO a ac sd pr q)).alloc (.cells #[.slice none 0 0, .slice none 0 0] 42) := ⟨_, rfl⟩
  have BW : Hid (Below w.heap.size w W) := by rw [hW]; exact ((((Below.refl _ w).alloc (Nat.le_refl _) _).alloc (by simp) _).alloc (by simp; omega) _)
  have T : Hid (Two W (w.heap.size + 1 + 1)) := by rw [hW]; exact two_made _ _ _ _ _
  have FVE : Hid (Five W (w.heap.size + 1)) := by rw [hW]; exact made3_five2 _ _ _ _ _ _ _ _
  have e0 : W.cell? ⟨w.heap.size, 0, none⟩ = some (.slice p nb c) := by rw [hW]; exact cell_alloc (cell_alloc (new_cell _ _ _ _ _ rfl) _) _
  have e1 : W.cell? ⟨w.heap.size, 1, none⟩ = some (.slice p' na c') := by rw [hW]; exact cell_alloc (cell_alloc (new_cell _ _ _ _ _ rfl) _) _
  have f0 : W.cell? ⟨w.heap.size + 1, 0, none⟩ = some (.int .i64 a) := by rw [hW]; exact cell_alloc (new_cell2 _ _ _ _ _ _ rfl) _
  have f1 : W.cell? ⟨w.heap.size + 1, 1, none⟩ = some (.int .i64 ac) := by rw [hW]; exact cell_alloc (new_cell2 _ _ _ _ _ _ rfl) _
  have f2 : W.cell? ⟨w.heap.size + 1, 2, none⟩ = some (.int .i64 sd) := by rw [hW]; exact cell_alloc (new_cell2 _ _ _ _ _ _ rfl) _
  have f3 : W.cell? ⟨w.heap.size + 1, 3, none⟩ = some (.int .i64 pr) := by rw [hW]; exact cell_alloc (new_cell2 _ _ _ _ _ _ rfl) _
  have f4 : W.cell? ⟨w.heap.size + 1, 4, none⟩ = some (.int .i64 q) := by rw [hW]; exact cell_alloc (new_cell2 _ _ _ _ _ _ rfl) _
  have SZW : Hid (W.heap.size = w.heap.size + 3) := by show _ = _; rw [hW]; simp
  rw [← hW]
  clear hW
  have KEEP : Hid (∀ x, Below W.heap.size W x → x.cell? ⟨w.heap.size, 0, none⟩ = some (.slice p nb c) ∧ x.cell? ⟨w.heap.size, 1, none⟩ = some (.slice p' na c') ∧ x.cell? ⟨w.heap.size + 1, 0, none⟩ = some (.int .i64 a) ∧ x.cell? ⟨w.heap.size + 1, 1, none⟩ = some (.int .i64 ac) ∧ x.cell? ⟨w.heap.size + 1, 2, none⟩ = some (.int .i64 sd) ∧ x.cell? ⟨w.heap.size + 1, 3, none⟩ = some (.int .i64 pr) ∧ x.cell? ⟨w.heap.size + 1, 4, none⟩ = some (.int .i64 q)) := fun x hx =>
    have k := fun ad v (he : W.cell? ad = some v) => (hx.cell (World.block_lt_of_cell? _ _ he)).trans he
    ⟨k _ _ e0, k _ _ e1, k _ _ f0, k _ _ f1, k _ _ f2, k _ _ f3, k _ _ f4⟩
  have hC : ∀ q1 : InC (fun x => Below W.heap.size W x), ∀ x v, W.cell? x = some v → q1.w.cell? x = some v := fun q1 x v hx => (q1.h.cell (World.block_lt_of_cell? _ _ hx)).trans hx
  generalize hCC : (fun x => Below W.heap.size W x) = C at hC
  have g0 := fun q1 => hC q1 _ _ e0
  have g1 := fun q1 => hC q1 _ _ e1
  have l0 := fun q1 => hC q1 _ _ f0
  have CE := hide hCC
  have CS : Hid (Shut C) := by rw [← CE.out]; exact shut_below W
  have CW : Hid (∀ x, C x → Below W.heap.size W x) := fun x hx => by rw [← CE.out] at hx; exact hx
  have C0 : Hid (C { W with drawn := W.drawn + 1 }) := by rw [← CE.out]; exact below_drawn _
  clear hC hCC e0 e1 f0 f1 f2 f3 f4
  refine wp_region_mix [(0, true), (1, true), (2, true), (3, true), (4, true), (5, true), (6, true), (9, true), (10, true), (7, false), (8, false), (11, false), (12, false)] C mixed (by kernel_rfl) C0.out ?_
  repeat (refine mix_still (by rfl) ?_; go_big_quiet_step (exact rfl); refine wpQuiet_nil ?_)
  refine mix_main (by rfl) ?_
  rintro ⟨x1, hx1⟩
  have FX := hide (FD.out x1 (BW.out.trans ((CW.out x1 hx1).mono BW.out.size)))
  go_wp2_with (go_at_call 44; refine FX.out.mono ?_; rintro e w' ⟨rfl, hb'⟩)
  refine ⟨C, CS.out x1 _ hx1 hb', fun _ h => h, ?_⟩
  clear hx1 hb' FX x1
  refine mix_main (by rfl) ?_
  rintro ⟨x1, hx1⟩
  go_wp2
  rename_i K hK
  refine hK _ _ ?_
  simp only [List.getElem_toArray, List.getElem_cons_zero]
  clear hK K
  go_wp2
  refine ⟨C, hx1, fun _ h => h, ?_⟩
  clear hx1 x1
  refine mix_main (by rfl) ?_
  rintro ⟨x1, hx1⟩
  go_wp2
  refine ⟨C, hx1, fun _ h => h, ?_⟩
  clear hx1 x1
  refine mix_main (by rfl) ?_
  rintro ⟨x1, hx1⟩
  go_wp2
  refine ⟨C, hx1, fun _ h => h, ?_⟩
  clear hx1 x1
  refine mix_end ?_
  rintro ⟨x9, hx9⟩
  dsimp only
  have B9 := hide (CW.out x9 hx9)
  obtain ⟨e0, e1, f0, f1, f2, f3, f4⟩ := KEEP.out x9 B9.out
  have TX := hide (two_below T.out B9.out)
  have BX := hide (BW.out.trans (B9.out.mono BW.out.size))
  clear hx9 CS CW C0 CE g0 g1 l0
  go_wp2_with fail
  refine (F1.out _ _).mono ?_
  rintro e WF ⟨rfl, hbF⟩
  have TF := hide (two_below TX.out hbF)
  have BF := hide (BX.out.trans (hbF.mono BX.out.size))
  obtain ⟨uf0, uf1, tf0, tf1, tf2, tf3⟩ := two_facts TF.out
  clear hbF
  go_wp2
  obtain ⟨sf0, sf1⟩ := two_set TF.out (.slice none 0 0) (.slice none 0 0)
  refine bodyPost_ret (v := .tuple #[.agg #[.slice none 0 0, .slice none 0 0], .slice none 0 0, .int .i64 0, .int .i64 6]) (by simp [results, Try.results54, go_sem, sf0, sf1]) rfl ⟨none, 0, none, 0, .slice none 0 0, rfl, ov_nil _, ov_nil _, World.ownsRow_nil _ _ _ _, two_below_set BF.out (by omega) _ _⟩

set_option maxHeartbeats 2000000 in
set_option maxRecDepth 100000 in
theorem came_2 (p p' : Option Addr) (c c' nb na : Nat) (a ac sd pr q how : Int) (w : World) (hw : how < 1 ∨ 4 < how)
    (FD : Hid (∀ X, Below w.heap.size w X → Calls Try.prog 44 #[.agg #[.slice p nb c, .slice p' na c'], .int .i64 a] X fun e w' => e = .returned (.agg #[.int .i64 0, .int .i64 0, .int .i64 0, .int .i64 0, .int .i64 0]) ∧ Below X.heap.size X w')) :
    Calls Try.prog 54 #[.agg #[.slice p nb c, .slice p' na c'], .agg #[.int .i64 a, .int .i64 ac, .int .i64 sd, .int .i64 pr, .int .i64 q], .int .i64 how] w (CamePost w [] [] [] 0 4) := by
  by_cases ha : a = 0
  · have hab : (a != 0) = false := by simp [ha]
    clear ha
    have mixed : Try.prog.follows .mixedOrders = true := by kernel_rfl
    have F1 := hide camef_any
    go_enter Try.func54, Try.ntmps54
    go_wp2_with fail
    obtain ⟨W, hW⟩ : ∃ W, W = ((w.alloc (.cells #[.slice p nb c, .slice p' na c'] 42)).alloc (oO a ac sd pr q)).alloc (.cells #[.slice none 0 0, .slice none 0 0] 42) := ⟨_, rfl⟩
    have BW : Hid (Below w.heap.size w W) := by rw [hW]; exact ((((Below.refl _ w).alloc (Nat.le_refl _) _).alloc (by simp) _).alloc (by simp; omega) _)
    have T : Hid (Two W (w.heap.size + 1 + 1)) := by rw [hW]; exact two_made _ _ _ _ _
    have FVE : Hid (Five W (w.heap.size + 1)) := by rw [hW]; exact made3_five2 _ _ _ _ _ _ _ _
    have e0 : W.cell? ⟨w.heap.size, 0, none⟩ = some (.slice p nb c) := by rw [hW]; exact cell_alloc (cell_alloc (new_cell _ _ _ _ _ rfl) _) _
    have e1 : W.cell? ⟨w.heap.size, 1, none⟩ = some (.slice p' na c') := by rw [hW]; exact cell_alloc (cell_alloc (new_cell _ _ _ _ _ rfl) _) _
    have f0 : W.cell? ⟨w.heap.size + 1, 0, none⟩ = some (.int .i64 a) := by rw [hW]; exact cell_alloc (new_cell2 _ _ _ _ _ _ rfl) _
    have f1 : W.cell? ⟨w.heap.size + 1, 1, none⟩ = some (.int .i64 ac) := by rw [hW]; exact cell_alloc (new_cell2 _ _ _ _ _ _ rfl) _
    have f2 : W.cell? ⟨w.heap.size + 1, 2, none⟩ = some (.int .i64 sd) := by rw [hW]; exact cell_alloc (new_cell2 _ _ _ _ _ _ rfl) _
    have f3 : W.cell? ⟨w.heap.size + 1, 3, none⟩ = some (.int .i64 pr) := by rw [hW]; exact cell_alloc (new_cell2 _ _ _ _ _ _ rfl) _
    have f4 : W.cell? ⟨w.heap.size + 1, 4, none⟩ = some (.int .i64 q) := by rw [hW]; exact cell_alloc (new_cell2 _ _ _ _ _ _ rfl) _
    have SZW : Hid (W.heap.size = w.heap.size + 3) := by show _ = _; rw [hW]; simp
    rw [← hW]
    clear hW
    have KEEP : Hid (∀ x, Below W.heap.size W x → x.cell? ⟨w.heap.size, 0, none⟩ = some (.slice p nb c) ∧ x.cell? ⟨w.heap.size, 1, none⟩ = some (.slice p' na c') ∧ x.cell? ⟨w.heap.size + 1, 0, none⟩ = some (.int .i64 a) ∧ x.cell? ⟨w.heap.size + 1, 1, none⟩ = some (.int .i64 ac) ∧ x.cell? ⟨w.heap.size + 1, 2, none⟩ = some (.int .i64 sd) ∧ x.cell? ⟨w.heap.size + 1, 3, none⟩ = some (.int .i64 pr) ∧ x.cell? ⟨w.heap.size + 1, 4, none⟩ = some (.int .i64 q)) := fun x hx =>
      have k := fun ad v (he : W.cell? ad = some v) => (hx.cell (World.block_lt_of_cell? _ _ he)).trans he
      ⟨k _ _ e0, k _ _ e1, k _ _ f0, k _ _ f1, k _ _ f2, k _ _ f3, k _ _ f4⟩
    have hC : ∀ q1 : InC (fun x => Below W.heap.size W x), ∀ x v, W.cell? x = some v → q1.w.cell? x = some v := fun q1 x v hx => (q1.h.cell (World.block_lt_of_cell? _ _ hx)).trans hx
    generalize hCC : (fun x => Below W.heap.size W x) = C at hC
    have g0 := fun q1 => hC q1 _ _ e0
    have g1 := fun q1 => hC q1 _ _ e1
    have l0 := fun q1 => hC q1 _ _ f0
    have CE := hide hCC
    have CS : Hid (Shut C) := by rw [← CE.out]; exact shut_below W
    have CW : Hid (∀ x, C x → Below W.heap.size W x) := fun x hx => by rw [← CE.out] at hx; exact hx
    have C0 : Hid (C { W with drawn := W.drawn + 1 }) := by rw [← CE.out]; exact below_drawn _
    clear hC hCC e0 e1 f0 f1 f2 f3 f4
    refine wp_region_mix [(0, true), (1, true), (2, true), (3, true), (4, true), (5, true), (6, true), (9, true), (10, true), (7, false), (8, false), (11, false), (12, false)] C mixed (by kernel_rfl) C0.out ?_
    repeat (refine mix_still (by rfl) ?_; go_big_quiet_step (exact rfl); refine wpQuiet_nil ?_)
    refine mix_main (by rfl) ?_
    rintro ⟨x1, hx1⟩
    go_wp2
    refine ⟨C, hx1, fun _ h => h, ?_⟩
    clear hx1 x1
    refine mix_main (by rfl) ?_
    rintro ⟨x1, hx1⟩
    go_wp2
    refine ⟨C, hx1, fun _ h => h, ?_⟩
    clear hx1 x1
    refine mix_main (by rfl) ?_
    rintro ⟨x1, hx1⟩
    go_wp2
    refine ⟨C, hx1, fun _ h => h, ?_⟩
    clear hx1 x1
    refine mix_main (by rfl) ?_
    rintro ⟨x1, hx1⟩
    go_wp2
    refine ⟨C, hx1, fun _ h => h, ?_⟩
    clear hx1 x1
    refine mix_end ?_
    rintro ⟨x9, hx9⟩
    dsimp only
    have B9 := hide (CW.out x9 hx9)
    obtain ⟨e0, e1, f0, f1, f2, f3, f4⟩ := KEEP.out x9 B9.out
    have TX := hide (two_below T.out B9.out)
    have BX := hide (BW.out.trans (B9.out.mono BW.out.size))
    clear hx9 CS CW C0 CE g0 g1 l0
    by_cases h1 : how < 1
    · clear hw
      go_wp2_with fail
      refine (F1.out _ _).mono ?_
      rintro e WF ⟨rfl, hbF⟩
      have TF := hide (two_below TX.out hbF)
      have BF := hide (BX.out.trans (hbF.mono BX.out.size))
      obtain ⟨uf0, uf1, tf0, tf1, tf2, tf3⟩ := two_facts TF.out
      clear hbF
      go_wp2
      obtain ⟨sf0, sf1⟩ := two_set TF.out (.slice none 0 0) (.slice none 0 0)
      refine bodyPost_ret (v := .tuple #[.agg #[.slice none 0 0, .slice none 0 0], .slice none 0 0, .int .i64 0, .int .i64 4]) (by simp [results, Try.results54, go_sem, sf0, sf1]) rfl ⟨none, 0, none, 0, .slice none 0 0, rfl, ov_nil _, ov_nil _, World.ownsRow_nil _ _ _ _, two_below_set BF.out (by omega) _ _⟩
    · have h2 : 4 < how := by omega
      clear hw
      go_wp2_with fail
      refine (F1.out _ _).mono ?_
      rintro e WF ⟨rfl, hbF⟩
      have TF := hide (two_below TX.out hbF)
      have BF := hide (BX.out.trans (hbF.mono BX.out.size))
      obtain ⟨uf0, uf1, tf0, tf1, tf2, tf3⟩ := two_facts TF.out
      clear hbF
      go_wp2
      obtain ⟨sf0, sf1⟩ := two_set TF.out (.slice none 0 0) (.slice none 0 0)
      refine bodyPost_ret (v := .tuple #[.agg #[.slice none 0 0, .slice none 0 0], .slice none 0 0, .int .i64 0, .int .i64 4]) (by simp [results, Try.results54, go_sem, sf0, sf1]) rfl ⟨none, 0, none, 0, .slice none 0 0, rfl, ov_nil _, ov_nil _, World.ownsRow_nil _ _ _ _, two_below_set BF.out (by omega) _ _⟩
  · have hab : (a != 0) = true := by simp [ha]
    have hna : ¬ (0 : Int) = a := fun e => ha e.symm
    clear ha
    have mixed : Try.prog.follows .mixedOrders = true := by kernel_rfl
    have F1 := hide camef_any
    go_enter Try.func54, Try.ntmps54
    go_wp2_with fail
    obtain ⟨W, hW⟩ : ∃ W, W = ((w.alloc (.cells #[.slice p nb c, .slice p' na c'] 42)).alloc (oO a ac sd pr q)).alloc (.cells #[.slice none 0 0, .slice none 0 0] 42) := ⟨_, rfl⟩
    have BW : Hid (Below w.heap.size w W) := by rw [hW]; exact ((((Below.refl _ w).alloc (Nat.le_refl _) _).alloc (by simp) _).alloc (by simp; omega) _)
    have T : Hid (Two W (w.heap.size + 1 + 1)) := by rw [hW]; exact two_made _ _ _ _ _
    have FVE : Hid (Five W (w.heap.size + 1)) := by rw [hW]; exact made3_five2 _ _ _ _ _ _ _ _
    have e0 : W.cell? ⟨w.heap.size, 0, none⟩ = some (.slice p nb c) := by rw [hW]; exact cell_alloc (cell_alloc (new_cell _ _ _ _ _ rfl) _) _
    have e1 : W.cell? ⟨w.heap.size, 1, none⟩ = some (.slice p' na c') := by rw [hW]; exact cell_alloc (cell_alloc (new_cell _ _ _ _ _ rfl) _) _
    have f0 : W.cell? ⟨w.heap.size + 1, 0, none⟩ = some (.int .i64 a) := by rw [hW]; exact cell_alloc (new_cell2 _ _ _ _ _ _ rfl) _
    have f1 : W.cell? ⟨w.heap.size + 1, 1, none⟩ = some (.int .i64 ac) := by rw [hW]; exact cell_alloc (new_cell2 _ _ _ _ _ _ rfl) _
    have f2 : W.cell? ⟨w.heap.size + 1, 2, none⟩ = some (.int .i64 sd) := by rw [hW]; exact cell_alloc (new_cell2 _ _ _ _ _ _ rfl) _
    have f3 : W.cell? ⟨w.heap.size + 1, 3, none⟩ = some (.int .i64 pr) := by rw [hW]; exact cell_alloc (new_cell2 _ _ _ _ _ _ rfl) _
    have f4 : W.cell? ⟨w.heap.size + 1, 4, none⟩ = some (.int .i64 q) := by rw [hW]; exact cell_alloc (new_cell2 _ _ _ _ _ _ rfl) _
    have SZW : Hid (W.heap.size = w.heap.size + 3) := by show _ = _; rw [hW]; simp
    rw [← hW]
    clear hW
    have KEEP : Hid (∀ x, Below W.heap.size W x → x.cell? ⟨w.heap.size, 0, none⟩ = some (.slice p nb c) ∧ x.cell? ⟨w.heap.size, 1, none⟩ = some (.slice p' na c') ∧ x.cell? ⟨w.heap.size + 1, 0, none⟩ = some (.int .i64 a) ∧ x.cell? ⟨w.heap.size + 1, 1, none⟩ = some (.int .i64 ac) ∧ x.cell? ⟨w.heap.size + 1, 2, none⟩ = some (.int .i64 sd) ∧ x.cell? ⟨w.heap.size + 1, 3, none⟩ = some (.int .i64 pr) ∧ x.cell? ⟨w.heap.size + 1, 4, none⟩ = some (.int .i64 q)) := fun x hx =>
      have k := fun ad v (he : W.cell? ad = some v) => (hx.cell (World.block_lt_of_cell? _ _ he)).trans he
      ⟨k _ _ e0, k _ _ e1, k _ _ f0, k _ _ f1, k _ _ f2, k _ _ f3, k _ _ f4⟩
    have hC : ∀ q1 : InC (fun x => Below W.heap.size W x), ∀ x v, W.cell? x = some v → q1.w.cell? x = some v := fun q1 x v hx => (q1.h.cell (World.block_lt_of_cell? _ _ hx)).trans hx
    generalize hCC : (fun x => Below W.heap.size W x) = C at hC
    have g0 := fun q1 => hC q1 _ _ e0
    have g1 := fun q1 => hC q1 _ _ e1
    have l0 := fun q1 => hC q1 _ _ f0
    have CE := hide hCC
    have CS : Hid (Shut C) := by rw [← CE.out]; exact shut_below W
    have CW : Hid (∀ x, C x → Below W.heap.size W x) := fun x hx => by rw [← CE.out] at hx; exact hx
    have C0 : Hid (C { W with drawn := W.drawn + 1 }) := by rw [← CE.out]; exact below_drawn _
    clear hC hCC e0 e1 f0 f1 f2 f3 f4
    refine wp_region_mix [(0, true), (1, true), (2, true), (3, true), (4, true), (5, true), (6, true), (9, true), (10, true), (7, false), (8, false), (11, false), (12, false)] C mixed (by kernel_rfl) C0.out ?_
    repeat (refine mix_still (by rfl) ?_; go_big_quiet_step (exact rfl); refine wpQuiet_nil ?_)
    refine mix_main (by rfl) ?_
    rintro ⟨x1, hx1⟩
    have FX := hide (FD.out x1 (BW.out.trans ((CW.out x1 hx1).mono BW.out.size)))
    go_wp2_with (go_at_call 44; refine FX.out.mono ?_; rintro e w' ⟨rfl, hb'⟩)
    refine ⟨C, CS.out x1 _ hx1 hb', fun _ h => h, ?_⟩
    clear hx1 hb' FX x1
    refine mix_main (by rfl) ?_
    rintro ⟨x1, hx1⟩
    go_wp2
    rename_i K hK
    refine hK _ _ ?_
    simp only [List.getElem_toArray, List.getElem_cons_zero]
    clear hK K
    go_wp2
    refine ⟨C, hx1, fun _ h => h, ?_⟩
    clear hx1 x1
    refine mix_main (by rfl) ?_
    rintro ⟨x1, hx1⟩
    go_wp2
    refine ⟨C, hx1, fun _ h => h, ?_⟩
    clear hx1 x1
    refine mix_main (by rfl) ?_
    rintro ⟨x1, hx1⟩
    go_wp2
    refine ⟨C, hx1, fun _ h => h, ?_⟩
    clear hx1 x1
    refine mix_end ?_
    rintro ⟨x9, hx9⟩
    dsimp only
    have B9 := hide (CW.out x9 hx9)
    obtain ⟨e0, e1, f0, f1, f2, f3, f4⟩ := KEEP.out x9 B9.out
    have TX := hide (two_below T.out B9.out)
    have BX := hide (BW.out.trans (B9.out.mono BW.out.size))
    clear hx9 CS CW C0 CE g0 g1 l0
    by_cases h1 : how < 1
    · clear hw
      go_wp2_with fail
      refine (F1.out _ _).mono ?_
      rintro e WF ⟨rfl, hbF⟩
      have TF := hide (two_below TX.out hbF)
      have BF := hide (BX.out.trans (hbF.mono BX.out.size))
      obtain ⟨uf0, uf1, tf0, tf1, tf2, tf3⟩ := two_facts TF.out
      clear hbF
      go_wp2
      obtain ⟨sf0, sf1⟩ := two_set TF.out (.slice none 0 0) (.slice none 0 0)
      refine bodyPost_ret (v := .tuple #[.agg #[.slice none 0 0, .slice none 0 0], .slice none 0 0, .int .i64 0, .int .i64 4]) (by simp [results, Try.results54, go_sem, sf0, sf1]) rfl ⟨none, 0, none, 0, .slice none 0 0, rfl, ov_nil _, ov_nil _, World.ownsRow_nil _ _ _ _, two_below_set BF.out (by omega) _ _⟩
    · have h2 : 4 < how := by omega
      clear hw
      go_wp2_with fail
      refine (F1.out _ _).mono ?_
      rintro e WF ⟨rfl, hbF⟩
      have TF := hide (two_below TX.out hbF)
      have BF := hide (BX.out.trans (hbF.mono BX.out.size))
      obtain ⟨uf0, uf1, tf0, tf1, tf2, tf3⟩ := two_facts TF.out
      clear hbF
      go_wp2
      obtain ⟨sf0, sf1⟩ := two_set TF.out (.slice none 0 0) (.slice none 0 0)
      refine bodyPost_ret (v := .tuple #[.agg #[.slice none 0 0, .slice none 0 0], .slice none 0 0, .int .i64 0, .int .i64 4]) (by simp [results, Try.results54, go_sem, sf0, sf1]) rfl ⟨none, 0, none, 0, .slice none 0 0, rfl, ov_nil _, ov_nil _, World.ownsRow_nil _ _ _ _, two_below_set BF.out (by omega) _ _⟩

set_option maxHeartbeats 2000000 in
set_option maxRecDepth 100000 in
theorem came_3 (p p' : Option Addr) (c c' nb na : Nat) (a ac sd pr q how r : Int) (w : World) (h1 : 1 ≤ how) (h2 : how ≤ 4) (hr : ¬ r = 0)
    (FD : Hid (∀ X, Below w.heap.size w X → Calls Try.prog 44 #[.agg #[.slice p nb c, .slice p' na c'], .int .i64 a] X fun e w' => e = .returned (.agg #[.int .i64 0, .int .i64 0, .int .i64 0, .int .i64 0, .int .i64 0]) ∧ Below X.heap.size X w'))
    (CK : Hid (∀ X, Calls Try.prog 38 #[.agg #[.int .i64 a, .int .i64 ac, .int .i64 sd, .int .i64 pr, .int .i64 q]] X fun e w' => e = .returned (.int .i64 r) ∧ Below X.heap.size X w')) :
    Calls Try.prog 54 #[.agg #[.slice p nb c, .slice p' na c'], .agg #[.int .i64 a, .int .i64 ac, .int .i64 sd, .int .i64 pr, .int .i64 q], .int .i64 how] w (CamePost w [] [] [] 0 r) := by
  have er : (r == 0) = false := by simp [hr]
  by_cases ha : a = 0
  · have hab : (a != 0) = false := by simp [ha]
    clear ha
    have mixed : Try.prog.follows .mixedOrders = true := by kernel_rfl
    have F1 := hide camef_any
    go_enter Try.func54, Try.ntmps54
    go_wp2_with fail
    obtain ⟨W, hW⟩ : ∃ W, W = ((w.alloc (.cells #[.slice p nb c, .slice p' na c'] 42)).alloc (oO a ac sd pr q)).alloc (.cells #[.slice none 0 0, .slice none 0 0] 42) := ⟨_, rfl⟩
    have BW : Hid (Below w.heap.size w W) := by rw [hW]; exact ((((Below.refl _ w).alloc (Nat.le_refl _) _).alloc (by simp) _).alloc (by simp; omega) _)
    have T : Hid (Two W (w.heap.size + 1 + 1)) := by rw [hW]; exact two_made _ _ _ _ _
    have FVE : Hid (Five W (w.heap.size + 1)) := by rw [hW]; exact made3_five2 _ _ _ _ _ _ _ _
    have e0 : W.cell? ⟨w.heap.size, 0, none⟩ = some (.slice p nb c) := by rw [hW]; exact cell_alloc (cell_alloc (new_cell _ _ _ _ _ rfl) _) _
    have e1 : W.cell? ⟨w.heap.size, 1, none⟩ = some (.slice p' na c') := by rw [hW]; exact cell_alloc (cell_alloc (new_cell _ _ _ _ _ rfl) _) _
    have f0 : W.cell? ⟨w.heap.size + 1, 0, none⟩ = some (.int .i64 a) := by rw [hW]; exact cell_alloc (new_cell2 _ _ _ _ _ _ rfl) _
    have f1 : W.cell? ⟨w.heap.size + 1, 1, none⟩ = some (.int .i64 ac) := by rw [hW]; exact cell_alloc (new_cell2 _ _ _ _ _ _ rfl) _
    have f2 : W.cell? ⟨w.heap.size + 1, 2, none⟩ = some (.int .i64 sd) := by rw [hW]; exact cell_alloc (new_cell2 _ _ _ _ _ _ rfl) _
    have f3 : W.cell? ⟨w.heap.size + 1, 3, none⟩ = some (.int .i64 pr) := by rw [hW]; exact cell_alloc (new_cell2 _ _ _ _ _ _ rfl) _
    have f4 : W.cell? ⟨w.heap.size + 1, 4, none⟩ = some (.int .i64 q) := by rw [hW]; exact cell_alloc (new_cell2 _ _ _ _ _ _ rfl) _
    have SZW : Hid (W.heap.size = w.heap.size + 3) := by show _ = _; rw [hW]; simp
    rw [← hW]
    clear hW
    have KEEP : Hid (∀ x, Below W.heap.size W x → x.cell? ⟨w.heap.size, 0, none⟩ = some (.slice p nb c) ∧ x.cell? ⟨w.heap.size, 1, none⟩ = some (.slice p' na c') ∧ x.cell? ⟨w.heap.size + 1, 0, none⟩ = some (.int .i64 a) ∧ x.cell? ⟨w.heap.size + 1, 1, none⟩ = some (.int .i64 ac) ∧ x.cell? ⟨w.heap.size + 1, 2, none⟩ = some (.int .i64 sd) ∧ x.cell? ⟨w.heap.size + 1, 3, none⟩ = some (.int .i64 pr) ∧ x.cell? ⟨w.heap.size + 1, 4, none⟩ = some (.int .i64 q)) := fun x hx =>
      have k := fun ad v (he : W.cell? ad = some v) => (hx.cell (World.block_lt_of_cell? _ _ he)).trans he
      ⟨k _ _ e0, k _ _ e1, k _ _ f0, k _ _ f1, k _ _ f2, k _ _ f3, k _ _ f4⟩
    have hC : ∀ q1 : InC (fun x => Below W.heap.size W x), ∀ x v, W.cell? x = some v → q1.w.cell? x = some v := fun q1 x v hx => (q1.h.cell (World.block_lt_of_cell? _ _ hx)).trans hx
    generalize hCC : (fun x => Below W.heap.size W x) = C at hC
    have g0 := fun q1 => hC q1 _ _ e0
    have g1 := fun q1 => hC q1 _ _ e1
    have l0 := fun q1 => hC q1 _ _ f0
    have CE := hide hCC
    have CS : Hid (Shut C) := by rw [← CE.out]; exact shut_below W
    have CW : Hid (∀ x, C x → Below W.heap.size W x) := fun x hx => by rw [← CE.out] at hx; exact hx
    have C0 : Hid (C { W with drawn := W.drawn + 1 }) := by rw [← CE.out]; exact below_drawn _
    clear hC hCC e0 e1 f0 f1 f2 f3 f4
    refine wp_region_mix [(0, true), (1, true), (2, true), (3, true), (4, true), (5, true), (6, true), (9, true), (10, true), (7, false), (8, false), (11, false), (12, false)] C mixed (by kernel_rfl) C0.out ?_
    repeat (refine mix_still (by rfl) ?_; go_big_quiet_step (exact rfl); refine wpQuiet_nil ?_)
    refine mix_main (by rfl) ?_
    rintro ⟨x1, hx1⟩
    go_wp2
    refine ⟨C, hx1, fun _ h => h, ?_⟩
    clear hx1 x1
    refine mix_main (by rfl) ?_
    rintro ⟨x1, hx1⟩
    go_wp2
    refine ⟨C, hx1, fun _ h => h, ?_⟩
    clear hx1 x1
    refine mix_main (by rfl) ?_
    rintro ⟨x1, hx1⟩
    go_wp2
    refine ⟨C, hx1, fun _ h => h, ?_⟩
    clear hx1 x1
    refine mix_main (by rfl) ?_
    rintro ⟨x1, hx1⟩
    go_wp2
    refine ⟨C, hx1, fun _ h => h, ?_⟩
    clear hx1 x1
    refine mix_end ?_
    rintro ⟨x9, hx9⟩
    dsimp only
    have B9 := hide (CW.out x9 hx9)
    obtain ⟨e0, e1, f0, f1, f2, f3, f4⟩ := KEEP.out x9 B9.out
    have TX := hide (two_below T.out B9.out)
    have BX := hide (BW.out.trans (B9.out.mono BW.out.size))
    clear hx9 CS CW C0 CE g0 g1 l0
    go_wp2_with fail
    refine (CK.out _).mono ?_
    rintro e w2 ⟨rfl, hb2⟩
    have T2 := hide (two_below TX.out hb2)
    have B2 := hide (BX.out.trans (hb2.mono BX.out.size))
    clear hb2
    go_wp2_with fail
    refine (F1.out _ _).mono ?_
    rintro e WF ⟨rfl, hbF⟩
    have TF := hide (two_below T2.out hbF)
    have BF := hide (B2.out.trans (hbF.mono B2.out.size))
    obtain ⟨uf0, uf1, tf0, tf1, tf2, tf3⟩ := two_facts TF.out
    clear hbF
    go_wp2
    obtain ⟨sf0, sf1⟩ := two_set TF.out (.slice none 0 0) (.slice none 0 0)
    refine bodyPost_ret (v := .tuple #[.agg #[.slice none 0 0, .slice none 0 0], .slice none 0 0, .int .i64 0, .int .i64 r]) (by simp [results, Try.results54, go_sem, sf0, sf1]) rfl ⟨none, 0, none, 0, .slice none 0 0, rfl, ov_nil _, ov_nil _, World.ownsRow_nil _ _ _ _, two_below_set BF.out (by omega) _ _⟩
  · have hab : (a != 0) = true := by simp [ha]
    have hna : ¬ (0 : Int) = a := fun e => ha e.symm
    clear ha
    have mixed : Try.prog.follows .mixedOrders = true := by kernel_rfl
    have F1 := hide camef_any
    go_enter Try.func54, Try.ntmps54
    go_wp2_with fail
    obtain ⟨W, hW⟩ : ∃ W, W = ((w.alloc (.cells #[.slice p nb c, .slice p' na c'] 42)).alloc (oO a ac sd pr q)).alloc (.cells #[.slice none 0 0, .slice none 0 0] 42) := ⟨_, rfl⟩
    have BW : Hid (Below w.heap.size w W) := by rw [hW]; exact ((((Below.refl _ w).alloc (Nat.le_refl _) _).alloc (by simp) _).alloc (by simp; omega) _)
    have T : Hid (Two W (w.heap.size + 1 + 1)) := by rw [hW]; exact two_made _ _ _ _ _
    have FVE : Hid (Five W (w.heap.size + 1)) := by rw [hW]; exact made3_five2 _ _ _ _ _ _ _ _
    have e0 : W.cell? ⟨w.heap.size, 0, none⟩ = some (.slice p nb c) := by rw [hW]; exact cell_alloc (cell_alloc (new_cell _ _ _ _ _ rfl) _) _
    have e1 : W.cell? ⟨w.heap.size, 1, none⟩ = some (.slice p' na c') := by rw [hW]; exact cell_alloc (cell_alloc (new_cell _ _ _ _ _ rfl) _) _
    have f0 : W.cell? ⟨w.heap.size + 1, 0, none⟩ = some (.int .i64 a) := by rw [hW]; exact cell_alloc (new_cell2 _ _ _ _ _ _ rfl) _
    have f1 : W.cell? ⟨w.heap.size + 1, 1, none⟩ = some (.int .i64 ac) := by rw [hW]; exact cell_alloc (new_cell2 _ _ _ _ _ _ rfl) _
    have f2 : W.cell? ⟨w.heap.size + 1, 2, none⟩ = some (.int .i64 sd) := by rw [hW]; exact cell_alloc (new_cell2 _ _ _ _ _ _ rfl) _
    have f3 : W.cell? ⟨w.heap.size + 1, 3, none⟩ = some (.int .i64 pr) := by rw [hW]; exact cell_alloc (new_cell2 _ _ _ _ _ _ rfl) _
    have f4 : W.cell? ⟨w.heap.size + 1, 4, none⟩ = some (.int .i64 q) := by rw [hW]; exact cell_alloc (new_cell2 _ _ _ _ _ _ rfl) _
    have SZW : Hid (W.heap.size = w.heap.size + 3) := by show _ = _; rw [hW]; simp
    rw [← hW]
    clear hW
    have KEEP : Hid (∀ x, Below W.heap.size W x → x.cell? ⟨w.heap.size, 0, none⟩ = some (.slice p nb c) ∧ x.cell? ⟨w.heap.size, 1, none⟩ = some (.slice p' na c') ∧ x.cell? ⟨w.heap.size + 1, 0, none⟩ = some (.int .i64 a) ∧ x.cell? ⟨w.heap.size + 1, 1, none⟩ = some (.int .i64 ac) ∧ x.cell? ⟨w.heap.size + 1, 2, none⟩ = some (.int .i64 sd) ∧ x.cell? ⟨w.heap.size + 1, 3, none⟩ = some (.int .i64 pr) ∧ x.cell? ⟨w.heap.size + 1, 4, none⟩ = some (.int .i64 q)) := fun x hx =>
      have k := fun ad v (he : W.cell? ad = some v) => (hx.cell (World.block_lt_of_cell? _ _ he)).trans he
      ⟨k _ _ e0, k _ _ e1, k _ _ f0, k _ _ f1, k _ _ f2, k _ _ f3, k _ _ f4⟩
    have hC : ∀ q1 : InC (fun x => Below W.heap.size W x), ∀ x v, W.cell? x = some v → q1.w.cell? x = some v := fun q1 x v hx => (q1.h.cell (World.block_lt_of_cell? _ _ hx)).trans hx
    generalize hCC : (fun x => Below W.heap.size W x) = C at hC
    have g0 := fun q1 => hC q1 _ _ e0
    have g1 := fun q1 => hC q1 _ _ e1
    have l0 := fun q1 => hC q1 _ _ f0
    have CE := hide hCC
    have CS : Hid (Shut C) := by rw [← CE.out]; exact shut_below W
    have CW : Hid (∀ x, C x → Below W.heap.size W x) := fun x hx => by rw [← CE.out] at hx; exact hx
    have C0 : Hid (C { W with drawn := W.drawn + 1 }) := by rw [← CE.out]; exact below_drawn _
    clear hC hCC e0 e1 f0 f1 f2 f3 f4
    refine wp_region_mix [(0, true), (1, true), (2, true), (3, true), (4, true), (5, true), (6, true), (9, true), (10, true), (7, false), (8, false), (11, false), (12, false)] C mixed (by kernel_rfl) C0.out ?_
    repeat (refine mix_still (by rfl) ?_; go_big_quiet_step (exact rfl); refine wpQuiet_nil ?_)
    refine mix_main (by rfl) ?_
    rintro ⟨x1, hx1⟩
    have FX := hide (FD.out x1 (BW.out.trans ((CW.out x1 hx1).mono BW.out.size)))
    go_wp2_with (go_at_call 44; refine FX.out.mono ?_; rintro e w' ⟨rfl, hb'⟩)
    refine ⟨C, CS.out x1 _ hx1 hb', fun _ h => h, ?_⟩
    clear hx1 hb' FX x1
    refine mix_main (by rfl) ?_
    rintro ⟨x1, hx1⟩
    go_wp2
    rename_i K hK
    refine hK _ _ ?_
    simp only [List.getElem_toArray, List.getElem_cons_zero]
    clear hK K
    go_wp2
    refine ⟨C, hx1, fun _ h => h, ?_⟩
    clear hx1 x1
    refine mix_main (by rfl) ?_
    rintro ⟨x1, hx1⟩
    go_wp2
    refine ⟨C, hx1, fun _ h => h, ?_⟩
    clear hx1 x1
    refine mix_main (by rfl) ?_
    rintro ⟨x1, hx1⟩
    go_wp2
    refine ⟨C, hx1, fun _ h => h, ?_⟩
    clear hx1 x1
    refine mix_end ?_
    rintro ⟨x9, hx9⟩
    dsimp only
    have B9 := hide (CW.out x9 hx9)
    obtain ⟨e0, e1, f0, f1, f2, f3, f4⟩ := KEEP.out x9 B9.out
    have TX := hide (two_below T.out B9.out)
    have BX := hide (BW.out.trans (B9.out.mono BW.out.size))
    clear hx9 CS CW C0 CE g0 g1 l0
    go_wp2_with fail
    refine (CK.out _).mono ?_
    rintro e w2 ⟨rfl, hb2⟩
    have T2 := hide (two_below TX.out hb2)
    have B2 := hide (BX.out.trans (hb2.mono BX.out.size))
    clear hb2
    go_wp2_with fail
    refine (F1.out _ _).mono ?_
    rintro e WF ⟨rfl, hbF⟩
    have TF := hide (two_below T2.out hbF)
    have BF := hide (B2.out.trans (hbF.mono B2.out.size))
    obtain ⟨uf0, uf1, tf0, tf1, tf2, tf3⟩ := two_facts TF.out
    clear hbF
    go_wp2
    obtain ⟨sf0, sf1⟩ := two_set TF.out (.slice none 0 0) (.slice none 0 0)
    refine bodyPost_ret (v := .tuple #[.agg #[.slice none 0 0, .slice none 0 0], .slice none 0 0, .int .i64 0, .int .i64 r]) (by simp [results, Try.results54, go_sem, sf0, sf1]) rfl ⟨none, 0, none, 0, .slice none 0 0, rfl, ov_nil _, ov_nil _, World.ownsRow_nil _ _ _ _, two_below_set BF.out (by omega) _ _⟩
end Go.Proofs.Ytbphljnncbiddaa.Tk
namespace Go.Proofs.Ytbphljnncbiddaa.Tk
open Go.RowKit Go.Sort Go.Maps Go.Proofs.Ytbphljnncbiddaa.Mix Go.Proofs.Ytbphljnncbiddaa.Bk Go.Proofs.Ytbphljnncbiddaa.Rk

set_option maxHeartbeats 4000000 in
set_option maxRecDepth 100000 in
theorem came_4 (p p' : Option Addr) (c c' nb na : Nat) (a ac sd pr q how r : Int) (w : World) (B A : List Odr) (F : List Fil) (lf : Int) (met : Bool) (ha : ¬ a = 0) (h1 : 1 ≤ how) (h2 : how ≤ 4) (_hl : 0 ≤ lf) (hr : allowsE how F.length lf met = r) (hr0 : ¬ r = 0)
    (FD : Hid (∀ X, Below w.heap.size w X → Calls Try.prog 44 #[.agg #[.slice p nb c, .slice p' na c'], .int .i64 a] X fun e w' => e = .returned (.agg #[.int .i64 0, .int .i64 0, .int .i64 0, .int .i64 0, .int .i64 0]) ∧ Below X.heap.size X w'))
    (CK : Hid (∀ X, Calls Try.prog 38 #[.agg #[.int .i64 a, .int .i64 ac, .int .i64 sd, .int .i64 pr, .int .i64 q]] X fun e w' => e = .returned (.int .i64 0) ∧ Below X.heap.size X w'))
    (TKN : Hid (∀ X, Below w.heap.size w X → Calls Try.prog 52 #[.agg #[.slice p nb c, .slice p' na c'], .agg #[.int .i64 a, .int .i64 ac, .int .i64 sd, .int .i64 pr, .int .i64 q]] X fun e w' => TakenPost X B A F lf met e w')) :
    Calls Try.prog 54 #[.agg #[.slice p nb c, .slice p' na c'], .agg #[.int .i64 a, .int .i64 ac, .int .i64 sd, .int .i64 pr, .int .i64 q], .int .i64 how] w (CamePost w [] [] [] 0 r) := by
  unfold allowsE at hr
  by_cases h4 : how = 4
  · have b4 : (how == 4) = true := by simp [h4]
    cases met
    · by_cases hF : 0 < F.length
      · rw [if_pos ⟨h4, .inl hF⟩] at hr
        subst hr
        have hFz : (0 : Int) < (F.length : Int) := by omega
        clear h4 hF hr0
        have hab : (a != 0) = true := by simp [ha]
        have hna : ¬ (0 : Int) = a := fun e => ha e.symm
        clear ha
        have mixed : Try.prog.follows .mixedOrders = true := by kernel_rfl
        have F1 := hide camef_any
        go_enter Try.func54, Try.ntmps54
        go_wp2_with fail
        obtain ⟨W, hW⟩ : ∃ W, W = ((w.alloc (.cells #[.slice p nb c, .slice p' na c'] 42)).alloc (oO a ac sd pr q)).alloc (.cells #[.slice none 0 0, .slice none 0 0] 42) := ⟨_, rfl⟩
        have BW : Hid (Below w.heap.size w W) := by rw [hW]; exact ((((Below.refl _ w).alloc (Nat.le_refl _) _).alloc (by simp) _).alloc (by simp; omega) _)
        have T : Hid (Two W (w.heap.size + 1 + 1)) := by rw [hW]; exact two_made _ _ _ _ _
        have FVE : Hid (Five W (w.heap.size + 1)) := by rw [hW]; exact made3_five2 _ _ _ _ _ _ _ _
        have e0 : W.cell? ⟨w.heap.size, 0, none⟩ = some (.slice p nb c) := by rw [hW]; exact cell_alloc (cell_alloc (new_cell _ _ _ _ _ rfl) _) _
        have e1 : W.cell? ⟨w.heap.size, 1, none⟩ = some (.slice p' na c') := by rw [hW]; exact cell_alloc (cell_alloc (new_cell _ _ _ _ _ rfl) _) _
        have f0 : W.cell? ⟨w.heap.size + 1, 0, none⟩ = some (.int .i64 a) := by rw [hW]; exact cell_alloc (new_cell2 _ _ _ _ _ _ rfl) _
        have f1 : W.cell? ⟨w.heap.size + 1, 1, none⟩ = some (.int .i64 ac) := by rw [hW]; exact cell_alloc (new_cell2 _ _ _ _ _ _ rfl) _
        have f2 : W.cell? ⟨w.heap.size + 1, 2, none⟩ = some (.int .i64 sd) := by rw [hW]; exact cell_alloc (new_cell2 _ _ _ _ _ _ rfl) _
        have f3 : W.cell? ⟨w.heap.size + 1, 3, none⟩ = some (.int .i64 pr) := by rw [hW]; exact cell_alloc (new_cell2 _ _ _ _ _ _ rfl) _
        have f4 : W.cell? ⟨w.heap.size + 1, 4, none⟩ = some (.int .i64 q) := by rw [hW]; exact cell_alloc (new_cell2 _ _ _ _ _ _ rfl) _
        have SZW : Hid (W.heap.size = w.heap.size + 3) := by show _ = _; rw [hW]; simp
        rw [← hW]
        clear hW
        have KEEP : Hid (∀ x, Below W.heap.size W x → x.cell? ⟨w.heap.size, 0, none⟩ = some (.slice p nb c) ∧ x.cell? ⟨w.heap.size, 1, none⟩ = some (.slice p' na c') ∧ x.cell? ⟨w.heap.size + 1, 0, none⟩ = some (.int .i64 a) ∧ x.cell? ⟨w.heap.size + 1, 1, none⟩ = some (.int .i64 ac) ∧ x.cell? ⟨w.heap.size + 1, 2, none⟩ = some (.int .i64 sd) ∧ x.cell? ⟨w.heap.size + 1, 3, none⟩ = some (.int .i64 pr) ∧ x.cell? ⟨w.heap.size + 1, 4, none⟩ = some (.int .i64 q)) := fun x hx =>
          have k := fun ad v (he : W.cell? ad = some v) => (hx.cell (World.block_lt_of_cell? _ _ he)).trans he
          ⟨k _ _ e0, k _ _ e1, k _ _ f0, k _ _ f1, k _ _ f2, k _ _ f3, k _ _ f4⟩
        have hC : ∀ q1 : InC (fun x => Below W.heap.size W x), ∀ x v, W.cell? x = some v → q1.w.cell? x = some v := fun q1 x v hx => (q1.h.cell (World.block_lt_of_cell? _ _ hx)).trans hx
        generalize hCC : (fun x => Below W.heap.size W x) = C at hC
        have g0 := fun q1 => hC q1 _ _ e0
        have g1 := fun q1 => hC q1 _ _ e1
        have l0 := fun q1 => hC q1 _ _ f0
        have CE := hide hCC
        have CS : Hid (Shut C) := by rw [← CE.out]; exact shut_below W
        have CW : Hid (∀ x, C x → Below W.heap.size W x) := fun x hx => by rw [← CE.out] at hx; exact hx
        have C0 : Hid (C { W with drawn := W.drawn + 1 }) := by rw [← CE.out]; exact below_drawn _
        clear hC hCC e0 e1 f0 f1 f2 f3 f4
        refine wp_region_mix [(0, true), (1, true), (2, true), (3, true), (4, true), (5, true), (6, true), (9, true), (10, true), (7, false), (8, false), (11, false), (12, false)] C mixed (by kernel_rfl) C0.out ?_
        repeat (refine mix_still (by rfl) ?_; go_big_quiet_step (exact rfl); refine wpQuiet_nil ?_)
        refine mix_main (by rfl) ?_
        rintro ⟨x1, hx1⟩
        have FX := hide (FD.out x1 (BW.out.trans ((CW.out x1 hx1).mono BW.out.size)))
        go_wp2_with (go_at_call 44; refine FX.out.mono ?_; rintro e w' ⟨rfl, hb'⟩)
        refine ⟨C, CS.out x1 _ hx1 hb', fun _ h => h, ?_⟩
        clear hx1 hb' FX x1
        refine mix_main (by rfl) ?_
        rintro ⟨x1, hx1⟩
        go_wp2
        rename_i K hK
        refine hK _ _ ?_
        simp only [List.getElem_toArray, List.getElem_cons_zero]
        clear hK K
        go_wp2
        refine ⟨C, hx1, fun _ h => h, ?_⟩
        clear hx1 x1
        refine mix_main (by rfl) ?_
        rintro ⟨x1, hx1⟩
        go_wp2
        refine ⟨C, hx1, fun _ h => h, ?_⟩
        clear hx1 x1
        refine mix_main (by rfl) ?_
        rintro ⟨x1, hx1⟩
        go_wp2
        refine ⟨C, hx1, fun _ h => h, ?_⟩
        clear hx1 x1
        refine mix_end ?_
        rintro ⟨x9, hx9⟩
        dsimp only
        have B9 := hide (CW.out x9 hx9)
        obtain ⟨e0, e1, f0, f1, f2, f3, f4⟩ := KEEP.out x9 B9.out
        have TX := hide (two_below T.out B9.out)
        have BX := hide (BW.out.trans (B9.out.mono BW.out.size))
        clear hx9 CS CW C0 CE g0 g1 l0
        go_wp2_with fail
        refine (CK.out _).mono ?_
        rintro e w2 ⟨rfl, hb2⟩
        have B2 := hide (B9.out.trans (hb2.mono B9.out.size))
        obtain ⟨e0, e1, f0, f1, f2, f3, f4⟩ := KEEP.out w2 B2.out
        have BX2 := hide (BW.out.trans (B2.out.mono BW.out.size))
        clear hb2 BX TX
        go_wp2_with fail
        refine (TKN.out _ BX2.out).mono ?_
        rintro e w4 ⟨p1, c1, p2, c2, vF, rfl, o1, o2, of, hb4, g1, g2⟩
        obtain ⟨pF, cF, rfl⟩ := ownF_form of
        have B4 := hide (B2.out.trans (hb4.mono B2.out.size))
        have O1 := hide o1
        have O2 := hide o2
        have OF := hide of
        have s2 : w.heap.size + 3 ≤ w2.heap.size := by have := B2.out.size; have := SZW.out; omega
        have G1 : Hid (∀ a, p1 = some a → w.heap.size + 3 ≤ a.block) := fun a ha => by have := g1 a ha; omega
        have G2 : Hid (∀ a, p2 = some a → w.heap.size + 3 ≤ a.block) := fun a ha => by have := g2 a ha; omega
        have S2 := hide s2
        have S4 := hide hb4.size
        clear o1 o2 of hb4 g1 g2 s2 e0 e1 f0 f1 f2 f3 f4
        obtain ⟨V, hV⟩ : ∃ V, V = w4.alloc (.cells #[.slice p1 B.length c1, .slice p2 A.length c2] 42) := ⟨_, rfl⟩
        have BV : Hid (Below W.heap.size W V) := by rw [hV]; exact B4.out.alloc B4.out.size _
        have BXV := hide (BW.out.trans (BV.out.mono BW.out.size))
        have TV := hide (two_below T.out BV.out)
        have HV := hide hV
        clear hV
        go_wp2_with fail
        rw [← HV.out]
        refine (F1.out _ _).mono ?_
        rintro e WF ⟨rfl, hbF⟩
        have TF := hide (two_below TV.out hbF)
        have BF := hide (BXV.out.trans (hbF.mono BXV.out.size))
        obtain ⟨uf0, uf1, tf0, tf1, tf2, tf3⟩ := two_facts TF.out
        clear hbF
        go_wp2
        obtain ⟨sf0, sf1⟩ := two_set TF.out (.slice none 0 0) (.slice none 0 0)
        refine bodyPost_ret (v := .tuple #[.agg #[.slice none 0 0, .slice none 0 0], .slice none 0 0, .int .i64 0, .int .i64 9]) (by simp [results, Try.results54, go_sem, sf0, sf1]) rfl ⟨none, 0, none, 0, .slice none 0 0, rfl, ov_nil _, ov_nil _, World.ownsRow_nil _ _ _ _, two_below_set BF.out (by omega) _ _⟩
      · rw [if_neg (fun e => by rcases e.2 with e2 | e2; exact hF e2; cases e2), if_neg (by decide), if_neg (fun e => by have := e.1; omega)] at hr
        exact absurd hr.symm hr0
    · rw [if_pos ⟨h4, .inr rfl⟩] at hr
      subst hr
      clear h4 hr0
      have hab : (a != 0) = true := by simp [ha]
      have hna : ¬ (0 : Int) = a := fun e => ha e.symm
      clear ha
      have mixed : Try.prog.follows .mixedOrders = true := by kernel_rfl
      have F1 := hide camef_any
      go_enter Try.func54, Try.ntmps54
      go_wp2_with fail
      obtain ⟨W, hW⟩ : ∃ W, W = ((w.alloc (.cells #[.slice p nb c, .slice p' na c'] 42)).alloc (oO a ac sd pr q)).alloc (.cells #[.slice none 0 0, .slice none 0 0] 42) := ⟨_, rfl⟩
      have BW : Hid (Below w.heap.size w W) := by rw [hW]; exact ((((Below.refl _ w).alloc (Nat.le_refl _) _).alloc (by simp) _).alloc (by simp; omega) _)
      have T : Hid (Two W (w.heap.size + 1 + 1)) := by rw [hW]; exact two_made _ _ _ _ _
      have FVE : Hid (Five W (w.heap.size + 1)) := by rw [hW]; exact made3_five2 _ _ _ _ _ _ _ _
      have e0 : W.cell? ⟨w.heap.size, 0, none⟩ = some (.slice p nb c) := by rw [hW]; exact cell_alloc (cell_alloc (new_cell _ _ _ _ _ rfl) _) _
      have e1 : W.cell? ⟨w.heap.size, 1, none⟩ = some (.slice p' na c') := by rw [hW]; exact cell_alloc (cell_alloc (new_cell _ _ _ _ _ rfl) _) _
      have f0 : W.cell? ⟨w.heap.size + 1, 0, none⟩ = some (.int .i64 a) := by rw [hW]; exact cell_alloc (new_cell2 _ _ _ _ _ _ rfl) _
      have f1 : W.cell? ⟨w.heap.size + 1, 1, none⟩ = some (.int .i64 ac) := by rw [hW]; exact cell_alloc (new_cell2 _ _ _ _ _ _ rfl) _
      have f2 : W.cell? ⟨w.heap.size + 1, 2, none⟩ = some (.int .i64 sd) := by rw [hW]; exact cell_alloc (new_cell2 _ _ _ _ _ _ rfl) _
      have f3 : W.cell? ⟨w.heap.size + 1, 3, none⟩ = some (.int .i64 pr) := by rw [hW]; exact cell_alloc (new_cell2 _ _ _ _ _ _ rfl) _
      have f4 : W.cell? ⟨w.heap.size + 1, 4, none⟩ = some (.int .i64 q) := by rw [hW]; exact cell_alloc (new_cell2 _ _ _ _ _ _ rfl) _
      have SZW : Hid (W.heap.size = w.heap.size + 3) := by show _ = _; rw [hW]; simp
      rw [← hW]
      clear hW
      have KEEP : Hid (∀ x, Below W.heap.size W x → x.cell? ⟨w.heap.size, 0, none⟩ = some (.slice p nb c) ∧ x.cell? ⟨w.heap.size, 1, none⟩ = some (.slice p' na c') ∧ x.cell? ⟨w.heap.size + 1, 0, none⟩ = some (.int .i64 a) ∧ x.cell? ⟨w.heap.size + 1, 1, none⟩ = some (.int .i64 ac) ∧ x.cell? ⟨w.heap.size + 1, 2, none⟩ = some (.int .i64 sd) ∧ x.cell? ⟨w.heap.size + 1, 3, none⟩ = some (.int .i64 pr) ∧ x.cell? ⟨w.heap.size + 1, 4, none⟩ = some (.int .i64 q)) := fun x hx =>
        have k := fun ad v (he : W.cell? ad = some v) => (hx.cell (World.block_lt_of_cell? _ _ he)).trans he
        ⟨k _ _ e0, k _ _ e1, k _ _ f0, k _ _ f1, k _ _ f2, k _ _ f3, k _ _ f4⟩
      have hC : ∀ q1 : InC (fun x => Below W.heap.size W x), ∀ x v, W.cell? x = some v → q1.w.cell? x = some v := fun q1 x v hx => (q1.h.cell (World.block_lt_of_cell? _ _ hx)).trans hx
      generalize hCC : (fun x => Below W.heap.size W x) = C at hC
      have g0 := fun q1 => hC q1 _ _ e0
      have g1 := fun q1 => hC q1 _ _ e1
      have l0 := fun q1 => hC q1 _ _ f0
      have CE := hide hCC
      have CS : Hid (Shut C) := by rw [← CE.out]; exact shut_below W
      have CW : Hid (∀ x, C x → Below W.heap.size W x) := fun x hx => by rw [← CE.out] at hx; exact hx
      have C0 : Hid (C { W with drawn := W.drawn + 1 }) := by rw [← CE.out]; exact below_drawn _
      clear hC hCC e0 e1 f0 f1 f2 f3 f4
      refine wp_region_mix [(0, true), (1, true), (2, true), (3, true), (4, true), (5, true), (6, true), (9, true), (10, true), (7, false), (8, false), (11, false), (12, false)] C mixed (by kernel_rfl) C0.out ?_
      repeat (refine mix_still (by rfl) ?_; go_big_quiet_step (exact rfl); refine wpQuiet_nil ?_)
      refine mix_main (by rfl) ?_
      rintro ⟨x1, hx1⟩
      have FX := hide (FD.out x1 (BW.out.trans ((CW.out x1 hx1).mono BW.out.size)))
      go_wp2_with (go_at_call 44; refine FX.out.mono ?_; rintro e w' ⟨rfl, hb'⟩)
      refine ⟨C, CS.out x1 _ hx1 hb', fun _ h => h, ?_⟩
      clear hx1 hb' FX x1
      refine mix_main (by rfl) ?_
      rintro ⟨x1, hx1⟩
      go_wp2
      rename_i K hK
      refine hK _ _ ?_
      simp only [List.getElem_toArray, List.getElem_cons_zero]
      clear hK K
      go_wp2
      refine ⟨C, hx1, fun _ h => h, ?_⟩
      clear hx1 x1
      refine mix_main (by rfl) ?_
      rintro ⟨x1, hx1⟩
      go_wp2
      refine ⟨C, hx1, fun _ h => h, ?_⟩
      clear hx1 x1
      refine mix_main (by rfl) ?_
      rintro ⟨x1, hx1⟩
      go_wp2
      refine ⟨C, hx1, fun _ h => h, ?_⟩
      clear hx1 x1
      refine mix_end ?_
      rintro ⟨x9, hx9⟩
      dsimp only
      have B9 := hide (CW.out x9 hx9)
      obtain ⟨e0, e1, f0, f1, f2, f3, f4⟩ := KEEP.out x9 B9.out
      have TX := hide (two_below T.out B9.out)
      have BX := hide (BW.out.trans (B9.out.mono BW.out.size))
      clear hx9 CS CW C0 CE g0 g1 l0
      go_wp2_with fail
      refine (CK.out _).mono ?_
      rintro e w2 ⟨rfl, hb2⟩
      have B2 := hide (B9.out.trans (hb2.mono B9.out.size))
      obtain ⟨e0, e1, f0, f1, f2, f3, f4⟩ := KEEP.out w2 B2.out
      have BX2 := hide (BW.out.trans (B2.out.mono BW.out.size))
      clear hb2 BX TX
      go_wp2_with fail
      refine (TKN.out _ BX2.out).mono ?_
      rintro e w4 ⟨p1, c1, p2, c2, vF, rfl, o1, o2, of, hb4, g1, g2⟩
      obtain ⟨pF, cF, rfl⟩ := ownF_form of
      have B4 := hide (B2.out.trans (hb4.mono B2.out.size))
      have O1 := hide o1
      have O2 := hide o2
      have OF := hide of
      have s2 : w.heap.size + 3 ≤ w2.heap.size := by have := B2.out.size; have := SZW.out; omega
      have G1 : Hid (∀ a, p1 = some a → w.heap.size + 3 ≤ a.block) := fun a ha => by have := g1 a ha; omega
      have G2 : Hid (∀ a, p2 = some a → w.heap.size + 3 ≤ a.block) := fun a ha => by have := g2 a ha; omega
      have S2 := hide s2
      have S4 := hide hb4.size
      clear o1 o2 of hb4 g1 g2 s2 e0 e1 f0 f1 f2 f3 f4
      obtain ⟨V, hV⟩ : ∃ V, V = w4.alloc (.cells #[.slice p1 B.length c1, .slice p2 A.length c2] 42) := ⟨_, rfl⟩
      have BV : Hid (Below W.heap.size W V) := by rw [hV]; exact B4.out.alloc B4.out.size _
      have BXV := hide (BW.out.trans (BV.out.mono BW.out.size))
      have TV := hide (two_below T.out BV.out)
      have HV := hide hV
      clear hV
      go_wp2_with fail
      rw [← HV.out]
      refine (F1.out _ _).mono ?_
      rintro e WF ⟨rfl, hbF⟩
      have TF := hide (two_below TV.out hbF)
      have BF := hide (BXV.out.trans (hbF.mono BXV.out.size))
      obtain ⟨uf0, uf1, tf0, tf1, tf2, tf3⟩ := two_facts TF.out
      clear hbF
      go_wp2
      obtain ⟨sf0, sf1⟩ := two_set TF.out (.slice none 0 0) (.slice none 0 0)
      refine bodyPost_ret (v := .tuple #[.agg #[.slice none 0 0, .slice none 0 0], .slice none 0 0, .int .i64 0, .int .i64 9]) (by simp [results, Try.results54, go_sem, sf0, sf1]) rfl ⟨none, 0, none, 0, .slice none 0 0, rfl, ov_nil _, ov_nil _, World.ownsRow_nil _ _ _ _, two_below_set BF.out (by omega) _ _⟩
  · have b4 : (how == 4) = false := by simp [h4]
    rw [if_neg (fun e => h4 e.1)] at hr
    cases met
    · rw [if_neg (by decide)] at hr
      by_cases h3 : how = 3 ∧ 0 < lf
      · rw [if_pos h3] at hr
        subst hr
        have b3 : (how == 3) = true := by simp [h3.1]
        have hl1 : ¬ lf = 0 := by have := h3.2; omega
        have hl2 : (lf != 0) = true := by simp [hl1]
        clear h3 h4 hr0
        have hab : (a != 0) = true := by simp [ha]
        have hna : ¬ (0 : Int) = a := fun e => ha e.symm
        clear ha
        have mixed : Try.prog.follows .mixedOrders = true := by kernel_rfl
        have F1 := hide camef_any
        go_enter Try.func54, Try.ntmps54
        go_wp2_with fail
        obtain ⟨W, hW⟩ : ∃ W, W = ((w.alloc (.cells #[.slice p nb c, .slice p' na c'] 42)).alloc (oO a ac sd pr q)).alloc (.cells #[.slice none 0 0, .slice none 0 0] 42) := ⟨_, rfl⟩
        have BW : Hid (Below w.heap.size w W) := by rw [hW]; exact ((((Below.refl _ w).alloc (Nat.le_refl _) _).alloc (by simp) _).alloc (by simp; omega) _)
        have T : Hid (Two W (w.heap.size + 1 + 1)) := by rw [hW]; exact two_made _ _ _ _ _
        have FVE : Hid (Five W (w.heap.size + 1)) := by rw [hW]; exact made3_five2 _ _ _ _ _ _ _ _
        have e0 : W.cell? ⟨w.heap.size, 0, none⟩ = some (.slice p nb c) := by rw [hW]; exact cell_alloc (cell_alloc (new_cell _ _ _ _ _ rfl) _) _
        have e1 : W.cell? ⟨w.heap.size, 1, none⟩ = some (.slice p' na c') := by rw [hW]; exact cell_alloc (cell_alloc (new_cell _ _ _ _ _ rfl) _) _
        have f0 : W.cell? ⟨w.heap.size + 1, 0, none⟩ = some (.int .i64 a) := by rw [hW]; exact cell_alloc (new_cell2 _ _ _ _ _ _ rfl) _
        have f1 : W.cell? ⟨w.heap.size + 1, 1, none⟩ = some (.int .i64 ac) := by rw [hW]; exact cell_alloc (new_cell2 _ _ _ _ _ _ rfl) _
        have f2 : W.cell? ⟨w.heap.size + 1, 2, none⟩ = some (.int .i64 sd) := by rw [hW]; exact cell_alloc (new_cell2 _ _ _ _ _ _ rfl) _
        have f3 : W.cell? ⟨w.heap.size + 1, 3, none⟩ = some (.int .i64 pr) := by rw [hW]; exact cell_alloc (new_cell2 _ _ _ _ _ _ rfl) _
        have f4 : W.cell? ⟨w.heap.size + 1, 4, none⟩ = some (.int .i64 q) := by rw [hW]; exact cell_alloc (new_cell2 _ _ _ _ _ _ rfl) _
        have SZW : Hid (W.heap.size = w.heap.size + 3) := by show _ = _; rw [hW]; simp
        rw [← hW]
        clear hW
        have KEEP : Hid (∀ x, Below W.heap.size W x → x.cell? ⟨w.heap.size, 0, none⟩ = some (.slice p nb c) ∧ x.cell? ⟨w.heap.size, 1, none⟩ = some (.slice p' na c') ∧ x.cell? ⟨w.heap.size + 1, 0, none⟩ = some (.int .i64 a) ∧ x.cell? ⟨w.heap.size + 1, 1, none⟩ = some (.int .i64 ac) ∧ x.cell? ⟨w.heap.size + 1, 2, none⟩ = some (.int .i64 sd) ∧ x.cell? ⟨w.heap.size + 1, 3, none⟩ = some (.int .i64 pr) ∧ x.cell? ⟨w.heap.size + 1, 4, none⟩ = some (.int .i64 q)) := fun x hx =>
          have k := fun ad v (he : W.cell? ad = some v) => (hx.cell (World.block_lt_of_cell? _ _ he)).trans he
          ⟨k _ _ e0, k _ _ e1, k _ _ f0, k _ _ f1, k _ _ f2, k _ _ f3, k _ _ f4⟩
        have hC : ∀ q1 : InC (fun x => Below W.heap.size W x), ∀ x v, W.cell? x = some v → q1.w.cell? x = some v := fun q1 x v hx => (q1.h.cell (World.block_lt_of_cell? _ _ hx)).trans hx
        generalize hCC : (fun x => Below W.heap.size W x) = C at hC
        have g0 := fun q1 => hC q1 _ _ e0
        have g1 := fun q1 => hC q1 _ _ e1
        have l0 := fun q1 => hC q1 _ _ f0
        have CE := hide hCC
        have CS : Hid (Shut C) := by rw [← CE.out]; exact shut_below W
        have CW : Hid (∀ x, C x → Below W.heap.size W x) := fun x hx => by rw [← CE.out] at hx; exact hx
        have C0 : Hid (C { W with drawn := W.drawn + 1 }) := by rw [← CE.out]; exact below_drawn _
        clear hC hCC e0 e1 f0 f1 f2 f3 f4
        refine wp_region_mix [(0, true), (1, true), (2, true), (3, true), (4, true), (5, true), (6, true), (9, true), (10, true), (7, false), (8, false), (11, false), (12, false)] C mixed (by kernel_rfl) C0.out ?_
        repeat (refine mix_still (by rfl) ?_; go_big_quiet_step (exact rfl); refine wpQuiet_nil ?_)
        refine mix_main (by rfl) ?_
        rintro ⟨x1, hx1⟩
        have FX := hide (FD.out x1 (BW.out.trans ((CW.out x1 hx1).mono BW.out.size)))
        go_wp2_with (go_at_call 44; refine FX.out.mono ?_; rintro e w' ⟨rfl, hb'⟩)
        refine ⟨C, CS.out x1 _ hx1 hb', fun _ h => h, ?_⟩
        clear hx1 hb' FX x1
        refine mix_main (by rfl) ?_
        rintro ⟨x1, hx1⟩
        go_wp2
        rename_i K hK
        refine hK _ _ ?_
        simp only [List.getElem_toArray, List.getElem_cons_zero]
        clear hK K
        go_wp2
        refine ⟨C, hx1, fun _ h => h, ?_⟩
        clear hx1 x1
        refine mix_main (by rfl) ?_
        rintro ⟨x1, hx1⟩
        go_wp2
        refine ⟨C, hx1, fun _ h => h, ?_⟩
        clear hx1 x1
        refine mix_main (by rfl) ?_
        rintro ⟨x1, hx1⟩
        go_wp2
        refine ⟨C, hx1, fun _ h => h, ?_⟩
        clear hx1 x1
        refine mix_end ?_
        rintro ⟨x9, hx9⟩
        dsimp only
        have B9 := hide (CW.out x9 hx9)
        obtain ⟨e0, e1, f0, f1, f2, f3, f4⟩ := KEEP.out x9 B9.out
        have TX := hide (two_below T.out B9.out)
        have BX := hide (BW.out.trans (B9.out.mono BW.out.size))
        clear hx9 CS CW C0 CE g0 g1 l0
        go_wp2_with fail
        refine (CK.out _).mono ?_
        rintro e w2 ⟨rfl, hb2⟩
        have B2 := hide (B9.out.trans (hb2.mono B9.out.size))
        obtain ⟨e0, e1, f0, f1, f2, f3, f4⟩ := KEEP.out w2 B2.out
        have BX2 := hide (BW.out.trans (B2.out.mono BW.out.size))
        clear hb2 BX TX
        go_wp2_with fail
        refine (TKN.out _ BX2.out).mono ?_
        rintro e w4 ⟨p1, c1, p2, c2, vF, rfl, o1, o2, of, hb4, g1, g2⟩
        obtain ⟨pF, cF, rfl⟩ := ownF_form of
        have B4 := hide (B2.out.trans (hb4.mono B2.out.size))
        have O1 := hide o1
        have O2 := hide o2
        have OF := hide of
        have s2 : w.heap.size + 3 ≤ w2.heap.size := by have := B2.out.size; have := SZW.out; omega
        have G1 : Hid (∀ a, p1 = some a → w.heap.size + 3 ≤ a.block) := fun a ha => by have := g1 a ha; omega
        have G2 : Hid (∀ a, p2 = some a → w.heap.size + 3 ≤ a.block) := fun a ha => by have := g2 a ha; omega
        have S2 := hide s2
        have S4 := hide hb4.size
        clear o1 o2 of hb4 g1 g2 s2 e0 e1 f0 f1 f2 f3 f4
        obtain ⟨V, hV⟩ : ∃ V, V = w4.alloc (.cells #[.slice p1 B.length c1, .slice p2 A.length c2] 42) := ⟨_, rfl⟩
        have BV : Hid (Below W.heap.size W V) := by rw [hV]; exact B4.out.alloc B4.out.size _
        have BXV := hide (BW.out.trans (BV.out.mono BW.out.size))
        have TV := hide (two_below T.out BV.out)
        have HV := hide hV
        clear hV
        go_wp2_with fail
        rw [← HV.out]
        refine (F1.out _ _).mono ?_
        rintro e WF ⟨rfl, hbF⟩
        have TF := hide (two_below TV.out hbF)
        have BF := hide (BXV.out.trans (hbF.mono BXV.out.size))
        obtain ⟨uf0, uf1, tf0, tf1, tf2, tf3⟩ := two_facts TF.out
        clear hbF
        go_wp2
        obtain ⟨sf0, sf1⟩ := two_set TF.out (.slice none 0 0) (.slice none 0 0)
        refine bodyPost_ret (v := .tuple #[.agg #[.slice none 0 0, .slice none 0 0], .slice none 0 0, .int .i64 0, .int .i64 10]) (by simp [results, Try.results54, go_sem, sf0, sf1]) rfl ⟨none, 0, none, 0, .slice none 0 0, rfl, ov_nil _, ov_nil _, World.ownsRow_nil _ _ _ _, two_below_set BF.out (by omega) _ _⟩
      · rw [if_neg h3] at hr
        exact absurd hr.symm hr0
    · rw [if_pos rfl] at hr
      subst hr
      clear h4 hr0
      have hab : (a != 0) = true := by simp [ha]
      have hna : ¬ (0 : Int) = a := fun e => ha e.symm
      clear ha
      have mixed : Try.prog.follows .mixedOrders = true := by kernel_rfl
      have F1 := hide camef_any
      go_enter Try.func54, Try.ntmps54
      go_wp2_with fail
      obtain ⟨W, hW⟩ : ∃ W, W = ((w.alloc (.cells #[.slice p nb c, .slice p' na c'] 42)).alloc (oO a ac sd pr q)).alloc (.cells #[.slice none 0 0, .slice none 0 0] 42) := ⟨_, rfl⟩
      have BW : Hid (Below w.heap.size w W) := by rw [hW]; exact ((((Below.refl _ w).alloc (Nat.le_refl _) _).alloc (by simp) _).alloc (by simp; omega) _)
      have T : Hid (Two W (w.heap.size + 1 + 1)) := by rw [hW]; exact two_made _ _ _ _ _
      have FVE : Hid (Five W (w.heap.size + 1)) := by rw [hW]; exact made3_five2 _ _ _ _ _ _ _ _
      have e0 : W.cell? ⟨w.heap.size, 0, none⟩ = some (.slice p nb c) := by rw [hW]; exact cell_alloc (cell_alloc (new_cell _ _ _ _ _ rfl) _) _
      have e1 : W.cell? ⟨w.heap.size, 1, none⟩ = some (.slice p' na c') := by rw [hW]; exact cell_alloc (cell_alloc (new_cell _ _ _ _ _ rfl) _) _
      have f0 : W.cell? ⟨w.heap.size + 1, 0, none⟩ = some (.int .i64 a) := by rw [hW]; exact cell_alloc (new_cell2 _ _ _ _ _ _ rfl) _
      have f1 : W.cell? ⟨w.heap.size + 1, 1, none⟩ = some (.int .i64 ac) := by rw [hW]; exact cell_alloc (new_cell2 _ _ _ _ _ _ rfl) _
      have f2 : W.cell? ⟨w.heap.size + 1, 2, none⟩ = some (.int .i64 sd) := by rw [hW]; exact cell_alloc (new_cell2 _ _ _ _ _ _ rfl) _
      have f3 : W.cell? ⟨w.heap.size + 1, 3, none⟩ = some (.int .i64 pr) := by rw [hW]; exact cell_alloc (new_cell2 _ _ _ _ _ _ rfl) _
      have f4 : W.cell? ⟨w.heap.size + 1, 4, none⟩ = some (.int .i64 q) := by rw [hW]; exact cell_alloc (new_cell2 _ _ _ _ _ _ rfl) _
      have SZW : Hid (W.heap.size = w.heap.size + 3) := by show _ = _; rw [hW]; simp
      rw [← hW]
      clear hW
      have KEEP : Hid (∀ x, Below W.heap.size W x → x.cell? ⟨w.heap.size, 0, none⟩ = some (.slice p nb c) ∧ x.cell? ⟨w.heap.size, 1, none⟩ = some (.slice p' na c') ∧ x.cell? ⟨w.heap.size + 1, 0, none⟩ = some (.int .i64 a) ∧ x.cell? ⟨w.heap.size + 1, 1, none⟩ = some (.int .i64 ac) ∧ x.cell? ⟨w.heap.size + 1, 2, none⟩ = some (.int .i64 sd) ∧ x.cell? ⟨w.heap.size + 1, 3, none⟩ = some (.int .i64 pr) ∧ x.cell? ⟨w.heap.size + 1, 4, none⟩ = some (.int .i64 q)) := fun x hx =>
        have k := fun ad v (he : W.cell? ad = some v) => (hx.cell (World.block_lt_of_cell? _ _ he)).trans he
        ⟨k _ _ e0, k _ _ e1, k _ _ f0, k _ _ f1, k _ _ f2, k _ _ f3, k _ _ f4⟩
      have hC : ∀ q1 : InC (fun x => Below W.heap.size W x), ∀ x v, W.cell? x = some v → q1.w.cell? x = some v := fun q1 x v hx => (q1.h.cell (World.block_lt_of_cell? _ _ hx)).trans hx
      generalize hCC : (fun x => Below W.heap.size W x) = C at hC
      have g0 := fun q1 => hC q1 _ _ e0
      have g1 := fun q1 => hC q1 _ _ e1
      have l0 := fun q1 => hC q1 _ _ f0
      have CE := hide hCC
      have CS : Hid (Shut C) := by rw [← CE.out]; exact shut_below W
      have CW : Hid (∀ x, C x → Below W.heap.size W x) := fun x hx => by rw [← CE.out] at hx; exact hx
      have C0 : Hid (C { W with drawn := W.drawn + 1 }) := by rw [← CE.out]; exact below_drawn _
      clear hC hCC e0 e1 f0 f1 f2 f3 f4
      refine wp_region_mix [(0, true), (1, true), (2, true), (3, true), (4, true), (5, true), (6, true), (9, true), (10, true), (7, false), (8, false), (11, false), (12, false)] C mixed (by kernel_rfl) C0.out ?_
      repeat (refine mix_still (by rfl) ?_; go_big_quiet_step (exact rfl); refine wpQuiet_nil ?_)
      refine mix_main (by rfl) ?_
      rintro ⟨x1, hx1⟩
      have FX := hide (FD.out x1 (BW.out.trans ((CW.out x1 hx1).mono BW.out.size)))
      go_wp2_with (go_at_call 44; refine FX.out.mono ?_; rintro e w' ⟨rfl, hb'⟩)
      refine ⟨C, CS.out x1 _ hx1 hb', fun _ h => h, ?_⟩
      clear hx1 hb' FX x1
      refine mix_main (by rfl) ?_
      rintro ⟨x1, hx1⟩
      go_wp2
      rename_i K hK
      refine hK _ _ ?_
      simp only [List.getElem_toArray, List.getElem_cons_zero]
      clear hK K
      go_wp2
      refine ⟨C, hx1, fun _ h => h, ?_⟩
      clear hx1 x1
      refine mix_main (by rfl) ?_
      rintro ⟨x1, hx1⟩
      go_wp2
      refine ⟨C, hx1, fun _ h => h, ?_⟩
      clear hx1 x1
      refine mix_main (by rfl) ?_
      rintro ⟨x1, hx1⟩
      go_wp2
      refine ⟨C, hx1, fun _ h => h, ?_⟩
      clear hx1 x1
      refine mix_end ?_
      rintro ⟨x9, hx9⟩
      dsimp only
      have B9 := hide (CW.out x9 hx9)
      obtain ⟨e0, e1, f0, f1, f2, f3, f4⟩ := KEEP.out x9 B9.out
      have TX := hide (two_below T.out B9.out)
      have BX := hide (BW.out.trans (B9.out.mono BW.out.size))
      clear hx9 CS CW C0 CE g0 g1 l0
      go_wp2_with fail
      refine (CK.out _).mono ?_
      rintro e w2 ⟨rfl, hb2⟩
      have B2 := hide (B9.out.trans (hb2.mono B9.out.size))
      obtain ⟨e0, e1, f0, f1, f2, f3, f4⟩ := KEEP.out w2 B2.out
      have BX2 := hide (BW.out.trans (B2.out.mono BW.out.size))
      clear hb2 BX TX
      go_wp2_with fail
      refine (TKN.out _ BX2.out).mono ?_
      rintro e w4 ⟨p1, c1, p2, c2, vF, rfl, o1, o2, of, hb4, g1, g2⟩
      obtain ⟨pF, cF, rfl⟩ := ownF_form of
      have B4 := hide (B2.out.trans (hb4.mono B2.out.size))
      have O1 := hide o1
      have O2 := hide o2
      have OF := hide of
      have s2 : w.heap.size + 3 ≤ w2.heap.size := by have := B2.out.size; have := SZW.out; omega
      have G1 : Hid (∀ a, p1 = some a → w.heap.size + 3 ≤ a.block) := fun a ha => by have := g1 a ha; omega
      have G2 : Hid (∀ a, p2 = some a → w.heap.size + 3 ≤ a.block) := fun a ha => by have := g2 a ha; omega
      have S2 := hide s2
      have S4 := hide hb4.size
      clear o1 o2 of hb4 g1 g2 s2 e0 e1 f0 f1 f2 f3 f4
      obtain ⟨V, hV⟩ : ∃ V, V = w4.alloc (.cells #[.slice p1 B.length c1, .slice p2 A.length c2] 42) := ⟨_, rfl⟩
      have BV : Hid (Below W.heap.size W V) := by rw [hV]; exact B4.out.alloc B4.out.size _
      have BXV := hide (BW.out.trans (BV.out.mono BW.out.size))
      have TV := hide (two_below T.out BV.out)
      have HV := hide hV
      clear hV
      go_wp2_with fail
      rw [← HV.out]
      refine (F1.out _ _).mono ?_
      rintro e WF ⟨rfl, hbF⟩
      have TF := hide (two_below TV.out hbF)
      have BF := hide (BXV.out.trans (hbF.mono BXV.out.size))
      obtain ⟨uf0, uf1, tf0, tf1, tf2, tf3⟩ := two_facts TF.out
      clear hbF
      go_wp2
      obtain ⟨sf0, sf1⟩ := two_set TF.out (.slice none 0 0) (.slice none 0 0)
      refine bodyPost_ret (v := .tuple #[.agg #[.slice none 0 0, .slice none 0 0], .slice none 0 0, .int .i64 0, .int .i64 11]) (by simp [results, Try.results54, go_sem, sf0, sf1]) rfl ⟨none, 0, none, 0, .slice none 0 0, rfl, ov_nil _, ov_nil _, World.ownsRow_nil _ _ _ _, two_below_set BF.out (by omega) _ _⟩

set_option maxHeartbeats 4000000 in
set_option maxRecDepth 100000 in
theorem came_7 (p p' : Option Addr) (c c' nb na : Nat) (a ac sd pr q how : Int) (w : World) (B A : List Odr) (F : List Fil) (lf : Int) (met : Bool) (ha : ¬ a = 0) (h1 : 1 ≤ how) (h2 : how ≤ 4) (_hl : 0 ≤ lf) (hr : allowsE how F.length lf met = 0) (hs : stays how lf = true)
    (FD : Hid (∀ X, Below w.heap.size w X → Calls Try.prog 44 #[.agg #[.slice p nb c, .slice p' na c'], .int .i64 a] X fun e w' => e = .returned (.agg #[.int .i64 0, .int .i64 0, .int .i64 0, .int .i64 0, .int .i64 0]) ∧ Below X.heap.size X w'))
    (CK : Hid (∀ X, Calls Try.prog 38 #[.agg #[.int .i64 a, .int .i64 ac, .int .i64 sd, .int .i64 pr, .int .i64 q]] X fun e w' => e = .returned (.int .i64 0) ∧ Below X.heap.size X w'))
    (TKN : Hid (∀ X, Below w.heap.size w X → Calls Try.prog 52 #[.agg #[.slice p nb c, .slice p' na c'], .agg #[.int .i64 a, .int .i64 ac, .int .i64 sd, .int .i64 pr, .int .i64 q]] X fun e w' => TakenPost X B A F lf met e w')) :
    Calls Try.prog 54 #[.agg #[.slice p nb c, .slice p' na c'], .agg #[.int .i64 a, .int .i64 ac, .int .i64 sd, .int .i64 pr, .int .i64 q], .int .i64 how] w (CamePost w B A F lf 0) := by
  unfold allowsE at hr
  have hst : lf = 0 ∨ how = 2 := by simpa [stays] using hs
  cases met
  · by_cases h4 : how = 4
    · have b4 : (how == 4) = true := by simp [h4]
      have b3 : (how == 3) = false := by simp [h4]
      have b2 : (how == 2) = false := by simp [h4]
      have hF : ¬ 0 < F.length := fun e => by rw [if_pos ⟨h4, .inl e⟩] at hr; exact absurd hr (by decide)
      have hFz : ¬ (0 : Int) < (F.length : Int) := by omega
      have hFd : decide ((0 : Int) < (F.length : Int)) = false := by simpa using hF
      have hl0 : (lf == 0) = true := by rcases hst with e | e; simp [e]; omega
      clear hr hs hst h4 hF
      have hab : (a != 0) = true := by simp [ha]
      have hna : ¬ (0 : Int) = a := fun e => ha e.symm
      clear ha
      have mixed : Try.prog.follows .mixedOrders = true := by kernel_rfl
      have F1 := hide camef_any
      go_enter Try.func54, Try.ntmps54
      go_wp2_with fail
      obtain ⟨W, hW⟩ : ∃ W, W = ((w.alloc (.cells #[.slice p nb c, .slice p' na c'] 42)).alloc (oO a ac sd pr q)).alloc (.cells #[.slice none 0 0, .slice none 0 0] 42) := ⟨_, rfl⟩
      have BW : Hid (Below w.heap.size w W) := by rw [hW]; exact ((((Below.refl _ w).alloc (Nat.le_refl _) _).alloc (by simp) _).alloc (by simp; omega) _)
      have T : Hid (Two W (w.heap.size + 1 + 1)) := by rw [hW]; exact two_made _ _ _ _ _
      have FVE : Hid (Five W (w.heap.size + 1)) := by rw [hW]; exact made3_five2 _ _ _ _ _ _ _ _
      have e0 : W.cell? ⟨w.heap.size, 0, none⟩ = some (.slice p nb c) := by rw [hW]; exact cell_alloc (cell_alloc (new_cell _ _ _ _ _ rfl) _) _
      have e1 : W.cell? ⟨w.heap.size, 1, none⟩ = some (.slice p' na c') := by rw [hW]; exact cell_alloc (cell_alloc (new_cell _ _ _ _ _ rfl) _) _
      have f0 : W.cell? ⟨w.heap.size + 1, 0, none⟩ = some (.int .i64 a) := by rw [hW]; exact cell_alloc (new_cell2 _ _ _ _ _ _ rfl) _
      have f1 : W.cell? ⟨w.heap.size + 1, 1, none⟩ = some (.int .i64 ac) := by rw [hW]; exact cell_alloc (new_cell2 _ _ _ _ _ _ rfl) _
      have f2 : W.cell? ⟨w.heap.size + 1, 2, none⟩ = some (.int .i64 sd) := by rw [hW]; exact cell_alloc (new_cell2 _ _ _ _ _ _ rfl) _
      have f3 : W.cell? ⟨w.heap.size + 1, 3, none⟩ = some (.int .i64 pr) := by rw [hW]; exact cell_alloc (new_cell2 _ _ _ _ _ _ rfl) _
      have f4 : W.cell? ⟨w.heap.size + 1, 4, none⟩ = some (.int .i64 q) := by rw [hW]; exact cell_alloc (new_cell2 _ _ _ _ _ _ rfl) _
      have SZW : Hid (W.heap.size = w.heap.size + 3) := by show _ = _; rw [hW]; simp
      rw [← hW]
      clear hW
      have KEEP : Hid (∀ x, Below W.heap.size W x → x.cell? ⟨w.heap.size, 0, none⟩ = some (.slice p nb c) ∧ x.cell? ⟨w.heap.size, 1, none⟩ = some (.slice p' na c') ∧ x.cell? ⟨w.heap.size + 1, 0, none⟩ = some (.int .i64 a) ∧ x.cell? ⟨w.heap.size + 1, 1, none⟩ = some (.int .i64 ac) ∧ x.cell? ⟨w.heap.size + 1, 2, none⟩ = some (.int .i64 sd) ∧ x.cell? ⟨w.heap.size + 1, 3, none⟩ = some (.int .i64 pr) ∧ x.cell? ⟨w.heap.size + 1, 4, none⟩ = some (.int .i64 q)) := fun x hx =>
        have k := fun ad v (he : W.cell? ad = some v) => (hx.cell (World.block_lt_of_cell? _ _ he)).trans he
        ⟨k _ _ e0, k _ _ e1, k _ _ f0, k _ _ f1, k _ _ f2, k _ _ f3, k _ _ f4⟩
      have hC : ∀ q1 : InC (fun x => Below W.heap.size W x), ∀ x v, W.cell? x = some v → q1.w.cell? x = some v := fun q1 x v hx => (q1.h.cell (World.block_lt_of_cell? _ _ hx)).trans hx
      generalize hCC : (fun x => Below W.heap.size W x) = C at hC
      have g0 := fun q1 => hC q1 _ _ e0
      have g1 := fun q1 => hC q1 _ _ e1
      have l0 := fun q1 => hC q1 _ _ f0
      have CE := hide hCC
      have CS : Hid (Shut C) := by rw [← CE.out]; exact shut_below W
      have CW : Hid (∀ x, C x → Below W.heap.size W x) := fun x hx => by rw [← CE.out] at hx; exact hx
      have C0 : Hid (C { W with drawn := W.drawn + 1 }) := by rw [← CE.out]; exact below_drawn _
      clear hC hCC e0 e1 f0 f1 f2 f3 f4
      refine wp_region_mix [(0, true), (1, true), (2, true), (3, true), (4, true), (5, true), (6, true), (9, true), (10, true), (7, false), (8, false), (11, false), (12, false)] C mixed (by kernel_rfl) C0.out ?_
      repeat (refine mix_still (by rfl) ?_; go_big_quiet_step (exact rfl); refine wpQuiet_nil ?_)
      refine mix_main (by rfl) ?_
      rintro ⟨x1, hx1⟩
      have FX := hide (FD.out x1 (BW.out.trans ((CW.out x1 hx1).mono BW.out.size)))
      go_wp2_with (go_at_call 44; refine FX.out.mono ?_; rintro e w' ⟨rfl, hb'⟩)
      refine ⟨C, CS.out x1 _ hx1 hb', fun _ h => h, ?_⟩
      clear hx1 hb' FX x1
      refine mix_main (by rfl) ?_
      rintro ⟨x1, hx1⟩
      go_wp2
      rename_i K hK
      refine hK _ _ ?_
      simp only [List.getElem_toArray, List.getElem_cons_zero]
      clear hK K
      go_wp2
      refine ⟨C, hx1, fun _ h => h, ?_⟩
      clear hx1 x1
      refine mix_main (by rfl) ?_
      rintro ⟨x1, hx1⟩
      go_wp2
      refine ⟨C, hx1, fun _ h => h, ?_⟩
      clear hx1 x1
      refine mix_main (by rfl) ?_
      rintro ⟨x1, hx1⟩
      go_wp2
      refine ⟨C, hx1, fun _ h => h, ?_⟩
      clear hx1 x1
      refine mix_end ?_
      rintro ⟨x9, hx9⟩
      dsimp only
      have B9 := hide (CW.out x9 hx9)
      obtain ⟨e0, e1, f0, f1, f2, f3, f4⟩ := KEEP.out x9 B9.out
      have TX := hide (two_below T.out B9.out)
      have BX := hide (BW.out.trans (B9.out.mono BW.out.size))
      clear hx9 CS CW C0 CE g0 g1 l0
      go_wp2_with fail
      refine (CK.out _).mono ?_
      rintro e w2 ⟨rfl, hb2⟩
      have B2 := hide (B9.out.trans (hb2.mono B9.out.size))
      obtain ⟨e0, e1, f0, f1, f2, f3, f4⟩ := KEEP.out w2 B2.out
      have BX2 := hide (BW.out.trans (B2.out.mono BW.out.size))
      clear hb2 BX TX
      go_wp2_with fail
      refine (TKN.out _ BX2.out).mono ?_
      rintro e w4 ⟨p1, c1, p2, c2, vF, rfl, o1, o2, of, hb4, g1, g2⟩
      obtain ⟨pF, cF, rfl⟩ := ownF_form of
      have B4 := hide (B2.out.trans (hb4.mono B2.out.size))
      have O1 := hide o1
      have O2 := hide o2
      have OF := hide of
      have s2 : w.heap.size + 3 ≤ w2.heap.size := by have := B2.out.size; have := SZW.out; omega
      have G1 : Hid (∀ a, p1 = some a → w.heap.size + 3 ≤ a.block) := fun a ha => by have := g1 a ha; omega
      have G2 : Hid (∀ a, p2 = some a → w.heap.size + 3 ≤ a.block) := fun a ha => by have := g2 a ha; omega
      have S2 := hide s2
      have S4 := hide hb4.size
      clear o1 o2 of hb4 g1 g2 s2 e0 e1 f0 f1 f2 f3 f4
      obtain ⟨V, hV⟩ : ∃ V, V = w4.alloc (.cells #[.slice p1 B.length c1, .slice p2 A.length c2] 42) := ⟨_, rfl⟩
      have BV : Hid (Below W.heap.size W V) := by rw [hV]; exact B4.out.alloc B4.out.size _
      have BXV := hide (BW.out.trans (BV.out.mono BW.out.size))
      have TV := hide (two_below T.out BV.out)
      have HV := hide hV
      clear hV
      have v0 : V.cell? ⟨w4.heap.size, 0, none⟩ = some (.slice p1 B.length c1) := by rw [HV.out]; exact new_cell w4 _ _ 0 _ rfl
      have v1 : V.cell? ⟨w4.heap.size, 1, none⟩ = some (.slice p2 A.length c2) := by rw [HV.out]; exact new_cell w4 _ _ 1 _ rfl
      have hb : Below w4.heap.size w4 V := by rw [HV.out]; exact (Below.refl _ w4).alloc (Nat.le_refl _) _
      have P1 := hide (ov_below_two (t := w.heap.size + 1 + 1) (v0 := .slice p1 B.length c1) (v1 := .slice p2 A.length c2) (O1.out.below hb) (fun a ha => by have := G1.out a ha; omega))
      have P2 := hide (ov_below_two (t := w.heap.size + 1 + 1) (v0 := .slice p1 B.length c1) (v1 := .slice p2 A.length c2) (O2.out.below hb) (fun a ha => by have := G2.out a ha; omega))
      have PF : Hid (V.ownsRow w2.heap.size 74 7 (.slice pF F.length cF) F.length (flatF F)) := by rw [HV.out]; exact OF.out.alloc _
      obtain ⟨u0, u1, t0, t1, t2, t3⟩ := two_facts TV.out
      obtain ⟨y0, y1⟩ := two_set TV.out (.slice p1 B.length c1) (.slice p2 A.length c2)
      clear hb
      go_wp2_with (rw [← HV.out])
      refine bodyPost_ret (v := .tuple #[.agg #[.slice p1 B.length c1, .slice p2 A.length c2], .slice pF F.length cF, .int .i64 lf, .int .i64 0]) (by simp [results, Try.results54, go_sem, y0, y1]) rfl ⟨p1, c1, p2, c2, _, rfl, P1.out, P2.out, ?_, two_below_set BXV.out (by omega) _ _⟩
      have g1 := S2.out
      exact own_base (ownsRow_setCell_below (ownsRow_setCell_below PF.out (by show w.heap.size + 1 + 1 < _; omega) _) (by show w.heap.size + 1 + 1 < _; omega) _) (by omega)
    · have b4 : (how == 4) = false := by simp [h4]
      by_cases h22 : how = 2
      · have b2 : (how == 2) = true := by simp [h22]
        have b3 : (how == 3) = false := by simp [h22]
        clear hr hs hst h4 h22
        have hab : (a != 0) = true := by simp [ha]
        have hna : ¬ (0 : Int) = a := fun e => ha e.symm
        clear ha
        have mixed : Try.prog.follows .mixedOrders = true := by kernel_rfl
        have F1 := hide camef_any
        go_enter Try.func54, Try.ntmps54
        go_wp2_with fail
        obtain ⟨W, hW⟩ : ∃ W, W = ((w.alloc (.cells #[.slice p nb c, .slice p' na c'] 42)).alloc (oO a ac sd pr q)).alloc (.cells #[.slice none 0 0, .slice none 0 0] 42) := ⟨_, rfl⟩
        have BW : Hid (Below w.heap.size w W) := by rw [hW]; exact ((((Below.refl _ w).alloc (Nat.le_refl _) _).alloc (by simp) _).alloc (by simp; omega) _)
        have T : Hid (Two W (w.heap.size + 1 + 1)) := by rw [hW]; exact two_made _ _ _ _ _
        have FVE : Hid (Five W (w.heap.size + 1)) := by rw [hW]; exact made3_five2 _ _ _ _ _ _ _ _
        have e0 : W.cell? ⟨w.heap.size, 0, none⟩ = some (.slice p nb c) := by rw [hW]; exact cell_alloc (cell_alloc (new_cell _ _ _ _ _ rfl) _) _
        have e1 : W.cell? ⟨w.heap.size, 1, none⟩ = some (.slice p' na c') := by rw [hW]; exact cell_alloc (cell_alloc (new_cell _ _ _ _ _ rfl) _) _
        have f0 : W.cell? ⟨w.heap.size + 1, 0, none⟩ = some (.int .i64 a) := by rw [hW]; exact cell_alloc (new_cell2 _ _ _ _ _ _ rfl) _
        have f1 : W.cell? ⟨w.heap.size + 1, 1, none⟩ = some (.int .i64 ac) := by rw [hW]; exact cell_alloc (new_cell2 _ _ _ _ _ _ rfl) _
        have f2 : W.cell? ⟨w.heap.size + 1, 2, none⟩ = some (.int .i64 sd) := by rw [hW]; exact cell_alloc (new_cell2 _ _ _ _ _ _ rfl) _
        have f3 : W.cell? ⟨w.heap.size + 1, 3, none⟩ = some (.int .i64 pr) := by rw [hW]; exact cell_alloc (new_cell2 _ _ _ _ _ _ rfl) _
        have f4 : W.cell? ⟨w.heap.size + 1, 4, none⟩ = some (.int .i64 q) := by rw [hW]; exact cell_alloc (new_cell2 _ _ _ _ _ _ rfl) _
        have SZW : Hid (W.heap.size = w.heap.size + 3) := by show _ = _; rw [hW]; simp
        rw [← hW]
        clear hW
        have KEEP : Hid (∀ x, Below W.heap.size W x → x.cell? ⟨w.heap.size, 0, none⟩ = some (.slice p nb c) ∧ x.cell? ⟨w.heap.size, 1, none⟩ = some (.slice p' na c') ∧ x.cell? ⟨w.heap.size + 1, 0, none⟩ = some (.int .i64 a) ∧ x.cell? ⟨w.heap.size + 1, 1, none⟩ = some (.int .i64 ac) ∧ x.cell? ⟨w.heap.size + 1, 2, none⟩ = some (.int .i64 sd) ∧ x.cell? ⟨w.heap.size + 1, 3, none⟩ = some (.int .i64 pr) ∧ x.cell? ⟨w.heap.size + 1, 4, none⟩ = some (.int .i64 q)) := fun x hx =>
          have k := fun ad v (he : W.cell? ad = some v) => (hx.cell (World.block_lt_of_cell? _ _ he)).trans he
          ⟨k _ _ e0, k _ _ e1, k _ _ f0, k _ _ f1, k _ _ f2, k _ _ f3, k _ _ f4⟩
        have hC : ∀ q1 : InC (fun x => Below W.heap.size W x), ∀ x v, W.cell? x = some v → q1.w.cell? x = some v := fun q1 x v hx => (q1.h.cell (World.block_lt_of_cell? _ _ hx)).trans hx
        generalize hCC : (fun x => Below W.heap.size W x) = C at hC
        have g0 := fun q1 => hC q1 _ _ e0
        have g1 := fun q1 => hC q1 _ _ e1
        have l0 := fun q1 => hC q1 _ _ f0
        have CE := hide hCC
        have CS : Hid (Shut C) := by rw [← CE.out]; exact shut_below W
        have CW : Hid (∀ x, C x → Below W.heap.size W x) := fun x hx => by rw [← CE.out] at hx; exact hx
        have C0 : Hid (C { W with drawn := W.drawn + 1 }) := by rw [← CE.out]; exact below_drawn _
        clear hC hCC e0 e1 f0 f1 f2 f3 f4
        refine wp_region_mix [(0, true), (1, true), (2, true), (3, true), (4, true), (5, true), (6, true), (9, true), (10, true), (7, false), (8, false), (11, false), (12, false)] C mixed (by kernel_rfl) C0.out ?_
        repeat (refine mix_still (by rfl) ?_; go_big_quiet_step (exact rfl); refine wpQuiet_nil ?_)
        refine mix_main (by rfl) ?_
        rintro ⟨x1, hx1⟩
        have FX := hide (FD.out x1 (BW.out.trans ((CW.out x1 hx1).mono BW.out.size)))
        go_wp2_with (go_at_call 44; refine FX.out.mono ?_; rintro e w' ⟨rfl, hb'⟩)
        refine ⟨C, CS.out x1 _ hx1 hb', fun _ h => h, ?_⟩
        clear hx1 hb' FX x1
        refine mix_main (by rfl) ?_
        rintro ⟨x1, hx1⟩
        go_wp2
        rename_i K hK
        refine hK _ _ ?_
        simp only [List.getElem_toArray, List.getElem_cons_zero]
        clear hK K
        go_wp2
        refine ⟨C, hx1, fun _ h => h, ?_⟩
        clear hx1 x1
        refine mix_main (by rfl) ?_
        rintro ⟨x1, hx1⟩
        go_wp2
        refine ⟨C, hx1, fun _ h => h, ?_⟩
        clear hx1 x1
        refine mix_main (by rfl) ?_
        rintro ⟨x1, hx1⟩
        go_wp2
        refine ⟨C, hx1, fun _ h => h, ?_⟩
        clear hx1 x1
        refine mix_end ?_
        rintro ⟨x9, hx9⟩
        dsimp only
        have B9 := hide (CW.out x9 hx9)
        obtain ⟨e0, e1, f0, f1, f2, f3, f4⟩ := KEEP.out x9 B9.out
        have TX := hide (two_below T.out B9.out)
        have BX := hide (BW.out.trans (B9.out.mono BW.out.size))
        clear hx9 CS CW C0 CE g0 g1 l0
        go_wp2_with fail
        refine (CK.out _).mono ?_
        rintro e w2 ⟨rfl, hb2⟩
        have B2 := hide (B9.out.trans (hb2.mono B9.out.size))
        obtain ⟨e0, e1, f0, f1, f2, f3, f4⟩ := KEEP.out w2 B2.out
        have BX2 := hide (BW.out.trans (B2.out.mono BW.out.size))
        clear hb2 BX TX
        go_wp2_with fail
        refine (TKN.out _ BX2.out).mono ?_
        rintro e w4 ⟨p1, c1, p2, c2, vF, rfl, o1, o2, of, hb4, g1, g2⟩
        obtain ⟨pF, cF, rfl⟩ := ownF_form of
        have B4 := hide (B2.out.trans (hb4.mono B2.out.size))
        have O1 := hide o1
        have O2 := hide o2
        have OF := hide of
        have s2 : w.heap.size + 3 ≤ w2.heap.size := by have := B2.out.size; have := SZW.out; omega
        have G1 : Hid (∀ a, p1 = some a → w.heap.size + 3 ≤ a.block) := fun a ha => by have := g1 a ha; omega
        have G2 : Hid (∀ a, p2 = some a → w.heap.size + 3 ≤ a.block) := fun a ha => by have := g2 a ha; omega
        have S2 := hide s2
        have S4 := hide hb4.size
        clear o1 o2 of hb4 g1 g2 s2 e0 e1 f0 f1 f2 f3 f4
        obtain ⟨V, hV⟩ : ∃ V, V = w4.alloc (.cells #[.slice p1 B.length c1, .slice p2 A.length c2] 42) := ⟨_, rfl⟩
        have BV : Hid (Below W.heap.size W V) := by rw [hV]; exact B4.out.alloc B4.out.size _
        have BXV := hide (BW.out.trans (BV.out.mono BW.out.size))
        have TV := hide (two_below T.out BV.out)
        have HV := hide hV
        clear hV
        have v0 : V.cell? ⟨w4.heap.size, 0, none⟩ = some (.slice p1 B.length c1) := by rw [HV.out]; exact new_cell w4 _ _ 0 _ rfl
        have v1 : V.cell? ⟨w4.heap.size, 1, none⟩ = some (.slice p2 A.length c2) := by rw [HV.out]; exact new_cell w4 _ _ 1 _ rfl
        have hb : Below w4.heap.size w4 V := by rw [HV.out]; exact (Below.refl _ w4).alloc (Nat.le_refl _) _
        have P1 := hide (ov_below_two (t := w.heap.size + 1 + 1) (v0 := .slice p1 B.length c1) (v1 := .slice p2 A.length c2) (O1.out.below hb) (fun a ha => by have := G1.out a ha; omega))
        have P2 := hide (ov_below_two (t := w.heap.size + 1 + 1) (v0 := .slice p1 B.length c1) (v1 := .slice p2 A.length c2) (O2.out.below hb) (fun a ha => by have := G2.out a ha; omega))
        have PF : Hid (V.ownsRow w2.heap.size 74 7 (.slice pF F.length cF) F.length (flatF F)) := by rw [HV.out]; exact OF.out.alloc _
        obtain ⟨u0, u1, t0, t1, t2, t3⟩ := two_facts TV.out
        obtain ⟨y0, y1⟩ := two_set TV.out (.slice p1 B.length c1) (.slice p2 A.length c2)
        clear hb
        go_wp2_with (rw [← HV.out])
        refine bodyPost_ret (v := .tuple #[.agg #[.slice p1 B.length c1, .slice p2 A.length c2], .slice pF F.length cF, .int .i64 lf, .int .i64 0]) (by simp [results, Try.results54, go_sem, y0, y1]) rfl ⟨p1, c1, p2, c2, _, rfl, P1.out, P2.out, ?_, two_below_set BXV.out (by omega) _ _⟩
        have g1 := S2.out
        exact own_base (ownsRow_setCell_below (ownsRow_setCell_below PF.out (by show w.heap.size + 1 + 1 < _; omega) _) (by show w.heap.size + 1 + 1 < _; omega) _) (by omega)
      · have b2 : (how == 2) = false := by simp [h22]
        have hl0 : (lf == 0) = true := by rcases hst with e | e; simp [e]; omega
        by_cases h3 : how = 3
        · have b3 : (how == 3) = true := by simp [h3]
          have hl2 : (lf != 0) = false := by rcases hst with e | e; simp [e]; omega
          clear hr hs hst h4 h22 h3
          have hab : (a != 0) = true := by simp [ha]
          have hna : ¬ (0 : Int) = a := fun e => ha e.symm
          clear ha
          have mixed : Try.prog.follows .mixedOrders = true := by kernel_rfl
          have F1 := hide camef_any
          go_enter Try.func54, Try.ntmps54
          go_wp2_with fail
          obtain ⟨W, hW⟩ : ∃ W, W = ((w.alloc (.cells #[.slice p nb c, .slice p' na c'] 42)).alloc (oO a ac sd pr q)).alloc (.cells #[.slice none 0 0, .slice none 0 0] 42) := ⟨_, rfl⟩
          have BW : Hid (Below w.heap.size w W) := by rw [hW]; exact ((((Below.refl _ w).alloc (Nat.le_refl _) _).alloc (by simp) _).alloc (by simp; omega) _)
          have T : Hid (Two W (w.heap.size + 1 + 1)) := by rw [hW]; exact two_made _ _ _ _ _
          have FVE : Hid (Five W (w.heap.size + 1)) := by rw [hW]; exact made3_five2 _ _ _ _ _ _ _ _
          have e0 : W.cell? ⟨w.heap.size, 0, none⟩ = some (.slice p nb c) := by rw [hW]; exact cell_alloc (cell_alloc (new_cell _ _ _ _ _ rfl) _) _
          have e1 : W.cell? ⟨w.heap.size, 1, none⟩ = some (.slice p' na c') := by rw [hW]; exact cell_alloc (cell_alloc (new_cell _ _ _ _ _ rfl) _) _
          have f0 : W.cell? ⟨w.heap.size + 1, 0, none⟩ = some (.int .i64 a) := by rw [hW]; exact cell_alloc (new_cell2 _ _ _ _ _ _ rfl) _
          have f1 : W.cell? ⟨w.heap.size + 1, 1, none⟩ = some (.int .i64 ac) := by rw [hW]; exact cell_alloc (new_cell2 _ _ _ _ _ _ rfl) _
          have f2 : W.cell? ⟨w.heap.size + 1, 2, none⟩ = some (.int .i64 sd) := by rw [hW]; exact cell_alloc (new_cell2 _ _ _ _ _ _ rfl) _
          have f3 : W.cell? ⟨w.heap.size + 1, 3, none⟩ = some (.int .i64 pr) := by rw [hW]; exact cell_alloc (new_cell2 _ _ _ _ _ _ rfl) _
          have f4 : W.cell? ⟨w.heap.size + 1, 4, none⟩ = some (.int .i64 q) := by rw [hW]; exact cell_alloc (new_cell2 _ _ _ _ _ _ rfl) _
          have SZW : Hid (W.heap.size = w.heap.size + 3) := by show _ = _; rw [hW]; simp
          rw [← hW]
          clear hW
          have KEEP : Hid (∀ x, Below W.heap.size W x → x.cell? ⟨w.heap.size, 0, none⟩ = some (.slice p nb c) ∧ x.cell? ⟨w.heap.size, 1, none⟩ = some (.slice p' na c') ∧ x.cell? ⟨w.heap.size + 1, 0, none⟩ = some (.int .i64 a) ∧ x.cell? ⟨w.heap.size + 1, 1, none⟩ = some (.int .i64 ac) ∧ x.cell? ⟨w.heap.size + 1, 2, none⟩ = some (.int .i64 sd) ∧ x.cell? ⟨w.heap.size + 1, 3, none⟩ = some (.int .i64 pr) ∧ x.cell? ⟨w.heap.size + 1, 4, none⟩ = some (.int .i64 q)) := fun x hx =>
            have k := fun ad v (he : W.cell? ad = some v) => (hx.cell (World.block_lt_of_cell? _ _ he)).trans he
            ⟨k _ _ e0, k _ _ e1, k _ _ f0, k _ _ f1, k _ _ f2, k _ _ f3, k _ _ f4⟩
          have hC : ∀ q1 : InC (fun x => Below W.heap.size W x), ∀ x v, W.cell? x = some v → q1.w.cell? x = some v := fun q1 x v hx => (q1.h.cell (World.block_lt_of_cell? _ _ hx)).trans hx
          generalize hCC : (fun x => Below W.heap.size W x) = C at hC
          have g0 := fun q1 => hC q1 _ _ e0
          have g1 := fun q1 => hC q1 _ _ e1
          have l0 := fun q1 => hC q1 _ _ f0
          have CE := hide hCC
          have CS : Hid (Shut C) := by rw [← CE.out]; exact shut_below W
          have CW : Hid (∀ x, C x → Below W.heap.size W x) := fun x hx => by rw [← CE.out] at hx; exact hx
          have C0 : Hid (C { W with drawn := W.drawn + 1 }) := by rw [← CE.out]; exact below_drawn _
          clear hC hCC e0 e1 f0 f1 f2 f3 f4
          refine wp_region_mix [(0, true), (1, true), (2, true), (3, true), (4, true), (5, true), (6, true), (9, true), (10, true), (7, false), (8, false), (11, false), (12, false)] C mixed (by kernel_rfl) C0.out ?_
          repeat (refine mix_still (by rfl) ?_; go_big_quiet_step (exact rfl); refine wpQuiet_nil ?_)
          refine mix_main (by rfl) ?_
          rintro ⟨x1, hx1⟩
          have FX := hide (FD.out x1 (BW.out.trans ((CW.out x1 hx1).mono BW.out.size)))
          go_wp2_with (go_at_call 44; refine FX.out.mono ?_; rintro e w' ⟨rfl, hb'⟩)
          refine ⟨C, CS.out x1 _ hx1 hb', fun _ h => h, ?_⟩
          clear hx1 hb' FX x1
          refine mix_main (by rfl) ?_
          rintro ⟨x1, hx1⟩
          go_wp2
          rename_i K hK
          refine hK _ _ ?_
          simp only [List.getElem_toArray, List.getElem_cons_zero]
          clear hK K
          go_wp2
          refine ⟨C, hx1, fun _ h => h, ?_⟩
          clear hx1 x1
          refine mix_main (by rfl) ?_
          rintro ⟨x1, hx1⟩
          go_wp2
          refine ⟨C, hx1, fun _ h => h, ?_⟩
          clear hx1 x1
          refine mix_main (by rfl) ?_
          rintro ⟨x1, hx1⟩
          go_wp2
          refine ⟨C, hx1, fun _ h => h, ?_⟩
          clear hx1 x1
          refine mix_end ?_
          rintro ⟨x9, hx9⟩
          dsimp only
          have B9 := hide (CW.out x9 hx9)
          obtain ⟨e0, e1, f0, f1, f2, f3, f4⟩ := KEEP.out x9 B9.out
          have TX := hide (two_below T.out B9.out)
          have BX := hide (BW.out.trans (B9.out.mono BW.out.size))
          clear hx9 CS CW C0 CE g0 g1 l0
          go_wp2_with fail
          refine (CK.out _).mono ?_
          rintro e w2 ⟨rfl, hb2⟩
          have B2 := hide (B9.out.trans (hb2.mono B9.out.size))
          obtain ⟨e0, e1, f0, f1, f2, f3, f4⟩ := KEEP.out w2 B2.out
          have BX2 := hide (BW.out.trans (B2.out.mono BW.out.size))
          clear hb2 BX TX
          go_wp2_with fail
          refine (TKN.out _ BX2.out).mono ?_
          rintro e w4 ⟨p1, c1, p2, c2, vF, rfl, o1, o2, of, hb4, g1, g2⟩
          obtain ⟨pF, cF, rfl⟩ := ownF_form of
          have B4 := hide (B2.out.trans (hb4.mono B2.out.size))
          have O1 := hide o1
          have O2 := hide o2
          have OF := hide of
          have s2 : w.heap.size + 3 ≤ w2.heap.size := by have := B2.out.size; have := SZW.out; omega
          have G1 : Hid (∀ a, p1 = some a → w.heap.size + 3 ≤ a.block) := fun a ha => by have := g1 a ha; omega
          have G2 : Hid (∀ a, p2 = some a → w.heap.size + 3 ≤ a.block) := fun a ha => by have := g2 a ha; omega
          have S2 := hide s2
          have S4 := hide hb4.size
          clear o1 o2 of hb4 g1 g2 s2 e0 e1 f0 f1 f2 f3 f4
          obtain ⟨V, hV⟩ : ∃ V, V = w4.alloc (.cells #[.slice p1 B.length c1, .slice p2 A.length c2] 42) := ⟨_, rfl⟩
          have BV : Hid (Below W.heap.size W V) := by rw [hV]; exact B4.out.alloc B4.out.size _
          have BXV := hide (BW.out.trans (BV.out.mono BW.out.size))
          have TV := hide (two_below T.out BV.out)
          have HV := hide hV
          clear hV
          have v0 : V.cell? ⟨w4.heap.size, 0, none⟩ = some (.slice p1 B.length c1) := by rw [HV.out]; exact new_cell w4 _ _ 0 _ rfl
          have v1 : V.cell? ⟨w4.heap.size, 1, none⟩ = some (.slice p2 A.length c2) := by rw [HV.out]; exact new_cell w4 _ _ 1 _ rfl
          have hb : Below w4.heap.size w4 V := by rw [HV.out]; exact (Below.refl _ w4).alloc (Nat.le_refl _) _
          have P1 := hide (ov_below_two (t := w.heap.size + 1 + 1) (v0 := .slice p1 B.length c1) (v1 := .slice p2 A.length c2) (O1.out.below hb) (fun a ha => by have := G1.out a ha; omega))
          have P2 := hide (ov_below_two (t := w.heap.size + 1 + 1) (v0 := .slice p1 B.length c1) (v1 := .slice p2 A.length c2) (O2.out.below hb) (fun a ha => by have := G2.out a ha; omega))
          have PF : Hid (V.ownsRow w2.heap.size 74 7 (.slice pF F.length cF) F.length (flatF F)) := by rw [HV.out]; exact OF.out.alloc _
          obtain ⟨u0, u1, t0, t1, t2, t3⟩ := two_facts TV.out
          obtain ⟨y0, y1⟩ := two_set TV.out (.slice p1 B.length c1) (.slice p2 A.length c2)
          clear hb
          go_wp2_with (rw [← HV.out])
          refine bodyPost_ret (v := .tuple #[.agg #[.slice p1 B.length c1, .slice p2 A.length c2], .slice pF F.length cF, .int .i64 lf, .int .i64 0]) (by simp [results, Try.results54, go_sem, y0, y1]) rfl ⟨p1, c1, p2, c2, _, rfl, P1.out, P2.out, ?_, two_below_set BXV.out (by omega) _ _⟩
          have g1 := S2.out
          exact own_base (ownsRow_setCell_below (ownsRow_setCell_below PF.out (by show w.heap.size + 1 + 1 < _; omega) _) (by show w.heap.size + 1 + 1 < _; omega) _) (by omega)
        · have b3 : (how == 3) = false := by simp [h3]
          clear hr hs hst h4 h22 h3
          have hab : (a != 0) = true := by simp [ha]
          have hna : ¬ (0 : Int) = a := fun e => ha e.symm
          clear ha
          have mixed : Try.prog.follows .mixedOrders = true := by kernel_rfl
          have F1 := hide camef_any
          go_enter Try.func54, Try.ntmps54
          go_wp2_with fail
          obtain ⟨W, hW⟩ : ∃ W, W = ((w.alloc (.cells #[.slice p nb c, .slice p' na c'] 42)).alloc (oO a ac sd pr q)).alloc (.cells #[.slice none 0 0, .slice none 0 0] 42) := ⟨_, rfl⟩
          have BW : Hid (Below w.heap.size w W) := by rw [hW]; exact ((((Below.refl _ w).alloc (Nat.le_refl _) _).alloc (by simp) _).alloc (by simp; omega) _)
          have T : Hid (Two W (w.heap.size + 1 + 1)) := by rw [hW]; exact two_made _ _ _ _ _
          have FVE : Hid (Five W (w.heap.size + 1)) := by rw [hW]; exact made3_five2 _ _ _ _ _ _ _ _
          have e0 : W.cell? ⟨w.heap.size, 0, none⟩ = some (.slice p nb c) := by rw [hW]; exact cell_alloc (cell_alloc (new_cell _ _ _ _ _ rfl) _) _
          have e1 : W.cell? ⟨w.heap.size, 1, none⟩ = some (.slice p' na c') := by rw [hW]; exact cell_alloc (cell_alloc (new_cell _ _ _ _ _ rfl) _) _
          have f0 : W.cell? ⟨w.heap.size + 1, 0, none⟩ = some (.int .i64 a) := by rw [hW]; exact cell_alloc (new_cell2 _ _ _ _ _ _ rfl) _
          have f1 : W.cell? ⟨w.heap.size + 1, 1, none⟩ = some (.int .i64 ac) := by rw [hW]; exact cell_alloc (new_cell2 _ _ _ _ _ _ rfl) _
          have f2 : W.cell? ⟨w.heap.size + 1, 2, none⟩ = some (.int .i64 sd) := by rw [hW]; exact cell_alloc (new_cell2 _ _ _ _ _ _ rfl) _
          have f3 : W.cell? ⟨w.heap.size + 1, 3, none⟩ = some (.int .i64 pr) := by rw [hW]; exact cell_alloc (new_cell2 _ _ _ _ _ _ rfl) _
          have f4 : W.cell? ⟨w.heap.size + 1, 4, none⟩ = some (.int .i64 q) := by rw [hW]; exact cell_alloc (new_cell2 _ _ _ _ _ _ rfl) _
          have SZW : Hid (W.heap.size = w.heap.size + 3) := by show _ = _; rw [hW]; simp
          rw [← hW]
          clear hW
          have KEEP : Hid (∀ x, Below W.heap.size W x → x.cell? ⟨w.heap.size, 0, none⟩ = some (.slice p nb c) ∧ x.cell? ⟨w.heap.size, 1, none⟩ = some (.slice p' na c') ∧ x.cell? ⟨w.heap.size + 1, 0, none⟩ = some (.int .i64 a) ∧ x.cell? ⟨w.heap.size + 1, 1, none⟩ = some (.int .i64 ac) ∧ x.cell? ⟨w.heap.size + 1, 2, none⟩ = some (.int .i64 sd) ∧ x.cell? ⟨w.heap.size + 1, 3, none⟩ = some (.int .i64 pr) ∧ x.cell? ⟨w.heap.size + 1, 4, none⟩ = some (.int .i64 q)) := fun x hx =>
            have k := fun ad v (he : W.cell? ad = some v) => (hx.cell (World.block_lt_of_cell? _ _ he)).trans he
            ⟨k _ _ e0, k _ _ e1, k _ _ f0, k _ _ f1, k _ _ f2, k _ _ f3, k _ _ f4⟩
          have hC : ∀ q1 : InC (fun x => Below W.heap.size W x), ∀ x v, W.cell? x = some v → q1.w.cell? x = some v := fun q1 x v hx => (q1.h.cell (World.block_lt_of_cell? _ _ hx)).trans hx
          generalize hCC : (fun x => Below W.heap.size W x) = C at hC
          have g0 := fun q1 => hC q1 _ _ e0
          have g1 := fun q1 => hC q1 _ _ e1
          have l0 := fun q1 => hC q1 _ _ f0
          have CE := hide hCC
          have CS : Hid (Shut C) := by rw [← CE.out]; exact shut_below W
          have CW : Hid (∀ x, C x → Below W.heap.size W x) := fun x hx => by rw [← CE.out] at hx; exact hx
          have C0 : Hid (C { W with drawn := W.drawn + 1 }) := by rw [← CE.out]; exact below_drawn _
          clear hC hCC e0 e1 f0 f1 f2 f3 f4
          refine wp_region_mix [(0, true), (1, true), (2, true), (3, true), (4, true), (5, true), (6, true), (9, true), (10, true), (7, false), (8, false), (11, false), (12, false)] C mixed (by kernel_rfl) C0.out ?_
          repeat (refine mix_still (by rfl) ?_; go_big_quiet_step (exact rfl); refine wpQuiet_nil ?_)
          refine mix_main (by rfl) ?_
          rintro ⟨x1, hx1⟩
          have FX := hide (FD.out x1 (BW.out.trans ((CW.out x1 hx1).mono BW.out.size)))
          go_wp2_with (go_at_call 44; refine FX.out.mono ?_; rintro e w' ⟨rfl, hb'⟩)
          refine ⟨C, CS.out x1 _ hx1 hb', fun _ h => h, ?_⟩
          clear hx1 hb' FX x1
          refine mix_main (by rfl) ?_
          rintro ⟨x1, hx1⟩
          go_wp2
          rename_i K hK
          refine hK _ _ ?_
          simp only [List.getElem_toArray, List.getElem_cons_zero]
          clear hK K
          go_wp2
          refine ⟨C, hx1, fun _ h => h, ?_⟩
          clear hx1 x1
          refine mix_main (by rfl) ?_
          rintro ⟨x1, hx1⟩
          go_wp2
          refine ⟨C, hx1, fun _ h => h, ?_⟩
          clear hx1 x1
          refine mix_main (by rfl) ?_
          rintro ⟨x1, hx1⟩
          go_wp2
          refine ⟨C, hx1, fun _ h => h, ?_⟩
          clear hx1 x1
          refine mix_end ?_
          rintro ⟨x9, hx9⟩
          dsimp only
          have B9 := hide (CW.out x9 hx9)
          obtain ⟨e0, e1, f0, f1, f2, f3, f4⟩ := KEEP.out x9 B9.out
          have TX := hide (two_below T.out B9.out)
          have BX := hide (BW.out.trans (B9.out.mono BW.out.size))
          clear hx9 CS CW C0 CE g0 g1 l0
          go_wp2_with fail
          refine (CK.out _).mono ?_
          rintro e w2 ⟨rfl, hb2⟩
          have B2 := hide (B9.out.trans (hb2.mono B9.out.size))
          obtain ⟨e0, e1, f0, f1, f2, f3, f4⟩ := KEEP.out w2 B2.out
          have BX2 := hide (BW.out.trans (B2.out.mono BW.out.size))
          clear hb2 BX TX
          go_wp2_with fail
          refine (TKN.out _ BX2.out).mono ?_
          rintro e w4 ⟨p1, c1, p2, c2, vF, rfl, o1, o2, of, hb4, g1, g2⟩
          obtain ⟨pF, cF, rfl⟩ := ownF_form of
          have B4 := hide (B2.out.trans (hb4.mono B2.out.size))
          have O1 := hide o1
          have O2 := hide o2
          have OF := hide of
          have s2 : w.heap.size + 3 ≤ w2.heap.size := by have := B2.out.size; have := SZW.out; omega
          have G1 : Hid (∀ a, p1 = some a → w.heap.size + 3 ≤ a.block) := fun a ha => by have := g1 a ha; omega
          have G2 : Hid (∀ a, p2 = some a → w.heap.size + 3 ≤ a.block) := fun a ha => by have := g2 a ha; omega
          have S2 := hide s2
          have S4 := hide hb4.size
          clear o1 o2 of hb4 g1 g2 s2 e0 e1 f0 f1 f2 f3 f4
          obtain ⟨V, hV⟩ : ∃ V, V = w4.alloc (.cells #[.slice p1 B.length c1, .slice p2 A.length c2] 42) := ⟨_, rfl⟩
          have BV : Hid (Below W.heap.size W V) := by rw [hV]; exact B4.out.alloc B4.out.size _
          have BXV := hide (BW.out.trans (BV.out.mono BW.out.size))
          have TV := hide (two_below T.out BV.out)
          have HV := hide hV
          clear hV
          have v0 : V.cell? ⟨w4.heap.size, 0, none⟩ = some (.slice p1 B.length c1) := by rw [HV.out]; exact new_cell w4 _ _ 0 _ rfl
          have v1 : V.cell? ⟨w4.heap.size, 1, none⟩ = some (.slice p2 A.length c2) := by rw [HV.out]; exact new_cell w4 _ _ 1 _ rfl
          have hb : Below w4.heap.size w4 V := by rw [HV.out]; exact (Below.refl _ w4).alloc (Nat.le_refl _) _
          have P1 := hide (ov_below_two (t := w.heap.size + 1 + 1) (v0 := .slice p1 B.length c1) (v1 := .slice p2 A.length c2) (O1.out.below hb) (fun a ha => by have := G1.out a ha; omega))
          have P2 := hide (ov_below_two (t := w.heap.size + 1 + 1) (v0 := .slice p1 B.length c1) (v1 := .slice p2 A.length c2) (O2.out.below hb) (fun a ha => by have := G2.out a ha; omega))
          have PF : Hid (V.ownsRow w2.heap.size 74 7 (.slice pF F.length cF) F.length (flatF F)) := by rw [HV.out]; exact OF.out.alloc _
          obtain ⟨u0, u1, t0, t1, t2, t3⟩ := two_facts TV.out
          obtain ⟨y0, y1⟩ := two_set TV.out (.slice p1 B.length c1) (.slice p2 A.length c2)
          clear hb
          go_wp2_with (rw [← HV.out])
          refine bodyPost_ret (v := .tuple #[.agg #[.slice p1 B.length c1, .slice p2 A.length c2], .slice pF F.length cF, .int .i64 lf, .int .i64 0]) (by simp [results, Try.results54, go_sem, y0, y1]) rfl ⟨p1, c1, p2, c2, _, rfl, P1.out, P2.out, ?_, two_below_set BXV.out (by omega) _ _⟩
          have g1 := S2.out
          exact own_base (ownsRow_setCell_below (ownsRow_setCell_below PF.out (by show w.heap.size + 1 + 1 < _; omega) _) (by show w.heap.size + 1 + 1 < _; omega) _) (by omega)
  · by_cases h4 : how = 4
    · rw [if_pos ⟨h4, .inr rfl⟩] at hr; exact absurd hr (by decide)
    · rw [if_neg (fun e => h4 e.1), if_pos rfl] at hr; exact absurd hr (by decide)
end Go.Proofs.Ytbphljnncbiddaa.Tk
namespace Go.Proofs.Ytbphljnncbiddaa.Tk
open Go.RowKit Go.Sort Go.Maps Go.Proofs.Ytbphljnncbiddaa.Mix Go.Proofs.Ytbphljnncbiddaa.Bk Go.Proofs.Ytbphljnncbiddaa.Rk

set_option maxHeartbeats 4000000 in
set_option maxRecDepth 100000 in
theorem came_8 (p p' : Option Addr) (c c' nb na : Nat) (a ac sd pr q how r : Int) (w : World) (B A RB RA : List Odr) (F : List Fil) (lf : Int) (met : Bool) (ha : ¬ a = 0) (h1 : 1 ≤ how) (h2 : how ≤ 4) (hl : 0 ≤ lf) (hr : allowsE how F.length lf met = 0) (hs : stays how lf = false) (hr0 : ¬ r = 0)
    (FD : Hid (∀ X, Below w.heap.size w X → Calls Try.prog 44 #[.agg #[.slice p nb c, .slice p' na c'], .int .i64 a] X fun e w' => e = .returned (.agg #[.int .i64 0, .int .i64 0, .int .i64 0, .int .i64 0, .int .i64 0]) ∧ Below X.heap.size X w'))
    (CK : Hid (∀ X, Calls Try.prog 38 #[.agg #[.int .i64 a, .int .i64 ac, .int .i64 sd, .int .i64 pr, .int .i64 q]] X fun e w' => e = .returned (.int .i64 0) ∧ Below X.heap.size X w'))
    (TKN : Hid (∀ X, Below w.heap.size w X → Calls Try.prog 52 #[.agg #[.slice p nb c, .slice p' na c'], .agg #[.int .i64 a, .int .i64 ac, .int .i64 sd, .int .i64 pr, .int .i64 q]] X fun e w' => TakenPost X B A F lf met e w'))
    (RES : Hid (∀ X p1 p2 c1 c2, OV X p1 c1 B → OV X p2 c2 A → Calls Try.prog 43 #[.agg #[.slice p1 B.length c1, .slice p2 A.length c2], .agg #[.int .i64 a, .int .i64 ac, .int .i64 sd, .int .i64 pr, .int .i64 lf]] X fun e w' => ∃ v, e = .returned (.tuple #[v, .int .i64 r]) ∧ BookOut X RB RA v w' ∧ Below X.heap.size X w')) :
    Calls Try.prog 54 #[.agg #[.slice p nb c, .slice p' na c'], .agg #[.int .i64 a, .int .i64 ac, .int .i64 sd, .int .i64 pr, .int .i64 q], .int .i64 how] w (CamePost w [] [] [] 0 r) := by
  have er : (r == 0) = false := by simp [hr0]
  unfold allowsE at hr
  have hst : ¬ (lf = 0 ∨ how = 2) := by simpa [stays] using hs
  have hl1 : ¬ lf = 0 := fun e => hst (.inl e)
  have hl2 : (lf == 0) = false := by simp [hl1]
  have h22 : ¬ how = 2 := fun e => hst (.inr e)
  have b2 : (how == 2) = false := by simp [h22]
  cases met
  rotate_left
  · by_cases h4 : how = 4
    · rw [if_pos ⟨h4, .inr rfl⟩] at hr; exact absurd hr (by decide)
    · rw [if_neg (fun e => h4 e.1), if_pos rfl] at hr; exact absurd hr (by decide)
  have h33 : ¬ how = 3 := fun e => by rw [if_neg (fun e2 => by omega), if_neg (by decide), if_pos ⟨e, by omega⟩] at hr; exact absurd hr (by decide)
  have b3 : (how == 3) = false := by simp [h33]
  by_cases h4 : how = 4
  · have b4 : (how == 4) = true := by simp [h4]
    have hF : ¬ 0 < F.length := fun e => by rw [if_pos ⟨h4, .inl e⟩] at hr; exact absurd hr (by decide)
    have hFz : ¬ (0 : Int) < (F.length : Int) := by omega
    clear hr hs hst h4 hF h22 h33
    have hab : (a != 0) = true := by simp [ha]
    have hna : ¬ (0 : Int) = a := fun e => ha e.symm
    clear ha
    have mixed : Try.prog.follows .mixedOrders = true := by kernel_rfl
    have F1 := hide camef_any
    go_enter Try.func54, Try.ntmps54
    go_wp2_with fail
    obtain ⟨W, hW⟩ : ∃ W, W = ((w.alloc (.cells #[.slice p nb c, .slice p' na c'] 42)).alloc (oO a ac sd pr q)).alloc (.cells #[.slice none 0 0, .slice none 0 0] 42) := ⟨_, rfl⟩
    have BW : Hid (Below w.heap.size w W) := by rw [hW]; exact ((((Below.refl _ w).alloc (Nat.le_refl _) _).alloc (by simp) _).alloc (by simp; omega) _)
    have T : Hid (Two W (w.heap.size + 1 + 1)) := by rw [hW]; exact two_made _ _ _ _ _
    have FVE : Hid (Five W (w.heap.size + 1)) := by rw [hW]; exact made3_five2 _ _ _ _ _ _ _ _
    have e0 : W.cell? ⟨w.heap.size, 0, none⟩ = some (.slice p nb c) := by rw [hW]; exact cell_alloc (cell_alloc (new_cell _ _ _ _ _ rfl) _) _
    have e1 : W.cell? ⟨w.heap.size, 1, none⟩ = some (.slice p' na c') := by rw [hW]; exact cell_alloc (cell_alloc (new_cell _ _ _ _ _ rfl) _) _
    have f0 : W.cell? ⟨w.heap.size + 1, 0, none⟩ = some (.int .i64 a) := by rw [hW]; exact cell_alloc (new_cell2 _ _ _ _ _ _ rfl) _
    have f1 : W.cell? ⟨w.heap.size + 1, 1, none⟩ = some (.int .i64 ac) := by rw [hW]; exact cell_alloc (new_cell2 _ _ _ _ _ _ rfl) _
    have f2 : W.cell? ⟨w.heap.size + 1, 2, none⟩ = some (.int .i64 sd) := by rw [hW]; exact cell_alloc (new_cell2 _ _ _ _ _ _ rfl) _
    have f3 : W.cell? ⟨w.heap.size + 1, 3, none⟩ = some (.int .i64 pr) := by rw [hW]; exact cell_alloc (new_cell2 _ _ _ _ _ _ rfl) _
    have f4 : W.cell? ⟨w.heap.size + 1, 4, none⟩ = some (.int .i64 q) := by rw [hW]; exact cell_alloc (new_cell2 _ _ _ _ _ _ rfl) _
    have SZW : Hid (W.heap.size = w.heap.size + 3) := by show _ = _; rw [hW]; simp
    rw [← hW]
    clear hW
    have KEEP : Hid (∀ x, Below W.heap.size W x → x.cell? ⟨w.heap.size, 0, none⟩ = some (.slice p nb c) ∧ x.cell? ⟨w.heap.size, 1, none⟩ = some (.slice p' na c') ∧ x.cell? ⟨w.heap.size + 1, 0, none⟩ = some (.int .i64 a) ∧ x.cell? ⟨w.heap.size + 1, 1, none⟩ = some (.int .i64 ac) ∧ x.cell? ⟨w.heap.size + 1, 2, none⟩ = some (.int .i64 sd) ∧ x.cell? ⟨w.heap.size + 1, 3, none⟩ = some (.int .i64 pr) ∧ x.cell? ⟨w.heap.size + 1, 4, none⟩ = some (.int .i64 q)) := fun x hx =>
      have k := fun ad v (he : W.cell? ad = some v) => (hx.cell (World.block_lt_of_cell? _ _ he)).trans he
      ⟨k _ _ e0, k _ _ e1, k _ _ f0, k _ _ f1, k _ _ f2, k _ _ f3, k _ _ f4⟩
    have hC : ∀ q1 : InC (fun x => Below W.heap.size W x), ∀ x v, W.cell? x = some v → q1.w.cell? x = some v := fun q1 x v hx => (q1.h.cell (World.block_lt_of_cell? _ _ hx)).trans hx
    generalize hCC : (fun x => Below W.heap.size W x) = C at hC
    have g0 := fun q1 => hC q1 _ _ e0
    have g1 := fun q1 => hC q1 _ _ e1
    have l0 := fun q1 => hC q1 _ _ f0
    have CE := hide hCC
    have CS : Hid (Shut C) := by rw [← CE.out]; exact shut_below W
    have CW : Hid (∀ x, C x → Below W.heap.size W x) := fun x hx => by rw [← CE.out] at hx; exact hx
    have C0 : Hid (C { W with drawn := W.drawn + 1 }) := by rw [← CE.out]; exact below_drawn _
    clear hC hCC e0 e1 f0 f1 f2 f3 f4
    refine wp_region_mix [(0, true), (1, true), (2, true), (3, true), (4, true), (5, true), (6, true), (9, true), (10, true), (7, false), (8, false), (11, false), (12, false)] C mixed (by kernel_rfl) C0.out ?_
    repeat (refine mix_still (by rfl) ?_; go_big_quiet_step (exact rfl); refine wpQuiet_nil ?_)
    refine mix_main (by rfl) ?_
    rintro ⟨x1, hx1⟩
    have FX := hide (FD.out x1 (BW.out.trans ((CW.out x1 hx1).mono BW.out.size)))
    go_wp2_with (go_at_call 44; refine FX.out.mono ?_; rintro e w' ⟨rfl, hb'⟩)
    refine ⟨C, CS.out x1 _ hx1 hb', fun _ h => h, ?_⟩
    clear hx1 hb' FX x1
    refine mix_main (by rfl) ?_
    rintro ⟨x1, hx1⟩
    go_wp2
    rename_i K hK
    refine hK _ _ ?_
    simp only [List.getElem_toArray, List.getElem_cons_zero]
    clear hK K
    go_wp2
    refine ⟨C, hx1, fun _ h => h, ?_⟩
    clear hx1 x1
    refine mix_main (by rfl) ?_
    rintro ⟨x1, hx1⟩
    go_wp2
    refine ⟨C, hx1, fun _ h => h, ?_⟩
    clear hx1 x1
    refine mix_main (by rfl) ?_
    rintro ⟨x1, hx1⟩
    go_wp2
    refine ⟨C, hx1, fun _ h => h, ?_⟩
    clear hx1 x1
    refine mix_end ?_
    rintro ⟨x9, hx9⟩
    dsimp only
    have B9 := hide (CW.out x9 hx9)
    obtain ⟨e0, e1, f0, f1, f2, f3, f4⟩ := KEEP.out x9 B9.out
    have TX := hide (two_below T.out B9.out)
    have BX := hide (BW.out.trans (B9.out.mono BW.out.size))
    clear hx9 CS CW C0 CE g0 g1 l0
    go_wp2_with fail
    refine (CK.out _).mono ?_
    rintro e w2 ⟨rfl, hb2⟩
    have B2 := hide (B9.out.trans (hb2.mono B9.out.size))
    obtain ⟨e0, e1, f0, f1, f2, f3, f4⟩ := KEEP.out w2 B2.out
    have BX2 := hide (BW.out.trans (B2.out.mono BW.out.size))
    clear hb2 BX TX
    go_wp2_with fail
    refine (TKN.out _ BX2.out).mono ?_
    rintro e w4 ⟨p1, c1, p2, c2, vF, rfl, o1, o2, of, hb4, g1, g2⟩
    obtain ⟨pF, cF, rfl⟩ := ownF_form of
    have B4 := hide (B2.out.trans (hb4.mono B2.out.size))
    have O1 := hide o1
    have O2 := hide o2
    have OF := hide of
    have s2 : w.heap.size + 3 ≤ w2.heap.size := by have := B2.out.size; have := SZW.out; omega
    have G1 : Hid (∀ a, p1 = some a → w.heap.size + 3 ≤ a.block) := fun a ha => by have := g1 a ha; omega
    have G2 : Hid (∀ a, p2 = some a → w.heap.size + 3 ≤ a.block) := fun a ha => by have := g2 a ha; omega
    have S2 := hide s2
    have S4 := hide hb4.size
    clear o1 o2 of hb4 g1 g2 s2 e0 e1 f0 f1 f2 f3 f4
    obtain ⟨V, hV⟩ : ∃ V, V = w4.alloc (.cells #[.slice p1 B.length c1, .slice p2 A.length c2] 42) := ⟨_, rfl⟩
    have BV : Hid (Below W.heap.size W V) := by rw [hV]; exact B4.out.alloc B4.out.size _
    have BXV := hide (BW.out.trans (BV.out.mono BW.out.size))
    have TV := hide (two_below T.out BV.out)
    have HV := hide hV
    clear hV
    have v0 : V.cell? ⟨w4.heap.size, 0, none⟩ = some (.slice p1 B.length c1) := by rw [HV.out]; exact new_cell w4 _ _ 0 _ rfl
    have v1 : V.cell? ⟨w4.heap.size, 1, none⟩ = some (.slice p2 A.length c2) := by rw [HV.out]; exact new_cell w4 _ _ 1 _ rfl
    have hb : Below w4.heap.size w4 V := by rw [HV.out]; exact (Below.refl _ w4).alloc (Nat.le_refl _) _
    have NX : Hid (Two V w4.heap.size) := by rw [HV.out]; exact ⟨_, _, heap_alloc_new w4 _⟩
    have PF : Hid (V.ownsRow w2.heap.size 74 7 (.slice pF F.length cF) F.length (flatF F)) := by rw [HV.out]; exact OF.out.alloc _
    obtain ⟨-, -, f0, f1, f2, f3, f4⟩ := KEEP.out V BV.out
    have FV5 := hide (five_below FVE.out BV.out)
    obtain ⟨-, -, -, -, -, z4⟩ := five_facts FV5.out
    have s4 := S4.out
    have s2 := S2.out
    have n1 : ¬ w4.heap.size = w.heap.size + 1 := by omega
    have n2 : ¬ w.heap.size + 1 = w4.heap.size := by omega
    have n3 : ¬ w4.heap.size = w.heap.size + 1 + 1 := by omega
    have n4 : ¬ w.heap.size + 1 + 1 = w4.heap.size := by omega
    obtain ⟨V2, hV2⟩ : ∃ V2, V2 = V.setCell ⟨w.heap.size + 1, 4, none⟩ (.int .i64 lf) := ⟨_, rfl⟩
    have OV1 : Hid (OV V2 p1 c1 B) := by rw [hV2]; exact ov_set (O1.out.below hb) (fun a ha => by have := G1.out a ha; omega) _
    have OV2 : Hid (OV V2 p2 c2 A) := by rw [hV2]; exact ov_set (O2.out.below hb) (fun a ha => by have := G2.out a ha; omega) _
    have PF2 : Hid (V2.ownsRow w2.heap.size 74 7 (.slice pF F.length cF) F.length (flatF F)) := by rw [hV2]; exact ownsRow_setCell_below PF.out (by show w.heap.size + 1 < _; omega) _
    have BX2 : Hid (Below w.heap.size w V2) := by rw [hV2]; exact BXV.out.setCell (by show _ ≤ w.heap.size + 1; omega) _
    have T2 : Hid (Two V2 (w.heap.size + 1 + 1)) := by
      rw [hV2]
      obtain ⟨u0, u1, hu⟩ := TV.out
      exact ⟨u0, u1, by rw [Below.heap_setCell _ _ _ _ (by simp)]; exact hu⟩
    have NX2 : Hid (Two V2 w4.heap.size) := by
      rw [hV2]
      obtain ⟨u0, u1, hu⟩ := NX.out
      exact ⟨u0, u1, by rw [Below.heap_setCell _ _ _ _ (by simpa using n1)]; exact hu⟩
    have SV2 : Hid (w4.heap.size < V2.heap.size) := two_lt NX2.out
    have RC := hide (RES.out V2 p1 p2 c1 c2 OV1.out OV2.out)
    have HV2 := hide hV2
    clear hV2 hb OV1 OV2 O1 O2 OF
    go_wp2_with (rw [← HV.out])
    rw [← HV2.out]
    refine RC.out.mono ?_
    rintro e w5 ⟨v, rfl, ⟨p3, c3, p4, c4, rfl, o3, o4, g3, g4⟩, hb5⟩
    have T5 := hide (two_below T2.out hb5)
    have N5 := hide (two_below NX2.out hb5)
    have B5 := hide (BX2.out.trans (hb5.mono BX2.out.size))
    have PF5 : Hid (w5.ownsRow w2.heap.size 74 7 (.slice pF F.length cF) F.length (flatF F)) := PF2.out.kept (row := none) ⟨hb5.os, hb5.tape, hb5.output, hb5.size, fun k hk _ => hb5.block k hk⟩ (by cases hv : (Value.slice pF F.length cF).ownBlock <;> simp)
    have G3 : Hid (∀ a, p3 = some a → w4.heap.size < a.block) := fun a ha => by have := g3 a ha; have := SV2.out; omega
    have G4 : Hid (∀ a, p4 = some a → w4.heap.size < a.block) := fun a ha => by have := g4 a ha; have := SV2.out; omega
    obtain ⟨X6, hX6⟩ : ∃ X6, X6 = (w5.setCell ⟨w4.heap.size, 0, none⟩ (.slice p3 RB.length c3)).setCell ⟨w4.heap.size, 1, none⟩ (.slice p4 RA.length c4) := ⟨_, rfl⟩
    obtain ⟨y0, y1⟩ := two_set N5.out (.slice p3 RB.length c3) (.slice p4 RA.length c4)
    rw [← hX6] at y0 y1
    have T6 : Hid (Two X6 (w.heap.size + 1 + 1)) := by
      rw [hX6]
      obtain ⟨u0, u1, hu⟩ := T5.out
      exact ⟨u0, u1, by rw [Below.heap_setCell _ _ _ _ (by simpa using n4), Below.heap_setCell _ _ _ _ (by simpa using n4)]; exact hu⟩
    have B6 : Hid (Below w.heap.size w X6) := by rw [hX6]; exact two_below_set B5.out (by omega) _ _
    have P3 : Hid (OV X6 p3 c3 RB) := by rw [hX6]; exact ov_below_two o3 (fun a ha => by have := G3.out a ha; omega)
    have P4 : Hid (OV X6 p4 c4 RA) := by rw [hX6]; exact ov_below_two o4 (fun a ha => by have := G4.out a ha; omega)
    have HX6 := hide hX6
    obtain ⟨d0, d1, t0, t1, t2, t3⟩ := two_facts N5.out
    clear hb5 o3 o4 g3 g4 hX6 RC
    go_wp2_with fail
    rw [← HX6.out]
    refine (F1.out _ _).mono ?_
    rintro e WF ⟨rfl, hbF⟩
    have TF := hide (two_below T6.out hbF)
    have BF := hide (B6.out.trans (hbF.mono B6.out.size))
    obtain ⟨uf0, uf1, tf0, tf1, tf2, tf3⟩ := two_facts TF.out
    clear hbF
    go_wp2
    obtain ⟨sf0, sf1⟩ := two_set TF.out (.slice none 0 0) (.slice none 0 0)
    refine bodyPost_ret (v := .tuple #[.agg #[.slice none 0 0, .slice none 0 0], .slice none 0 0, .int .i64 0, .int .i64 r]) (by simp [results, Try.results54, go_sem, sf0, sf1]) rfl ⟨none, 0, none, 0, .slice none 0 0, rfl, ov_nil _, ov_nil _, World.ownsRow_nil _ _ _ _, two_below_set BF.out (by omega) _ _⟩
  · have b4 : (how == 4) = false := by simp [h4]
    clear hr hs hst h4 h22 h33
    have hab : (a != 0) = true := by simp [ha]
    have hna : ¬ (0 : Int) = a := fun e => ha e.symm
    clear ha
    have mixed : Try.prog.follows .mixedOrders = true := by kernel_rfl
    have F1 := hide camef_any
    go_enter Try.func54, Try.ntmps54
    go_wp2_with fail
    obtain ⟨W, hW⟩ : ∃ W, W = ((w.alloc (.cells #[.slice p nb c, .slice p' na c'] 42)).alloc (oO a ac sd pr q)).alloc (.cells #[.slice none 0 0, .slice none 0 0] 42) := ⟨_, rfl⟩
    have BW : Hid (Below w.heap.size w W) := by rw [hW]; exact ((((Below.refl _ w).alloc (Nat.le_refl _) _).alloc (by simp) _).alloc (by simp; omega) _)
    have T : Hid (Two W (w.heap.size + 1 + 1)) := by rw [hW]; exact two_made _ _ _ _ _
    have FVE : Hid (Five W (w.heap.size + 1)) := by rw [hW]; exact made3_five2 _ _ _ _ _ _ _ _
    have e0 : W.cell? ⟨w.heap.size, 0, none⟩ = some (.slice p nb c) := by rw [hW]; exact cell_alloc (cell_alloc (new_cell _ _ _ _ _ rfl) _) _
    have e1 : W.cell? ⟨w.heap.size, 1, none⟩ = some (.slice p' na c') := by rw [hW]; exact cell_alloc (cell_alloc (new_cell _ _ _ _ _ rfl) _) _
    have f0 : W.cell? ⟨w.heap.size + 1, 0, none⟩ = some (.int .i64 a) := by rw [hW]; exact cell_alloc (new_cell2 _ _ _ _ _ _ rfl) _
    have f1 : W.cell? ⟨w.heap.size + 1, 1, none⟩ = some (.int .i64 ac) := by rw [hW]; exact cell_alloc (new_cell2 _ _ _ _ _ _ rfl) _
    have f2 : W.cell? ⟨w.heap.size + 1, 2, none⟩ = some (.int .i64 sd) := by rw [hW]; exact cell_alloc (new_cell2 _ _ _ _ _ _ rfl) _
    have f3 : W.cell? ⟨w.heap.size + 1, 3, none⟩ = some (.int .i64 pr) := by rw [hW]; exact cell_alloc (new_cell2 _ _ _ _ _ _ rfl) _
    have f4 : W.cell? ⟨w.heap.size + 1, 4, none⟩ = some (.int .i64 q) := by rw [hW]; exact cell_alloc (new_cell2 _ _ _ _ _ _ rfl) _
    have SZW : Hid (W.heap.size = w.heap.size + 3) := by show _ = _; rw [hW]; simp
    rw [← hW]
    clear hW
    have KEEP : Hid (∀ x, Below W.heap.size W x → x.cell? ⟨w.heap.size, 0, none⟩ = some (.slice p nb c) ∧ x.cell? ⟨w.heap.size, 1, none⟩ = some (.slice p' na c') ∧ x.cell? ⟨w.heap.size + 1, 0, none⟩ = some (.int .i64 a) ∧ x.cell? ⟨w.heap.size + 1, 1, none⟩ = some (.int .i64 ac) ∧ x.cell? ⟨w.heap.size + 1, 2, none⟩ = some (.int .i64 sd) ∧ x.cell? ⟨w.heap.size + 1, 3, none⟩ = some (.int .i64 pr) ∧ x.cell? ⟨w.heap.size + 1, 4, none⟩ = some (.int .i64 q)) := fun x hx =>
      have k := fun ad v (he : W.cell? ad = some v) => (hx.cell (World.block_lt_of_cell? _ _ he)).trans he
      ⟨k _ _ e0, k _ _ e1, k _ _ f0, k _ _ f1, k _ _ f2, k _ _ f3, k _ _ f4⟩
    have hC : ∀ q1 : InC (fun x => Below W.heap.size W x), ∀ x v, W.cell? x = some v → q1.w.cell? x = some v := fun q1 x v hx => (q1.h.cell (World.block_lt_of_cell? _ _ hx)).trans hx
    generalize hCC : (fun x => Below W.heap.size W x) = C at hC
    have g0 := fun q1 => hC q1 _ _ e0
    have g1 := fun q1 => hC q1 _ _ e1
    have l0 := fun q1 => hC q1 _ _ f0
    have CE := hide hCC
    have CS : Hid (Shut C) := by rw [← CE.out]; exact shut_below W
    have CW : Hid (∀ x, C x → Below W.heap.size W x) := fun x hx => by rw [← CE.out] at hx; exact hx
    have C0 : Hid (C { W with drawn := W.drawn + 1 }) := by rw [← CE.out]; exact below_drawn _
    clear hC hCC e0 e1 f0 f1 f2 f3 f4
    refine wp_region_mix [(0, true), (1, true), (2, true), (3, true), (4, true), (5, true), (6, true), (9, true), (10, true), (7, false), (8, false), (11, false), (12, false)] C mixed (by kernel_rfl) C0.out ?_
    repeat (refine mix_still (by rfl) ?_; go_big_quiet_step (exact rfl); refine wpQuiet_nil ?_)
    refine mix_main (by rfl) ?_
    rintro ⟨x1, hx1⟩
    have FX := hide (FD.out x1 (BW.out.trans ((CW.out x1 hx1).mono BW.out.size)))
    go_wp2_with (go_at_call 44; refine FX.out.mono ?_; rintro e w' ⟨rfl, hb'⟩)
    refine ⟨C, CS.out x1 _ hx1 hb', fun _ h => h, ?_⟩
    clear hx1 hb' FX x1
    refine mix_main (by rfl) ?_
    rintro ⟨x1, hx1⟩
    go_wp2
    rename_i K hK
    refine hK _ _ ?_
    simp only [List.getElem_toArray, List.getElem_cons_zero]
    clear hK K
    go_wp2
    refine ⟨C, hx1, fun _ h => h, ?_⟩
    clear hx1 x1
    refine mix_main (by rfl) ?_
    rintro ⟨x1, hx1⟩
    go_wp2
    refine ⟨C, hx1, fun _ h => h, ?_⟩
    clear hx1 x1
    refine mix_main (by rfl) ?_
    rintro ⟨x1, hx1⟩
    go_wp2
    refine ⟨C, hx1, fun _ h => h, ?_⟩
    clear hx1 x1
    refine mix_end ?_
    rintro ⟨x9, hx9⟩
    dsimp only
    have B9 := hide (CW.out x9 hx9)
    obtain ⟨e0, e1, f0, f1, f2, f3, f4⟩ := KEEP.out x9 B9.out
    have TX := hide (two_below T.out B9.out)
    have BX := hide (BW.out.trans (B9.out.mono BW.out.size))
    clear hx9 CS CW C0 CE g0 g1 l0
    go_wp2_with fail
    refine (CK.out _).mono ?_
    rintro e w2 ⟨rfl, hb2⟩
    have B2 := hide (B9.out.trans (hb2.mono B9.out.size))
    obtain ⟨e0, e1, f0, f1, f2, f3, f4⟩ := KEEP.out w2 B2.out
    have BX2 := hide (BW.out.trans (B2.out.mono BW.out.size))
    clear hb2 BX TX
    go_wp2_with fail
    refine (TKN.out _ BX2.out).mono ?_
    rintro e w4 ⟨p1, c1, p2, c2, vF, rfl, o1, o2, of, hb4, g1, g2⟩
    obtain ⟨pF, cF, rfl⟩ := ownF_form of
    have B4 := hide (B2.out.trans (hb4.mono B2.out.size))
    have O1 := hide o1
    have O2 := hide o2
    have OF := hide of
    have s2 : w.heap.size + 3 ≤ w2.heap.size := by have := B2.out.size; have := SZW.out; omega
    have G1 : Hid (∀ a, p1 = some a → w.heap.size + 3 ≤ a.block) := fun a ha => by have := g1 a ha; omega
    have G2 : Hid (∀ a, p2 = some a → w.heap.size + 3 ≤ a.block) := fun a ha => by have := g2 a ha; omega
    have S2 := hide s2
    have S4 := hide hb4.size
    clear o1 o2 of hb4 g1 g2 s2 e0 e1 f0 f1 f2 f3 f4
    obtain ⟨V, hV⟩ : ∃ V, V = w4.alloc (.cells #[.slice p1 B.length c1, .slice p2 A.length c2] 42) := ⟨_, rfl⟩
    have BV : Hid (Below W.heap.size W V) := by rw [hV]; exact B4.out.alloc B4.out.size _
    have BXV := hide (BW.out.trans (BV.out.mono BW.out.size))
    have TV := hide (two_below T.out BV.out)
    have HV := hide hV
    clear hV
    have v0 : V.cell? ⟨w4.heap.size, 0, none⟩ = some (.slice p1 B.length c1) := by rw [HV.out]; exact new_cell w4 _ _ 0 _ rfl
    have v1 : V.cell? ⟨w4.heap.size, 1, none⟩ = some (.slice p2 A.length c2) := by rw [HV.out]; exact new_cell w4 _ _ 1 _ rfl
    have hb : Below w4.heap.size w4 V := by rw [HV.out]; exact (Below.refl _ w4).alloc (Nat.le_refl _) _
    have NX : Hid (Two V w4.heap.size) := by rw [HV.out]; exact ⟨_, _, heap_alloc_new w4 _⟩
    have PF : Hid (V.ownsRow w2.heap.size 74 7 (.slice pF F.length cF) F.length (flatF F)) := by rw [HV.out]; exact OF.out.alloc _
    obtain ⟨-, -, f0, f1, f2, f3, f4⟩ := KEEP.out V BV.out
    have FV5 := hide (five_below FVE.out BV.out)
    obtain ⟨-, -, -, -, -, z4⟩ := five_facts FV5.out
    have s4 := S4.out
    have s2 := S2.out
    have n1 : ¬ w4.heap.size = w.heap.size + 1 := by omega
    have n2 : ¬ w.heap.size + 1 = w4.heap.size := by omega
    have n3 : ¬ w4.heap.size = w.heap.size + 1 + 1 := by omega
    have n4 : ¬ w.heap.size + 1 + 1 = w4.heap.size := by omega
    obtain ⟨V2, hV2⟩ : ∃ V2, V2 = V.setCell ⟨w.heap.size + 1, 4, none⟩ (.int .i64 lf) := ⟨_, rfl⟩
    have OV1 : Hid (OV V2 p1 c1 B) := by rw [hV2]; exact ov_set (O1.out.below hb) (fun a ha => by have := G1.out a ha; omega) _
    have OV2 : Hid (OV V2 p2 c2 A) := by rw [hV2]; exact ov_set (O2.out.below hb) (fun a ha => by have := G2.out a ha; omega) _
    have PF2 : Hid (V2.ownsRow w2.heap.size 74 7 (.slice pF F.length cF) F.length (flatF F)) := by rw [hV2]; exact ownsRow_setCell_below PF.out (by show w.heap.size + 1 < _; omega) _
    have BX2 : Hid (Below w.heap.size w V2) := by rw [hV2]; exact BXV.out.setCell (by show _ ≤ w.heap.size + 1; omega) _
    have T2 : Hid (Two V2 (w.heap.size + 1 + 1)) := by
      rw [hV2]
      obtain ⟨u0, u1, hu⟩ := TV.out
      exact ⟨u0, u1, by rw [Below.heap_setCell _ _ _ _ (by simp)]; exact hu⟩
    have NX2 : Hid (Two V2 w4.heap.size) := by
      rw [hV2]
      obtain ⟨u0, u1, hu⟩ := NX.out
      exact ⟨u0, u1, by rw [Below.heap_setCell _ _ _ _ (by simpa using n1)]; exact hu⟩
    have SV2 : Hid (w4.heap.size < V2.heap.size) := two_lt NX2.out
    have RC := hide (RES.out V2 p1 p2 c1 c2 OV1.out OV2.out)
    have HV2 := hide hV2
    clear hV2 hb OV1 OV2 O1 O2 OF
    go_wp2_with (rw [← HV.out])
    rw [← HV2.out]
    refine RC.out.mono ?_
    rintro e w5 ⟨v, rfl, ⟨p3, c3, p4, c4, rfl, o3, o4, g3, g4⟩, hb5⟩
    have T5 := hide (two_below T2.out hb5)
    have N5 := hide (two_below NX2.out hb5)
    have B5 := hide (BX2.out.trans (hb5.mono BX2.out.size))
    have PF5 : Hid (w5.ownsRow w2.heap.size 74 7 (.slice pF F.length cF) F.length (flatF F)) := PF2.out.kept (row := none) ⟨hb5.os, hb5.tape, hb5.output, hb5.size, fun k hk _ => hb5.block k hk⟩ (by cases hv : (Value.slice pF F.length cF).ownBlock <;> simp)
    have G3 : Hid (∀ a, p3 = some a → w4.heap.size < a.block) := fun a ha => by have := g3 a ha; have := SV2.out; omega
    have G4 : Hid (∀ a, p4 = some a → w4.heap.size < a.block) := fun a ha => by have := g4 a ha; have := SV2.out; omega
    obtain ⟨X6, hX6⟩ : ∃ X6, X6 = (w5.setCell ⟨w4.heap.size, 0, none⟩ (.slice p3 RB.length c3)).setCell ⟨w4.heap.size, 1, none⟩ (.slice p4 RA.length c4) := ⟨_, rfl⟩
    obtain ⟨y0, y1⟩ := two_set N5.out (.slice p3 RB.length c3) (.slice p4 RA.length c4)
    rw [← hX6] at y0 y1
    have T6 : Hid (Two X6 (w.heap.size + 1 + 1)) := by
      rw [hX6]
      obtain ⟨u0, u1, hu⟩ := T5.out
      exact ⟨u0, u1, by rw [Below.heap_setCell _ _ _ _ (by simpa using n4), Below.heap_setCell _ _ _ _ (by simpa using n4)]; exact hu⟩
    have B6 : Hid (Below w.heap.size w X6) := by rw [hX6]; exact two_below_set B5.out (by omega) _ _
    have P3 : Hid (OV X6 p3 c3 RB) := by rw [hX6]; exact ov_below_two o3 (fun a ha => by have := G3.out a ha; omega)
    have P4 : Hid (OV X6 p4 c4 RA) := by rw [hX6]; exact ov_below_two o4 (fun a ha => by have := G4.out a ha; omega)
    have HX6 := hide hX6
    obtain ⟨d0, d1, t0, t1, t2, t3⟩ := two_facts N5.out
    clear hb5 o3 o4 g3 g4 hX6 RC
    go_wp2_with fail
    rw [← HX6.out]
    refine (F1.out _ _).mono ?_
    rintro e WF ⟨rfl, hbF⟩
    have TF := hide (two_below T6.out hbF)
    have BF := hide (B6.out.trans (hbF.mono B6.out.size))
    obtain ⟨uf0, uf1, tf0, tf1, tf2, tf3⟩ := two_facts TF.out
    clear hbF
    go_wp2
    obtain ⟨sf0, sf1⟩ := two_set TF.out (.slice none 0 0) (.slice none 0 0)
    refine bodyPost_ret (v := .tuple #[.agg #[.slice none 0 0, .slice none 0 0], .slice none 0 0, .int .i64 0, .int .i64 r]) (by simp [results, Try.results54, go_sem, sf0, sf1]) rfl ⟨none, 0, none, 0, .slice none 0 0, rfl, ov_nil _, ov_nil _, World.ownsRow_nil _ _ _ _, two_below_set BF.out (by omega) _ _⟩
set_option maxHeartbeats 4000000 in
set_option maxRecDepth 100000 in
theorem came_9 (p p' : Option Addr) (c c' nb na : Nat) (a ac sd pr q how : Int) (w : World) (B A RB RA : List Odr) (F : List Fil) (lf : Int) (met : Bool) (ha : ¬ a = 0) (h1 : 1 ≤ how) (h2 : how ≤ 4) (hl : 0 ≤ lf) (hr : allowsE how F.length lf met = 0) (hs : stays how lf = false)
    (FD : Hid (∀ X, Below w.heap.size w X → Calls Try.prog 44 #[.agg #[.slice p nb c, .slice p' na c'], .int .i64 a] X fun e w' => e = .returned (.agg #[.int .i64 0, .int .i64 0, .int .i64 0, .int .i64 0, .int .i64 0]) ∧ Below X.heap.size X w'))
    (CK : Hid (∀ X, Calls Try.prog 38 #[.agg #[.int .i64 a, .int .i64 ac, .int .i64 sd, .int .i64 pr, .int .i64 q]] X fun e w' => e = .returned (.int .i64 0) ∧ Below X.heap.size X w'))
    (TKN : Hid (∀ X, Below w.heap.size w X → Calls Try.prog 52 #[.agg #[.slice p nb c, .slice p' na c'], .agg #[.int .i64 a, .int .i64 ac, .int .i64 sd, .int .i64 pr, .int .i64 q]] X fun e w' => TakenPost X B A F lf met e w'))
    (RES : Hid (∀ X p1 p2 c1 c2, OV X p1 c1 B → OV X p2 c2 A → Calls Try.prog 43 #[.agg #[.slice p1 B.length c1, .slice p2 A.length c2], .agg #[.int .i64 a, .int .i64 ac, .int .i64 sd, .int .i64 pr, .int .i64 lf]] X fun e w' => ∃ v, e = .returned (.tuple #[v, .int .i64 0]) ∧ BookOut X RB RA v w' ∧ Below X.heap.size X w')) :
    Calls Try.prog 54 #[.agg #[.slice p nb c, .slice p' na c'], .agg #[.int .i64 a, .int .i64 ac, .int .i64 sd, .int .i64 pr, .int .i64 q], .int .i64 how] w (CamePost w RB RA F 0 0) := by
  unfold allowsE at hr
  have hst : ¬ (lf = 0 ∨ how = 2) := by simpa [stays] using hs
  have hl1 : ¬ lf = 0 := fun e => hst (.inl e)
  have hl2 : (lf == 0) = false := by simp [hl1]
  have h22 : ¬ how = 2 := fun e => hst (.inr e)
  have b2 : (how == 2) = false := by simp [h22]
  cases met
  rotate_left
  · by_cases h4 : how = 4
    · rw [if_pos ⟨h4, .inr rfl⟩] at hr; exact absurd hr (by decide)
    · rw [if_neg (fun e => h4 e.1), if_pos rfl] at hr; exact absurd hr (by decide)
  have h33 : ¬ how = 3 := fun e => by rw [if_neg (fun e2 => by omega), if_neg (by decide), if_pos ⟨e, by omega⟩] at hr; exact absurd hr (by decide)
  have b3 : (how == 3) = false := by simp [h33]
  by_cases h4 : how = 4
  · have b4 : (how == 4) = true := by simp [h4]
    have hF : ¬ 0 < F.length := fun e => by rw [if_pos ⟨h4, .inl e⟩] at hr; exact absurd hr (by decide)
    have hFz : ¬ (0 : Int) < (F.length : Int) := by omega
    clear hr hs hst h4 hF h22 h33
    have hab : (a != 0) = true := by simp [ha]
    have hna : ¬ (0 : Int) = a := fun e => ha e.symm
    clear ha
    have mixed : Try.prog.follows .mixedOrders = true := by kernel_rfl
    have F1 := hide camef_any
    go_enter Try.func54, Try.ntmps54
    go_wp2_with fail
    obtain ⟨W, hW⟩ : ∃ W, W = ((w.alloc (.cells #[.slice p nb c, .slice p' na c'] 42)).alloc (oO a ac sd pr q)).alloc (.cells #[.slice none 0 0, .slice none 0 0] 42) := ⟨_, rfl⟩
    have BW : Hid (Below w.heap.size w W) := by rw [hW]; exact ((((Below.refl _ w).alloc (Nat.le_refl _) _).alloc (by simp) _).alloc (by simp; omega) _)
    have T : Hid (Two W (w.heap.size + 1 + 1)) := by rw [hW]; exact two_made _ _ _ _ _
    have FVE : Hid (Five W (w.heap.size + 1)) := by rw [hW]; exact made3_five2 _ _ _ _ _ _ _ _
    have e0 : W.cell? ⟨w.heap.size, 0, none⟩ = some (.slice p nb c) := by rw [hW]; exact cell_alloc (cell_alloc (new_cell _ _ _ _ _ rfl) _) _
    have e1 : W.cell? ⟨w.heap.size, 1, none⟩ = some (.slice p' na c') := by rw [hW]; exact cell_alloc (cell_alloc (new_cell _ _ _ _ _ rfl) _) _
    have f0 : W.cell? ⟨w.heap.size + 1, 0, none⟩ = some (.int .i64 a) := by rw [hW]; exact cell_alloc (new_cell2 _ _ _ _ _ _ rfl) _
    have f1 : W.cell? ⟨w.heap.size + 1, 1, none⟩ = some (.int .i64 ac) := by rw [hW]; exact cell_alloc (new_cell2 _ _ _ _ _ _ rfl) _
    have f2 : W.cell? ⟨w.heap.size + 1, 2, none⟩ = some (.int .i64 sd) := by rw [hW]; exact cell_alloc (new_cell2 _ _ _ _ _ _ rfl) _
    have f3 : W.cell? ⟨w.heap.size + 1, 3, none⟩ = some (.int .i64 pr) := by rw [hW]; exact cell_alloc (new_cell2 _ _ _ _ _ _ rfl) _
    have f4 : W.cell? ⟨w.heap.size + 1, 4, none⟩ = some (.int .i64 q) := by rw [hW]; exact cell_alloc (new_cell2 _ _ _ _ _ _ rfl) _
    have SZW : Hid (W.heap.size = w.heap.size + 3) := by show _ = _; rw [hW]; simp
    rw [← hW]
    clear hW
    have KEEP : Hid (∀ x, Below W.heap.size W x → x.cell? ⟨w.heap.size, 0, none⟩ = some (.slice p nb c) ∧ x.cell? ⟨w.heap.size, 1, none⟩ = some (.slice p' na c') ∧ x.cell? ⟨w.heap.size + 1, 0, none⟩ = some (.int .i64 a) ∧ x.cell? ⟨w.heap.size + 1, 1, none⟩ = some (.int .i64 ac) ∧ x.cell? ⟨w.heap.size + 1, 2, none⟩ = some (.int .i64 sd) ∧ x.cell? ⟨w.heap.size + 1, 3, none⟩ = some (.int .i64 pr) ∧ x.cell? ⟨w.heap.size + 1, 4, none⟩ = some (.int .i64 q)) := fun x hx =>
      have k := fun ad v (he : W.cell? ad = some v) => (hx.cell (World.block_lt_of_cell? _ _ he)).trans he
      ⟨k _ _ e0, k _ _ e1, k _ _ f0, k _ _ f1, k _ _ f2, k _ _ f3, k _ _ f4⟩
    have hC : ∀ q1 : InC (fun x => Below W.heap.size W x), ∀ x v, W.cell? x = some v → q1.w.cell? x = some v := fun q1 x v hx => (q1.h.cell (World.block_lt_of_cell? _ _ hx)).trans hx
    generalize hCC : (fun x => Below W.heap.size W x) = C at hC
    have g0 := fun q1 => hC q1 _ _ e0
    have g1 := fun q1 => hC q1 _ _ e1
    have l0 := fun q1 => hC q1 _ _ f0
    have CE := hide hCC
    have CS : Hid (Shut C) := by rw [← CE.out]; exact shut_below W
    have CW : Hid (∀ x, C x → Below W.heap.size W x) := fun x hx => by rw [← CE.out] at hx; exact hx
    have C0 : Hid (C { W with drawn := W.drawn + 1 }) := by rw [← CE.out]; exact below_drawn _
    clear hC hCC e0 e1 f0 f1 f2 f3 f4
    refine wp_region_mix [(0, true), (1, true), (2, true), (3, true), (4, true), (5, true), (6, true), (9, true), (10, true), (7, false), (8, false), (11, false), (12, false)] C mixed (by kernel_rfl) C0.out ?_
    repeat (refine mix_still (by rfl) ?_; go_big_quiet_step (exact rfl); refine wpQuiet_nil ?_)
    refine mix_main (by rfl) ?_
    rintro ⟨x1, hx1⟩
    have FX := hide (FD.out x1 (BW.out.trans ((CW.out x1 hx1).mono BW.out.size)))
    go_wp2_with (go_at_call 44; refine FX.out.mono ?_; rintro e w' ⟨rfl, hb'⟩)
    refine ⟨C, CS.out x1 _ hx1 hb', fun _ h => h, ?_⟩
    clear hx1 hb' FX x1
    refine mix_main (by rfl) ?_
    rintro ⟨x1, hx1⟩
    go_wp2
    rename_i K hK
    refine hK _ _ ?_
    simp only [List.getElem_toArray, List.getElem_cons_zero]
    clear hK K
    go_wp2
    refine ⟨C, hx1, fun _ h => h, ?_⟩
    clear hx1 x1
    refine mix_main (by rfl) ?_
    rintro ⟨x1, hx1⟩
    go_wp2
    refine ⟨C, hx1, fun _ h => h, ?_⟩
    clear hx1 x1
    refine mix_main (by rfl) ?_
    rintro ⟨x1, hx1⟩
    go_wp2
    refine ⟨C, hx1, fun _ h => h, ?_⟩
    clear hx1 x1
    refine mix_end ?_
    rintro ⟨x9, hx9⟩
    dsimp only
    have B9 := hide (CW.out x9 hx9)
    obtain ⟨e0, e1, f0, f1, f2, f3, f4⟩ := KEEP.out x9 B9.out
    have TX := hide (two_below T.out B9.out)
    have BX := hide (BW.out.trans (B9.out.mono BW.out.size))
    clear hx9 CS CW C0 CE g0 g1 l0
    go_wp2_with fail
    refine (CK.out _).mono ?_
    rintro e w2 ⟨rfl, hb2⟩
    have B2 := hide (B9.out.trans (hb2.mono B9.out.size))
    obtain ⟨e0, e1, f0, f1, f2, f3, f4⟩ := KEEP.out w2 B2.out
    have BX2 := hide (BW.out.trans (B2.out.mono BW.out.size))
    clear hb2 BX TX
    go_wp2_with fail
    refine (TKN.out _ BX2.out).mono ?_
    rintro e w4 ⟨p1, c1, p2, c2, vF, rfl, o1, o2, of, hb4, g1, g2⟩
    obtain ⟨pF, cF, rfl⟩ := ownF_form of
    have B4 := hide (B2.out.trans (hb4.mono B2.out.size))
    have O1 := hide o1
    have O2 := hide o2
    have OF := hide of
    have s2 : w.heap.size + 3 ≤ w2.heap.size := by have := B2.out.size; have := SZW.out; omega
    have G1 : Hid (∀ a, p1 = some a → w.heap.size + 3 ≤ a.block) := fun a ha => by have := g1 a ha; omega
    have G2 : Hid (∀ a, p2 = some a → w.heap.size + 3 ≤ a.block) := fun a ha => by have := g2 a ha; omega
    have S2 := hide s2
    have S4 := hide hb4.size
    clear o1 o2 of hb4 g1 g2 s2 e0 e1 f0 f1 f2 f3 f4
    obtain ⟨V, hV⟩ : ∃ V, V = w4.alloc (.cells #[.slice p1 B.length c1, .slice p2 A.length c2] 42) := ⟨_, rfl⟩
    have BV : Hid (Below W.heap.size W V) := by rw [hV]; exact B4.out.alloc B4.out.size _
    have BXV := hide (BW.out.trans (BV.out.mono BW.out.size))
    have TV := hide (two_below T.out BV.out)
    have HV := hide hV
    clear hV
    have v0 : V.cell? ⟨w4.heap.size, 0, none⟩ = some (.slice p1 B.length c1) := by rw [HV.out]; exact new_cell w4 _ _ 0 _ rfl
    have v1 : V.cell? ⟨w4.heap.size, 1, none⟩ = some (.slice p2 A.length c2) := by rw [HV.out]; exact new_cell w4 _ _ 1 _ rfl
    have hb : Below w4.heap.size w4 V := by rw [HV.out]; exact (Below.refl _ w4).alloc (Nat.le_refl _) _
    have NX : Hid (Two V w4.heap.size) := by rw [HV.out]; exact ⟨_, _, heap_alloc_new w4 _⟩
    have PF : Hid (V.ownsRow w2.heap.size 74 7 (.slice pF F.length cF) F.length (flatF F)) := by rw [HV.out]; exact OF.out.alloc _
    obtain ⟨-, -, f0, f1, f2, f3, f4⟩ := KEEP.out V BV.out
    have FV5 := hide (five_below FVE.out BV.out)
    obtain ⟨-, -, -, -, -, z4⟩ := five_facts FV5.out
    have s4 := S4.out
    have s2 := S2.out
    have n1 : ¬ w4.heap.size = w.heap.size + 1 := by omega
    have n2 : ¬ w.heap.size + 1 = w4.heap.size := by omega
    have n3 : ¬ w4.heap.size = w.heap.size + 1 + 1 := by omega
    have n4 : ¬ w.heap.size + 1 + 1 = w4.heap.size := by omega
    obtain ⟨V2, hV2⟩ : ∃ V2, V2 = V.setCell ⟨w.heap.size + 1, 4, none⟩ (.int .i64 lf) := ⟨_, rfl⟩
    have OV1 : Hid (OV V2 p1 c1 B) := by rw [hV2]; exact ov_set (O1.out.below hb) (fun a ha => by have := G1.out a ha; omega) _
    have OV2 : Hid (OV V2 p2 c2 A) := by rw [hV2]; exact ov_set (O2.out.below hb) (fun a ha => by have := G2.out a ha; omega) _
    have PF2 : Hid (V2.ownsRow w2.heap.size 74 7 (.slice pF F.length cF) F.length (flatF F)) := by rw [hV2]; exact ownsRow_setCell_below PF.out (by show w.heap.size + 1 < _; omega) _
    have BX2 : Hid (Below w.heap.size w V2) := by rw [hV2]; exact BXV.out.setCell (by show _ ≤ w.heap.size + 1; omega) _
    have T2 : Hid (Two V2 (w.heap.size + 1 + 1)) := by
      rw [hV2]
      obtain ⟨u0, u1, hu⟩ := TV.out
      exact ⟨u0, u1, by rw [Below.heap_setCell _ _ _ _ (by simp)]; exact hu⟩
    have NX2 : Hid (Two V2 w4.heap.size) := by
      rw [hV2]
      obtain ⟨u0, u1, hu⟩ := NX.out
      exact ⟨u0, u1, by rw [Below.heap_setCell _ _ _ _ (by simpa using n1)]; exact hu⟩
    have SV2 : Hid (w4.heap.size < V2.heap.size) := two_lt NX2.out
    have RC := hide (RES.out V2 p1 p2 c1 c2 OV1.out OV2.out)
    have HV2 := hide hV2
    clear hV2 hb OV1 OV2 O1 O2 OF
    go_wp2_with (rw [← HV.out])
    rw [← HV2.out]
    refine RC.out.mono ?_
    rintro e w5 ⟨v, rfl, ⟨p3, c3, p4, c4, rfl, o3, o4, g3, g4⟩, hb5⟩
    have T5 := hide (two_below T2.out hb5)
    have N5 := hide (two_below NX2.out hb5)
    have B5 := hide (BX2.out.trans (hb5.mono BX2.out.size))
    have PF5 : Hid (w5.ownsRow w2.heap.size 74 7 (.slice pF F.length cF) F.length (flatF F)) := PF2.out.kept (row := none) ⟨hb5.os, hb5.tape, hb5.output, hb5.size, fun k hk _ => hb5.block k hk⟩ (by cases hv : (Value.slice pF F.length cF).ownBlock <;> simp)
    have G3 : Hid (∀ a, p3 = some a → w4.heap.size < a.block) := fun a ha => by have := g3 a ha; have := SV2.out; omega
    have G4 : Hid (∀ a, p4 = some a → w4.heap.size < a.block) := fun a ha => by have := g4 a ha; have := SV2.out; omega
    obtain ⟨X6, hX6⟩ : ∃ X6, X6 = (w5.setCell ⟨w4.heap.size, 0, none⟩ (.slice p3 RB.length c3)).setCell ⟨w4.heap.size, 1, none⟩ (.slice p4 RA.length c4) := ⟨_, rfl⟩
    obtain ⟨y0, y1⟩ := two_set N5.out (.slice p3 RB.length c3) (.slice p4 RA.length c4)
    rw [← hX6] at y0 y1
    have T6 : Hid (Two X6 (w.heap.size + 1 + 1)) := by
      rw [hX6]
      obtain ⟨u0, u1, hu⟩ := T5.out
      exact ⟨u0, u1, by rw [Below.heap_setCell _ _ _ _ (by simpa using n4), Below.heap_setCell _ _ _ _ (by simpa using n4)]; exact hu⟩
    have B6 : Hid (Below w.heap.size w X6) := by rw [hX6]; exact two_below_set B5.out (by omega) _ _
    have P3 : Hid (OV X6 p3 c3 RB) := by rw [hX6]; exact ov_below_two o3 (fun a ha => by have := G3.out a ha; omega)
    have P4 : Hid (OV X6 p4 c4 RA) := by rw [hX6]; exact ov_below_two o4 (fun a ha => by have := G4.out a ha; omega)
    have HX6 := hide hX6
    obtain ⟨d0, d1, t0, t1, t2, t3⟩ := two_facts N5.out
    clear hb5 o3 o4 g3 g4 hX6 RC
    have PF6 : Hid (X6.ownsRow w.heap.size 74 7 (.slice pF F.length cF) F.length (flatF F)) := by
      rw [HX6.out]
      obtain hx | ⟨g, cap, cur, hv, hB, hg, rest⟩ := PF5.out.2
      · exact ⟨PF5.out.1, .inl hx⟩
      · refine ⟨PF5.out.1, .inr ⟨g, cap, cur, hv, by omega, ?_, rest⟩⟩
        have hne : g ≠ w4.heap.size := fun e => by
          obtain ⟨u0, u1, hu⟩ := N5.out
          rw [e, hu] at hg
          injection hg with hg
          injection hg with h1 h2
          exact absurd h2 (by decide)
        rw [Below.heap_setCell _ _ _ _ hne, Below.heap_setCell _ _ _ _ hne]
        exact hg
    obtain ⟨k0, k1, r0, r1, r2, r3⟩ := two_facts T6.out
    obtain ⟨m0, m1⟩ := two_set T6.out (.slice p3 RB.length c3) (.slice p4 RA.length c4)
    go_wp2_with (rw [← HX6.out])
    refine bodyPost_ret (v := .tuple #[.agg #[.slice p3 RB.length c3, .slice p4 RA.length c4], .slice pF F.length cF, .int .i64 0, .int .i64 0]) (by simp [results, Try.results54, go_sem, m0, m1]) rfl ⟨p3, c3, p4, c4, _, rfl, ov_below_two P3.out (fun a ha => by have := G3.out a ha; omega), ov_below_two P4.out (fun a ha => by have := G4.out a ha; omega), ?_, two_below_set B6.out (by omega) _ _⟩
    obtain hx | ⟨g, cap, cur, hv, hB, hg, rest⟩ := PF6.out.2
    · exact ⟨PF6.out.1, .inl hx⟩
    · refine ⟨PF6.out.1, .inr ⟨g, cap, cur, hv, hB, ?_, rest⟩⟩
      have hne : g ≠ w.heap.size + 1 + 1 := fun e => by
        obtain ⟨u0, u1, hu⟩ := T6.out
        rw [e, hu] at hg
        injection hg with hg
        injection hg with h1 h2
        exact absurd h2 (by decide)
      rw [Below.heap_setCell _ _ _ _ hne, Below.heap_setCell _ _ _ _ hne]
      exact hg
  · have b4 : (how == 4) = false := by simp [h4]
    clear hr hs hst h4 h22 h33
    have hab : (a != 0) = true := by simp [ha]
    have hna : ¬ (0 : Int) = a := fun e => ha e.symm
    clear ha
    have mixed : Try.prog.follows .mixedOrders = true := by kernel_rfl
    have F1 := hide camef_any
    go_enter Try.func54, Try.ntmps54
    go_wp2_with fail
    obtain ⟨W, hW⟩ : ∃ W, W = ((w.alloc (.cells #[.slice p nb c, .slice p' na c'] 42)).alloc (oO a ac sd pr q)).alloc (.cells #[.slice none 0 0, .slice none 0 0] 42) := ⟨_, rfl⟩
    have BW : Hid (Below w.heap.size w W) := by rw [hW]; exact ((((Below.refl _ w).alloc (Nat.le_refl _) _).alloc (by simp) _).alloc (by simp; omega) _)
    have T : Hid (Two W (w.heap.size + 1 + 1)) := by rw [hW]; exact two_made _ _ _ _ _
    have FVE : Hid (Five W (w.heap.size + 1)) := by rw [hW]; exact made3_five2 _ _ _ _ _ _ _ _
    have e0 : W.cell? ⟨w.heap.size, 0, none⟩ = some (.slice p nb c) := by rw [hW]; exact cell_alloc (cell_alloc (new_cell _ _ _ _ _ rfl) _) _
    have e1 : W.cell? ⟨w.heap.size, 1, none⟩ = some (.slice p' na c') := by rw [hW]; exact cell_alloc (cell_alloc (new_cell _ _ _ _ _ rfl) _) _
    have f0 : W.cell? ⟨w.heap.size + 1, 0, none⟩ = some (.int .i64 a) := by rw [hW]; exact cell_alloc (new_cell2 _ _ _ _ _ _ rfl) _
    have f1 : W.cell? ⟨w.heap.size + 1, 1, none⟩ = some (.int .i64 ac) := by rw [hW]; exact cell_alloc (new_cell2 _ _ _ _ _ _ rfl) _
    have f2 : W.cell? ⟨w.heap.size + 1, 2, none⟩ = some (.int .i64 sd) := by rw [hW]; exact cell_alloc (new_cell2 _ _ _ _ _ _ rfl) _
    have f3 : W.cell? ⟨w.heap.size + 1, 3, none⟩ = some (.int .i64 pr) := by rw [hW]; exact cell_alloc (new_cell2 _ _ _ _ _ _ rfl) _
    have f4 : W.cell? ⟨w.heap.size + 1, 4, none⟩ = some (.int .i64 q) := by rw [hW]; exact cell_alloc (new_cell2 _ _ _ _ _ _ rfl) _
    have SZW : Hid (W.heap.size = w.heap.size + 3) := by show _ = _; rw [hW]; simp
    rw [← hW]
    clear hW
    have KEEP : Hid (∀ x, Below W.heap.size W x → x.cell? ⟨w.heap.size, 0, none⟩ = some (.slice p nb c) ∧ x.cell? ⟨w.heap.size, 1, none⟩ = some (.slice p' na c') ∧ x.cell? ⟨w.heap.size + 1, 0, none⟩ = some (.int .i64 a) ∧ x.cell? ⟨w.heap.size + 1, 1, none⟩ = some (.int .i64 ac) ∧ x.cell? ⟨w.heap.size + 1, 2, none⟩ = some (.int .i64 sd) ∧ x.cell? ⟨w.heap.size + 1, 3, none⟩ = some (.int .i64 pr) ∧ x.cell? ⟨w.heap.size + 1, 4, none⟩ = some (.int .i64 q)) := fun x hx =>
      have k := fun ad v (he : W.cell? ad = some v) => (hx.cell (World.block_lt_of_cell? _ _ he)).trans he
      ⟨k _ _ e0, k _ _ e1, k _ _ f0, k _ _ f1, k _ _ f2, k _ _ f3, k _ _ f4⟩
    have hC : ∀ q1 : InC (fun x => Below W.heap.size W x), ∀ x v, W.cell? x = some v → q1.w.cell? x = some v := fun q1 x v hx => (q1.h.cell (World.block_lt_of_cell? _ _ hx)).trans hx
    generalize hCC : (fun x => Below W.heap.size W x) = C at hC
    have g0 := fun q1 => hC q1 _ _ e0
    have g1 := fun q1 => hC q1 _ _ e1
    have l0 := fun q1 => hC q1 _ _ f0
    have CE := hide hCC
    have CS : Hid (Shut C) := by rw [← CE.out]; exact shut_below W
    have CW : Hid (∀ x, C x → Below W.heap.size W x) := fun x hx => by rw [← CE.out] at hx; exact hx
    have C0 : Hid (C { W with drawn := W.drawn + 1 }) := by rw [← CE.out]; exact below_drawn _
    clear hC hCC e0 e1 f0 f1 f2 f3 f4
    refine wp_region_mix [(0, true), (1, true), (2, true), (3, true), (4, true), (5, true), (6, true), (9, true), (10, true), (7, false), (8, false), (11, false), (12, false)] C mixed (by kernel_rfl) C0.out ?_
    repeat (refine mix_still (by rfl) ?_; go_big_quiet_step (exact rfl); refine wpQuiet_nil ?_)
    refine mix_main (by rfl) ?_
    rintro ⟨x1, hx1⟩
    have FX := hide (FD.out x1 (BW.out.trans ((CW.out x1 hx1).mono BW.out.size)))
    go_wp2_with (go_at_call 44; refine FX.out.mono ?_; rintro e w' ⟨rfl, hb'⟩)
    refine ⟨C, CS.out x1 _ hx1 hb', fun _ h => h, ?_⟩
    clear hx1 hb' FX x1
    refine mix_main (by rfl) ?_
    rintro ⟨x1, hx1⟩
    go_wp2
    rename_i K hK
    refine hK _ _ ?_
    simp only [List.getElem_toArray, List.getElem_cons_zero]
    clear hK K
    go_wp2
    refine ⟨C, hx1, fun _ h => h, ?_⟩
    clear hx1 x1
    refine mix_main (by rfl) ?_
    rintro ⟨x1, hx1⟩
    go_wp2
    refine ⟨C, hx1, fun _ h => h, ?_⟩
    clear hx1 x1
    refine mix_main (by rfl) ?_
    rintro ⟨x1, hx1⟩
    go_wp2
    refine ⟨C, hx1, fun _ h => h, ?_⟩
    clear hx1 x1
    refine mix_end ?_
    rintro ⟨x9, hx9⟩
    dsimp only
    have B9 := hide (CW.out x9 hx9)
    obtain ⟨e0, e1, f0, f1, f2, f3, f4⟩ := KEEP.out x9 B9.out
    have TX := hide (two_below T.out B9.out)
    have BX := hide (BW.out.trans (B9.out.mono BW.out.size))
    clear hx9 CS CW C0 CE g0 g1 l0
    go_wp2_with fail
    refine (CK.out _).mono ?_
    rintro e w2 ⟨rfl, hb2⟩
    have B2 := hide (B9.out.trans (hb2.mono B9.out.size))
    obtain ⟨e0, e1, f0, f1, f2, f3, f4⟩ := KEEP.out w2 B2.out
    have BX2 := hide (BW.out.trans (B2.out.mono BW.out.size))
    clear hb2 BX TX
    go_wp2_with fail
    refine (TKN.out _ BX2.out).mono ?_
    rintro e w4 ⟨p1, c1, p2, c2, vF, rfl, o1, o2, of, hb4, g1, g2⟩
    obtain ⟨pF, cF, rfl⟩ := ownF_form of
    have B4 := hide (B2.out.trans (hb4.mono B2.out.size))
    have O1 := hide o1
    have O2 := hide o2
    have OF := hide of
    have s2 : w.heap.size + 3 ≤ w2.heap.size := by have := B2.out.size; have := SZW.out; omega
    have G1 : Hid (∀ a, p1 = some a → w.heap.size + 3 ≤ a.block) := fun a ha => by have := g1 a ha; omega
    have G2 : Hid (∀ a, p2 = some a → w.heap.size + 3 ≤ a.block) := fun a ha => by have := g2 a ha; omega
    have S2 := hide s2
    have S4 := hide hb4.size
    clear o1 o2 of hb4 g1 g2 s2 e0 e1 f0 f1 f2 f3 f4
    obtain ⟨V, hV⟩ : ∃ V, V = w4.alloc (.cells #[.slice p1 B.length c1, .slice p2 A.length c2] 42) := ⟨_, rfl⟩
    have BV : Hid (Below W.heap.size W V) := by rw [hV]; exact B4.out.alloc B4.out.size _
    have BXV := hide (BW.out.trans (BV.out.mono BW.out.size))
    have TV := hide (two_below T.out BV.out)
    have HV := hide hV
    clear hV
    have v0 : V.cell? ⟨w4.heap.size, 0, none⟩ = some (.slice p1 B.length c1) := by rw [HV.out]; exact new_cell w4 _ _ 0 _ rfl
    have v1 : V.cell? ⟨w4.heap.size, 1, none⟩ = some (.slice p2 A.length c2) := by rw [HV.out]; exact new_cell w4 _ _ 1 _ rfl
    have hb : Below w4.heap.size w4 V := by rw [HV.out]; exact (Below.refl _ w4).alloc (Nat.le_refl _) _
    have NX : Hid (Two V w4.heap.size) := by rw [HV.out]; exact ⟨_, _, heap_alloc_new w4 _⟩
    have PF : Hid (V.ownsRow w2.heap.size 74 7 (.slice pF F.length cF) F.length (flatF F)) := by rw [HV.out]; exact OF.out.alloc _
    obtain ⟨-, -, f0, f1, f2, f3, f4⟩ := KEEP.out V BV.out
    have FV5 := hide (five_below FVE.out BV.out)
    obtain ⟨-, -, -, -, -, z4⟩ := five_facts FV5.out
    have s4 := S4.out
    have s2 := S2.out
    have n1 : ¬ w4.heap.size = w.heap.size + 1 := by omega
    have n2 : ¬ w.heap.size + 1 = w4.heap.size := by omega
    have n3 : ¬ w4.heap.size = w.heap.size + 1 + 1 := by omega
    have n4 : ¬ w.heap.size + 1 + 1 = w4.heap.size := by omega
    obtain ⟨V2, hV2⟩ : ∃ V2, V2 = V.setCell ⟨w.heap.size + 1, 4, none⟩ (.int .i64 lf) := ⟨_, rfl⟩
    have OV1 : Hid (OV V2 p1 c1 B) := by rw [hV2]; exact ov_set (O1.out.below hb) (fun a ha => by have := G1.out a ha; omega) _
    have OV2 : Hid (OV V2 p2 c2 A) := by rw [hV2]; exact ov_set (O2.out.below hb) (fun a ha => by have := G2.out a ha; omega) _
    have PF2 : Hid (V2.ownsRow w2.heap.size 74 7 (.slice pF F.length cF) F.length (flatF F)) := by rw [hV2]; exact ownsRow_setCell_below PF.out (by show w.heap.size + 1 < _; omega) _
    have BX2 : Hid (Below w.heap.size w V2) := by rw [hV2]; exact BXV.out.setCell (by show _ ≤ w.heap.size + 1; omega) _
    have T2 : Hid (Two V2 (w.heap.size + 1 + 1)) := by
      rw [hV2]
      obtain ⟨u0, u1, hu⟩ := TV.out
      exact ⟨u0, u1, by rw [Below.heap_setCell _ _ _ _ (by simp)]; exact hu⟩
    have NX2 : Hid (Two V2 w4.heap.size) := by
      rw [hV2]
      obtain ⟨u0, u1, hu⟩ := NX.out
      exact ⟨u0, u1, by rw [Below.heap_setCell _ _ _ _ (by simpa using n1)]; exact hu⟩
    have SV2 : Hid (w4.heap.size < V2.heap.size) := two_lt NX2.out
    have RC := hide (RES.out V2 p1 p2 c1 c2 OV1.out OV2.out)
    have HV2 := hide hV2
    clear hV2 hb OV1 OV2 O1 O2 OF
    go_wp2_with (rw [← HV.out])
    rw [← HV2.out]
    refine RC.out.mono ?_
    rintro e w5 ⟨v, rfl, ⟨p3, c3, p4, c4, rfl, o3, o4, g3, g4⟩, hb5⟩
    have T5 := hide (two_below T2.out hb5)
    have N5 := hide (two_below NX2.out hb5)
    have B5 := hide (BX2.out.trans (hb5.mono BX2.out.size))
    have PF5 : Hid (w5.ownsRow w2.heap.size 74 7 (.slice pF F.length cF) F.length (flatF F)) := PF2.out.kept (row := none) ⟨hb5.os, hb5.tape, hb5.output, hb5.size, fun k hk _ => hb5.block k hk⟩ (by cases hv : (Value.slice pF F.length cF).ownBlock <;> simp)
    have G3 : Hid (∀ a, p3 = some a → w4.heap.size < a.block) := fun a ha => by have := g3 a ha; have := SV2.out; omega
    have G4 : Hid (∀ a, p4 = some a → w4.heap.size < a.block) := fun a ha => by have := g4 a ha; have := SV2.out; omega
    obtain ⟨X6, hX6⟩ : ∃ X6, X6 = (w5.setCell ⟨w4.heap.size, 0, none⟩ (.slice p3 RB.length c3)).setCell ⟨w4.heap.size, 1, none⟩ (.slice p4 RA.length c4) := ⟨_, rfl⟩
    obtain ⟨y0, y1⟩ := two_set N5.out (.slice p3 RB.length c3) (.slice p4 RA.length c4)
    rw [← hX6] at y0 y1
    have T6 : Hid (Two X6 (w.heap.size + 1 + 1)) := by
      rw [hX6]
      obtain ⟨u0, u1, hu⟩ := T5.out
      exact ⟨u0, u1, by rw [Below.heap_setCell _ _ _ _ (by simpa using n4), Below.heap_setCell _ _ _ _ (by simpa using n4)]; exact hu⟩
    have B6 : Hid (Below w.heap.size w X6) := by rw [hX6]; exact two_below_set B5.out (by omega) _ _
    have P3 : Hid (OV X6 p3 c3 RB) := by rw [hX6]; exact ov_below_two o3 (fun a ha => by have := G3.out a ha; omega)
    have P4 : Hid (OV X6 p4 c4 RA) := by rw [hX6]; exact ov_below_two o4 (fun a ha => by have := G4.out a ha; omega)
    have HX6 := hide hX6
    obtain ⟨d0, d1, t0, t1, t2, t3⟩ := two_facts N5.out
    clear hb5 o3 o4 g3 g4 hX6 RC
    have PF6 : Hid (X6.ownsRow w.heap.size 74 7 (.slice pF F.length cF) F.length (flatF F)) := by
      rw [HX6.out]
      obtain hx | ⟨g, cap, cur, hv, hB, hg, rest⟩ := PF5.out.2
      · exact ⟨PF5.out.1, .inl hx⟩
      · refine ⟨PF5.out.1, .inr ⟨g, cap, cur, hv, by omega, ?_, rest⟩⟩
        have hne : g ≠ w4.heap.size := fun e => by
          obtain ⟨u0, u1, hu⟩ := N5.out
          rw [e, hu] at hg
          injection hg with hg
          injection hg with h1 h2
          exact absurd h2 (by decide)
        rw [Below.heap_setCell _ _ _ _ hne, Below.heap_setCell _ _ _ _ hne]
        exact hg
    obtain ⟨k0, k1, r0, r1, r2, r3⟩ := two_facts T6.out
    obtain ⟨m0, m1⟩ := two_set T6.out (.slice p3 RB.length c3) (.slice p4 RA.length c4)
    go_wp2_with (rw [← HX6.out])
    refine bodyPost_ret (v := .tuple #[.agg #[.slice p3 RB.length c3, .slice p4 RA.length c4], .slice pF F.length cF, .int .i64 0, .int .i64 0]) (by simp [results, Try.results54, go_sem, m0, m1]) rfl ⟨p3, c3, p4, c4, _, rfl, ov_below_two P3.out (fun a ha => by have := G3.out a ha; omega), ov_below_two P4.out (fun a ha => by have := G4.out a ha; omega), ?_, two_below_set B6.out (by omega) _ _⟩
    obtain hx | ⟨g, cap, cur, hv, hB, hg, rest⟩ := PF6.out.2
    · exact ⟨PF6.out.1, .inl hx⟩
    · refine ⟨PF6.out.1, .inr ⟨g, cap, cur, hv, hB, ?_, rest⟩⟩
      have hne : g ≠ w.heap.size + 1 + 1 := fun e => by
        obtain ⟨u0, u1, hu⟩ := T6.out
        rw [e, hu] at hg
        injection hg with hg
        injection hg with h1 h2
        exact absurd h2 (by decide)
      rw [Below.heap_setCell _ _ _ _ hne, Below.heap_setCell _ _ _ _ hne]
      exact hg
end Go.Proofs.Ytbphljnncbiddaa.Tk
namespace Go.Proofs.Ytbphljnncbiddaa.Tk
open Go.RowKit Go.Sort Go.Maps Go.Proofs.Ytbphljnncbiddaa.Mix Go.Proofs.Ytbphljnncbiddaa.Bk Go.Proofs.Ytbphljnncbiddaa.Rk

def camB (bids asks : List Odr) (o : Odr) (how : Int) : List Odr := if comeE bids asks o how = 0 then comeB bids asks o how else []
def camA (bids asks : List Odr) (o : Odr) (how : Int) : List Odr := if comeE bids asks o how = 0 then comeA bids asks o how else []
def camF (bids asks : List Odr) (o : Odr) (how : Int) : List Fil := if comeE bids asks o how = 0 then (takeT bids asks o).2.1 else []
def camL (bids asks : List Odr) (o : Odr) (how : Int) : Int := if comeE bids asks o how = 0 then comeL how (takeT bids asks o).2.2.1 else 0

theorem come_all (p p' : Option Addr) (c c' : Nat) (bids asks : List Odr) (o : Odr) (how : Int) (w : World) (h : OV w p c bids) (h' : OV w p' c' asks) (hn : bids.length ≤ 140737488351232) (hn' : asks.length ≤ 140737488351232) :
    Calls Try.prog 50 #[.agg #[.slice p bids.length c, .slice p' asks.length c'], odrV o, .int .i64 how] w (CamePost w (camB bids asks o how) (camA bids asks o how) (camF bids asks o how) (camL bids asks o how) (comeE bids asks o how)) := by
  unfold camB camA camF camL
  by_cases he : comeE bids asks o how = 0
  · rw [if_pos he, if_pos he, if_pos he, if_pos he, he]
    refine (come_ok p p' c c' bids asks o how w h h' he).mono ?_
    rintro e w' ⟨p1, c1, p2, c2, vF, rfl, o1, o2, of, hb, -, -⟩
    exact ⟨p1, c1, p2, c2, vF, rfl, o1, o2, of, hb⟩
  · rw [if_neg he, if_neg he, if_neg he, if_neg he]
    refine (come_bad p p' c c' bids asks o how w h h' hn hn' he).mono ?_
    rintro e w' ⟨rfl, hb⟩
    exact ⟨none, 0, none, 0, .slice none 0 0, rfl, ov_nil _, ov_nil _, World.ownsRow_nil _ _ _ _, hb⟩

theorem taken_left {bids asks : List Odr} {o : Odr} (ho : okOrder o = 0) : 0 ≤ (takeT bids asks o).2.2.1 := by
  have hq := (okOrder_pq ho).2.2
  have key : ∀ (l : List Odr) (left : Int), 0 ≤ left → 0 ≤ (takes o left l).2.2.1 := by
    intro l
    induction l with
    | nil => intro left h; exact h
    | cons x l ih =>
      intro left h
      unfold takes
      split
      · split
        · exact h
        · split
          · exact ih _ (by omega)
          · exact Int.le_refl _
      · exact h
  exact key _ _ (by omega)

theorem came_any (p p' : Option Addr) (c c' : Nat) (bids asks : List Odr) (a ac sd pr q how : Int) (w : World) (h : OV w p c bids) (h' : OV w p' c' asks) (hR : Right bids asks) :
    Calls Try.prog 54 #[.agg #[.slice p bids.length c, .slice p' asks.length c'], .agg #[.int .i64 a, .int .i64 ac, .int .i64 sd, .int .i64 pr, .int .i64 q], .int .i64 how] w
      (CamePost w (camB bids asks (a, ac, sd, pr, q) how) (camA bids asks (a, ac, sd, pr, q) how) (camF bids asks (a, ac, sd, pr, q) how) (camL bids asks (a, ac, sd, pr, q) how) (comeE bids asks (a, ac, sd, pr, q) how)) := by
  have hb := bookErr_zero.2 hR
  have hl := hR.few
  have FD := hide (fun X (hX : Below w.heap.size w X) => found_any p p' c c' bids asks a X (h.below hX) (h'.below hX) hl)
  have bad : ∀ r, comeE bids asks (a, ac, sd, pr, q) how = r → ¬ r = 0 → Calls Try.prog 54 #[.agg #[.slice p bids.length c, .slice p' asks.length c'], .agg #[.int .i64 a, .int .i64 ac, .int .i64 sd, .int .i64 pr, .int .i64 q], .int .i64 how] w (CamePost w [] [] [] 0 r) →
      Calls Try.prog 54 #[.agg #[.slice p bids.length c, .slice p' asks.length c'], .agg #[.int .i64 a, .int .i64 ac, .int .i64 sd, .int .i64 pr, .int .i64 q], .int .i64 how] w
      (CamePost w (camB bids asks (a, ac, sd, pr, q) how) (camA bids asks (a, ac, sd, pr, q) how) (camF bids asks (a, ac, sd, pr, q) how) (camL bids asks (a, ac, sd, pr, q) how) (comeE bids asks (a, ac, sd, pr, q) how)) := fun r hr h0 hc => by
    unfold camB camA camF camL
    rw [hr, if_neg h0, if_neg h0, if_neg h0, if_neg h0]
    exact hc
  have hmc : mayComeE bids asks a how = if findE bids asks a = 0 then 6 else if how < 1 ∨ 4 < how then 4 else 0 := by
    unfold mayComeE
    rw [if_neg (by rw [hb]; simp)]
  have hfe : findE bids asks a = (findIn a bids asks).elim 5 (fun _ => 0) := by unfold findE; rw [if_pos hb]
  cases hf : findIn a bids asks with
  | some y =>
    have hm := find_mem hf
    have hy : oid y = a := hm.2
    have hok : okOrder y = 0 := by
      rcases List.mem_append.1 hm.1 with e | e
      · exact hR.b.ok y e
      · exact hR.a.ok y e
    have h2 := okOrder_id hok
    rw [hf] at FD
    obtain ⟨ya, yc, yd, yp, yq⟩ := y
    dsimp only [oid] at hy h2
    subst hy
    have h6 : mayComeE bids asks ya how = 6 := by rw [hmc, hfe, hf]; rfl
    refine bad 6 (by unfold comeE; rw [show mayComeE bids asks (oid (ya, ac, sd, pr, q)) how = 6 from h6, if_pos (by decide)]) (by decide) ?_
    exact came_1 p p' c c' _ _ ya ac sd pr q how w (by omega) yc yd yp yq FD
  | none =>
    rw [hf] at FD
    have hfe5 : findE bids asks a = 5 := by rw [hfe, hf]; rfl
    rw [hfe5, if_neg (by decide)] at hmc
    by_cases hw : how < 1 ∨ 4 < how
    · rw [if_pos hw] at hmc
      refine bad 4 (by unfold comeE; rw [show mayComeE bids asks (oid (a, ac, sd, pr, q)) how = 4 from hmc, if_pos (by decide)]) (by decide) ?_
      exact came_2 p p' c c' _ _ a ac sd pr q how w hw FD
    · rw [if_neg hw] at hmc
      have CK := hide (fun X => grow_calls (refCheckOrder_grow a ac sd pr q X))
      by_cases ho : okOrder (a, ac, sd, pr, q) = 0
      · rw [ho] at CK
        have hid := okOrder_id ho
        dsimp only [oid] at hid
        have TKN := hide (fun X (hX : Below w.heap.size w X) => taken_any p p' c c' bids asks a ac sd pr q X (h.below hX) (h'.below hX) hR ho)
        have hlf := taken_left (bids := bids) (asks := asks) ho
        have ht : takeErr bids asks (a, ac, sd, pr, q) = 0 := by rw [takeErr_ok hb]; exact ho
        have hce : comeE bids asks (a, ac, sd, pr, q) how = if allowsE how (takeT bids asks (a, ac, sd, pr, q)).2.1.length (takeT bids asks (a, ac, sd, pr, q)).2.2.1 (takeT bids asks (a, ac, sd, pr, q)).2.2.2 ≠ 0 then allowsE how (takeT bids asks (a, ac, sd, pr, q)).2.1.length (takeT bids asks (a, ac, sd, pr, q)).2.2.1 (takeT bids asks (a, ac, sd, pr, q)).2.2.2
            else if stays how (takeT bids asks (a, ac, sd, pr, q)).2.2.1 = true then 0 else mayRest (takeB bids asks (a, ac, sd, pr, q)) (takeA bids asks (a, ac, sd, pr, q)) (restO (a, ac, sd, pr, q) (takeT bids asks (a, ac, sd, pr, q)).2.2.1) := by
          unfold comeE
          rw [show mayComeE bids asks (oid (a, ac, sd, pr, q)) how = 0 from hmc, if_neg (by simp), if_neg (by rw [ht]; simp)]
        by_cases hal : allowsE how (takeT bids asks (a, ac, sd, pr, q)).2.1.length (takeT bids asks (a, ac, sd, pr, q)).2.2.1 (takeT bids asks (a, ac, sd, pr, q)).2.2.2 = 0
        · rw [if_neg (by rw [hal]; simp)] at hce
          cases hst : stays how (takeT bids asks (a, ac, sd, pr, q)).2.2.1
          · rw [hst, if_neg (by decide)] at hce
            have hT := take_right hR ho
            have RES := hide (fun X p1 p2 c1 c2 (o1 : OV X p1 c1 (takeB bids asks (a, ac, sd, pr, q))) (o2 : OV X p2 c2 (takeA bids asks (a, ac, sd, pr, q))) => rested_any p1 p2 c1 c2 _ _ a ac sd pr (takeT bids asks (a, ac, sd, pr, q)).2.2.1 X o1 o2 hT)
            by_cases hr : mayRest (takeB bids asks (a, ac, sd, pr, q)) (takeA bids asks (a, ac, sd, pr, q)) (restO (a, ac, sd, pr, q) (takeT bids asks (a, ac, sd, pr, q)).2.2.1) = 0
            · rw [hr] at hce
              have e2 : mayRest (takeB bids asks (a, ac, sd, pr, q)) (takeA bids asks (a, ac, sd, pr, q)) (a, ac, sd, pr, (takeT bids asks (a, ac, sd, pr, q)).2.2.1) = 0 := hr
              rw [e2] at RES
              unfold camB camA camF camL comeB comeA comeL
              rw [hce, if_pos rfl, if_pos rfl, if_pos rfl, if_pos rfl, hst, if_neg (by decide), if_neg (by decide), if_neg (by decide)]
              have e3 : restedB (takeB bids asks (a, ac, sd, pr, q)) (takeA bids asks (a, ac, sd, pr, q)) (a, ac, sd, pr, (takeT bids asks (a, ac, sd, pr, q)).2.2.1) = restB (takeB bids asks (a, ac, sd, pr, q)) (restO (a, ac, sd, pr, q) (takeT bids asks (a, ac, sd, pr, q)).2.2.1) := by unfold restedB; rw [if_pos e2]; rfl
              have e4 : restedA (takeB bids asks (a, ac, sd, pr, q)) (takeA bids asks (a, ac, sd, pr, q)) (a, ac, sd, pr, (takeT bids asks (a, ac, sd, pr, q)).2.2.1) = restA (takeA bids asks (a, ac, sd, pr, q)) (restO (a, ac, sd, pr, q) (takeT bids asks (a, ac, sd, pr, q)).2.2.1) := by unfold restedA; rw [if_pos e2]; rfl
              rw [e3, e4] at RES
              exact came_9 p p' c c' _ _ a ac sd pr q how w _ _ _ _ _ _ _ (by omega) (by omega) (by omega) hlf hal hst FD CK TKN RES
            · refine bad _ hce hr ?_
              exact came_8 p p' c c' _ _ a ac sd pr q how _ w _ _ _ _ _ _ _ (by omega) (by omega) (by omega) hlf hal hst hr FD CK TKN RES
          · rw [hst, if_pos rfl] at hce
            unfold camB camA camF camL comeB comeA comeL
            rw [hce, if_pos rfl, if_pos rfl, if_pos rfl, if_pos rfl, hst, if_pos rfl, if_pos rfl, if_pos rfl]
            exact came_7 p p' c c' _ _ a ac sd pr q how w _ _ _ _ _ (by omega) (by omega) (by omega) hlf hal hst FD CK TKN
        · rw [if_pos hal] at hce
          refine bad _ hce hal ?_
          exact came_4 p p' c c' _ _ a ac sd pr q how _ w _ _ _ _ _ (by omega) (by omega) (by omega) hlf rfl hal FD CK TKN
      · have hce : comeE bids asks (a, ac, sd, pr, q) how = okOrder (a, ac, sd, pr, q) := by
          unfold comeE
          rw [show mayComeE bids asks (oid (a, ac, sd, pr, q)) how = 0 from hmc, if_neg (by simp), takeErr_ok hb, if_pos ho]
        refine bad _ hce ho ?_
        exact came_3 p p' c c' _ _ a ac sd pr q how _ w (by omega) (by omega) ho FD CK
end Go.Proofs.Ytbphljnncbiddaa.Tk
