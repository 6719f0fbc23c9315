/-
  Package text by contracts: what a Place says of its order.
-/
import Derived.Test.YthdjfhnhjiageaaGreatDoorTxW4
import Derived.Test.YthdjfhnhjiageaaGreatDoorMgX
namespace Go.Proofs.YthdjfhnhjiageaaGreatDoor.Tx
open Go.RowKit Go.Lib Go.Sort Go.Proofs.YthdjfhnhjiageaaGreatDoor.Mix

def orderB (c : Cd) : Bs := (atW sidesL (c.sd + 1) ++ 32 :: (itoa c.qt ++ 32 :: itoa c.pr)) ++ (32 :: atW howsL c.how)
def redB (c : Cd) : Bs := if c.red = true then 32 :: wReduce else []
/-- the worlds of a class from one on. -/
def From (C : World → Prop) (X : World) (x : World) : Prop := C x ∧ Below X.heap.size X x
theorem from_self {C : World → Prop} {X : World} (h : C X) : From C X X := ⟨h, Below.refl _ X⟩
theorem from_shut {C : World → Prop} (hs : ∀ x y, C x → Below x.heap.size x y → C y) (X : World) : ∀ x y, From C X x → Below x.heap.size x y → From C X y := fun x y h hb => ⟨hs x y h.1 hb, onward h.2 hb⟩
theorem pair_cells (x : World) (a b : Int) (y : World) (h : Below (x.alloc (.cells #[.int .i64 a, .int .i64 b] 3)).heap.size (x.alloc (.cells #[.int .i64 a, .int .i64 b] 3)) y) : y.cell? ⟨x.heap.size, 0, none⟩ = some (.int .i64 a) ∧ y.cell? ⟨x.heap.size, 1, none⟩ = some (.int .i64 b) :=
  ⟨(h.cell (p := ⟨x.heap.size, 0, none⟩) (by simp)).trans (new_cell x _ _ 0 _ rfl), (h.cell (p := ⟨x.heap.size, 1, none⟩) (by simp)).trans (new_cell x _ _ 1 _ rfl)⟩
set_option maxHeartbeats 4000000 in
set_option maxRecDepth 100000 in
theorem order_any (c : Cd) (w : World) (hf : c.fits) (E : Env w) : Calls Tryz.prog 50 #[cdV c] w fun e w' => e = .returned (sV (orderB c ++ redB c)) ∧ Below w.heap.size w w' := by
  have mixed : Tryz.prog.follows .mixedOrders = true := by kernel_rfl
  obtain ⟨R, hR⟩ : ∃ R, R = orderB c ++ redB c := ⟨_, rfl⟩
  rw [← hR]
  unfold orderB redB at hR
  have hsl := atW_len sidesL (by decide) (c.sd + 1)
  have hhl := atW_len howsL (by decide) c.how
  have hql := itoa_len hf.qt
  have hpl := itoa_len hf.pr
  have f1 := hf.sd
  have f2 := hf.qt
  have f3 := hf.pr
  obtain ⟨kind, ac, mkt, n, oi, oa, sd, pr, qt, how, red⟩ := c
  dsimp only at f1 f2 f3 hsl hhl hR hql hpl
  obtain ⟨W, hW⟩ : ∃ W, W = w.alloc (cdO ⟨kind, ac, mkt, n, oi, oa, sd, pr, qt, how, red⟩) := ⟨_, rfl⟩
  have AT : CdAt W w.heap.size ⟨kind, ac, mkt, n, oi, oa, sd, pr, qt, how, red⟩ := by show W.heap[w.heap.size]? = _; rw [hW]; exact heap_alloc_new w _
  have BW : Hid (Below w.heap.size w W) := by rw [hW]; exact below_alloc w _
  have EW := E.below BW.out
  have HW := hide hW
  obtain ⟨hw, hhw⟩ : ∃ hw, hw = atW howsL how := ⟨_, rfl⟩
  obtain ⟨t, ht⟩ : ∃ t, IntKind.i64.wrap (sd + 1) = t := ⟨_, rfl⟩
  obtain ⟨sw, hsw⟩ : ∃ sw, sw = atW sidesL (sd + 1) := ⟨_, rfl⟩
  have e2 : atW [wSell, [], wBuy, [], [], [], [], []] t = sw := by rw [← ht, side_wrap f1, hsw]
  have e3 : atW [[], wLimit, wNow, wWhole, wPost, [], [], []] how = hw := hhw.symm
  rw [← hhw] at hR hhl
  rw [← hsw] at hR hsl
  have HR := hide hR
  have hC : ∀ q : InC (fun x => Below W.heap.size W x), Below W.heap.size W q.w := fun q => q.h
  generalize hCC : (fun x => Below W.heap.size W x) = C at hC
  have CS : ∀ x y, C x → Below x.heap.size x y → C y := by rw [← hCC]; exact fun x y hx hy => onward hx hy
  have C0 : Hid (C W.drew) := by rw [← hCC]; exact (Below.refl _ W).drew
  have CB := hide hC
  have k0 : ∀ q : InC C, q.w.cell? ⟨w.heap.size, 0, none⟩ = some (.int .i64 kind) := fun q => cd_cells AT (hC q) 0 rfl
  have k1 : ∀ q : InC C, q.w.cell? ⟨w.heap.size, 1, none⟩ = some (.int .i64 ac) := fun q => cd_cells AT (hC q) 1 rfl
  have k2 : ∀ q : InC C, q.w.cell? ⟨w.heap.size, 2, none⟩ = some (.int .i64 mkt) := fun q => cd_cells AT (hC q) 2 rfl
  have k3 : ∀ q : InC C, q.w.cell? ⟨w.heap.size, 3, none⟩ = some (.int .i64 n) := fun q => cd_cells AT (hC q) 3 rfl
  have k4 : ∀ q : InC C, q.w.cell? ⟨w.heap.size, 4, none⟩ = some (.int .i64 oi) := fun q => cd_cells AT (hC q) 4 rfl
  have k5 : ∀ q : InC C, q.w.cell? ⟨w.heap.size, 5, none⟩ = some (.int .i64 oa) := fun q => cd_cells AT (hC q) 5 rfl
  have k6 : ∀ q : InC C, q.w.cell? ⟨w.heap.size, 6, none⟩ = some (.int .i64 sd) := fun q => cd_cells AT (hC q) 6 rfl
  have k7 : ∀ q : InC C, q.w.cell? ⟨w.heap.size, 7, none⟩ = some (.int .i64 pr) := fun q => cd_cells AT (hC q) 7 rfl
  have k8 : ∀ q : InC C, q.w.cell? ⟨w.heap.size, 8, none⟩ = some (.int .i64 qt) := fun q => cd_cells AT (hC q) 8 rfl
  have k9 : ∀ q : InC C, q.w.cell? ⟨w.heap.size, 9, none⟩ = some (.int .i64 how) := fun q => cd_cells AT (hC q) 9 rfl
  have k10 : ∀ q : InC C, q.w.cell? ⟨w.heap.size, 10, none⟩ = some (.bool red) := fun q => cd_cells AT (hC q) 10 rfl
  have K1 : Hid (∀ x, C x → _) := fun x (_ : C x) => hows_any x
  have K2 : Hid (∀ x, C x → _) := fun x (_ : C x) => at_any [] wLimit wNow wWhole wPost [] [] [] how x
  have K3 : Hid (∀ x, C x → _) := fun x (_ : C x) => sides_any x
  have K4 : Hid (∀ x, C x → _) := fun x (_ : C x) => at_any wSell [] wBuy [] [] [] [] [] t x
  rw [e3] at K2
  rw [e2] at K4
  have K5 : Hid (∀ x b, C x → x.cell? ⟨b, 0, none⟩ = some (.int .i64 qt) → x.cell? ⟨b, 1, none⟩ = some (.int .i64 pr) → _) := fun x b hx h0 h1 => phrase_any sw b qt pr x (by omega) f2 f3 (EW.below (hC ⟨x, hx⟩)) h0 h1
  have CS0 := hide CS
  clear CS
  have CS := CS0
  clear hC hCC CS0 hhw hsw e2 e3 f1 f2 f3 E EW hR hW
  go_enter Tryz.func50, Tryz.ntmps50
  go_wp2_with (rw [← HW.out])
  refine wp_region_tree (.still 1 (.still 2 (.still 3 (.still 4 (.still 6 (.still 7 (.still 8 (.still 9 (.still 10 (.still 11 (.still 16 (.still 17 (.fork 0 (.fork 5 (.main 12 (.main 13 (.still 14 (.main 15 (.main 18 (.still 19 (.still 20 .done))))))) 12 (.main 5 (.main 13 (.still 14 (.main 15 (.main 18 (.still 19 (.still 20 .done)))))))) 12 (.main 0 (.main 5 (.main 13 (.still 14 (.main 15 (.main 18 (.still 19 (.still 20 .done))))))))))))))))))))) C mixed (by kernel_rfl) C0.out ?_
  repeat (refine mixT_still (by rfl) ?_; go_big_quiet_step (exact rfl); refine wpQuiet_nil ?_)
  refine mixT_fork (by rfl) (by rfl) ?_ ?_
  · rintro ⟨x1, hx1⟩
    go_wp2_with (go_at_call 70; refine (K3.out x1 hx1).mono ?_; rintro e w' ⟨rfl, hb'⟩)
    refine ⟨_, CS.out x1 _ hx1 hb', fun _ h => h, ?_⟩
    clear hb' hx1
    clear x1
    try clear w'
    refine mixT_fork (by rfl) (by rfl) ?_ ?_
    · rintro ⟨x1, hx1⟩
      go_wp2_with (go_at_call 48; refine (K4.out x1 hx1).mono ?_; rintro e w' ⟨rfl, hb'⟩)
      refine ⟨_, CS.out x1 _ hx1 hb', fun _ h => h, ?_⟩
      clear hb' hx1
      clear x1
      try clear w'
      refine mixT_main (by rfl) ?_
      rintro ⟨x1, hx1⟩
      go_wp2
      refine ⟨From C (x1.alloc (.cells #[.int .i64 qt, .int .i64 pr] 3)), from_self (CS.out x1 _ hx1 (below_alloc x1 _)), fun x hx => hx.1, ?_⟩
      have CS1 := hide (from_shut CS.out (x1.alloc (.cells #[.int .i64 qt, .int .i64 pr] 3)))
      have SUB : Hid (∀ x, From C (x1.alloc (.cells #[.int .i64 qt, .int .i64 pr] 3)) x → C x ∧ x.cell? ⟨x1.heap.size, 0, none⟩ = some (.int .i64 qt) ∧ x.cell? ⟨x1.heap.size, 1, none⟩ = some (.int .i64 pr)) := fun x hx => ⟨hx.1, pair_cells x1 qt pr x hx.2⟩
      generalize From C (x1.alloc (.cells #[.int .i64 qt, .int .i64 pr] 3)) = C1 at CS1 SUB ⊢
      generalize x1.heap.size = bk at SUB ⊢
      clear hx1 x1 CS
      have CS := CS1
      clear CS1
      have L1 : Hid (∀ x, C1 x → _) := fun x hx => K1.out x (SUB.out x hx).1
      have L2 : Hid (∀ x, C1 x → _) := fun x hx => K2.out x (SUB.out x hx).1
      have L3 : Hid (∀ x, C1 x → _) := fun x hx => K3.out x (SUB.out x hx).1
      have L4 : Hid (∀ x, C1 x → _) := fun x hx => K4.out x (SUB.out x hx).1
      have L5 : Hid (∀ x, C1 x → _) := fun x hx => K5.out x bk (SUB.out x hx).1 (SUB.out x hx).2.1 (SUB.out x hx).2.2
      refine mixT_main (by rfl) ?_
      rintro ⟨x1, hx1⟩
      go_wp2_with (go_at_call 49; refine (L5.out x1 hx1).mono ?_; rintro e w' ⟨rfl, hb'⟩)
      refine ⟨_, CS.out x1 _ hx1 hb', fun _ h => h, ?_⟩
      clear hb' hx1
      clear x1
      try clear w'
      repeat (refine mixT_still (by rfl) ?_; go_big_quiet_step (exact rfl); refine wpQuiet_nil ?_)
      refine mixT_main (by rfl) ?_
      rintro ⟨x1, hx1⟩
      go_wp2_with (go_at_call 69; refine (L1.out x1 hx1).mono ?_; rintro e w' ⟨rfl, hb'⟩)
      refine ⟨_, CS.out x1 _ hx1 hb', fun _ h => h, ?_⟩
      clear hb' hx1
      clear x1
      try clear w'
      refine mixT_main (by rfl) ?_
      rintro ⟨x1, hx1⟩
      go_wp2_with (go_at_call 48; refine (L2.out x1 hx1).mono ?_; rintro e w' ⟨rfl, hb'⟩)
      refine ⟨_, CS.out x1 _ hx1 hb', fun _ h => h, ?_⟩
      clear hb' hx1
      clear x1
      try clear w'
      repeat (refine mixT_still (by rfl) ?_; go_big_quiet_step (exact rfl); refine wpQuiet_nil ?_)
      refine mixT_end ?_
      rintro ⟨x9, hx9⟩
      dsimp only
      have z : x9.cell? ⟨w.heap.size, 10, none⟩ = some (.bool red) := k10 ⟨x9, (SUB.out x9 hx9).1⟩
      have BX : Hid (Below w.heap.size w x9) := onward BW.out (CB.out ⟨x9, (SUB.out x9 hx9).1⟩)
      clear k0 k1 k2 k3 k4 k5 k6 k7 k8 k9 k10 K1 K2 K3 K4 K5 L1 L2 L3 L4 L5 CS CB C0 hx9 SUB
      cases red
      · go_wp2
        go_ret
        refine ⟨?_, BX.out⟩
        show Ending.returned (Value.string (sB (sw ++ 32 :: (itoa qt ++ 32 :: itoa pr)) ++ sB [32] ++ sB hw)) = _
        rw [HR.out]
        simp [sB_cat]
      · go_wp2
        go_ret
        refine ⟨?_, BX.out⟩
        show Ending.returned (Value.string (sB (sw ++ 32 :: (itoa qt ++ 32 :: itoa pr)) ++ sB [32] ++ sB hw ++ sB (32 :: wReduce))) = _
        rw [HR.out]
        simp [sB_cat]
    · rintro ⟨x1, hx1⟩
      go_wp2
      refine ⟨From C (x1.alloc (.cells #[.int .i64 qt, .int .i64 pr] 3)), from_self (CS.out x1 _ hx1 (below_alloc x1 _)), fun x hx => hx.1, ?_⟩
      have CS1 := hide (from_shut CS.out (x1.alloc (.cells #[.int .i64 qt, .int .i64 pr] 3)))
      have SUB : Hid (∀ x, From C (x1.alloc (.cells #[.int .i64 qt, .int .i64 pr] 3)) x → C x ∧ x.cell? ⟨x1.heap.size, 0, none⟩ = some (.int .i64 qt) ∧ x.cell? ⟨x1.heap.size, 1, none⟩ = some (.int .i64 pr)) := fun x hx => ⟨hx.1, pair_cells x1 qt pr x hx.2⟩
      generalize From C (x1.alloc (.cells #[.int .i64 qt, .int .i64 pr] 3)) = C1 at CS1 SUB ⊢
      generalize x1.heap.size = bk at SUB ⊢
      clear hx1 x1 CS
      have CS := CS1
      clear CS1
      have L1 : Hid (∀ x, C1 x → _) := fun x hx => K1.out x (SUB.out x hx).1
      have L2 : Hid (∀ x, C1 x → _) := fun x hx => K2.out x (SUB.out x hx).1
      have L3 : Hid (∀ x, C1 x → _) := fun x hx => K3.out x (SUB.out x hx).1
      have L4 : Hid (∀ x, C1 x → _) := fun x hx => K4.out x (SUB.out x hx).1
      have L5 : Hid (∀ x, C1 x → _) := fun x hx => K5.out x bk (SUB.out x hx).1 (SUB.out x hx).2.1 (SUB.out x hx).2.2
      refine mixT_main (by rfl) ?_
      rintro ⟨x1, hx1⟩
      go_wp2_with (go_at_call 48; refine (L4.out x1 hx1).mono ?_; rintro e w' ⟨rfl, hb'⟩)
      refine ⟨_, CS.out x1 _ hx1 hb', fun _ h => h, ?_⟩
      clear hb' hx1
      clear x1
      try clear w'
      refine mixT_main (by rfl) ?_
      rintro ⟨x1, hx1⟩
      go_wp2_with (go_at_call 49; refine (L5.out x1 hx1).mono ?_; rintro e w' ⟨rfl, hb'⟩)
      refine ⟨_, CS.out x1 _ hx1 hb', fun _ h => h, ?_⟩
      clear hb' hx1
      clear x1
      try clear w'
      repeat (refine mixT_still (by rfl) ?_; go_big_quiet_step (exact rfl); refine wpQuiet_nil ?_)
      refine mixT_main (by rfl) ?_
      rintro ⟨x1, hx1⟩
      go_wp2_with (go_at_call 69; refine (L1.out x1 hx1).mono ?_; rintro e w' ⟨rfl, hb'⟩)
      refine ⟨_, CS.out x1 _ hx1 hb', fun _ h => h, ?_⟩
      clear hb' hx1
      clear x1
      try clear w'
      refine mixT_main (by rfl) ?_
      rintro ⟨x1, hx1⟩
      go_wp2_with (go_at_call 48; refine (L2.out x1 hx1).mono ?_; rintro e w' ⟨rfl, hb'⟩)
      refine ⟨_, CS.out x1 _ hx1 hb', fun _ h => h, ?_⟩
      clear hb' hx1
      clear x1
      try clear w'
      repeat (refine mixT_still (by rfl) ?_; go_big_quiet_step (exact rfl); refine wpQuiet_nil ?_)
      refine mixT_end ?_
      rintro ⟨x9, hx9⟩
      dsimp only
      have z : x9.cell? ⟨w.heap.size, 10, none⟩ = some (.bool red) := k10 ⟨x9, (SUB.out x9 hx9).1⟩
      have BX : Hid (Below w.heap.size w x9) := onward BW.out (CB.out ⟨x9, (SUB.out x9 hx9).1⟩)
      clear k0 k1 k2 k3 k4 k5 k6 k7 k8 k9 k10 K1 K2 K3 K4 K5 L1 L2 L3 L4 L5 CS CB C0 hx9 SUB
      cases red
      · go_wp2
        go_ret
        refine ⟨?_, BX.out⟩
        show Ending.returned (Value.string (sB (sw ++ 32 :: (itoa qt ++ 32 :: itoa pr)) ++ sB [32] ++ sB hw)) = _
        rw [HR.out]
        simp [sB_cat]
      · go_wp2
        go_ret
        refine ⟨?_, BX.out⟩
        show Ending.returned (Value.string (sB (sw ++ 32 :: (itoa qt ++ 32 :: itoa pr)) ++ sB [32] ++ sB hw ++ sB (32 :: wReduce))) = _
        rw [HR.out]
        simp [sB_cat]
  · rintro ⟨x1, hx1⟩
    go_wp2
    refine ⟨From C (x1.alloc (.cells #[.int .i64 qt, .int .i64 pr] 3)), from_self (CS.out x1 _ hx1 (below_alloc x1 _)), fun x hx => hx.1, ?_⟩
    have CS1 := hide (from_shut CS.out (x1.alloc (.cells #[.int .i64 qt, .int .i64 pr] 3)))
    have SUB : Hid (∀ x, From C (x1.alloc (.cells #[.int .i64 qt, .int .i64 pr] 3)) x → C x ∧ x.cell? ⟨x1.heap.size, 0, none⟩ = some (.int .i64 qt) ∧ x.cell? ⟨x1.heap.size, 1, none⟩ = some (.int .i64 pr)) := fun x hx => ⟨hx.1, pair_cells x1 qt pr x hx.2⟩
    generalize From C (x1.alloc (.cells #[.int .i64 qt, .int .i64 pr] 3)) = C1 at CS1 SUB ⊢
    generalize x1.heap.size = bk at SUB ⊢
    clear hx1 x1 CS
    have CS := CS1
    clear CS1
    have L1 : Hid (∀ x, C1 x → _) := fun x hx => K1.out x (SUB.out x hx).1
    have L2 : Hid (∀ x, C1 x → _) := fun x hx => K2.out x (SUB.out x hx).1
    have L3 : Hid (∀ x, C1 x → _) := fun x hx => K3.out x (SUB.out x hx).1
    have L4 : Hid (∀ x, C1 x → _) := fun x hx => K4.out x (SUB.out x hx).1
    have L5 : Hid (∀ x, C1 x → _) := fun x hx => K5.out x bk (SUB.out x hx).1 (SUB.out x hx).2.1 (SUB.out x hx).2.2
    refine mixT_main (by rfl) ?_
    rintro ⟨x1, hx1⟩
    go_wp2_with (go_at_call 70; refine (L3.out x1 hx1).mono ?_; rintro e w' ⟨rfl, hb'⟩)
    refine ⟨_, CS.out x1 _ hx1 hb', fun _ h => h, ?_⟩
    clear hb' hx1
    clear x1
    try clear w'
    refine mixT_main (by rfl) ?_
    rintro ⟨x1, hx1⟩
    go_wp2_with (go_at_call 48; refine (L4.out x1 hx1).mono ?_; rintro e w' ⟨rfl, hb'⟩)
    refine ⟨_, CS.out x1 _ hx1 hb', fun _ h => h, ?_⟩
    clear hb' hx1
    clear x1
    try clear w'
    refine mixT_main (by rfl) ?_
    rintro ⟨x1, hx1⟩
    go_wp2_with (go_at_call 49; refine (L5.out x1 hx1).mono ?_; rintro e w' ⟨rfl, hb'⟩)
    refine ⟨_, CS.out x1 _ hx1 hb', fun _ h => h, ?_⟩
    clear hb' hx1
    clear x1
    try clear w'
    repeat (refine mixT_still (by rfl) ?_; go_big_quiet_step (exact rfl); refine wpQuiet_nil ?_)
    refine mixT_main (by rfl) ?_
    rintro ⟨x1, hx1⟩
    go_wp2_with (go_at_call 69; refine (L1.out x1 hx1).mono ?_; rintro e w' ⟨rfl, hb'⟩)
    refine ⟨_, CS.out x1 _ hx1 hb', fun _ h => h, ?_⟩
    clear hb' hx1
    clear x1
    try clear w'
    refine mixT_main (by rfl) ?_
    rintro ⟨x1, hx1⟩
    go_wp2_with (go_at_call 48; refine (L2.out x1 hx1).mono ?_; rintro e w' ⟨rfl, hb'⟩)
    refine ⟨_, CS.out x1 _ hx1 hb', fun _ h => h, ?_⟩
    clear hb' hx1
    clear x1
    try clear w'
    repeat (refine mixT_still (by rfl) ?_; go_big_quiet_step (exact rfl); refine wpQuiet_nil ?_)
    refine mixT_end ?_
    rintro ⟨x9, hx9⟩
    dsimp only
    have z : x9.cell? ⟨w.heap.size, 10, none⟩ = some (.bool red) := k10 ⟨x9, (SUB.out x9 hx9).1⟩
    have BX : Hid (Below w.heap.size w x9) := onward BW.out (CB.out ⟨x9, (SUB.out x9 hx9).1⟩)
    clear k0 k1 k2 k3 k4 k5 k6 k7 k8 k9 k10 K1 K2 K3 K4 K5 L1 L2 L3 L4 L5 CS CB C0 hx9 SUB
    cases red
    · go_wp2
      go_ret
      refine ⟨?_, BX.out⟩
      show Ending.returned (Value.string (sB (sw ++ 32 :: (itoa qt ++ 32 :: itoa pr)) ++ sB [32] ++ sB hw)) = _
      rw [HR.out]
      simp [sB_cat]
    · go_wp2
      go_ret
      refine ⟨?_, BX.out⟩
      show Ending.returned (Value.string (sB (sw ++ 32 :: (itoa qt ++ 32 :: itoa pr)) ++ sB [32] ++ sB hw ++ sB (32 :: wReduce))) = _
      rw [HR.out]
      simp [sB_cat]
end Go.Proofs.YthdjfhnhjiageaaGreatDoor.Tx
