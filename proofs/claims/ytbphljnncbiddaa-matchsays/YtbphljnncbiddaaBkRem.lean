/-
  Package book by contracts: Remove.
-/
import Derived.Test.YtbphljnncbiddaaBkDel
namespace Go.Proofs.Ytbphljnncbiddaa.Bk
open Go.RowKit Go.Sort Go.Maps Go.Proofs.Ytbphljnncbiddaa.Mix

theorem made3_two (w : World) (o1 o3 : Obj) (u0 u1 : Value) : Two (((w.alloc o1).alloc (.cells #[u0, u1] 42)).alloc o3) (w.heap.size + 1) := by
  have h1 : ((w.alloc o1).alloc (.cells #[u0, u1] 42)).heap[w.heap.size + 1]? = some (.cells #[u0, u1] 42 (0, 0)) := by
    have := heap_alloc_new (w.alloc o1) (.cells #[u0, u1] 42); simpa using this
  exact ⟨u0, u1, (Below.heap_alloc _ o3 _ (by simp)).trans h1⟩
theorem made3_five (w : World) (o1 o2 : Obj) (u0 u1 u2 u3 u4 : Value) : Five (((w.alloc o1).alloc o2).alloc (.cells #[u0, u1, u2, u3, u4] 44)) (w.heap.size + 1 + 1) :=
  ⟨u0, u1, u2, u3, u4, by have := heap_alloc_new ((w.alloc o1).alloc o2) (.cells #[u0, u1, u2, u3, u4] 44); simpa using this⟩

theorem set_other (x : World) {t : Nat} {a : Addr} (h : a.block ≠ t) (o : Nat) (v : Value) : (x.setCell ⟨t, o, none⟩ v).cell? a = x.cell? a := World.cell?_of_block (Below.heap_setCell x ⟨t, o, none⟩ v a.block h)
theorem five_two {x : World} {t s : Nat} (h : Five x s) (hne : s ≠ t) (v0 v1 : Value) : Five ((x.setCell ⟨t, 0, none⟩ v0).setCell ⟨t, 1, none⟩ v1) s := by
  obtain ⟨u0, u1, u2, u3, u4, h⟩ := h
  exact ⟨u0, u1, u2, u3, u4, (Below.heap_setCell _ ⟨t, 1, none⟩ v1 s hne).trans ((Below.heap_setCell x ⟨t, 0, none⟩ v0 s hne).trans h)⟩
theorem five_other {x : World} {t : Nat} {a : Addr} (h : a.block ≠ t) (u0 u1 u2 u3 u4 : Value) : (five x t u0 u1 u2 u3 u4).cell? a = x.cell? a := by
  simp only [five]
  rw [set_other _ h, set_other _ h, set_other _ h, set_other _ h, set_other _ h]
theorem two_five {x : World} {t s : Nat} (h : Two x t) (hne : t ≠ s) (u0 u1 u2 u3 u4 : Value) : Two (five x s u0 u1 u2 u3 u4) t := by
  obtain ⟨v0, v1, h⟩ := h
  exact ⟨v0, v1, (Below.heap_setCell _ ⟨s, 4, none⟩ u4 t hne).trans ((Below.heap_setCell _ ⟨s, 3, none⟩ u3 t hne).trans ((Below.heap_setCell _ ⟨s, 2, none⟩ u2 t hne).trans ((Below.heap_setCell _ ⟨s, 1, none⟩ u1 t hne).trans ((Below.heap_setCell x ⟨s, 0, none⟩ u0 t hne).trans h))))⟩
theorem five_again {x : World} {t : Nat} (h : Five x t) (u0 u1 u2 u3 u4 : Value) : Five (five x t u0 u1 u2 u3 u4) t := ⟨u0, u1, u2, u3, u4, five_heap h u0 u1 u2 u3 u4⟩
theorem five_ownsRow {x : World} {t B n : Nat} {v : Value} {xs : List Value} (h : x.ownsRow B 44 5 v n xs) (hB : t < B) (u0 u1 u2 u3 u4 : Value) : (five x t u0 u1 u2 u3 u4).ownsRow B 44 5 v n xs :=
  ownsRow_setCell_below (ownsRow_setCell_below (ownsRow_setCell_below (ownsRow_setCell_below (ownsRow_setCell_below h hB u0) hB u1) hB u2) hB u3) hB u4
theorem five_size (x : World) (t : Nat) (u0 u1 u2 u3 u4 : Value) : (five x t u0 u1 u2 u3 u4).heap.size = x.heap.size := by simp [five, World.setCell]
theorem two_size (x : World) (t : Nat) (u0 u1 : Value) : ((x.setCell ⟨t, 0, none⟩ u0).setCell ⟨t, 1, none⟩ u1).heap.size = x.heap.size := by simp [World.setCell]

/-- the class of worlds within Remove's last statement. -/
structure RM (W : World) (t : Nat) (o : Odr) (t7 : Nat) (x : World) : Prop where
  bel : Below t W x
  sz : W.heap.size ≤ x.heap.size
  two : Two x t
  fiv : Five x (t + 1)
  ord : ∀ i v, (enc o)[i]? = some v → x.cell? ⟨t7, i, none⟩ = some v
theorem rm_shut {W : World} {t : Nat} {o : Odr} {t7 : Nat} : Shut (RM W t o t7) := fun x y hx hy => by
  have ht := five_lt hx.fiv
  exact ⟨hx.bel.trans (hy.mono (by omega)), Nat.le_trans hx.sz hy.size, two_below hx.two hy, five_below hx.fiv hy, fun i v hv => (hy.cell (World.block_lt_of_cell? _ _ (hx.ord i v hv))).trans (hx.ord i v hv)⟩
theorem rm_two {W x : World} {t t7 : Nat} {o : Odr} (h : RM W t o t7 x) (h7 : t7 ≠ t) (v0 v1 : Value) : RM W t o t7 ((x.setCell ⟨t, 0, none⟩ v0).setCell ⟨t, 1, none⟩ v1) :=
  ⟨two_below_set h.bel (Nat.le_refl _) _ _, by rw [two_size]; exact h.sz, two_again h.two _ _, five_two h.fiv (by omega) _ _, fun i v hv => by rw [set_other _ h7, set_other _ h7]; exact h.ord i v hv⟩
theorem rm_five {W x : World} {t t7 : Nat} {o : Odr} (h : RM W t o t7 x) (h7 : t7 ≠ t + 1) (u0 u1 u2 u3 u4 : Value) : RM W t o t7 (five x (t + 1) u0 u1 u2 u3 u4) :=
  ⟨five_below_set h.bel (by omega) _ _ _ _ _, by rw [five_size]; exact h.sz, two_five h.two (by omega) _ _ _ _ _, five_again h.fiv _ _ _ _ _, fun i v hv => by rw [five_other h7]; exact h.ord i v hv⟩

abbrev RemovePost (w : World) (X Y : List Odr) (o : Odr) (e : Ending) (w' : World) : Prop :=
  ∃ p1 c1 p2 c2, e = .returned (.tuple #[.agg #[.slice p1 X.length c1, .slice p2 Y.length c2], odrV o, .int .i64 0]) ∧ OV w' p1 c1 X ∧ OV w' p2 c2 Y ∧ Below w.heap.size w w' ∧ (∀ a, p1 = some a → w.heap.size ≤ a.block) ∧ (∀ a, p2 = some a → w.heap.size ≤ a.block)

set_option maxHeartbeats 1000000 in
set_option maxRecDepth 100000 in
theorem remove_bad (p p' : Option Addr) (c c' : Nat) (bids asks : List Odr) (id : Int) (w : World) (h : ORow w p bids) (h' : ORow w p' asks) (hn : bids.length ≤ 140737488351232) (hn' : asks.length ≤ 140737488351232)
    (he : ¬ findE bids asks id = 0) :
    Calls Try.prog 32 #[.agg #[.slice p bids.length c, .slice p' asks.length c'], .int .i64 id] w fun e w' =>
      e = .returned (.tuple #[.agg #[.slice none 0 0, .slice none 0 0], odrV noOdr, .int .i64 (findE bids asks id)]) ∧ Below w.heap.size w w' := by
  have hb0 : ∀ o1 o2 o3, Below w.heap.size w (((w.alloc o1).alloc o2).alloc o3) := fun o1 o2 o3 => (((Below.refl _ w).alloc (Nat.le_refl _) _).alloc (by simp) _).alloc (by simp; omega) _
  have FI := hide (fun W hW => find_any p p' c c' bids asks id W (orow_below h hW) (orow_below h' hW) hn hn')
  clear h h'
  generalize findE bids asks id = fe at he FI ⊢
  generalize findO bids asks id = fo at FI
  obtain ⟨a, ac, sd, pr, q⟩ := fo
  go_enter Try.func32, Try.ntmps32
  go_wp2_with fail
  refine (FI.out _ (hb0 _ _ _)).mono ?_
  rintro e W ⟨rfl, hb⟩
  have BW := hide ((hb0 _ _ _).trans (hb.mono (by simp; omega)))
  have T := hide (two_below (made3_two _ _ _ _ _) hb)
  have F := hide (five_below (made3_five _ _ _ _ _ _ _ _) hb)
  clear hb hb0 FI
  have B1 := hide (BW.out.alloc BW.out.size (.cells #[.int .i64 a, .int .i64 ac, .int .i64 sd, .int .i64 pr, .int .i64 q] 44))
  have T1 := hide (two_below T.out ((Below.refl W.heap.size W).alloc (Nat.le_refl _) (.cells #[.int .i64 a, .int .i64 ac, .int .i64 sd, .int .i64 pr, .int .i64 q] 44)))
  have F1 := hide (five_below F.out ((Below.refl W.heap.size W).alloc (Nat.le_refl _) (.cells #[.int .i64 a, .int .i64 ac, .int .i64 sd, .int .i64 pr, .int .i64 q] 44)))
  clear BW T F
  obtain ⟨u0, u1, t0, t1, t2, t3⟩ := two_facts T1.out
  obtain ⟨⟨v0, v1, v2, v3, v4, g0, g1, g2, g3, g4⟩, r0, r1, r2, r3, r4⟩ := five_facts F1.out
  have hne : w.heap.size + 1 + 1 ≠ w.heap.size + 1 := by omega
  go_wp2
  have F2 := five_two F1.out hne (.slice none 0 0) (.slice none 0 0)
  obtain ⟨s0, s1, s2, s3, s4⟩ := five_set F2 (.int .i64 0) (.int .i64 0) (.int .i64 0) (.int .i64 0) (.int .i64 0)
  obtain ⟨q0, q1⟩ := two_set T1.out (.slice none 0 0) (.slice none 0 0)
  have y0 := (five_other (x := ((W.alloc (.cells #[.int .i64 a, .int .i64 ac, .int .i64 sd, .int .i64 pr, .int .i64 q] 44)).setCell ⟨w.heap.size + 1, 0, none⟩ (.slice none 0 0)).setCell ⟨w.heap.size + 1, 1, none⟩ (.slice none 0 0)) (t := w.heap.size + 1 + 1) (a := ⟨w.heap.size + 1, 0, none⟩) hne.symm (.int .i64 0) (.int .i64 0) (.int .i64 0) (.int .i64 0) (.int .i64 0)).trans q0
  have y1 := (five_other (x := ((W.alloc (.cells #[.int .i64 a, .int .i64 ac, .int .i64 sd, .int .i64 pr, .int .i64 q] 44)).setCell ⟨w.heap.size + 1, 0, none⟩ (.slice none 0 0)).setCell ⟨w.heap.size + 1, 1, none⟩ (.slice none 0 0)) (t := w.heap.size + 1 + 1) (a := ⟨w.heap.size + 1, 1, none⟩) hne.symm (.int .i64 0) (.int .i64 0) (.int .i64 0) (.int .i64 0) (.int .i64 0)).trans q1
  have BF := five_below_set (two_below_set B1.out (t := w.heap.size + 1) (by omega) (.slice none 0 0) (.slice none 0 0)) (t := w.heap.size + 1 + 1) (by omega) (.int .i64 0) (.int .i64 0) (.int .i64 0) (.int .i64 0) (.int .i64 0)
  simp only [five] at s0 s1 s2 s3 s4 y0 y1 BF
  generalize (((((((W.alloc (.cells #[.int .i64 a, .int .i64 ac, .int .i64 sd, .int .i64 pr, .int .i64 q] 44)).setCell ⟨w.heap.size + 1, 0, none⟩ (.slice none 0 0)).setCell ⟨w.heap.size + 1, 1, none⟩ (.slice none 0 0)).setCell ⟨w.heap.size + 1 + 1, 0, none⟩ (.int .i64 0)).setCell ⟨w.heap.size + 1 + 1, 1, none⟩ (.int .i64 0)).setCell ⟨w.heap.size + 1 + 1, 2, none⟩ (.int .i64 0)).setCell ⟨w.heap.size + 1 + 1, 3, none⟩ (.int .i64 0)).setCell ⟨w.heap.size + 1 + 1, 4, none⟩ (.int .i64 0) = WF at s0 s1 s2 s3 s4 y0 y1 BF ⊢
  refine bodyPost_ret (v := .tuple #[.agg #[.slice none 0 0, .slice none 0 0], odrV noOdr, .int .i64 fe]) (by simp [results, Try.results32, go_sem, s0, s1, s2, s3, s4, y0, y1]) rfl ⟨rfl, BF⟩

set_option maxHeartbeats 2000000 in
set_option maxRecDepth 100000 in
theorem remove_ok (p p' : Option Addr) (c c' : Nat) (bids asks : List Odr) (id : Int) (w : World) (h : OV w p c bids) (h' : OV w p' c' asks) (hR : Right bids asks) (o : Odr) (hf : findIn id bids asks = some o) :
    Calls Try.prog 32 #[.agg #[.slice p bids.length c, .slice p' asks.length c'], .int .i64 id] w (RemovePost w (without id bids) (without id asks) o) := by
  have mixed : Try.prog.follows .mixedOrders = true := by kernel_rfl
  have hb0 : ∀ o1 o2 o3, Below w.heap.size w (((w.alloc o1).alloc o2).alloc o3) := fun o1 o2 o3 => (((Below.refl _ w).alloc (Nat.le_refl _) _).alloc (by simp) _).alloc (by simp; omega) _
  have hl := hR.few
  have hE : findE bids asks id = 0 := by unfold findE; rw [if_pos (bookErr_zero.2 hR), hf]; rfl
  have hO : findO bids asks id = o := by unfold findO; rw [if_pos (bookErr_zero.2 hR), hf]; rfl
  obtain ⟨nb, hnb⟩ : ∃ n, bids.length = n := ⟨_, rfl⟩
  obtain ⟨na, hna⟩ : ∃ n, asks.length = n := ⟨_, rfl⟩
  have FI : Hid (∀ W, Below w.heap.size w W → Calls Try.prog 31 #[.agg #[.slice p nb c, .slice p' na c'], .int .i64 id] W fun e w' => e = .returned (.tuple #[odrV o, .int .i64 0]) ∧ Below W.heap.size W w') := fun W hW => by
    have := find_any p p' c c' bids asks id W (orow_below h.row hW) (orow_below h'.row hW) (by omega) (by omega)
    rw [hE, hO, hnb, hna] at this
    exact this
  have WB : Hid (∀ W, Below w.heap.size w W → Calls Try.prog 78 #[.slice p nb c, .int .i64 id] W fun e w' => ∃ v, e = .returned v ∧ w'.ownsRow W.heap.size 44 5 v (without id bids).length (flat (without id bids)) ∧ Below W.heap.size W w') := fun W hW => by
    rw [← hnb]
    exact without_any p c bids id W (h.below hW) (by omega)
  have WA : Hid (∀ W, Below w.heap.size w W → Calls Try.prog 78 #[.slice p' na c', .int .i64 id] W fun e w' => ∃ v, e = .returned v ∧ w'.ownsRow W.heap.size 44 5 v (without id asks).length (flat (without id asks)) ∧ Below W.heap.size W w') := fun W hW => by
    rw [← hna]
    exact without_any p' c' asks id W (h'.below hW) (by omega)
  rw [hnb, hna]
  generalize without id bids = X at WB ⊢
  generalize without id asks = Y at WA ⊢
  clear h h' hR hf hE hO hl hnb hna
  obtain ⟨a, ac, sd, pr, q⟩ := o
  go_enter Try.func32, Try.ntmps32
  go_wp2_with fail
  refine (FI.out _ (hb0 _ _ _)).mono ?_
  rintro e W ⟨rfl, hb⟩
  have BW := hide ((hb0 _ _ _).trans (hb.mono (by simp; omega)))
  have T := hide (two_below (made3_two _ _ _ _ _) hb)
  have F := hide (five_below (made3_five _ _ _ _ _ _ _ _) hb)
  have e0 : W.cell? ⟨w.heap.size, 0, none⟩ = some (.slice p nb c) := box3_a hb rfl
  have e1 : W.cell? ⟨w.heap.size, 1, none⟩ = some (.slice p' na c') := box3_a hb rfl
  clear hb hb0 FI
  have BA := (Below.refl W.heap.size W).alloc (Nat.le_refl _) (.cells #[.int .i64 a, .int .i64 ac, .int .i64 sd, .int .i64 pr, .int .i64 q] 44)
  have tW : Hid (w.heap.size + 1 + 1 < W.heap.size) := five_lt F.out
  obtain ⟨W1, hW1⟩ : ∃ W1, W1 = W.alloc (.cells #[.int .i64 a, .int .i64 ac, .int .i64 sd, .int .i64 pr, .int .i64 q] 44) := ⟨_, rfl⟩
  have R0 : Hid (RM W1 (w.heap.size + 1) (a, ac, sd, pr, q) W.heap.size { W1 with drawn := W1.drawn + 1 }) := by
    have hx : RM W1 (w.heap.size + 1) (a, ac, sd, pr, q) W.heap.size W1 := by
      rw [hW1]
      exact ⟨Below.refl _ _, Nat.le_refl _, two_below T.out BA, five_below F.out BA, fun i v hv => new_cell _ _ _ _ _ (by simpa [enc] using hv)⟩
    exact rm_shut _ _ hx (below_drawn W1)
  have BW1 : Hid (Below w.heap.size w W1) := by rw [hW1]; exact BW.out.alloc BW.out.size _
  have f0 : W1.cell? ⟨w.heap.size, 0, none⟩ = some (.slice p nb c) := by rw [hW1]; exact cell_alloc e0 _
  have f1 : W1.cell? ⟨w.heap.size, 1, none⟩ = some (.slice p' na c') := by rw [hW1]; exact cell_alloc e1 _
  have sW1 : Hid (W.heap.size < W1.heap.size) := by rw [hW1]; exact (by simp : W.heap.size < (W.alloc (.cells #[.int .i64 a, .int .i64 ac, .int .i64 sd, .int .i64 pr, .int .i64 q] 44)).heap.size)
  obtain ⟨t7, ht7⟩ : ∃ t7, t7 = W.heap.size := ⟨_, rfl⟩
  rw [← ht7] at R0 sW1 tW
  go_wp2_with fail
  rw [← ht7, ← hW1]
  clear BA T F BW e0 e1 hW1 ht7
  obtain ⟨C, hCC⟩ : ∃ C, C = RM W1 (w.heap.size + 1) (a, ac, sd, pr, q) t7 := ⟨_, rfl⟩
  have CR : Hid (∀ x, C x → RM W1 (w.heap.size + 1) (a, ac, sd, pr, q) t7 x) := fun x hx => by rw [hCC] at hx; exact hx
  have CQ : Hid (∀ x, RM W1 (w.heap.size + 1) (a, ac, sd, pr, q) t7 x → C x) := fun x hx => by rw [hCC]; exact hx
  have CS : Hid (Shut C) := by rw [hCC]; exact rm_shut
  have hC : ∀ p1 : InC C, ∀ a v, a.block < w.heap.size + 1 → W1.cell? a = some v → p1.w.cell? a = some v := fun p1 a v ha hv => ((CR.out p1.w p1.h).bel.cell ha).trans hv
  have g0 := fun p1 => hC p1 ⟨w.heap.size, 0, none⟩ _ (by simp) f0
  have g1 := fun p1 => hC p1 ⟨w.heap.size, 1, none⟩ _ (by simp) f1
  have l0 := fun p1 : InC C => (CR.out p1.w p1.h).ord 0 _ rfl
  have l1 := fun p1 : InC C => (CR.out p1.w p1.h).ord 1 _ rfl
  have l2 := fun p1 : InC C => (CR.out p1.w p1.h).ord 2 _ rfl
  have l3 := fun p1 : InC C => (CR.out p1.w p1.h).ord 3 _ rfl
  have l4 := fun p1 : InC C => (CR.out p1.w p1.h).ord 4 _ rfl
  dsimp only [oid, oac, osd, opr, oqt] at l0 l1 l2 l3 l4
  clear hC hCC f0 f1
  refine wp_region_mix [(0, true), (1, true), (2, true), (4, true), (5, true), (6, true), (9, true), (3, false), (7, false), (8, true), (10, false), (11, false), (12, true)] C mixed (by kernel_rfl) (CQ.out _ R0.out) ?_
  repeat (refine mix_still (by rfl) ?_; go_big_quiet_step (exact rfl); refine wpQuiet_nil ?_)
  refine mix_main (by rfl) ?_
  rintro ⟨x1, hx1⟩
  dsimp only
  have cr1 := CR.out x1 hx1
  have bx1 := BW1.out.trans (cr1.bel.mono (by omega))
  have hcon := WB.out x1 bx1
  have hsz1 : Hid ((w.heap.size + 1 + 1 + 1) ≤ x1.heap.size) := Nat.le_trans (Nat.succ_le_of_lt (Nat.lt_trans tW.out sW1.out)) cr1.sz
  have HX1 := hide hx1
  clear cr1 bx1
  go_wp2_with (go_at_call 78; refine hcon.mono ?_; rintro e w1 ⟨v1, rfl, hown1, hb1⟩)
  have hown1' := own_base hown1 hsz1.out
  obtain ⟨p1, c1, rfl, -, -⟩ := own_ov hown1'
  refine ⟨Owning C (w.heap.size + 1 + 1 + 1) (.slice p1 X.length c1) X, ⟨CS.out x1 w1 HX1.out hb1, hown1'⟩, fun x hx => hx.1, ?_⟩
  have CS1 := hide (owning_shut CS.out (w.heap.size + 1 + 1 + 1) (.slice p1 X.length c1) X)
  have K1 : Hid (∀ x, Owning C (w.heap.size + 1 + 1 + 1) (.slice p1 X.length c1) X x ↔ C x ∧ x.ownsRow (w.heap.size + 1 + 1 + 1) 44 5 (.slice p1 X.length c1) X.length (flat X)) := fun x => Iff.rfl
  generalize Owning C (w.heap.size + 1 + 1 + 1) (.slice p1 X.length c1) X = C1 at CS1 K1 ⊢
  clear hcon hown1 hown1' hb1 w1 HX1 hsz1 g0 g1 l0 l1 l2 l3 l4
  refine mix_main (by rfl) ?_
  rintro ⟨x2, hx2⟩
  dsimp only
  have cr2 := CR.out x2 ((K1.out x2).1 hx2).1
  have bx2 := BW1.out.trans (cr2.bel.mono (by omega))
  have hcon := WA.out x2 bx2
  have hsz2 : Hid ((w.heap.size + 1 + 1 + 1) ≤ x2.heap.size) := Nat.le_trans (Nat.succ_le_of_lt (Nat.lt_trans tW.out sW1.out)) cr2.sz
  have HX2 := hide hx2
  clear cr2 bx2
  go_wp2_with (go_at_call 78; refine hcon.mono ?_; rintro e w2 ⟨v2, rfl, hown2, hb2⟩)
  have hown2' := own_base hown2 hsz2.out
  obtain ⟨p2, c2, rfl, -, -⟩ := own_ov hown2'
  refine ⟨Owning C1 (w.heap.size + 1 + 1 + 1) (.slice p2 Y.length c2) Y, ⟨CS1.out x2 w2 HX2.out hb2, hown2'⟩, fun x hx => hx.1, ?_⟩
  have K2 : Hid (∀ x, Owning C1 (w.heap.size + 1 + 1 + 1) (.slice p2 Y.length c2) Y x ↔ C1 x ∧ x.ownsRow (w.heap.size + 1 + 1 + 1) 44 5 (.slice p2 Y.length c2) Y.length (flat Y)) := fun x => Iff.rfl
  generalize Owning C1 (w.heap.size + 1 + 1 + 1) (.slice p2 Y.length c2) Y = C2 at K2 ⊢
  clear hcon hown2 hown2' hb2 w2 HX2 hsz2
  repeat (refine mix_still (by rfl) ?_; go_big_quiet_step (exact rfl); refine wpQuiet_nil ?_)
  refine mix_main (by rfl) ?_
  rintro ⟨x3, hx3⟩
  dsimp only
  obtain ⟨y1, y2⟩ := (K2.out x3).1 hx3
  obtain ⟨z1, z2⟩ := (K1.out x3).1 y1
  have cr3 := CR.out x3 z1
  obtain ⟨u0, u1, t0, t1, t2, t3⟩ := two_facts cr3.two
  have h7 : t7 ≠ w.heap.size + 1 := by have := tW.out; omega
  have S1 := hide (two_set cr3.two (.slice p1 X.length c1) (.slice p2 Y.length c2))
  have S2 := hide (CQ.out _ (rm_two cr3 h7 (.slice p1 X.length c1) (.slice p2 Y.length c2)))
  have S3 := hide (two_ownsRow z2 (t := w.heap.size + 1) (by omega) (.slice p1 X.length c1) (.slice p2 Y.length c2))
  have S4 := hide (two_ownsRow y2 (t := w.heap.size + 1) (by omega) (.slice p1 X.length c1) (.slice p2 Y.length c2))
  clear y1 y2 z1 z2 cr3
  go_wp2
  refine ⟨fun x => C2 x ∧ x.cell? ⟨w.heap.size + 1, 0, none⟩ = some (.slice p1 X.length c1) ∧ x.cell? ⟨w.heap.size + 1, 1, none⟩ = some (.slice p2 Y.length c2), ⟨(K2.out _).2 ⟨(K1.out _).2 ⟨S2.out, S3.out⟩, S4.out⟩, S1.out.1, S1.out.2⟩, fun x hx => hx.1, ?_⟩
  obtain ⟨C3, hC3⟩ : ∃ C3 : World → Prop, C3 = (fun x => C2 x ∧ x.cell? ⟨w.heap.size + 1, 0, none⟩ = some (.slice p1 X.length c1) ∧ x.cell? ⟨w.heap.size + 1, 1, none⟩ = some (.slice p2 Y.length c2)) := ⟨_, rfl⟩
  rw [← hC3]
  have K3 : Hid (∀ x, C3 x ↔ C2 x ∧ x.cell? ⟨w.heap.size + 1, 0, none⟩ = some (.slice p1 X.length c1) ∧ x.cell? ⟨w.heap.size + 1, 1, none⟩ = some (.slice p2 Y.length c2)) := fun x => by rw [hC3]
  clear hC3 S1 S2 S3 S4 t0 t1 t2 t3 hx3
  refine mix_main (by rfl) ?_
  rintro ⟨x4, hx4⟩
  dsimp only
  obtain ⟨k2, s0, s1⟩ := (K3.out x4).1 hx4
  obtain ⟨y1, y2⟩ := (K2.out x4).1 k2
  obtain ⟨z1, z2⟩ := (K1.out x4).1 y1
  have cr4 := CR.out x4 z1
  obtain ⟨⟨v0, v1, v2, v3, v4, m0, m1, m2, m3, m4⟩, r0, r1, r2, r3, r4⟩ := five_facts cr4.fiv
  have h8 : t7 ≠ w.heap.size + 1 + 1 := by have := tW.out; omega
  have h9 : (w.heap.size + 1 : Nat) ≠ w.heap.size + 1 + 1 := by omega
  have S1 := hide (five_set cr4.fiv (.int .i64 a) (.int .i64 ac) (.int .i64 sd) (.int .i64 pr) (.int .i64 q))
  have S2 := hide (CQ.out _ (rm_five cr4 h8 (.int .i64 a) (.int .i64 ac) (.int .i64 sd) (.int .i64 pr) (.int .i64 q)))
  have S3 := hide (five_ownsRow z2 (t := w.heap.size + 1 + 1) (by omega) (.int .i64 a) (.int .i64 ac) (.int .i64 sd) (.int .i64 pr) (.int .i64 q))
  have S4 := hide (five_ownsRow y2 (t := w.heap.size + 1 + 1) (by omega) (.int .i64 a) (.int .i64 ac) (.int .i64 sd) (.int .i64 pr) (.int .i64 q))
  have S5 := hide ((five_other (x := x4) (t := w.heap.size + 1 + 1) (a := ⟨w.heap.size + 1, 0, none⟩) h9 (.int .i64 a) (.int .i64 ac) (.int .i64 sd) (.int .i64 pr) (.int .i64 q)).trans s0)
  have S6 := hide ((five_other (x := x4) (t := w.heap.size + 1 + 1) (a := ⟨w.heap.size + 1, 1, none⟩) h9 (.int .i64 a) (.int .i64 ac) (.int .i64 sd) (.int .i64 pr) (.int .i64 q)).trans s1)
  clear k2 s0 s1 y1 y2 z1 z2 cr4
  go_wp2
  refine ⟨fun x => C3 x ∧ x.cell? ⟨w.heap.size + 1 + 1, 0, none⟩ = some (.int .i64 a) ∧ x.cell? ⟨w.heap.size + 1 + 1, 1, none⟩ = some (.int .i64 ac) ∧ x.cell? ⟨w.heap.size + 1 + 1, 2, none⟩ = some (.int .i64 sd) ∧ x.cell? ⟨w.heap.size + 1 + 1, 3, none⟩ = some (.int .i64 pr) ∧ x.cell? ⟨w.heap.size + 1 + 1, 4, none⟩ = some (.int .i64 q), ⟨(K3.out _).2 ⟨(K2.out _).2 ⟨(K1.out _).2 ⟨S2.out, S3.out⟩, S4.out⟩, S5.out, S6.out⟩, S1.out⟩, fun x hx => hx.1, ?_⟩
  obtain ⟨C4, hC4⟩ : ∃ C4 : World → Prop, C4 = (fun x => C3 x ∧ x.cell? ⟨w.heap.size + 1 + 1, 0, none⟩ = some (.int .i64 a) ∧ x.cell? ⟨w.heap.size + 1 + 1, 1, none⟩ = some (.int .i64 ac) ∧ x.cell? ⟨w.heap.size + 1 + 1, 2, none⟩ = some (.int .i64 sd) ∧ x.cell? ⟨w.heap.size + 1 + 1, 3, none⟩ = some (.int .i64 pr) ∧ x.cell? ⟨w.heap.size + 1 + 1, 4, none⟩ = some (.int .i64 q)) := ⟨_, rfl⟩
  rw [← hC4]
  have K4 : Hid (∀ x, C4 x ↔ C3 x ∧ x.cell? ⟨w.heap.size + 1 + 1, 0, none⟩ = some (.int .i64 a) ∧ x.cell? ⟨w.heap.size + 1 + 1, 1, none⟩ = some (.int .i64 ac) ∧ x.cell? ⟨w.heap.size + 1 + 1, 2, none⟩ = some (.int .i64 sd) ∧ x.cell? ⟨w.heap.size + 1 + 1, 3, none⟩ = some (.int .i64 pr) ∧ x.cell? ⟨w.heap.size + 1 + 1, 4, none⟩ = some (.int .i64 q)) := fun x => by rw [hC4]
  clear hC4 S1 S2 S3 S4 S5 S6 m0 m1 m2 m3 m4 r0 r1 r2 r3 r4 hx4
  repeat (refine mix_still (by rfl) ?_; go_big_quiet_step (exact rfl); refine wpQuiet_nil ?_)
  refine mix_end ?_
  rintro ⟨x5, hx5⟩
  dsimp only
  obtain ⟨k3, n0, n1, n2, n3, n4⟩ := (K4.out x5).1 hx5
  obtain ⟨k2, s0, s1⟩ := (K3.out x5).1 k3
  obtain ⟨y1, y2⟩ := (K2.out x5).1 k2
  obtain ⟨z1, z2⟩ := (K1.out x5).1 y1
  have bx5 := hide (BW1.out.trans ((CR.out x5 z1).bel.mono (by omega)))
  obtain ⟨p3, c3, ev1, ov1, ob1⟩ := own_ov z2
  obtain ⟨p4, c4, ev2, ov2, ob2⟩ := own_ov y2
  cases ev1
  cases ev2
  have OV1 := hide ov1
  have OV2 := hide ov2
  have OB1 := hide ob1
  have OB2 := hide ob2
  clear k2 k3 y1 y2 z1 z2 ov1 ov2 ob1 ob2
  go_wp2
  refine bodyPost_ret (v := .tuple #[.agg #[.slice p1 X.length c1, .slice p2 Y.length c2], odrV (a, ac, sd, pr, q), .int .i64 0]) (by simp [results, Try.results32, go_sem, s0, s1, n0, n1, n2, n3, n4]) rfl ⟨p1, c1, p2, c2, rfl, OV1.out, OV2.out, bx5.out, fun a ha => by have := (OB1.out a ha).1; omega, fun a ha => by have := (OB2.out a ha).1; omega⟩
end Go.Proofs.Ytbphljnncbiddaa.Bk
