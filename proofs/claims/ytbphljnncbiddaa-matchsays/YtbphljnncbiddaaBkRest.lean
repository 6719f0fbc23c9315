/-
  Package book by contracts: Rest.
-/
import Derived.Test.YtbphljnncbiddaaBkWith
namespace Go.Proofs.Ytbphljnncbiddaa.Bk
open Go.RowKit Go.Sort Go.Maps Go.Proofs.Ytbphljnncbiddaa.Mix

/-- two cells that may be written, at this block. -/
def Two (x : World) (t : Nat) : Prop := ∃ u0 u1, x.heap[t]? = some (.cells #[u0, u1] 42 (0, 0))
theorem two_below {x y : World} {t : Nat} (h : Two x t) (hb : Below x.heap.size x y) : Two y t := by
  obtain ⟨u0, u1, h⟩ := h
  exact ⟨u0, u1, (hb.block t (Array.getElem?_eq_some_iff.1 h).1).trans h⟩
theorem two_facts {x : World} {t : Nat} (h : Two x t) : ∃ u0 u1, x.cell? ⟨t, 0, none⟩ = some u0 ∧ x.cell? ⟨t, 1, none⟩ = some u1 ∧ x.frozen? ⟨t, 0, none⟩ = false ∧ x.frozen? ⟨t, 1, none⟩ = false := by
  obtain ⟨u0, u1, h⟩ := h
  refine ⟨u0, u1, ?_, ?_, ?_, ?_⟩ <;> simp [World.cell?, World.frozen?, h]

theorem two_made (w : World) (o1 o2 : Obj) (u0 u1 : Value) : Two (((w.alloc o1).alloc o2).alloc (.cells #[u0, u1] 42)) (w.heap.size + 1 + 1) :=
  ⟨u0, u1, by have := heap_alloc_new ((w.alloc o1).alloc o2) (.cells #[u0, u1] 42); simpa using this⟩
theorem two_set {x : World} {t : Nat} (h : Two x t) (v0 v1 : Value) : ((x.setCell ⟨t, 0, none⟩ v0).setCell ⟨t, 1, none⟩ v1).cell? ⟨t, 0, none⟩ = some v0 ∧ ((x.setCell ⟨t, 0, none⟩ v0).setCell ⟨t, 1, none⟩ v1).cell? ⟨t, 1, none⟩ = some v1 := by
  obtain ⟨u0, u1, h⟩ := h
  have h1 : ((x.setCell ⟨t, 0, none⟩ v0).setCell ⟨t, 1, none⟩ v1).heap[t]? = some (.cells #[v0, v1] 42 (0, 0)) := by
    simp [World.setCell, Array.getElem?_modify, h]
  constructor <;> simp [World.cell?, h1]
theorem two_below_set {B t : Nat} {w x : World} (h : Below B w x) (ht : B ≤ t) (v0 v1 : Value) : Below B w ((x.setCell ⟨t, 0, none⟩ v0).setCell ⟨t, 1, none⟩ v1) := (h.setCell ht _).setCell ht _

set_option maxHeartbeats 2000000 in
set_option maxRecDepth 100000 in
theorem rest_bad (p p' : Option Addr) (c c' : Nat) (bids asks : List Odr) (a ac sd pr q : Int) (w : World) (h : ORow w p bids) (h' : ORow w p' asks) (hn : bids.length ≤ 140737488351232) (hn' : asks.length ≤ 140737488351232)
    (hm : ¬ mayRest bids asks (a, ac, sd, pr, q) = 0) :
    Calls Try.prog 30 #[.agg #[.slice p bids.length c, .slice p' asks.length c'], .agg #[.int .i64 a, .int .i64 ac, .int .i64 sd, .int .i64 pr, .int .i64 q]] w fun e w' =>
      e = .returned (.tuple #[.agg #[.slice none 0 0, .slice none 0 0], .int .i64 (mayRest bids asks (a, ac, sd, pr, q))]) ∧ Below w.heap.size w w' := by
  have mixed : Try.prog.follows .mixedOrders = true := by kernel_rfl
  have hb0 : ∀ o1 o2 o3, Below w.heap.size w (((w.alloc o1).alloc o2).alloc o3) := fun o1 o2 o3 => (((Below.refl _ w).alloc (Nat.le_refl _) _).alloc (by simp) _).alloc (by simp; omega) _
  have MR := hide (fun W hW => mayRest_any p p' c c' bids asks a ac sd pr q W (orow_below h hW) (orow_below h' hW) hn hn')
  clear h h'
  generalize mayRest bids asks (a, ac, sd, pr, q) = r at hm MR ⊢
  go_enter Try.func30, Try.ntmps30
  go_wp2_with fail
  refine (MR.out _ (hb0 _ _ _)).mono ?_
  rintro e W ⟨rfl, hb⟩
  have BW := hide ((hb0 _ _ _).trans (hb.mono (by simp; omega)))
  have T := hide (two_below (two_made _ _ _ _ _) hb)
  obtain ⟨u0, u1, t0, t1, t2, t3⟩ := two_facts T.out
  clear hb hb0 MR
  go_wp2
  obtain ⟨s0, s1⟩ := two_set T.out (.slice none 0 0) (.slice none 0 0)
  refine bodyPost_ret (v := .tuple #[.agg #[.slice none 0 0, .slice none 0 0], .int .i64 r]) (by simp [results, Try.results30, go_sem, s0, s1]) rfl ⟨rfl, two_below_set BW.out (by omega) _ _⟩

/-- the class of worlds within Rest's last statement: what lay ahead of the result's cells is as it was; those two may be written. -/
def RC (W : World) (t : Nat) : World → Prop := fun x => Below t W x ∧ W.heap.size ≤ x.heap.size ∧ Two x t
theorem rc_shut {W : World} {t : Nat} : Shut (RC W t) := fun x y hx hy => by
  have ht : t < x.heap.size := by obtain ⟨_, _, h⟩ := hx.2.2; exact (Array.getElem?_eq_some_iff.1 h).1
  exact ⟨hx.1.trans (hy.mono (Nat.le_of_lt ht)), Nat.le_trans hx.2.1 hy.size, two_below hx.2.2 hy⟩
/-- a class made smaller: this value owns these cells. -/
def Owning (C : World → Prop) (B : Nat) (v : Value) (xs : List Odr) : World → Prop := fun x => C x ∧ x.ownsRow B 44 5 v xs.length (flat xs)
theorem owning_shut {C : World → Prop} (h : Shut C) (B : Nat) (v : Value) (xs : List Odr) : Shut (Owning C B v xs) := fun x y hx hy => ⟨h x y hx.1 hy, own_below hx.2 hy⟩

theorem two_ownsRow {x : World} {t B n : Nat} {v : Value} {xs : List Value} (h : x.ownsRow B 44 5 v n xs) (hB : t < B) (v0 v1 : Value) : ((x.setCell ⟨t, 0, none⟩ v0).setCell ⟨t, 1, none⟩ v1).ownsRow B 44 5 v n xs :=
  ownsRow_setCell_below (ownsRow_setCell_below h hB v0) hB v1
theorem two_again {x : World} {t : Nat} (h : Two x t) (v0 v1 : Value) : Two ((x.setCell ⟨t, 0, none⟩ v0).setCell ⟨t, 1, none⟩ v1) t := by
  obtain ⟨u0, u1, h⟩ := h
  exact ⟨v0, v1, by simp [World.setCell, Array.getElem?_modify, h]⟩
theorem rc_set {W x : World} {t : Nat} (h : RC W t x) (v0 v1 : Value) : RC W t ((x.setCell ⟨t, 0, none⟩ v0).setCell ⟨t, 1, none⟩ v1) :=
  ⟨two_below_set h.1 (Nat.le_refl _) _ _, by have := h.2.1; simpa [World.setCell] using this, two_again h.2.2 v0 v1⟩

theorem box3_a {w W : World} {cs : Array Value} {t : TypeId} {o2 o3 : Obj} (hb : Below (((w.alloc (.cells cs t)).alloc o2).alloc o3).heap.size (((w.alloc (.cells cs t)).alloc o2).alloc o3) W) {i : Nat} {v : Value} (h : cs[i]? = some v) : W.cell? ⟨w.heap.size, i, none⟩ = some v := by
  have := cell_alloc (cell_alloc (new_cell w cs t i v h) o2) o3
  exact (hb.cell (World.block_lt_of_cell? _ _ this)).trans this
theorem box3_b {w W : World} {cs : Array Value} {t : TypeId} {o1 o3 : Obj} (hb : Below (((w.alloc o1).alloc (.cells cs t)).alloc o3).heap.size (((w.alloc o1).alloc (.cells cs t)).alloc o3) W) {i : Nat} {v : Value} (h : cs[i]? = some v) : W.cell? ⟨w.heap.size + 1, i, none⟩ = some v := by
  have := cell_alloc (new_cell2 w o1 cs t i v h) o3
  exact (hb.cell (World.block_lt_of_cell? _ _ this)).trans this

abbrev RestPost (w : World) (X Y : List Odr) (e : Ending) (w' : World) : Prop :=
  ∃ p1 c1 p2 c2, e = .returned (.tuple #[.agg #[.slice p1 X.length c1, .slice p2 Y.length c2], .int .i64 0]) ∧ OV w' p1 c1 X ∧ OV w' p2 c2 Y ∧ Below w.heap.size w w' ∧ (∀ a, p1 = some a → w.heap.size ≤ a.block) ∧ (∀ a, p2 = some a → w.heap.size ≤ a.block)

set_option maxHeartbeats 1000000 in
set_option maxRecDepth 100000 in
theorem rest_buy (p p' : Option Addr) (c c' : Nat) (bids asks : List Odr) (a ac sd pr q : Int) (w : World) (h : OV w p c bids) (h' : OV w p' c' asks) (hm : mayRest bids asks (a, ac, sd, pr, q) = 0) (hsd : sd = 1) :
    Calls Try.prog 30 #[.agg #[.slice p bids.length c, .slice p' asks.length c'], .agg #[.int .i64 a, .int .i64 ac, .int .i64 sd, .int .i64 pr, .int .i64 q]] w (RestPost w (laid bids (a, ac, sd, pr, q)) (asks)) := by
  have mixed : Try.prog.follows .mixedOrders = true := by kernel_rfl
  obtain ⟨hR, -, -, -, hl, -, -⟩ := mayRest_zero.1 hm
  have hb0 : ∀ o1 o2 o3, Below w.heap.size w (((w.alloc o1).alloc o2).alloc o3) := fun o1 o2 o3 => (((Below.refl _ w).alloc (Nat.le_refl _) _).alloc (by simp) _).alloc (by simp; omega) _
  obtain ⟨nb, hnb⟩ : ∃ n, bids.length = n := ⟨_, rfl⟩
  obtain ⟨na, hna⟩ : ∃ n, asks.length = n := ⟨_, rfl⟩
  have MR : Hid (∀ W, Below w.heap.size w W → Calls Try.prog 73 #[.agg #[.slice p nb c, .slice p' na c'], .agg #[.int .i64 a, .int .i64 ac, .int .i64 sd, .int .i64 pr, .int .i64 q]] W fun e w' => e = .returned (.int .i64 0) ∧ Below W.heap.size W w') := fun W hW => by
    have := mayRest_any p p' c c' bids asks a ac sd pr q W (orow_below h.row hW) (orow_below h'.row hW) (by omega) (by omega)
    rw [hm, hnb, hna] at this
    exact this
  have WI : Hid (∀ W, Below w.heap.size w W → Calls Try.prog 74 #[.slice p nb c, .agg #[.int .i64 a, .int .i64 ac, .int .i64 sd, .int .i64 pr, .int .i64 q]] W fun e w' => ∃ v, e = .returned v ∧ w'.ownsRow W.heap.size 44 5 v (laid bids (a, ac, sd, pr, q)).length (flat (laid bids (a, ac, sd, pr, q))) ∧ Below W.heap.size W w') := fun W hW => by
    have := with_any p c bids a ac sd pr q W (h.below hW) (by omega) 1 hR.b
    rw [hnb] at this
    exact this
  have CO : Hid (∀ W, Below w.heap.size w W → Calls Try.prog 75 #[.slice p' na c'] W fun e w' => ∃ v, e = .returned v ∧ w'.ownsRow W.heap.size 44 5 v asks.length (flat asks) ∧ Below W.heap.size W w') := fun W hW => by
    rw [← hna]
    exact copyOf_any p' c' asks W (h'.below hW) (by omega)
  have hsb : (sd == 1) = true := by simp [hsd]
  rw [hnb, hna]
  generalize laid bids (a, ac, sd, pr, q) = X at WI CO ⊢
  generalize asks = Y at WI CO ⊢
  clear h h' hm hR hl hsd hnb hna
  go_enter Try.func30, Try.ntmps30
  go_wp2_with fail
  refine (MR.out _ (hb0 _ _ _)).mono ?_
  rintro e W ⟨rfl, hb⟩
  have BW := hide ((hb0 _ _ _).trans (hb.mono (by simp; omega)))
  have T := hide (two_below (two_made _ _ _ _ _) hb)
  have e0 : W.cell? ⟨w.heap.size, 0, none⟩ = some (.slice p nb c) := box3_a hb rfl
  have e1 : W.cell? ⟨w.heap.size, 1, none⟩ = some (.slice p' na c') := box3_a hb rfl
  have f0 : W.cell? ⟨w.heap.size + 1, 0, none⟩ = some (.int .i64 a) := box3_b hb rfl
  have f1 : W.cell? ⟨w.heap.size + 1, 1, none⟩ = some (.int .i64 ac) := box3_b hb rfl
  have f2 : W.cell? ⟨w.heap.size + 1, 2, none⟩ = some (.int .i64 sd) := box3_b hb rfl
  have f3 : W.cell? ⟨w.heap.size + 1, 3, none⟩ = some (.int .i64 pr) := box3_b hb rfl
  have f4 : W.cell? ⟨w.heap.size + 1, 4, none⟩ = some (.int .i64 q) := box3_b hb rfl
  clear hb hb0 MR
  have tW : Hid (w.heap.size + 1 + 1 < W.heap.size) := by obtain ⟨_, _, h⟩ := T.out; exact (Array.getElem?_eq_some_iff.1 h).1
  obtain ⟨C, hCC⟩ : ∃ C, C = RC W (w.heap.size + 1 + 1) := ⟨_, rfl⟩
  have CR : Hid (∀ x, C x → RC W (w.heap.size + 1 + 1) x) := fun x hx => by rw [hCC] at hx; exact hx
  have CQ : Hid (∀ x, RC W (w.heap.size + 1 + 1) x → C x) := fun x hx => by rw [hCC]; exact hx
  have CS : Hid (Shut C) := by rw [hCC]; exact rc_shut
  have C0 : Hid (C { W with drawn := W.drawn + 1 }) := by rw [hCC]; exact ⟨(below_drawn W).mono (Nat.le_of_lt tW.out), Nat.le_refl _, two_below T.out (below_drawn W)⟩
  have hC : ∀ p1 : InC C, ∀ a v, a.block < w.heap.size + 1 + 1 → W.cell? a = some v → p1.w.cell? a = some v := fun p1 a v ha hv => ((CR.out p1.w p1.h).1.cell ha).trans hv
  have g0 := fun p1 => hC p1 ⟨w.heap.size, 0, none⟩ _ (by simp; omega) e0
  have g1 := fun p1 => hC p1 ⟨w.heap.size, 1, none⟩ _ (by simp; omega) e1
  have l0 := fun p1 => hC p1 ⟨w.heap.size + 1, 0, none⟩ _ (by simp) f0
  have l1 := fun p1 => hC p1 ⟨w.heap.size + 1, 1, none⟩ _ (by simp) f1
  have l2 := fun p1 => hC p1 ⟨w.heap.size + 1, 2, none⟩ _ (by simp) f2
  have l3 := fun p1 => hC p1 ⟨w.heap.size + 1, 3, none⟩ _ (by simp) f3
  have l4 := fun p1 => hC p1 ⟨w.heap.size + 1, 4, none⟩ _ (by simp) f4
  clear hC hCC e0 e1 f0 f1 f3 f4
  go_wp2_with fail
  clear f2
  refine wp_region_mix [(0, true), (1, true), (2, true), (4, true), (5, true), (3, false), (6, false), (7, true), (8, false), (9, true)] C mixed (by kernel_rfl) C0.out ?_
  repeat (refine mix_still (by rfl) ?_; go_big_quiet_step (exact rfl); refine wpQuiet_nil ?_)
  refine mix_main (by rfl) ?_
  rintro ⟨x1, hx1⟩
  dsimp only
  have cr1 := CR.out x1 hx1
  have bx1 := BW.out.trans (cr1.1.mono (by omega))
  have hcon := WI.out x1 bx1
  have hsz1 : Hid (w.heap.size + 1 + 1 + 1 ≤ x1.heap.size) := Nat.le_trans tW.out cr1.2.1
  have HX1 := hide hx1
  clear cr1 bx1
  go_wp2_with (go_at_call 74; refine hcon.mono ?_; rintro e w1 ⟨v1, rfl, hown1, hb1⟩)
  have hown1' := own_base hown1 hsz1.out
  obtain ⟨p1, c1, rfl, -, -⟩ := own_ov hown1'
  refine ⟨Owning C (w.heap.size + 1 + 1 + 1) (.slice p1 X.length c1) X, ⟨CS.out x1 w1 HX1.out hb1, hown1'⟩, fun x hx => hx.1, ?_⟩
  have CS1 := hide (owning_shut CS.out (w.heap.size + 1 + 1 + 1) (.slice p1 X.length c1) X)
  have K1 : Hid (∀ x, Owning C (w.heap.size + 1 + 1 + 1) (.slice p1 X.length c1) X x ↔ C x ∧ x.ownsRow (w.heap.size + 1 + 1 + 1) 44 5 (.slice p1 X.length c1) X.length (flat X)) := fun x => Iff.rfl
  generalize Owning C (w.heap.size + 1 + 1 + 1) (.slice p1 X.length c1) X = C1 at CS1 K1 ⊢
  clear hcon hown1 hown1' hb1 w1 HX1 hsz1 g0 g1 l0 l1 l2 l3 l4
  refine mix_main (by rfl) ?_
  rintro ⟨x2, hx2⟩
  dsimp only
  have cr2 := CR.out x2 ((K1.out x2).1 hx2).1
  have bx2 := BW.out.trans (cr2.1.mono (by omega))
  have hcon := CO.out x2 bx2
  have hsz2 : Hid (w.heap.size + 1 + 1 + 1 ≤ x2.heap.size) := Nat.le_trans tW.out cr2.2.1
  have HX2 := hide hx2
  clear cr2 bx2
  go_wp2_with (go_at_call 75; refine hcon.mono ?_; rintro e w2 ⟨v2, rfl, hown2, hb2⟩)
  have hown2' := own_base hown2 hsz2.out
  obtain ⟨p2, c2, rfl, -, -⟩ := own_ov hown2'
  refine ⟨Owning C1 (w.heap.size + 1 + 1 + 1) (.slice p2 Y.length c2) Y, ⟨CS1.out x2 w2 HX2.out hb2, hown2'⟩, fun x hx => hx.1, ?_⟩
  have K2 : Hid (∀ x, Owning C1 (w.heap.size + 1 + 1 + 1) (.slice p2 Y.length c2) Y x ↔ C1 x ∧ x.ownsRow (w.heap.size + 1 + 1 + 1) 44 5 (.slice p2 Y.length c2) Y.length (flat Y)) := fun x => Iff.rfl
  generalize Owning C1 (w.heap.size + 1 + 1 + 1) (.slice p2 Y.length c2) Y = C2 at K2 ⊢
  clear hcon hown2 hown2' hb2 w2 HX2 hsz2
  repeat (refine mix_still (by rfl) ?_; go_big_quiet_step (exact rfl); refine wpQuiet_nil ?_)
  refine mix_main (by rfl) ?_
  rintro ⟨x3, hx3⟩
  dsimp only
  obtain ⟨y1, y2⟩ := (K2.out x3).1 hx3
  obtain ⟨z1, z2⟩ := (K1.out x3).1 y1
  have cr3 := CR.out x3 z1
  obtain ⟨u0, u1, t0, t1, t2, t3⟩ := two_facts cr3.2.2
  have S1 := hide (two_set cr3.2.2 (.slice p1 X.length c1) (.slice p2 Y.length c2))
  have S2 := hide (CQ.out _ (rc_set cr3 (.slice p1 X.length c1) (.slice p2 Y.length c2)))
  have S3 := hide (two_ownsRow z2 (t := w.heap.size + 1 + 1) (by omega) (.slice p1 X.length c1) (.slice p2 Y.length c2))
  have S4 := hide (two_ownsRow y2 (t := w.heap.size + 1 + 1) (by omega) (.slice p1 X.length c1) (.slice p2 Y.length c2))
  clear y1 y2 z1 z2 cr3
  go_wp2
  refine ⟨fun x => C2 x ∧ x.cell? ⟨w.heap.size + 1 + 1, 0, none⟩ = some (.slice p1 X.length c1) ∧ x.cell? ⟨w.heap.size + 1 + 1, 1, none⟩ = some (.slice p2 Y.length c2), ⟨(K2.out _).2 ⟨(K1.out _).2 ⟨S2.out, S3.out⟩, S4.out⟩, S1.out.1, S1.out.2⟩, fun x hx => hx.1, ?_⟩
  obtain ⟨C3, hC3⟩ : ∃ C3 : World → Prop, C3 = (fun x => C2 x ∧ x.cell? ⟨w.heap.size + 1 + 1, 0, none⟩ = some (.slice p1 X.length c1) ∧ x.cell? ⟨w.heap.size + 1 + 1, 1, none⟩ = some (.slice p2 Y.length c2)) := ⟨_, rfl⟩
  rw [← hC3]
  have K3 : Hid (∀ x, C3 x → C2 x ∧ x.cell? ⟨w.heap.size + 1 + 1, 0, none⟩ = some (.slice p1 X.length c1) ∧ x.cell? ⟨w.heap.size + 1 + 1, 1, none⟩ = some (.slice p2 Y.length c2)) := fun x hx => by rw [hC3] at hx; exact hx
  clear hC3 S1 S2 S3 S4 t0 t1 t2 t3 hx3
  repeat (refine mix_still (by rfl) ?_; go_big_quiet_step (exact rfl); refine wpQuiet_nil ?_)
  refine mix_end ?_
  rintro ⟨x5, hx5⟩
  dsimp only
  obtain ⟨k2, s0, s1⟩ := K3.out x5 hx5
  obtain ⟨y1, y2⟩ := (K2.out x5).1 k2
  obtain ⟨z1, z2⟩ := (K1.out x5).1 y1
  have bx5 := hide (BW.out.trans ((CR.out x5 z1).1.mono (by omega)))
  obtain ⟨p3, c3, ev1, ov1, ob1⟩ := own_ov z2
  obtain ⟨p4, c4, ev2, ov2, ob2⟩ := own_ov y2
  cases ev1
  cases ev2
  have OV1 := hide ov1
  have OV2 := hide ov2
  have OB1 := hide ob1
  have OB2 := hide ob2
  clear k2 y1 y2 z1 z2 ov1 ov2 ob1 ob2
  go_wp2
  refine bodyPost_ret (v := .tuple #[.agg #[.slice p1 X.length c1, .slice p2 Y.length c2], .int .i64 0]) (by simp [results, Try.results30, go_sem, s0, s1]) rfl ⟨p1, c1, p2, c2, rfl, OV1.out, OV2.out, bx5.out, fun a ha => by have := (OB1.out a ha).1; omega, fun a ha => by have := (OB2.out a ha).1; omega⟩

set_option maxHeartbeats 1000000 in
set_option maxRecDepth 100000 in
theorem rest_sell (p p' : Option Addr) (c c' : Nat) (bids asks : List Odr) (a ac sd pr q : Int) (w : World) (h : OV w p c bids) (h' : OV w p' c' asks) (hm : mayRest bids asks (a, ac, sd, pr, q) = 0) (hsd : sd = -1) :
    Calls Try.prog 30 #[.agg #[.slice p bids.length c, .slice p' asks.length c'], .agg #[.int .i64 a, .int .i64 ac, .int .i64 sd, .int .i64 pr, .int .i64 q]] w (RestPost w (bids) (laid asks (a, ac, sd, pr, q))) := by
  have mixed : Try.prog.follows .mixedOrders = true := by kernel_rfl
  obtain ⟨hR, -, -, -, hl, -, -⟩ := mayRest_zero.1 hm
  have hb0 : ∀ o1 o2 o3, Below w.heap.size w (((w.alloc o1).alloc o2).alloc o3) := fun o1 o2 o3 => (((Below.refl _ w).alloc (Nat.le_refl _) _).alloc (by simp) _).alloc (by simp; omega) _
  obtain ⟨nb, hnb⟩ : ∃ n, bids.length = n := ⟨_, rfl⟩
  obtain ⟨na, hna⟩ : ∃ n, asks.length = n := ⟨_, rfl⟩
  have MR : Hid (∀ W, Below w.heap.size w W → Calls Try.prog 73 #[.agg #[.slice p nb c, .slice p' na c'], .agg #[.int .i64 a, .int .i64 ac, .int .i64 sd, .int .i64 pr, .int .i64 q]] W fun e w' => e = .returned (.int .i64 0) ∧ Below W.heap.size W w') := fun W hW => by
    have := mayRest_any p p' c c' bids asks a ac sd pr q W (orow_below h.row hW) (orow_below h'.row hW) (by omega) (by omega)
    rw [hm, hnb, hna] at this
    exact this
  have WI : Hid (∀ W, Below w.heap.size w W → Calls Try.prog 74 #[.slice p' na c', .agg #[.int .i64 a, .int .i64 ac, .int .i64 sd, .int .i64 pr, .int .i64 q]] W fun e w' => ∃ v, e = .returned v ∧ w'.ownsRow W.heap.size 44 5 v (laid asks (a, ac, sd, pr, q)).length (flat (laid asks (a, ac, sd, pr, q))) ∧ Below W.heap.size W w') := fun W hW => by
    have := with_any p' c' asks a ac sd pr q W (h'.below hW) (by omega) (-1) hR.a
    rw [hna] at this
    exact this
  have CO : Hid (∀ W, Below w.heap.size w W → Calls Try.prog 75 #[.slice p nb c] W fun e w' => ∃ v, e = .returned v ∧ w'.ownsRow W.heap.size 44 5 v bids.length (flat bids) ∧ Below W.heap.size W w') := fun W hW => by
    rw [← hnb]
    exact copyOf_any p c bids W (h.below hW) (by omega)
  have hsb : (sd == 1) = false := by simp [hsd]
  rw [hnb, hna]
  generalize bids = X at WI CO ⊢
  generalize laid asks (a, ac, sd, pr, q) = Y at WI CO ⊢
  clear h h' hm hR hl hsd hnb hna
  go_enter Try.func30, Try.ntmps30
  go_wp2_with fail
  refine (MR.out _ (hb0 _ _ _)).mono ?_
  rintro e W ⟨rfl, hb⟩
  have BW := hide ((hb0 _ _ _).trans (hb.mono (by simp; omega)))
  have T := hide (two_below (two_made _ _ _ _ _) hb)
  have e0 : W.cell? ⟨w.heap.size, 0, none⟩ = some (.slice p nb c) := box3_a hb rfl
  have e1 : W.cell? ⟨w.heap.size, 1, none⟩ = some (.slice p' na c') := box3_a hb rfl
  have f0 : W.cell? ⟨w.heap.size + 1, 0, none⟩ = some (.int .i64 a) := box3_b hb rfl
  have f1 : W.cell? ⟨w.heap.size + 1, 1, none⟩ = some (.int .i64 ac) := box3_b hb rfl
  have f2 : W.cell? ⟨w.heap.size + 1, 2, none⟩ = some (.int .i64 sd) := box3_b hb rfl
  have f3 : W.cell? ⟨w.heap.size + 1, 3, none⟩ = some (.int .i64 pr) := box3_b hb rfl
  have f4 : W.cell? ⟨w.heap.size + 1, 4, none⟩ = some (.int .i64 q) := box3_b hb rfl
  clear hb hb0 MR
  have tW : Hid (w.heap.size + 1 + 1 < W.heap.size) := by obtain ⟨_, _, h⟩ := T.out; exact (Array.getElem?_eq_some_iff.1 h).1
  obtain ⟨C, hCC⟩ : ∃ C, C = RC W (w.heap.size + 1 + 1) := ⟨_, rfl⟩
  have CR : Hid (∀ x, C x → RC W (w.heap.size + 1 + 1) x) := fun x hx => by rw [hCC] at hx; exact hx
  have CQ : Hid (∀ x, RC W (w.heap.size + 1 + 1) x → C x) := fun x hx => by rw [hCC]; exact hx
  have CS : Hid (Shut C) := by rw [hCC]; exact rc_shut
  have C0 : Hid (C { W with drawn := W.drawn + 1 }) := by rw [hCC]; exact ⟨(below_drawn W).mono (Nat.le_of_lt tW.out), Nat.le_refl _, two_below T.out (below_drawn W)⟩
  have hC : ∀ p1 : InC C, ∀ a v, a.block < w.heap.size + 1 + 1 → W.cell? a = some v → p1.w.cell? a = some v := fun p1 a v ha hv => ((CR.out p1.w p1.h).1.cell ha).trans hv
  have g0 := fun p1 => hC p1 ⟨w.heap.size, 0, none⟩ _ (by simp; omega) e0
  have g1 := fun p1 => hC p1 ⟨w.heap.size, 1, none⟩ _ (by simp; omega) e1
  have l0 := fun p1 => hC p1 ⟨w.heap.size + 1, 0, none⟩ _ (by simp) f0
  have l1 := fun p1 => hC p1 ⟨w.heap.size + 1, 1, none⟩ _ (by simp) f1
  have l2 := fun p1 => hC p1 ⟨w.heap.size + 1, 2, none⟩ _ (by simp) f2
  have l3 := fun p1 => hC p1 ⟨w.heap.size + 1, 3, none⟩ _ (by simp) f3
  have l4 := fun p1 => hC p1 ⟨w.heap.size + 1, 4, none⟩ _ (by simp) f4
  clear hC hCC e0 e1 f0 f1 f3 f4
  go_wp2_with fail
  clear f2
  refine wp_region_mix [(0, true), (1, true), (3, true), (4, true), (5, true), (2, false), (6, false), (7, true), (8, false), (9, true)] C mixed (by kernel_rfl) C0.out ?_
  repeat (refine mix_still (by rfl) ?_; go_big_quiet_step (exact rfl); refine wpQuiet_nil ?_)
  refine mix_main (by rfl) ?_
  rintro ⟨x1, hx1⟩
  dsimp only
  have cr1 := CR.out x1 hx1
  have bx1 := BW.out.trans (cr1.1.mono (by omega))
  have hcon := CO.out x1 bx1
  have hsz1 : Hid (w.heap.size + 1 + 1 + 1 ≤ x1.heap.size) := Nat.le_trans tW.out cr1.2.1
  have HX1 := hide hx1
  clear cr1 bx1
  go_wp2_with (go_at_call 75; refine hcon.mono ?_; rintro e w1 ⟨v1, rfl, hown1, hb1⟩)
  have hown1' := own_base hown1 hsz1.out
  obtain ⟨p1, c1, rfl, -, -⟩ := own_ov hown1'
  refine ⟨Owning C (w.heap.size + 1 + 1 + 1) (.slice p1 X.length c1) X, ⟨CS.out x1 w1 HX1.out hb1, hown1'⟩, fun x hx => hx.1, ?_⟩
  have CS1 := hide (owning_shut CS.out (w.heap.size + 1 + 1 + 1) (.slice p1 X.length c1) X)
  have K1 : Hid (∀ x, Owning C (w.heap.size + 1 + 1 + 1) (.slice p1 X.length c1) X x ↔ C x ∧ x.ownsRow (w.heap.size + 1 + 1 + 1) 44 5 (.slice p1 X.length c1) X.length (flat X)) := fun x => Iff.rfl
  generalize Owning C (w.heap.size + 1 + 1 + 1) (.slice p1 X.length c1) X = C1 at CS1 K1 ⊢
  clear hcon hown1 hown1' hb1 w1 HX1 hsz1 g0 g1 l0 l1 l2 l3 l4
  refine mix_main (by rfl) ?_
  rintro ⟨x2, hx2⟩
  dsimp only
  have cr2 := CR.out x2 ((K1.out x2).1 hx2).1
  have bx2 := BW.out.trans (cr2.1.mono (by omega))
  have hcon := WI.out x2 bx2
  have hsz2 : Hid (w.heap.size + 1 + 1 + 1 ≤ x2.heap.size) := Nat.le_trans tW.out cr2.2.1
  have HX2 := hide hx2
  clear cr2 bx2
  go_wp2_with (go_at_call 74; refine hcon.mono ?_; rintro e w2 ⟨v2, rfl, hown2, hb2⟩)
  have hown2' := own_base hown2 hsz2.out
  obtain ⟨p2, c2, rfl, -, -⟩ := own_ov hown2'
  refine ⟨Owning C1 (w.heap.size + 1 + 1 + 1) (.slice p2 Y.length c2) Y, ⟨CS1.out x2 w2 HX2.out hb2, hown2'⟩, fun x hx => hx.1, ?_⟩
  have K2 : Hid (∀ x, Owning C1 (w.heap.size + 1 + 1 + 1) (.slice p2 Y.length c2) Y x ↔ C1 x ∧ x.ownsRow (w.heap.size + 1 + 1 + 1) 44 5 (.slice p2 Y.length c2) Y.length (flat Y)) := fun x => Iff.rfl
  generalize Owning C1 (w.heap.size + 1 + 1 + 1) (.slice p2 Y.length c2) Y = C2 at K2 ⊢
  clear hcon hown2 hown2' hb2 w2 HX2 hsz2
  repeat (refine mix_still (by rfl) ?_; go_big_quiet_step (exact rfl); refine wpQuiet_nil ?_)
  refine mix_main (by rfl) ?_
  rintro ⟨x3, hx3⟩
  dsimp only
  obtain ⟨y1, y2⟩ := (K2.out x3).1 hx3
  obtain ⟨z1, z2⟩ := (K1.out x3).1 y1
  have cr3 := CR.out x3 z1
  obtain ⟨u0, u1, t0, t1, t2, t3⟩ := two_facts cr3.2.2
  have S1 := hide (two_set cr3.2.2 (.slice p1 X.length c1) (.slice p2 Y.length c2))
  have S2 := hide (CQ.out _ (rc_set cr3 (.slice p1 X.length c1) (.slice p2 Y.length c2)))
  have S3 := hide (two_ownsRow z2 (t := w.heap.size + 1 + 1) (by omega) (.slice p1 X.length c1) (.slice p2 Y.length c2))
  have S4 := hide (two_ownsRow y2 (t := w.heap.size + 1 + 1) (by omega) (.slice p1 X.length c1) (.slice p2 Y.length c2))
  clear y1 y2 z1 z2 cr3
  go_wp2
  refine ⟨fun x => C2 x ∧ x.cell? ⟨w.heap.size + 1 + 1, 0, none⟩ = some (.slice p1 X.length c1) ∧ x.cell? ⟨w.heap.size + 1 + 1, 1, none⟩ = some (.slice p2 Y.length c2), ⟨(K2.out _).2 ⟨(K1.out _).2 ⟨S2.out, S3.out⟩, S4.out⟩, S1.out.1, S1.out.2⟩, fun x hx => hx.1, ?_⟩
  obtain ⟨C3, hC3⟩ : ∃ C3 : World → Prop, C3 = (fun x => C2 x ∧ x.cell? ⟨w.heap.size + 1 + 1, 0, none⟩ = some (.slice p1 X.length c1) ∧ x.cell? ⟨w.heap.size + 1 + 1, 1, none⟩ = some (.slice p2 Y.length c2)) := ⟨_, rfl⟩
  rw [← hC3]
  have K3 : Hid (∀ x, C3 x → C2 x ∧ x.cell? ⟨w.heap.size + 1 + 1, 0, none⟩ = some (.slice p1 X.length c1) ∧ x.cell? ⟨w.heap.size + 1 + 1, 1, none⟩ = some (.slice p2 Y.length c2)) := fun x hx => by rw [hC3] at hx; exact hx
  clear hC3 S1 S2 S3 S4 t0 t1 t2 t3 hx3
  repeat (refine mix_still (by rfl) ?_; go_big_quiet_step (exact rfl); refine wpQuiet_nil ?_)
  refine mix_end ?_
  rintro ⟨x5, hx5⟩
  dsimp only
  obtain ⟨k2, s0, s1⟩ := K3.out x5 hx5
  obtain ⟨y1, y2⟩ := (K2.out x5).1 k2
  obtain ⟨z1, z2⟩ := (K1.out x5).1 y1
  have bx5 := hide (BW.out.trans ((CR.out x5 z1).1.mono (by omega)))
  obtain ⟨p3, c3, ev1, ov1, ob1⟩ := own_ov z2
  obtain ⟨p4, c4, ev2, ov2, ob2⟩ := own_ov y2
  cases ev1
  cases ev2
  have OV1 := hide ov1
  have OV2 := hide ov2
  have OB1 := hide ob1
  have OB2 := hide ob2
  clear k2 y1 y2 z1 z2 ov1 ov2 ob1 ob2
  go_wp2
  refine bodyPost_ret (v := .tuple #[.agg #[.slice p1 X.length c1, .slice p2 Y.length c2], .int .i64 0]) (by simp [results, Try.results30, go_sem, s0, s1]) rfl ⟨p1, c1, p2, c2, rfl, OV1.out, OV2.out, bx5.out, fun a ha => by have := (OB1.out a ha).1; omega, fun a ha => by have := (OB2.out a ha).1; omega⟩

theorem rest_any (p p' : Option Addr) (c c' : Nat) (bids asks : List Odr) (o : Odr) (w : World) (h : OV w p c bids) (h' : OV w p' c' asks) (hm : mayRest bids asks o = 0) :
    Calls Try.prog 30 #[.agg #[.slice p bids.length c, .slice p' asks.length c'], odrV o] w (RestPost w (restB bids o) (restA asks o)) := by
  have ho := (mayRest_zero.1 hm).2.2.2.1
  unfold restB restA
  by_cases hs : osd o = 1
  · rw [if_pos hs, if_pos hs]
    exact rest_buy p p' c c' bids asks o.1 o.2.1 o.2.2.1 o.2.2.2.1 o.2.2.2.2 w h h' hm hs
  · rw [if_neg hs, if_neg hs]
    exact rest_sell p p' c c' bids asks o.1 o.2.1 o.2.2.1 o.2.2.2.1 o.2.2.2.2 w h h' hm (by rcases okOrder_sd ho with e | e <;> omega)
end Go.Proofs.Ytbphljnncbiddaa.Bk
