/-
  Package book by contracts: mayRest.
-/
import Derived.Test.YtbphljnncbiddaaBkIdx
import Derived.Test.YtbphljnncbiddaaMix
namespace Go.Proofs.Ytbphljnncbiddaa.Bk
open Go.RowKit Go.Sort Go.Maps Go.Proofs.Ytbphljnncbiddaa.Mix

theorem new_cell (w : World) (cs : Array Value) (t : TypeId) (i : Nat) (v : Value) (h : cs[i]? = some v) : (w.alloc (.cells cs t)).cell? ⟨w.heap.size, i, none⟩ = some v := by
  rw [World.cell?_alloc_at _ _ _ _ (by simp)]
  exact h
theorem new_cell2 (w : World) (o : Obj) (cs : Array Value) (t : TypeId) (i : Nat) (v : Value) (h : cs[i]? = some v) : ((w.alloc o).alloc (.cells cs t)).cell? ⟨w.heap.size + 1, i, none⟩ = some v := by
  have := new_cell (w.alloc o) cs t i v h
  simpa using this
theorem below_drawn (w : World) : Below w.heap.size w { w with drawn := w.drawn + 1 } := ⟨rfl, rfl, rfl, Nat.le_refl _, fun _ _ => rfl⟩

theorem may_book {bids asks : List Odr} {o : Odr} (h : ¬ bookErr bids asks = 0) : mayRest bids asks o = bookErr bids asks := by unfold mayRest; rw [if_pos h]
theorem may_twice {bids asks : List Odr} {o : Odr} (h : bookErr bids asks = 0) (h1 : (bids.any (hasId (oid o)) || asks.any (hasId (oid o))) = true) : mayRest bids asks o = 6 := by unfold mayRest; rw [if_neg (fun e => e h), if_pos h1]
theorem may_order {bids asks : List Odr} {o : Odr} (h : bookErr bids asks = 0) (h1 : (bids.any (hasId (oid o)) || asks.any (hasId (oid o))) = false) (h2 : ¬ okOrder o = 0) : mayRest bids asks o = okOrder o := by
  unfold mayRest; rw [if_neg (fun e => e h), if_neg (by rw [h1]; exact Bool.false_ne_true), if_pos h2]
theorem may_full {bids asks : List Odr} {o : Odr} (h : bookErr bids asks = 0) (h1 : (bids.any (hasId (oid o)) || asks.any (hasId (oid o))) = false) (h2 : okOrder o = 0) (h3 : 40 ≤ bids.length + asks.length) : mayRest bids asks o = 7 := by
  unfold mayRest; rw [if_neg (fun e => e h), if_neg (by rw [h1]; exact Bool.false_ne_true), if_neg (fun e => e h2), if_pos h3]
theorem may_post {bids asks : List Odr} {o : Odr} (h : bookErr bids asks = 0) (h1 : (bids.any (hasId (oid o)) || asks.any (hasId (oid o))) = false) (h2 : okOrder o = 0) (h3 : ¬ 40 ≤ bids.length + asks.length) (t : Bool) (h4 : crosses o (if osd o = -1 then bids else asks) = t) : mayRest bids asks o = if t = true then 9 else 0 := by
  unfold mayRest; rw [if_neg (fun e => e h), if_neg (by rw [h1]; exact Bool.false_ne_true), if_neg (fun e => e h2), if_neg h3, h4]

/-- a class that what only grows does not leave. -/
def Shut (C : World → Prop) : Prop := ∀ x y, C x → Below x.heap.size x y → C y
theorem shut_below (w : World) : Shut (fun x => Below w.heap.size w x) := fun _ _ hx hy => hx.trans (hy.mono hx.size)
/-- a class made smaller: what has grown out of w. -/
def From (C : World → Prop) (w : World) : World → Prop := fun x => C x ∧ Below w.heap.size w x
theorem from_shut {C : World → Prop} (h : Shut C) (w : World) : Shut (From C w) := fun x y hx hy => ⟨h x y hx.1 hy, hx.2.trans (hy.mono hx.2.size)⟩
theorem from_self {C : World → Prop} {w : World} (h : C w) : From C w w := ⟨h, Below.refl _ _⟩
theorem from_cell {C : World → Prop} {w x : World} (h : From C w x) {a : Addr} {v : Value} (hc : w.cell? a = some v) : x.cell? a = some v := (h.2.cell (World.block_lt_of_cell? _ _ hc)).trans hc

set_option maxHeartbeats 2000000 in
set_option maxRecDepth 100000 in
theorem mayRest_any (p p' : Option Addr) (c c' : Nat) (bids asks : List Odr) (a ac sd pr q : Int) (w : World) (h : ORow w p bids) (h' : ORow w p' asks) (hn : bids.length ≤ 140737488351232) (hn' : asks.length ≤ 140737488351232) :
    Calls Try.prog 73 #[.agg #[.slice p bids.length c, .slice p' asks.length c'], .agg #[.int .i64 a, .int .i64 ac, .int .i64 sd, .int .i64 pr, .int .i64 q]] w fun e w' => e = .returned (.int .i64 (mayRest bids asks (a, ac, sd, pr, q))) ∧ Below w.heap.size w w' := by
  have mixed : Try.prog.follows .mixedOrders = true := by kernel_rfl
  generalize hr : mayRest bids asks (a, ac, sd, pr, q) = r
  have R := hide hr
  clear hr
  have H := hide h
  have H' := hide h'
  clear h h'
  go_enter Try.func73, Try.ntmps73
  go_wp2_with fail
  refine (check_any p p' c c' bids asks _ (orow_below H.out (((Below.refl _ w).alloc (Nat.le_refl _) _).alloc (by simp) _)) (orow_below H'.out (((Below.refl _ w).alloc (Nat.le_refl _) _).alloc (by simp) _)) hn hn').mono ?_
  rintro e W2 ⟨rfl, hb⟩
  have B2 : Hid (Below w.heap.size w W2) := hide ((((Below.refl _ w).alloc (Nat.le_refl _) _).alloc (by simp) _).trans (hb.mono (by simp; omega)))
  have hsz : Hid (w.heap.size + 1 < W2.heap.size) := by have := hb.size; simp at this; exact (by omega : w.heap.size + 1 < W2.heap.size)
  have e0 : W2.cell? ⟨w.heap.size, 0, none⟩ = some (.slice p bids.length c) := (hb.cell (by simp; omega)).trans (cell_alloc (new_cell _ _ _ _ _ rfl) _)
  have e1 : W2.cell? ⟨w.heap.size, 1, none⟩ = some (.slice p' asks.length c') := (hb.cell (by simp; omega)).trans (cell_alloc (new_cell _ _ _ _ _ rfl) _)
  have f0 : W2.cell? ⟨w.heap.size + 1, 0, none⟩ = some (.int .i64 a) := (hb.cell (by simp)).trans (new_cell2 _ _ _ _ _ _ rfl)
  have f1 : W2.cell? ⟨w.heap.size + 1, 1, none⟩ = some (.int .i64 ac) := (hb.cell (by simp)).trans (new_cell2 _ _ _ _ _ _ rfl)
  have f2 : W2.cell? ⟨w.heap.size + 1, 2, none⟩ = some (.int .i64 sd) := (hb.cell (by simp)).trans (new_cell2 _ _ _ _ _ _ rfl)
  have f3 : W2.cell? ⟨w.heap.size + 1, 3, none⟩ = some (.int .i64 pr) := (hb.cell (by simp)).trans (new_cell2 _ _ _ _ _ _ rfl)
  have f4 : W2.cell? ⟨w.heap.size + 1, 4, none⟩ = some (.int .i64 q) := (hb.cell (by simp)).trans (new_cell2 _ _ _ _ _ _ rfl)
  clear hb
  by_cases hbk : bookErr bids asks = 0
  · have hfew := (bookErr_zero.1 hbk).few
    have M2 := hide (fun h1 => R.out.symm.trans (may_twice (o := (a, ac, sd, pr, q)) hbk h1))
    have M3 := hide (fun h1 h2 => R.out.symm.trans (may_order (o := (a, ac, sd, pr, q)) hbk h1 h2))
    have M4 := hide (fun h1 h2 h3 => R.out.symm.trans (may_full (o := (a, ac, sd, pr, q)) hbk h1 h2 h3))
    have M5 := hide (fun h1 h2 h3 t h4 => R.out.symm.trans (may_post (o := (a, ac, sd, pr, q)) hbk h1 h2 h3 t h4))
    rw [hbk]
    clear hbk
    have hC : ∀ p1 : InC (fun x => Below W2.heap.size W2 x), ∀ x v, W2.cell? x = some v → p1.w.cell? x = some v := fun p1 x v hx => (p1.h.cell (World.block_lt_of_cell? _ _ hx)).trans hx
    generalize hCC : (fun x => Below W2.heap.size W2 x) = C at hC
    have g0 := fun p1 => hC p1 _ _ e0
    have g1 := fun p1 => hC p1 _ _ e1
    have g2 := fun p1 => hC p1 _ _ f0
    have CE := hide hCC
    clear hCC hC
    generalize hnb : bids.length = nb at hn hfew e0 g0 ⊢
    generalize hna : asks.length = na at hn' hfew e1 g1 ⊢
    have NB := hide hnb
    have NA := hide hna
    clear hnb hna
    go_wp2_with fail
    refine wp_region_mix [(0, true), (1, true), (2, true), (3, true), (4, false), (5, false), (6, true), (7, true), (8, true), (9, true), (10, true), (11, false), (12, false), (13, false)] C mixed (by kernel_rfl) (by rw [← CE.out]; exact below_drawn W2) ?_
    repeat (refine mix_still (by rfl) ?_; go_big_quiet_step (exact rfl); refine wpQuiet_nil ?_)
    have CS : Hid (Shut C) := by rw [← CE.out]; exact shut_below W2
    have CW : Hid (∀ x, C x → Below w.heap.size w x) := fun x hx => by rw [← CE.out] at hx; exact B2.out.trans (hx.mono B2.out.size)
    refine mix_main (by rfl) ?_
    rintro ⟨x1, hx1⟩
    go_wp2_with (go_at_call 77; refine (hasID_any _ _).mono ?_; rintro e w' ⟨rfl, rfl⟩)
    have hC1 : C (x1.alloc (.cells #[.int .i64 a] 3)) := CS.out x1 _ hx1 ((Below.refl _ _).alloc (Nat.le_refl _) _)
    refine ⟨From C (x1.alloc (.cells #[.int .i64 a] 3)), from_self hC1, fun x hx => hx.1, ?_⟩
    have CS1 := hide (from_shut CS.out (x1.alloc (.cells #[.int .i64 a] 3)))
    have K1 : Hid (∀ x, From C (x1.alloc (.cells #[.int .i64 a] 3)) x → C x ∧ x.cell? ⟨x1.heap.size, 0, none⟩ = some (.int .i64 a)) := fun x hx => ⟨hx.1, from_cell hx (new_cell _ _ _ _ _ rfl)⟩
    generalize From C (x1.alloc (.cells #[.int .i64 a] 3)) = C1 at CS1 K1 ⊢
    have g3 := fun p1 : InC C1 => g1 ⟨p1.w, (K1.out p1.w p1.h).1⟩
    have g4 := fun p1 : InC C1 => g2 ⟨p1.w, (K1.out p1.w p1.h).1⟩
    dsimp only at g3 g4
    generalize x1.heap.size = bx at K1 ⊢
    clear g0 g1 g2 hC1 hx1 x1
    refine mix_main (by rfl) ?_
    rintro ⟨x2, hx2⟩
    have hcon := containsFunc_any p c bids a bx x2 (by rw [NB.out]; exact hn) (orow_below H.out (CW.out x2 (K1.out x2 hx2).1)) (K1.out x2 hx2).2
    rw [NB.out] at hcon
    cases ht1 : bids.any (hasId a) with
    | true =>
      rw [ht1] at hcon
      go_wp2_with (go_at_call 101; refine hcon.mono ?_; rintro e w' ⟨rfl, hb'⟩)
      refine ⟨C1, CS1.out x2 _ hx2 hb', fun _ h => h, ?_⟩
      repeat (refine mix_still (by rfl) ?_; go_big_quiet_step (exact rfl); refine wpQuiet_nil ?_)
      refine mix_main (by rfl) ?_
      rintro ⟨x3, hx3⟩
      go_wp2
      refine ⟨C1, hx3, fun _ h => h, ?_⟩
      refine mix_main (by rfl) ?_
      rintro ⟨x4, hx4⟩
      go_wp2
      refine ⟨C1, hx4, fun _ h => h, ?_⟩
      refine mix_main (by rfl) ?_
      rintro ⟨x5, hx5⟩
      go_wp2
      refine ⟨C1, hx5, fun _ h => h, ?_⟩
      refine mix_end ?_
      rintro ⟨x6, hx6⟩
      dsimp only
      have BX := hide (CW.out x6 (K1.out x6 hx6).1)
      go_wp2
      go_ret
      exact ⟨by rw [M2.out (by dsimp only [oid]; rw [ht1]; rfl)]; rfl, BX.out⟩
    | false =>
      rw [ht1] at hcon
      go_wp2_with (go_at_call 101; refine hcon.mono ?_; rintro e w' ⟨rfl, hb'⟩)
      refine ⟨C1, CS1.out x2 _ hx2 hb', fun _ h => h, ?_⟩
      repeat (refine mix_still (by rfl) ?_; go_big_quiet_step (exact rfl); refine wpQuiet_nil ?_)
      refine mix_main (by rfl) ?_
      rintro ⟨x3, hx3⟩
      go_wp2_with (go_at_call 77; refine (hasID_any _ _).mono ?_; rintro e w' ⟨rfl, rfl⟩)
      have hC1 : C1 (x3.alloc (.cells #[.int .i64 a] 3)) := CS1.out x3 _ hx3 ((Below.refl _ _).alloc (Nat.le_refl _) _)
      refine ⟨From C1 (x3.alloc (.cells #[.int .i64 a] 3)), from_self hC1, fun x hx => hx.1, ?_⟩
      have CS2 := hide (from_shut CS1.out (x3.alloc (.cells #[.int .i64 a] 3)))
      have K2 : Hid (∀ x, From C1 (x3.alloc (.cells #[.int .i64 a] 3)) x → C x ∧ x.cell? ⟨x3.heap.size, 0, none⟩ = some (.int .i64 a)) := fun x hx => ⟨(K1.out x hx.1).1, from_cell hx (new_cell _ _ _ _ _ rfl)⟩
      generalize From C1 (x3.alloc (.cells #[.int .i64 a] 3)) = C2 at CS2 K2 ⊢
      generalize x3.heap.size = by3 at K2 ⊢
      clear g3 g4 hC1 hx3 x3 hx2 hcon hb' x2
      refine mix_main (by rfl) ?_
      rintro ⟨x4, hx4⟩
      have hcon := containsFunc_any p' c' asks a by3 x4 (by rw [NA.out]; exact hn') (orow_below H'.out (CW.out x4 (K2.out x4 hx4).1)) (K2.out x4 hx4).2
      rw [NA.out] at hcon
      cases ht2 : asks.any (hasId a) with
      | true =>
        rw [ht2] at hcon
        go_wp2_with (go_at_call 101; refine hcon.mono ?_; rintro e w' ⟨rfl, hb'⟩)
        refine ⟨C2, CS2.out x4 _ hx4 hb', fun _ h => h, ?_⟩
        refine mix_main (by rfl) ?_
        rintro ⟨x5, hx5⟩
        go_wp2
        refine ⟨C2, hx5, fun _ h => h, ?_⟩
        refine mix_end ?_
        rintro ⟨x6, hx6⟩
        dsimp only
        have BX := hide (CW.out x6 (K2.out x6 hx6).1)
        go_wp2
        go_ret
        exact ⟨by rw [M2.out (by dsimp only [oid]; rw [ht1, ht2]; rfl)]; rfl, BX.out⟩
      | false =>
        rw [ht2] at hcon
        go_wp2_with (go_at_call 101; refine hcon.mono ?_; rintro e w' ⟨rfl, hb'⟩)
        refine ⟨C2, CS2.out x4 _ hx4 hb', fun _ h => h, ?_⟩
        refine mix_main (by rfl) ?_
        rintro ⟨x5, hx5⟩
        go_wp2
        refine ⟨C2, hx5, fun _ h => h, ?_⟩
        refine mix_end ?_
        rintro ⟨x6, hx6⟩
        dsimp only
        have hx6' := (K2.out x6 hx6).1
        rw [← CE.out] at hx6'
        have BX := hide (CW.out x6 (K2.out x6 hx6).1)
        have hany : (bids.any (hasId (oid (a, ac, sd, pr, q))) || asks.any (hasId (oid (a, ac, sd, pr, q)))) = false := by dsimp only [oid]; rw [ht1, ht2]; rfl
        have k0 : x6.cell? ⟨w.heap.size, 0, none⟩ = some (.slice p nb c) := (hx6'.cell (World.block_lt_of_cell? _ _ e0)).trans e0
        have k1 : x6.cell? ⟨w.heap.size, 1, none⟩ = some (.slice p' na c') := (hx6'.cell (World.block_lt_of_cell? _ _ e1)).trans e1
        have n0 : x6.cell? ⟨w.heap.size + 1, 0, none⟩ = some (.int .i64 a) := (hx6'.cell (World.block_lt_of_cell? _ _ f0)).trans f0
        have n1 : x6.cell? ⟨w.heap.size + 1, 1, none⟩ = some (.int .i64 ac) := (hx6'.cell (World.block_lt_of_cell? _ _ f1)).trans f1
        have n2 : x6.cell? ⟨w.heap.size + 1, 2, none⟩ = some (.int .i64 sd) := (hx6'.cell (World.block_lt_of_cell? _ _ f2)).trans f2
        have n3 : x6.cell? ⟨w.heap.size + 1, 3, none⟩ = some (.int .i64 pr) := (hx6'.cell (World.block_lt_of_cell? _ _ f3)).trans f3
        have n4 : x6.cell? ⟨w.heap.size + 1, 4, none⟩ = some (.int .i64 q) := (hx6'.cell (World.block_lt_of_cell? _ _ f4)).trans f4
        clear e0 e1 f0 f1 f2 f3 f4 hx6' hx6 hcon hx4 hx5 hb' K1 K2 CS CS1 CS2 CE CW
        have HANY := hide hany
        clear hany
        go_wp2_with fail
        refine (checkOrder_grow _ _ _ _ _ _).mono ?_
        rintro e x7 ⟨rfl, q1, os1, hw⟩
        have B7 : Below x6.heap.size x6 x7 := by rw [hw]; exact grow_below _ _ _
        have B7' := hide (BX.out.trans (B7.mono BX.out.size))
        have k0' : x7.cell? ⟨w.heap.size, 0, none⟩ = some (.slice p nb c) := (B7.cell (World.block_lt_of_cell? _ _ k0)).trans k0
        have k1' : x7.cell? ⟨w.heap.size, 1, none⟩ = some (.slice p' na c') := (B7.cell (World.block_lt_of_cell? _ _ k1)).trans k1
        have n0' : x7.cell? ⟨w.heap.size + 1, 0, none⟩ = some (.int .i64 a) := (B7.cell (World.block_lt_of_cell? _ _ n0)).trans n0
        have n1' : x7.cell? ⟨w.heap.size + 1, 1, none⟩ = some (.int .i64 ac) := (B7.cell (World.block_lt_of_cell? _ _ n1)).trans n1
        have n2' : x7.cell? ⟨w.heap.size + 1, 2, none⟩ = some (.int .i64 sd) := (B7.cell (World.block_lt_of_cell? _ _ n2)).trans n2
        have n3' : x7.cell? ⟨w.heap.size + 1, 3, none⟩ = some (.int .i64 pr) := (B7.cell (World.block_lt_of_cell? _ _ n3)).trans n3
        have n4' : x7.cell? ⟨w.heap.size + 1, 4, none⟩ = some (.int .i64 q) := (B7.cell (World.block_lt_of_cell? _ _ n4)).trans n4
        clear hw B7 k0 k1 n0 n1 n2 n3 n4 BX M2
        by_cases hok : okOrder (a, ac, sd, pr, q) = 0
        · have M4' := hide (fun h3 => M4.out HANY.out hok h3)
          have M5' := hide (fun h3 t h4 => M5.out HANY.out hok h3 t h4)
          rw [hok]
          clear M3 M4 M5 hok
          go_wp2_with fail
          refine (count_any _ _ _ _ _ _ _ (by omega) (by omega)).mono ?_
          rintro e x8 ⟨rfl, q2, os2, hw⟩
          have B8 : Below x7.heap.size x7 x8 := by rw [hw]; exact grow_below _ _ _
          have B8' := hide (B7'.out.trans (B8.mono B7'.out.size))
          have k0 : x8.cell? ⟨w.heap.size, 0, none⟩ = some (.slice p nb c) := (B8.cell (World.block_lt_of_cell? _ _ k0')).trans k0'
          have k1 : x8.cell? ⟨w.heap.size, 1, none⟩ = some (.slice p' na c') := (B8.cell (World.block_lt_of_cell? _ _ k1')).trans k1'
          have n0 : x8.cell? ⟨w.heap.size + 1, 0, none⟩ = some (.int .i64 a) := (B8.cell (World.block_lt_of_cell? _ _ n0')).trans n0'
          have n1 : x8.cell? ⟨w.heap.size + 1, 1, none⟩ = some (.int .i64 ac) := (B8.cell (World.block_lt_of_cell? _ _ n1')).trans n1'
          have n2 : x8.cell? ⟨w.heap.size + 1, 2, none⟩ = some (.int .i64 sd) := (B8.cell (World.block_lt_of_cell? _ _ n2')).trans n2'
          have n3 : x8.cell? ⟨w.heap.size + 1, 3, none⟩ = some (.int .i64 pr) := (B8.cell (World.block_lt_of_cell? _ _ n3')).trans n3'
          have n4 : x8.cell? ⟨w.heap.size + 1, 4, none⟩ = some (.int .i64 q) := (B8.cell (World.block_lt_of_cell? _ _ n4')).trans n4'
          clear hw B8 k0' k1' n0' n1' n2' n3' n4' B7'
          by_cases hfull : 40 ≤ nb + na
          · have hf2 : (40 : Int) ≤ (nb : Int) + (na : Int) := by omega
            go_wp2
            go_ret
            exact ⟨by rw [M4'.out (by rw [NB.out, NA.out]; exact hfull)]; rfl, B8'.out⟩
          · have hf2 : ¬ (40 : Int) ≤ (nb : Int) + (na : Int) := by omega
            have M6 := hide (fun t h4 => M5'.out (by rw [NB.out, NA.out]; exact hfull) t h4)
            clear M5' M4'
            by_cases hsd : sd = -1
            · have hcon := crossesBest_any a ac sd pr q p c bids x8 (orow_below H.out B8'.out)
              rw [NB.out] at hcon
              have hsb : (sd == -1) = true := by simp [hsd]
              have M7 := hide (fun t h4 => M6.out t (by dsimp only [osd]; rw [if_pos hsd]; exact h4))
              clear hsd
              cases ht : crosses (a, ac, sd, pr, q) bids with
              | true =>
                rw [ht] at hcon
                have hr9 := M7.out true ht
                go_wp2_with (go_at_call 83; refine hcon.mono ?_; rintro e w' ⟨rfl, q3, os3, rfl⟩)
                go_ret
                exact ⟨by rw [hr9]; rfl, B8'.out.trans ((grow_below x8 q3 os3).mono B8'.out.size)⟩
              | false =>
                rw [ht] at hcon
                have hr9 := M7.out false ht
                go_wp2_with (go_at_call 83; refine hcon.mono ?_; rintro e w' ⟨rfl, q3, os3, rfl⟩)
                go_ret
                exact ⟨by rw [hr9]; rfl, B8'.out.trans ((grow_below x8 q3 os3).mono B8'.out.size)⟩
            · have hcon := crossesBest_any a ac sd pr q p' c' asks x8 (orow_below H'.out B8'.out)
              rw [NA.out] at hcon
              have hsb : (sd == -1) = false := by simp [hsd]
              have M7 := hide (fun t h4 => M6.out t (by dsimp only [osd]; rw [if_neg hsd]; exact h4))
              clear hsd
              cases ht : crosses (a, ac, sd, pr, q) asks with
              | true =>
                rw [ht] at hcon
                have hr9 := M7.out true ht
                go_wp2_with (go_at_call 83; refine hcon.mono ?_; rintro e w' ⟨rfl, q3, os3, rfl⟩)
                go_ret
                exact ⟨by rw [hr9]; rfl, B8'.out.trans ((grow_below x8 q3 os3).mono B8'.out.size)⟩
              | false =>
                rw [ht] at hcon
                have hr9 := M7.out false ht
                go_wp2_with (go_at_call 83; refine hcon.mono ?_; rintro e w' ⟨rfl, q3, os3, rfl⟩)
                go_ret
                exact ⟨by rw [hr9]; rfl, B8'.out.trans ((grow_below x8 q3 os3).mono B8'.out.size)⟩
        · have hr1 := M3.out HANY.out hok
          generalize okOrder (a, ac, sd, pr, q) = eo at hok hr1 ⊢
          go_wp2
          go_ret
          exact ⟨by rw [hr1]; rfl, B7'.out⟩
  · have hr1 := R.out.symm.trans (may_book (o := (a, ac, sd, pr, q)) hbk)
    generalize bookErr bids asks = eb at hbk hr1 ⊢
    clear R
    go_wp2
    go_ret
    exact ⟨by rw [hr1]; rfl, B2.out⟩
end Go.Proofs.Ytbphljnncbiddaa.Bk
