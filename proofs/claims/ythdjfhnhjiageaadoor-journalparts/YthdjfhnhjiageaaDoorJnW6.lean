/-
  Package journal by contracts: Crash.
-/
import Derived.Test.YthdjfhnhjiageaaDoorJnW5
import Derived.Test.YthdjfhnhjiageaaDoorMix
namespace Go.Proofs.YthdjfhnhjiageaaDoor.Tx
open Go.RowKit Go.Lib Go.Sort Go.Proofs.YthdjfhnhjiageaaDoor.Mix
/-- worlds in which what lies ahead of block r is as it was, and block r holds a disk. -/
def Rc (X : World) (r : Nat) (x : World) : Prop := Below r X x ∧ r < x.heap.size ∧ ∃ a b, x.heap[r]? = some (dkO a b)
theorem rc_shut {X : World} {r : Nat} : ∀ x y, Rc X r x → Below x.heap.size x y → Rc X r y := fun _ _ h hb => by
  obtain ⟨h1, h2, a, b, h3⟩ := h
  exact ⟨h1.trans (hb.mono (Nat.le_of_lt h2)), Nat.lt_of_lt_of_le h2 hb.size, a, b, dk_below h3 hb⟩
theorem rc_set {X : World} {r : Nat} {x : World} (h : Rc X r x) (u v : Value) : Rc X r ((x.setCell ⟨r, 0, none⟩ u).setCell ⟨r, 1, none⟩ v) := by
  obtain ⟨h1, h2, a, b, h3⟩ := h
  exact ⟨(h1.setCell (Nat.le_refl _) _).setCell (Nat.le_refl _) _, by simpa [World.setCell] using h2, u, v, dk_put h3 u v⟩
def Having (C : World → Prop) (q : Option Addr) (n m : Nat) (bs : Bs) (x : World) : Prop := C x ∧ Bt x q n m bs
theorem having_shut {C : World → Prop} (h : ∀ x y, C x → Below x.heap.size x y → C y) (q : Option Addr) (n m : Nat) (bs : Bs) : ∀ x y, Having C q n m bs x → Below x.heap.size x y → Having C q n m bs y := fun x y hx hb => ⟨h x y hx.1 hb, hx.2.below hb⟩
def At (C : World → Prop) (r : Nat) (u v : Value) (x : World) : Prop := C x ∧ x.heap[r]? = some (dkO u v)
set_option maxHeartbeats 4000000 in
set_option maxRecDepth 100000 in
theorem crash_any (p : Option Addr) (n c : Nat) (p' : Option Addr) (n' c' : Nat) (d : Dk) (k : Int) (w : World) (h : Bt w p n c d.safe) (h' : Bt w p' n' c' d.wait) (hn : n ≤ 140737488351232) (hn' : n' ≤ 140737488351232) (E : Env w) :
    Calls Tryd.prog 16 #[dkV p n c p' n' c', .int .i64 k] w (DPost (crashD d k).1 (crashD d k).2 w) := by
  have mixed : Tryd.prog.follows .mixedOrders = true := by kernel_rfl
  have hl := h.len
  have hl' := h'.len
  obtain ⟨W, hW⟩ : ∃ W, W = (w.alloc (dkO (.slice p n c) (.slice p' n' c'))).alloc (dkO (.slice none 0 0) (.slice none 0 0)) := ⟨_, rfl⟩
  have bW : Below w.heap.size w W := by rw [hW]; exact ((Below.refl _ w).alloc (Nat.le_refl _) _).alloc (by simp) _
  have gW : W.heap[w.heap.size]? = some (dkO (.slice p n c) (.slice p' n' c')) := by rw [hW]; exact dk_below (heap_alloc_new w _) (below_alloc _ _)
  have rW : W.heap[w.heap.size + 1]? = some (dkO (.slice none 0 0) (.slice none 0 0)) := by
    rw [hW]
    have := heap_alloc_new (w.alloc (dkO (.slice p n c) (.slice p' n' c'))) (dkO (.slice none 0 0) (.slice none 0 0))
    simp only [World.size_alloc] at this
    exact this
  have sW : W.heap.size = w.heap.size + 2 := by rw [hW]; simp
  obtain ⟨c0, c1, -, -⟩ := dk_cell gW
  have HW := hide hW
  have BW := hide bW
  have GW := hide gW
  have RW := hide rW
  have SW := hide sW
  have CH := hide (checkD_any p n c p' n' c' d W (h.below bW) (h'.below bW) hn hn' (E.below bW))
  clear hW bW gW rW sW
  unfold crashD
  by_cases he : checkD d = 0
  · rw [if_neg (fun x => x he)]
    have hs := (check_zero he).1
    rw [he] at CH
    by_cases hk0 : k < 0
    · rw [if_pos (.inl hk0)]
      clear h h' hl hl' hn hn' E he hs
      go_enter Tryd.func16, Tryd.ntmps16
      go_wp2_with (rw [← HW.out])
      refine CH.out.mono ?_
      rintro e X ⟨rfl, bX⟩
      have BX := hide (onward BW.out bX)
      have GX := hide (dk_below GW.out bX)
      have RX := hide (dk_below RW.out bX)
      have SX : Hid (w.heap.size + 2 ≤ X.heap.size) := by have := bX.size; rw [SW.out] at this; exact this
      clear CH bX c0 c1 HW BW GW RW SW
      clear GX
      obtain ⟨⟨u0, k0⟩, ⟨u1, k1⟩, f0, f1⟩ := dk_opq RX.out
      go_wp2
      clear k0 k1 f0 f1
      have HB := dk_put RX.out (.slice none 0 0) (.slice none 0 0)
      obtain ⟨z0, z1, -, -⟩ := dk_cell HB
      refine bodyPost_ret (v := .tuple #[dk0, .int .i64 3]) (by simp [results, Tryd.results16, go_sem, z0, z1]) rfl ⟨⟨_, rfl, dv_none _ _⟩, (BX.out.setCell (by simp <;> omega) _).setCell (by simp <;> omega) _⟩
    · obtain ⟨j, rfl⟩ : ∃ j : Nat, k = j := ⟨k.toNat, by omega⟩
      by_cases hk1 : (d.wait.length : Int) < (j : Int)
      · rw [if_pos (.inr hk1)]
        rw [hl'] at hk1
        clear h h' hl hl' hn hn' E he hs
        go_enter Tryd.func16, Tryd.ntmps16
        go_wp2_with (rw [← HW.out])
        refine CH.out.mono ?_
        rintro e X ⟨rfl, bX⟩
        have BX := hide (onward BW.out bX)
        have GX := hide (dk_below GW.out bX)
        have RX := hide (dk_below RW.out bX)
        have SX : Hid (w.heap.size + 2 ≤ X.heap.size) := by have := bX.size; rw [SW.out] at this; exact this
        clear CH bX c0 c1 HW BW GW RW SW
        obtain ⟨x0, x1, -, -⟩ := dk_cell GX.out
        clear GX
        obtain ⟨⟨u0, k0⟩, ⟨u1, k1⟩, f0, f1⟩ := dk_opq RX.out
        go_wp2
        clear k0 k1 f0 f1
        have HB := dk_put RX.out (.slice none 0 0) (.slice none 0 0)
        obtain ⟨z0, z1, -, -⟩ := dk_cell HB
        refine bodyPost_ret (v := .tuple #[dk0, .int .i64 3]) (by simp [results, Tryd.results16, go_sem, z0, z1]) rfl ⟨⟨_, rfl, dv_none _ _⟩, (BX.out.setCell (by simp <;> omega) _).setCell (by simp <;> omega) _⟩
      · rw [if_neg (fun x => x.elim (by omega) hk1), Int.toNat_natCast]
        rw [hl'] at hk1
        have hj : j ≤ n' := by omega
        have hcap := h'.cap
        have CL : Hid (∀ y, Below w.heap.size w y → _) := fun y hy => cloneB_any p n c d.safe y (h.below hy) (by omega)
        have SE : Hid (∀ y, Below w.heap.size w y → _) := fun y hy => cloneB_any p' j c' (d.wait.take j) y ((h'.below hy).take hj) (by omega)
        clear h h' hl hl' hn hn' E he hs hk0
        go_enter Tryd.func16, Tryd.ntmps16
        go_wp2_with (rw [← HW.out])
        refine CH.out.mono ?_
        rintro e X ⟨rfl, bX⟩
        have BX := hide (onward BW.out bX)
        have GX := hide (dk_below GW.out bX)
        have RX := hide (dk_below RW.out bX)
        have SX : Hid (w.heap.size + 2 ≤ X.heap.size) := by have := bX.size; rw [SW.out] at this; exact this
        clear CH bX c0 c1 HW BW GW RW SW
        obtain ⟨x0, x1, -, -⟩ := dk_cell GX.out
        clear GX SX
        obtain ⟨RR, hRR⟩ : ∃ RR, RR = w.heap.size + 1 := ⟨_, rfl⟩
        have HRR := hide hRR
        go_wp2_with fail
        rw [← hRR] at RX ⊢
        clear hRR
        have rX : Hid (RR < X.heap.size) := (Array.getElem?_eq_some_iff.1 RX.out).1
        obtain ⟨C, hCC⟩ : ∃ C, C = Rc X RR := ⟨_, rfl⟩
        have CR : Hid (∀ x, C x → Rc X RR x) := fun x hx => by rw [hCC] at hx; exact hx
        have CQ : Hid (∀ x, Rc X RR x → C x) := fun x hx => by rw [hCC]; exact hx
        have CSET : Hid (∀ x u v, C x → C ((x.setCell ⟨RR, 0, none⟩ u).setCell ⟨RR, 1, none⟩ v)) := fun x u v hx => CQ.out _ (rc_set (CR.out x hx) u v)
        have CS : Hid (∀ x y, C x → Below x.heap.size x y → C y) := by rw [hCC]; exact rc_shut
        have C0 : Hid (C { X with drawn := X.drawn + 1 }) := by rw [hCC]; exact ⟨⟨rfl, rfl, rfl, Nat.le_refl _, fun _ _ => rfl⟩, rX.out, ⟨_, _, RX.out⟩⟩
        have hC : ∀ p1 : InC C, ∀ a v, a.block < RR → X.cell? a = some v → p1.w.cell? a = some v := fun p1 a v ha hv => ((CR.out p1.w p1.h).1.cell ha).trans hv
        have g0 := fun p1 => hC p1 ⟨w.heap.size, 0, none⟩ _ (HRR.out ▸ by simp) x0
        have g1 := fun p1 => hC p1 ⟨w.heap.size, 1, none⟩ _ (HRR.out ▸ by simp) x1
        have HBX : Hid (∀ x, C x → Below w.heap.size w x ∧ RR + 1 ≤ x.heap.size) := fun x hx => ⟨BX.out.trans ((CR.out x hx).1.mono (by rw [HRR.out]; omega)), (CR.out x hx).2.1⟩
        clear hC hCC x0 x1
        refine wp_region_mix [(0, true), (1, true), (3, true), (4, true), (5, true), (6, true), (2, false), (7, false), (8, true), (9, false), (10, true)] C mixed (by kernel_rfl) C0.out ?_
        repeat (refine mix_still (by rfl) ?_; go_big_quiet_step (exact rfl); refine wpQuiet_nil ?_)
        refine mix_main (by rfl) ?_
        rintro ⟨y1, hy1⟩
        dsimp only
        have hcon := CL.out y1 (HBX.out y1 hy1).1
        have hsz1 : Hid (RR + 1 ≤ y1.heap.size) := (HBX.out y1 hy1).2
        have HY1 := hide hy1
        go_wp2_with (go_at_call 36; refine hcon.mono ?_; rintro e w1 ⟨⟨q1, m1, rfl, hq1, hn1⟩, hb1⟩)
        refine ⟨Having C q1 n m1 d.safe, ⟨CS.out y1 w1 HY1.out hb1, hq1⟩, fun x hx => hx.1, ?_⟩
        have N1 := hide (hn1.mono hsz1.out)
        have CS1 := hide (having_shut CS.out q1 n m1 d.safe)
        have K1 : Hid (∀ x, Having C q1 n m1 d.safe x → C x ∧ Bt x q1 n m1 d.safe) := fun x hx => hx
        have K1' : Hid (∀ x, C x → Bt x q1 n m1 d.safe → Having C q1 n m1 d.safe x) := fun x hx hy => ⟨hx, hy⟩
        generalize Having C q1 n m1 d.safe = C1 at CS1 K1 K1' ⊢
        clear hcon hq1 hn1 hb1 w1 HY1 hsz1 hy1
        clear y1
        refine mix_main (by rfl) ?_
        rintro ⟨y2, hy2⟩
        dsimp only
        have hcon := SE.out y2 (HBX.out y2 (K1.out y2 hy2).1).1
        have hsz2 : Hid (RR + 1 ≤ y2.heap.size) := (HBX.out y2 (K1.out y2 hy2).1).2
        have HY2 := hide hy2
        go_wp2_with (go_at_call 36; refine hcon.mono ?_; rintro e w2 ⟨⟨q2, m2, rfl, hq2, hn2⟩, hb2⟩)
        refine ⟨Having C1 q2 j m2 (d.wait.take j), ⟨CS1.out y2 w2 HY2.out hb2, hq2⟩, fun x hx => hx.1, ?_⟩
        have N2 := hide (hn2.mono hsz2.out)
        have K2 : Hid (∀ x, Having C1 q2 j m2 (d.wait.take j) x → C1 x ∧ Bt x q2 j m2 (d.wait.take j)) := fun x hx => hx
        have K2' : Hid (∀ x, C1 x → Bt x q2 j m2 (d.wait.take j) → Having C1 q2 j m2 (d.wait.take j) x) := fun x hx hy => ⟨hx, hy⟩
        generalize Having C1 q2 j m2 (d.wait.take j) = C2 at K2 K2' ⊢
        clear hcon hq2 hn2 hb2 w2 HY2 hsz2 hy2
        clear y2
        repeat (refine mix_still (by rfl) ?_; go_big_quiet_step (exact rfl); refine wpQuiet_nil ?_)
        refine mix_main (by rfl) ?_
        rintro ⟨y3, hy3⟩
        dsimp only
        obtain ⟨a1, a2⟩ := K2.out y3 hy3
        obtain ⟨b1, b2⟩ := K1.out y3 a1
        have cr := CR.out y3 b1
        obtain ⟨bel, szr, o1, o2, hr⟩ := cr
        obtain ⟨⟨u0, k0⟩, ⟨u1, k1⟩, f0, f1⟩ := dk_opq hr
        have HS := hide (dk_put hr (.slice q1 n m1) (.slice q2 j m2))
        have HC2 : Hid (C2 ((y3.setCell ⟨RR, 0, none⟩ (.slice q1 n m1)).setCell ⟨RR, 1, none⟩ (.slice q2 j m2))) := K2'.out _ (K1'.out _ (CSET.out y3 _ _ b1) ((b2.set N1.out _ _).set N1.out _ _)) ((a2.set N2.out _ _).set N2.out _ _)
        clear a1 a2 b1 b2 bel szr hr hy3
        go_wp2
        refine ⟨At C2 RR (.slice q1 n m1) (.slice q2 j m2), ⟨HC2.out, HS.out⟩, fun x hx => hx.1, ?_⟩
        have K3 : Hid (∀ x, At C2 RR (.slice q1 n m1) (.slice q2 j m2) x → C2 x ∧ x.heap[RR]? = some (dkO (.slice q1 n m1) (.slice q2 j m2))) := fun x hx => hx
        generalize At C2 RR (.slice q1 n m1) (.slice q2 j m2) = C3 at K3 ⊢
        clear k0 k1 f0 f1 HS HC2
        clear y3
        repeat (refine mix_still (by rfl) ?_; go_big_quiet_step (exact rfl); refine wpQuiet_nil ?_)
        refine mix_end ?_
        rintro ⟨z, hz⟩
        dsimp only
        obtain ⟨a1, hr⟩ := K3.out z hz
        obtain ⟨a1, a2⟩ := K2.out z a1
        obtain ⟨b1, b2⟩ := K1.out z a1
        have hbz := (HBX.out z b1).1
        obtain ⟨z0, z1, -, -⟩ := dk_cell hr
        go_wp2
        refine bodyPost_ret (v := .tuple #[.agg #[.slice q1 n m1, .slice q2 j m2], .int .i64 0]) (by simp [results, Tryd.results16, go_sem, z0, z1]) rfl ⟨⟨_, rfl, ⟨_, _, _, _, _, _, rfl, b2, a2, N1.out.mono (by rw [HRR.out]; omega), N2.out.mono (by rw [HRR.out]; omega)⟩⟩, hbz⟩
  · rw [if_pos he]
    generalize checkD d = ce at *
    clear h h' hl hl' hn hn' E
    go_enter Tryd.func16, Tryd.ntmps16
    go_wp2_with (rw [← HW.out])
    refine CH.out.mono ?_
    rintro e X ⟨rfl, bX⟩
    have BX := hide (onward BW.out bX)
    have GX := hide (dk_below GW.out bX)
    have RX := hide (dk_below RW.out bX)
    have SX : Hid (w.heap.size + 2 ≤ X.heap.size) := by have := bX.size; rw [SW.out] at this; exact this
    clear CH bX c0 c1 HW BW GW RW SW
    clear GX
    obtain ⟨⟨u0, k0⟩, ⟨u1, k1⟩, f0, f1⟩ := dk_opq RX.out
    go_wp2
    clear k0 k1 f0 f1
    have HB := dk_put RX.out (.slice none 0 0) (.slice none 0 0)
    obtain ⟨z0, z1, -, -⟩ := dk_cell HB
    refine bodyPost_ret (v := .tuple #[dk0, .int .i64 ce]) (by simp [results, Tryd.results16, go_sem, z0, z1]) rfl ⟨⟨_, rfl, dv_none _ _⟩, (BX.out.setCell (by simp <;> omega) _).setCell (by simp <;> omega) _⟩
end Go.Proofs.YthdjfhnhjiageaaDoor.Tx
