/-
  The law MatchParts by contracts: an order in two parts.
-/
import Derived.Test.YtkjgkmndpbbagaaMtPart
namespace Go.Proofs.Ytkjgkmndpbbagaa.Bk
open Go.RowKit Go.Sort Go.Maps Go.Proofs.Ytkjgkmndpbbagaa.Mix

theorem five_five {x : World} {t s : Nat} (h : Five x s) (hne : s ≠ t) (u0 u1 u2 u3 u4 : Value) : Five (five x t u0 u1 u2 u3 u4) s := by
  obtain ⟨v0, v1, v2, v3, v4, h⟩ := h
  refine ⟨v0, v1, v2, v3, v4, ?_⟩
  have hh : ∀ (y : World) (o : Nat) (u : Value), (y.setCell ⟨t, o, none⟩ u).heap[s]? = y.heap[s]? := fun y o u => Below.heap_setCell y ⟨t, o, none⟩ u s hne
  unfold five
  rw [hh, hh, hh, hh, hh]
  exact h
theorem five_set1 {x : World} {t s k : Nat} (h : Five x s) (hne : s ≠ t) (u : Value) : Five (x.setCell ⟨t, k, none⟩ u) s := by
  obtain ⟨v0, v1, v2, v3, v4, h⟩ := h
  exact ⟨v0, v1, v2, v3, v4, (Below.heap_setCell x ⟨t, k, none⟩ u s hne).trans h⟩
theorem five_set4 {x : World} {t : Nat} (h : Five x t) (u : Value) : Five (x.setCell ⟨t, 4, none⟩ u) t := by
  obtain ⟨v0, v1, v2, v3, v4, h⟩ := h
  exact ⟨v0, v1, v2, v3, u, by simp [World.setCell, Array.getElem?_modify, h]⟩
/-- the first four cells of an order. -/
def Four (x : World) (t : Nat) (a ac sd pr : Int) : Prop := x.cell? ⟨t, 0, none⟩ = some (.int .i64 a) ∧ x.cell? ⟨t, 1, none⟩ = some (.int .i64 ac) ∧ x.cell? ⟨t, 2, none⟩ = some (.int .i64 sd) ∧ x.cell? ⟨t, 3, none⟩ = some (.int .i64 pr)
theorem four_other {x : World} {t s k : Nat} {a ac sd pr : Int} (h : Four x s a ac sd pr) (hne : s ≠ t) (u : Value) : Four (x.setCell ⟨t, k, none⟩ u) s a ac sd pr :=
  ⟨(set_other x (a := ⟨s, 0, none⟩) hne k u).trans h.1, (set_other x (a := ⟨s, 1, none⟩) hne k u).trans h.2.1, (set_other x (a := ⟨s, 2, none⟩) hne k u).trans h.2.2.1, (set_other x (a := ⟨s, 3, none⟩) hne k u).trans h.2.2.2⟩
theorem four_five {x : World} {t s : Nat} {a ac sd pr : Int} (h : Four x s a ac sd pr) (hne : s ≠ t) (u0 u1 u2 u3 u4 : Value) : Four (five x t u0 u1 u2 u3 u4) s a ac sd pr :=
  four_other (four_other (four_other (four_other (four_other h hne _) hne _) hne _) hne _) hne _
theorem four_last {x : World} {t : Nat} {a ac sd pr : Int} (h5 : Five x t) (h : Four x t a ac sd pr) (u : Value) : Four (x.setCell ⟨t, 4, none⟩ u) t a ac sd pr ∧ (x.setCell ⟨t, 4, none⟩ u).cell? ⟨t, 4, none⟩ = some u := by
  obtain ⟨k0, k1, k2, k3, k4⟩ := five_last h5 h.1 h.2.1 h.2.2.1 h.2.2.2 u
  exact ⟨⟨k0, k1, k2, k3⟩, k4⟩

/-- a class of worlds in which two cells of block g read so. -/
def CatC (C : World → Prop) (g : Nat) (v0 v1 : Value) : World → Prop := fun x => C x ∧ g < x.heap.size ∧ x.cell? ⟨g, 0, none⟩ = some v0 ∧ x.cell? ⟨g, 1, none⟩ = some v1
theorem catC_shut {C : World → Prop} (h : ∀ x y, C x → Below x.heap.size x y → C y) (g : Nat) (v0 v1 : Value) : ∀ x y, CatC C g v0 v1 x → Below x.heap.size x y → CatC C g v0 v1 y :=
  fun x y hx hy => ⟨h x y hx.1 hy, Nat.lt_of_lt_of_le hx.2.1 hy.size, (hy.cell hx.2.1).trans hx.2.2.1, (hy.cell hx.2.1).trans hx.2.2.2⟩

set_option maxHeartbeats 4000000 in
set_option maxRecDepth 100000 in
theorem parts_main (p p' : Option Addr) (c c' : Nat) (bids asks : List Odr) (a ac sd pr q n : Int) (w : World) (h : OV w p c bids) (h' : OV w p' c' asks) (hR : Right bids asks) (hok : okOrder (a, ac, sd, pr, q) = 0) (hq : 2 ≤ q) :
    Calls Try.prog 12 #[.agg #[.slice p bids.length c, .slice p' asks.length c'], .agg #[.int .i64 a, .int .i64 ac, .int .i64 sd, .int .i64 pr, .int .i64 q], .int .i64 n] w fun e w' => e = .returned (.bool true) ∧ Below w.heap.size w w' := by
  have mixed : Try.prog.follows .mixedOrders = true := by kernel_rfl
  have hb0 : ∀ o1 o2, Below w.heap.size w ((w.alloc o1).alloc o2) := fun o1 o2 => ((Below.refl _ w).alloc (Nat.le_refl _) _).alloc (by simp) _
  have hq1 := (okOrder_pq hok).2.2.2
  dsimp only [oqt] at hq1
  have hat := at_bd n (q - 1) (by omega)
  have AT := fun W => at_any n (q - 1) W (by omega) (by omega)
  obtain ⟨r, hr⟩ : ∃ r, r = n % (q - 1) := ⟨_, rfl⟩
  rw [← hr] at hat AT
  obtain ⟨hr0, hr1⟩ := hat
  have PA := hide (parts_of (m := 1 + r) hR hok (by omega) (by show 1 + r < q; omega))
  have T1 := hide (take_fills hR hok)
  have T2 := hide (take_fills hR PA.out.ok1)
  have T3 := hide (take_fills PA.out.right PA.out.ok2)
  have hfew := hR.few
  have hfew2 := PA.out.right.few
  obtain ⟨nb, hnb⟩ : ∃ n, bids.length = n := ⟨_, rfl⟩
  obtain ⟨na, hna⟩ : ∃ n, asks.length = n := ⟨_, rfl⟩
  have K1 : Hid (∀ X, Below w.heap.size w X → Calls Try.prog 49 #[.agg #[.slice p nb c, .slice p' na c'], .agg #[.int .i64 a, .int .i64 ac, .int .i64 sd, .int .i64 pr, .int .i64 q]] X (TakePost X (takeB bids asks (a, ac, sd, pr, q)) (takeA bids asks (a, ac, sd, pr, q)) (takeT bids asks (a, ac, sd, pr, q)).2.1 (takeT bids asks (a, ac, sd, pr, q)).2.2.1 (takeT bids asks (a, ac, sd, pr, q)).2.2.2)) := fun X hX => by
    have := take_any p p' c c' bids asks (a, ac, sd, pr, q) X (h.below hX) (h'.below hX) hR hok
    rw [hnb, hna] at this
    exact this
  have MT := hide matched_any
  have HB := hide h
  have HA := hide h'
  have HR := hide hR
  have HOK := hide hok
  obtain ⟨B1, hB1⟩ : ∃ z, z = takeB bids asks (a, ac, sd, pr, q) := ⟨_, rfl⟩
  obtain ⟨A1, hA1⟩ : ∃ z, z = takeA bids asks (a, ac, sd, pr, q) := ⟨_, rfl⟩
  obtain ⟨F, hF⟩ : ∃ z, z = (takeT bids asks (a, ac, sd, pr, q)).2.1 := ⟨_, rfl⟩
  obtain ⟨left, hleft⟩ : ∃ z, z = (takeT bids asks (a, ac, sd, pr, q)).2.2.1 := ⟨_, rfl⟩
  obtain ⟨met, hmet⟩ : ∃ z, z = (takeT bids asks (a, ac, sd, pr, q)).2.2.2 := ⟨_, rfl⟩
  rw [← hB1, ← hA1, ← hF, ← hleft, ← hmet] at K1
  have EB1 := hide hB1
  have EA1 := hide hA1
  have EF := hide hF
  have EL := hide hleft
  have EM := hide hmet
  have NB := hide hnb
  have NA := hide hna
  rw [hnb, hna]
  clear h h' hR hok hB1 hA1 hF hleft hmet hnb hna hr
  go_enter Try.func12, Try.ntmps12
  go_wp2_with fail
  refine (K1.out _ (hb0 _ _)).mono ?_
  rintro e w2 ⟨p1, c1, p2, c2, vF, rfl, o1, o2, of, b2, -, -⟩
  obtain ⟨pF, cF, rfl, fv, -⟩ := ownF_fv of
  have B2 := (hb0 (.cells #[.slice p nb c, .slice p' na c'] 42) (.cells #[.int .i64 a, .int .i64 ac, .int .i64 sd, .int .i64 pr, .int .i64 q] 44)).trans (b2.mono (by simp; omega))
  have k0 : w2.cell? ⟨w.heap.size, 0, none⟩ = some (.slice p nb c) := box2_a b2 rfl
  have k1 : w2.cell? ⟨w.heap.size, 1, none⟩ = some (.slice p' na c') := box2_a b2 rfl
  have m0 : w2.cell? ⟨w.heap.size + 1, 0, none⟩ = some (.int .i64 a) := (b2.cell (by simp)).trans (new_cell2 _ _ _ _ _ _ rfl)
  have m1 : w2.cell? ⟨w.heap.size + 1, 1, none⟩ = some (.int .i64 ac) := (b2.cell (by simp)).trans (new_cell2 _ _ _ _ _ _ rfl)
  have m2 : w2.cell? ⟨w.heap.size + 1, 2, none⟩ = some (.int .i64 sd) := (b2.cell (by simp)).trans (new_cell2 _ _ _ _ _ _ rfl)
  have m3 : w2.cell? ⟨w.heap.size + 1, 3, none⟩ = some (.int .i64 pr) := (b2.cell (by simp)).trans (new_cell2 _ _ _ _ _ _ rfl)
  have m4 : w2.cell? ⟨w.heap.size + 1, 4, none⟩ = some (.int .i64 q) := (b2.cell (by simp)).trans (new_cell2 _ _ _ _ _ _ rfl)
  have al := (Below.refl w2.heap.size w2).alloc (Nat.le_refl _) (.cells #[.slice p1 B1.length c1, .slice p2 A1.length c2] 42)
  have CE : Hid (Cells (w2.alloc (.cells #[.slice p1 B1.length c1, .slice p2 A1.length c2] 42)) [(⟨w.heap.size, 0, none⟩, .slice p nb c), (⟨w.heap.size, 1, none⟩, .slice p' na c'), (⟨w.heap.size + 1, 0, none⟩, .int .i64 a), (⟨w.heap.size + 1, 1, none⟩, .int .i64 ac), (⟨w.heap.size + 1, 2, none⟩, .int .i64 sd), (⟨w.heap.size + 1, 3, none⟩, .int .i64 pr), (⟨w.heap.size + 1, 4, none⟩, .int .i64 q), (⟨w2.heap.size, 0, none⟩, .slice p1 B1.length c1), (⟨w2.heap.size, 1, none⟩, .slice p2 A1.length c2)]) :=
    ⟨cell_alloc k0 _, cell_alloc k1 _, cell_alloc m0 _, cell_alloc m1 _, cell_alloc m2 _, cell_alloc m3 _, cell_alloc m4 _, new_cell _ _ _ 0 _ rfl, new_cell _ _ _ 1 _ rfl, trivial⟩
  have BA := hide al
  have BW2 := hide B2
  have V1 := hide o1
  have V2 := hide o2
  have VF := hide fv
  obtain ⟨-, -, -, -, -, -, g4, -, -, -⟩ := CE.out
  clear b2 B2 K1 hb0 al o1 o2 of fv k0 k1 m0 m1 m2 m3 m4
  go_wp2_with fail
  refine (MT.out _).mono ?_
  rintro e w3 ⟨rfl, b3⟩
  have CE3 := hide (cells_below b3 CE.out)
  have B23 := hide (BA.out.trans (b3.mono BA.out.size))
  have BW3 := hide (BW2.out.trans (B23.out.mono BW2.out.size))
  obtain ⟨g0, g1, o0, o1, o2, o3, o4, y0, y1, -⟩ := CE3.out
  clear b3 CE BA MT g4
  go_wp2_with (go_at_call 27; refine (AT _).mono ?_; rintro e wz ⟨rfl, hwz⟩; rw [hwz]; clear hwz wz)
  obtain ⟨C, hCC⟩ : ∃ C : World → Prop, C = (fun x => Below w3.heap.size w3 x) := ⟨_, rfl⟩
  have CR : Hid (∀ x, C x ↔ Below w3.heap.size w3 x) := fun x => by rw [hCC]
  have C0 : Hid (C { w3 with drawn := w3.drawn + 1 }) := by rw [hCC]; exact below_drawn w3
  have hC : ∀ z : InC C, ∀ ad v, w3.cell? ad = some v → z.w.cell? ad = some v := fun z ad v hv => (((CR.out z.w).1 z.h).cell (World.block_lt_of_cell? _ _ hv)).trans hv
  have i0 := fun z => hC z _ _ o0
  have i1 := fun z => hC z _ _ o1
  have i2 := fun z => hC z _ _ o2
  have i3 := fun z => hC z _ _ o3
  have i4 := fun z => hC z _ _ o4
  clear hC hCC
  refine wp_region_tree (.still 0 (.still 1 (.fork 2 (.main 3 (.main 4 (.main 5 .done))) 3 (.main 2 (.main 4 (.main 5 .done)))))) C mixed (by kernel_rfl) C0.out ?_
  repeat (refine mixT_still (by rfl) ?_; go_big_quiet_step (exact rfl); refine wpQuiet_nil ?_)
  refine mixT_fork (by rfl) (by rfl) ?_ ?_
  · rintro ⟨x1, hx1⟩
    dsimp only
    have hx1' := hide ((CR.out x1).1 hx1)
    go_wp2
    have al := (Below.refl x1.heap.size x1).alloc (Nat.le_refl _) (.cells #[.int .i64 0, .int .i64 0, .int .i64 0, .int .i64 0, .int .i64 0] 44)
    refine ⟨fun x => C x ∧ Five x x1.heap.size, ⟨(CR.out _).2 (hx1'.out.trans (al.mono hx1'.out.size)), ⟨_, _, _, _, _, heap_alloc_new _ _⟩⟩, fun x hx => hx.1, ?_⟩
    have ge12 : Hid (w3.heap.size ≤ x1.heap.size) := hx1'.out.size
    generalize x1.heap.size = t12 at ge12 ⊢
    clear al hx1' hx1 x1
    refine mixT_main (by rfl) ?_
    rintro ⟨x2, hx2, hf2⟩
    dsimp only
    have hx2' := hide ((CR.out x2).1 hx2)
    have HF2 := hide hf2
    go_wp2
    have al := (Below.refl x2.heap.size x2).alloc (Nat.le_refl _) (.cells #[.int .i64 0, .int .i64 0, .int .i64 0, .int .i64 0, .int .i64 0] 44)
    refine ⟨fun x => C x ∧ Five x t12 ∧ Five x x2.heap.size, ⟨(CR.out _).2 (hx2'.out.trans (al.mono hx2'.out.size)), five_below HF2.out al, ⟨_, _, _, _, _, heap_alloc_new _ _⟩⟩, fun x hx => ⟨hx.1, hx.2.1⟩, ?_⟩
    have ge13 : Hid (w3.heap.size ≤ x2.heap.size) := hx2'.out.size
    have ne : Hid (t12 ≠ x2.heap.size) := Nat.ne_of_lt (five_lt HF2.out)
    generalize x2.heap.size = t13 at ge13 ne ⊢
    clear al hx2' hx2 hf2 HF2 x2
    obtain ⟨D2, hD2⟩ : ∃ D2 : World → Prop, D2 = (fun x => C x ∧ Five x t12 ∧ Five x t13) := ⟨_, rfl⟩
    have J2 : Hid (∀ x, D2 x ↔ C x ∧ Five x t12 ∧ Five x t13) := fun x => by rw [hD2]
    rw [← hD2]
    clear hD2
    refine mixT_main (by rfl) ?_
    rintro ⟨x3, hx3⟩
    dsimp only
    obtain ⟨z1, z2, z3⟩ := (J2.out x3).1 hx3
    obtain ⟨⟨u0, u1, u2, u3, u4, t0, t1, t2, t3, t4⟩, s0, s1, s2, s3, s4⟩ := five_facts z2
    have S2 : Hid (D2 (five x3 t12 (.int .i64 a) (.int .i64 ac) (.int .i64 sd) (.int .i64 pr) (.int .i64 q))) := (J2.out _).2 ⟨(CR.out _).2 (five_below_set ((CR.out _).1 z1) ge12.out _ _ _ _ _), five_again z2 _ _ _ _ _, five_five z3 ne.out.symm _ _ _ _ _⟩
    have S3 : Hid (Four (five x3 t12 (.int .i64 a) (.int .i64 ac) (.int .i64 sd) (.int .i64 pr) (.int .i64 q)) t12 a ac sd pr) := by
      obtain ⟨e0, e1, e2, e3, -⟩ := five_set z2 (.int .i64 a) (.int .i64 ac) (.int .i64 sd) (.int .i64 pr) (.int .i64 q)
      exact ⟨e0, e1, e2, e3⟩
    clear z1 z2 z3 hx3
    go_wp2
    refine ⟨fun x => D2 x ∧ Four x t12 a ac sd pr, ⟨S2.out, S3.out⟩, fun x hx => hx.1, ?_⟩
    clear S2 S3 t0 t1 t2 t3 t4 s0 s1 s2 s3 s4 x3
    refine mixT_main (by rfl) ?_
    rintro ⟨x4, hx4, hf4⟩
    dsimp only
    obtain ⟨z1, z2, z3⟩ := (J2.out x4).1 hx4
    obtain ⟨⟨u0, u1, u2, u3, u4, t0, t1, t2, t3, t4⟩, s0, s1, s2, s3, s4⟩ := five_facts z3
    have S2 : Hid (D2 (five x4 t13 (.int .i64 a) (.int .i64 ac) (.int .i64 sd) (.int .i64 pr) (.int .i64 q))) := (J2.out _).2 ⟨(CR.out _).2 (five_below_set ((CR.out _).1 z1) ge13.out _ _ _ _ _), five_five z2 ne.out _ _ _ _ _, five_again z3 _ _ _ _ _⟩
    have S3 : Hid (Four (five x4 t13 (.int .i64 a) (.int .i64 ac) (.int .i64 sd) (.int .i64 pr) (.int .i64 q)) t13 a ac sd pr) := by
      obtain ⟨e0, e1, e2, e3, -⟩ := five_set z3 (.int .i64 a) (.int .i64 ac) (.int .i64 sd) (.int .i64 pr) (.int .i64 q)
      exact ⟨e0, e1, e2, e3⟩
    have S4 : Hid (Four (five x4 t13 (.int .i64 a) (.int .i64 ac) (.int .i64 sd) (.int .i64 pr) (.int .i64 q)) t12 a ac sd pr) := four_five hf4 ne.out _ _ _ _ _
    clear z1 z2 z3 hx4 hf4
    go_wp2
    refine ⟨fun x => (D2 x ∧ Four x t12 a ac sd pr) ∧ Four x t13 a ac sd pr, ⟨⟨S2.out, S4.out⟩, S3.out⟩, fun x hx => hx.1, ?_⟩
    clear S2 S3 S4 t0 t1 t2 t3 t4 s0 s1 s2 s3 s4 x4
    refine mixT_end ?_
    rintro ⟨x5, ⟨hx5, hf5⟩, hg5⟩
    dsimp only
    obtain ⟨z1, z2, z3⟩ := (J2.out x5).1 hx5
    have X5 : Hid (Below w3.heap.size w3 x5 ∧ Five x5 t12 ∧ Five x5 t13 ∧ Four x5 t12 a ac sd pr ∧ Four x5 t13 a ac sd pr) := ⟨(CR.out _).1 z1, z2, z3, hf5, hg5⟩
    clear z1 z2 z3 hx5 hf5 hg5 J2 D2 C0 i0 i1 i2 i3 i4 CR C
    obtain ⟨E, hEE⟩ : ∃ E : World → Prop, E = (fun x => Below w3.heap.size w3 x ∧ Five x t12 ∧ Five x t13 ∧ Four x t12 a ac sd pr ∧ Four x t13 a ac sd pr) := ⟨_, rfl⟩
    have ER : Hid (∀ x, E x ↔ Below w3.heap.size w3 x ∧ Five x t12 ∧ Five x t13 ∧ Four x t12 a ac sd pr ∧ Four x t13 a ac sd pr) := fun x => by rw [hEE]
    have E0 : Hid (E { x5 with drawn := x5.drawn + 1 }) := by
      rw [hEE]
      exact ⟨X5.out.1.trans ((below_drawn x5).mono X5.out.1.size), X5.out.2.1, X5.out.2.2.1, X5.out.2.2.2.1, X5.out.2.2.2.2⟩
    have i4 : ∀ z : InC E, z.w.cell? ⟨w.heap.size + 1, 4, none⟩ = some (.int .i64 q) := fun z => (((ER.out z.w).1 z.h).1.cell (World.block_lt_of_cell? _ _ o4)).trans o4
    clear hEE
    go_wp2_with fail
    refine wp_region_tree (.still 0 (.still 1 (.still 2 (.still 3 (.still 4 (.still 5 (.main 6 (.still 7 (.main 8 .done))))))))) E mixed (by kernel_rfl) E0.out ?_
    repeat (refine mixT_still (by rfl) ?_; go_big_quiet_step (exact rfl); refine wpQuiet_nil ?_)
    refine mixT_main (by rfl) ?_
    rintro ⟨x6, hx6⟩
    dsimp only
    obtain ⟨z1, z2, z3, z4, z5⟩ := (ER.out x6).1 hx6
    obtain ⟨⟨u0, u1, u2, u3, u4, t0, t1, t2, t3, t4⟩, s0, s1, s2, s3, s4⟩ := five_facts z2
    obtain ⟨f1, f2⟩ := four_last z2 z4 (.int .i64 (1 + r))
    have S2 : Hid (E (x6.setCell ⟨t12, 4, none⟩ (.int .i64 (1 + r)))) := (ER.out _).2 ⟨z1.setCell ge12.out _, five_set4 z2 _, five_set1 z3 ne.out.symm _, f1, four_other z5 ne.out.symm _⟩
    have S3 := hide f2
    clear z1 z2 z3 z4 z5 hx6 f1 f2 t0 t1 t2 t3 s0 s1 s2 s3
    go_wp2
    refine ⟨fun x => E x ∧ x.cell? ⟨t12, 4, none⟩ = some (.int .i64 (1 + r)), ⟨S2.out, S3.out⟩, fun x hx => hx.1, ?_⟩
    clear S2 S3 t4 s4 x6 i4
    repeat (refine mixT_still (by rfl) ?_; go_big_quiet_step (exact rfl); refine wpQuiet_nil ?_)
    refine mixT_main (by rfl) ?_
    rintro ⟨x7, hx7, hc7⟩
    dsimp only
    obtain ⟨z1, z2, z3, z4, z5⟩ := (ER.out x7).1 hx7
    obtain ⟨⟨u0, u1, u2, u3, u4, t0, t1, t2, t3, t4⟩, s0, s1, s2, s3, s4⟩ := five_facts z3
    obtain ⟨f1, f2⟩ := four_last z3 z5 (.int .i64 (q - (1 + r)))
    have S2 : Hid (E (x7.setCell ⟨t13, 4, none⟩ (.int .i64 (q - (1 + r))))) := (ER.out _).2 ⟨z1.setCell ge13.out _, five_set1 z2 ne.out _, five_set4 z3 _, four_other z4 ne.out _, f1⟩
    have S3 := hide f2
    have S4 : Hid ((x7.setCell ⟨t13, 4, none⟩ (.int .i64 (q - (1 + r)))).cell? ⟨t12, 4, none⟩ = some (.int .i64 (1 + r))) := (set_other x7 (a := ⟨t12, 4, none⟩) ne.out 4 _).trans hc7
    clear z1 z2 z3 z4 z5 hx7 hc7 f1 f2 t0 t1 t2 t3 s0 s1 s2 s3
    go_wp2
    refine ⟨fun x => (E x ∧ x.cell? ⟨t12, 4, none⟩ = some (.int .i64 (1 + r))) ∧ x.cell? ⟨t13, 4, none⟩ = some (.int .i64 (q - (1 + r))), ⟨⟨S2.out, S4.out⟩, S3.out⟩, fun x hx => hx.1, ?_⟩
    clear S2 S3 S4 t4 s4 x7
    refine mixT_end ?_
    rintro ⟨x8, ⟨hx8, h12⟩, h13⟩
    dsimp only
    obtain ⟨z1, -, -, z4, z5⟩ := (ER.out x8).1 hx8
    have B8 := hide z1
    have BW8 := hide (BW3.out.trans (z1.mono BW3.out.size))
    obtain ⟨d0, d1, d2, d3⟩ := z4
    obtain ⟨e0, e1, e2, e3⟩ := z5
    have CE8 : Hid (Cells x8 [(⟨w2.heap.size, 0, none⟩, .slice p1 B1.length c1), (⟨w2.heap.size, 1, none⟩, .slice p2 A1.length c2), (⟨t13, 0, none⟩, .int .i64 a), (⟨t13, 1, none⟩, .int .i64 ac), (⟨t13, 2, none⟩, .int .i64 sd), (⟨t13, 3, none⟩, .int .i64 pr), (⟨t13, 4, none⟩, .int .i64 (q - (1 + r)))]) :=
      ⟨(z1.cell (World.block_lt_of_cell? _ _ y0)).trans y0, (z1.cell (World.block_lt_of_cell? _ _ y1)).trans y1, e0, e1, e2, e3, h13, trivial⟩
    have j0 := (z1.cell (World.block_lt_of_cell? _ _ g0)).trans g0
    have j1 := (z1.cell (World.block_lt_of_cell? _ _ g1)).trans g1
    have B28 := hide (B23.out.trans (z1.mono B23.out.size))
    clear z1 hx8 ER E E0 X5 g0 g1 o0 o1 o2 o3 o4 y0 y1 ge12 ge13 e0 e1 e2 e3 h13 x5
    have TK2 := take_any p p' c c' bids asks (withQ (a, ac, sd, pr, q) (1 + r)) x8 (HB.out.below BW8.out) (HA.out.below BW8.out) HR.out PA.out.ok1
    rw [NB.out, NA.out] at TK2
    have TR := PA.out.right
    have TQ := hide (PA.out)
    have F2 := T2.out
    have F3 := T3.out
    obtain ⟨B2, hB2⟩ : ∃ z, z = takeB bids asks (withQ (a, ac, sd, pr, q) (1 + r)) := ⟨_, rfl⟩
    obtain ⟨A2, hA2⟩ : ∃ z, z = takeA bids asks (withQ (a, ac, sd, pr, q) (1 + r)) := ⟨_, rfl⟩
    obtain ⟨M, hM⟩ : ∃ z, z = (takeT bids asks (withQ (a, ac, sd, pr, q) (1 + r))).2.1 := ⟨_, rfl⟩
    obtain ⟨some2, hsome2⟩ : ∃ z, z = (takeT bids asks (withQ (a, ac, sd, pr, q) (1 + r))).2.2.1 := ⟨_, rfl⟩
    obtain ⟨met2, hmet2⟩ : ∃ z, z = (takeT bids asks (withQ (a, ac, sd, pr, q) (1 + r))).2.2.2 := ⟨_, rfl⟩
    have P1b := PA.out.b
    have P1a := PA.out.a
    have P1l := PA.out.left
    have P1m := PA.out.met
    have P1s := PA.out.sum
    have P1k := PA.out.ok2
    rw [← hB2, ← hA2, ← hM, ← hsome2, ← hmet2] at TK2
    rw [← hB2, ← hA2] at TR F3 P1b P1a P1l P1m P1s
    rw [← hM, ← hsome2] at F2
    rw [← hsome2] at P1l
    rw [← hM] at P1s
    rw [← EB1.out] at P1b
    rw [← EA1.out] at P1a
    rw [← EL.out] at P1l P1m
    rw [← EM.out] at P1m
    rw [← EF.out] at P1s
    have TK3 := fun X p3 p4 c3 c4 (k3 : OV X p3 c3 B2) (k4 : OV X p4 c4 A2) => take_any p3 p4 c3 c4 B2 A2 (withQ (a, ac, sd, pr, q) (q - (1 + r))) X k3 k4 TR P1k
    obtain ⟨B3, hB3⟩ : ∃ z, z = takeB B2 A2 (withQ (a, ac, sd, pr, q) (q - (1 + r))) := ⟨_, rfl⟩
    obtain ⟨A3, hA3⟩ : ∃ z, z = takeA B2 A2 (withQ (a, ac, sd, pr, q) (q - (1 + r))) := ⟨_, rfl⟩
    obtain ⟨KK, hKK⟩ : ∃ z, z = (takeT B2 A2 (withQ (a, ac, sd, pr, q) (q - (1 + r)))).2.1 := ⟨_, rfl⟩
    obtain ⟨rest3, hrest3⟩ : ∃ z, z = (takeT B2 A2 (withQ (a, ac, sd, pr, q) (q - (1 + r)))).2.2.1 := ⟨_, rfl⟩
    obtain ⟨too, htoo⟩ : ∃ z, z = (takeT B2 A2 (withQ (a, ac, sd, pr, q) (q - (1 + r)))).2.2.2 := ⟨_, rfl⟩
    rw [← hB3, ← hA3, ← hKK, ← hrest3, ← htoo] at TK3
    rw [show oqt (a, ac, sd, pr, q) = q from rfl] at P1b P1a P1l P1m P1s F3
    rw [← hB3] at P1b
    rw [← hA3] at P1a
    rw [← hrest3] at P1l F3
    rw [← htoo] at P1m
    rw [← hKK] at P1s F3
    have L3 := (take_right TR P1k).few
    rw [← hB3, ← hA3] at L3
    have HL3 := hide L3
    have H3 := hide TK3
    have HPb := hide P1b
    have HPa := hide P1a
    have HPl := hide P1l
    have HPm := hide P1m
    have HPs := hide P1s
    have HF2 := hide F2
    have HF3 := hide F3
    have HTR := hide TR
    clear L3 hB2 hA2 hM hsome2 hmet2 hB3 hA3 hKK hrest3 htoo TK3 P1b P1a P1l P1m P1s P1k F2 F3 TR
    go_wp2_with fail
    refine TK2.mono ?_
    rintro e w9 ⟨p3, c3, p4, c4, vM, rfl, v3, v4, ofM, b9, -, -⟩
    obtain ⟨pM, cM, rfl, fvM, -⟩ := ownF_fv ofM
    have al9 := (Below.refl w9.heap.size w9).alloc (Nat.le_refl _) (.cells #[.slice p3 B2.length c3, .slice p4 A2.length c4] 42)
    have b9' := b9.trans (al9.mono b9.size)
    have CE9 := hide (cells_below b9' CE8.out)
    have FM9 := hide (fvM.below al9)
    have TK4 := H3.out _ p3 p4 c3 c4 (v3.below al9) (v4.below al9)
    have B29 := hide (B28.out.trans (b9'.mono B28.out.size))
    have BW9 := hide (BW8.out.trans (b9'.mono BW8.out.size))
    have q0 := new_cell w9 #[.slice p3 B2.length c3, .slice p4 A2.length c4] 42 0 _ rfl
    have q1 := new_cell w9 #[.slice p3 B2.length c3, .slice p4 A2.length c4] 42 1 _ rfl
    obtain ⟨y0, y1, e0, e1, e2, e3, e4, -⟩ := CE9.out
    clear TK2 v3 v4 ofM b9 fvM al9 b9' CE8 j0 j1 d0 d1 d2 d3 h12 B8 H3 B28 BW8 y0 y1
    go_wp2_with fail
    refine TK4.mono ?_
    rintro e w10 ⟨p5, c5, p6, c6, vK, rfl, v5, v6, ofK, b10, -, -⟩
    obtain ⟨pK, cK, rfl, fvK, -⟩ := ownF_fv ofK
    have al10 := (Below.refl w10.heap.size w10).alloc (Nat.le_refl _) (.cells #[.slice p5 B3.length c5, .slice p6 A3.length c6] 42)
    have b10' := b10.trans (al10.mono b10.size)
    obtain ⟨y0, y1, -, -, -, -, -, -⟩ := cells_below b10' CE9.out
    have FM10 := hide (FM9.out.below b10')
    have FK10 := hide (fvK.below al10)
    have B210 := hide (B29.out.trans (b10'.mono B29.out.size))
    have BW10 := hide (BW9.out.trans (b10'.mono BW9.out.size))
    have q0 := new_cell w10 #[.slice p5 B3.length c5, .slice p6 A3.length c6] 42 0 _ rfl
    have q1 := new_cell w10 #[.slice p5 B3.length c5, .slice p6 A3.length c6] 42 1 _ rfl
    have SMx : Hid (Calls Try.prog 41 #[.agg #[.slice p1 B1.length c1, .slice p2 A1.length c2], .agg #[.slice p5 B3.length c5, .slice p6 A3.length c6]] (w10.alloc (.cells #[.slice p5 B3.length c5, .slice p6 A3.length c6] 42)) fun e w' => e = .returned (.bool true) ∧ Below (w10.alloc (.cells #[.slice p5 B3.length c5, .slice p6 A3.length c6] 42)).heap.size (w10.alloc (.cells #[.slice p5 B3.length c5, .slice p6 A3.length c6] 42)) w') := by
      have hl := HL3.out
      have hb := congrArg List.length HPb.out
      have ha := congrArg List.length HPa.out
      have := same_any p1 p2 p5 p6 c1 c2 c5 c6 B1 A1 B3 A3 _ (V1.out.below B210.out).row (V2.out.below B210.out).row (v5.below al10).row (v6.below al10).row (by omega) (by omega) (by omega) (by omega)
      rw [decide_eq_true ⟨HPb.out, HPa.out⟩] at this
      exact this
    have F10 := hide (VF.out.below B210.out)
    clear al10 b10 b10' v5 v6 ofK fvK CE9 FM9 B29 BW9 TK4 e0 e1 e2 e3 e4 B210
    go_wp2_with fail
    refine SMx.out.mono ?_
    rintro e w11 ⟨rfl, b11⟩
    have F11 := hide (F10.out.below b11)
    have M11 := hide (FM10.out.below b11)
    have K11 := hide (FK10.out.below b11)
    have BW11 := hide (BW10.out.trans (b11.mono BW10.out.size))
    have hs2 := HF2.out.2.2
    have hs3 := HF3.out.2.2
    obtain ⟨hs20, hs21⟩ := hs2
    obtain ⟨hs30, hs31⟩ := hs3
    have hpl := HPl.out
    have hpm := HPm.out
    subst hpl
    clear SMx b11 F10 FM10 FK10 BW10 q0 q1 y0 y1
    by_cases hlp : 0 < rest3 + some2
    · have hmm := hpm hlp
      subst hmm
      have HQ1 : Hid (∀ f, f ∈ F → 0 ≤ fqt f ∧ fqt f ≤ 1000) := fun f hf => by have := T1.out.1 f (by rw [← EF.out]; exact hf); omega
      have HQ2 : Hid (∀ f, f ∈ M ++ KK → 0 ≤ fqt f ∧ fqt f ≤ 1000) := fun f hf => by
        rcases List.mem_append.1 hf with e | e
        · have := HF2.out.1 f e; omega
        · have := HF3.out.1 f e; omega
      have hF40 : F.length ≤ 40 := by have := T1.out.2.1; rw [← EF.out] at this; exact this
      have HMK : Hid ((M ++ KK).length ≤ 80) := by have h1 := HF2.out.2.1; have h2 := HF3.out.2.1; rw [List.length_append]; show M.length + KK.length ≤ 80; omega
      have HZ0 : Hid (qof 0 (M ++ KK) = 0) := qof_none fun f hf => by
        rcases List.mem_append.1 hf with e | e
        · have := HF2.out.1 f e; omega
        · have := HF3.out.1 f e; omega
      have OF1 : Hid (∀ X id, Below w11.heap.size w11 X → Calls Try.prog 55 #[.slice pF F.length cF, .int .i64 id] X fun e w' => e = .returned (.int .i64 (qof id (M ++ KK))) ∧ Below X.heap.size X w') := fun X id hX => by
        have := of_any pF cF F id X (F11.out.below hX) (by omega) HQ1.out
        rw [HPs.out id] at this
        exact this
      have OF2 : Hid (∀ X p c id, FV X p c (M ++ KK) → Calls Try.prog 55 #[.slice p (M ++ KK).length c, .int .i64 id] X fun e w' => e = .returned (.int .i64 (qof id (M ++ KK))) ∧ Below X.heap.size X w') := fun X p c id hX => of_any p c (M ++ KK) id X hX (by have := HMK.out; omega) HQ2.out
      have CF : Hid (∀ X g, Below w11.heap.size w11 X → g < X.heap.size → X.cell? ⟨g, 0, none⟩ = some (.slice pM M.length cM) → X.cell? ⟨g, 1, none⟩ = some (.slice pK KK.length cK) → Calls Try.prog 56 #[.slice (some ⟨g, 0, none⟩) 2 2] X fun e w' => ∃ pc cc, e = .returned (.slice pc (M ++ KK).length cc) ∧ FV w' pc cc (M ++ KK) ∧ Below X.heap.size X w') := fun X g hX hg c0 c1 => by
        have hj : joinedF [(pM, cM, M), (pK, cK, KK)] = M ++ KK := by simp [joinedF]
        have := concatF_any g 2 [(pM, cM, M), (pK, cK, KK)] X (fun j hj => by
          have hj2 : j < 2 := hj
          match j, hj2 with
          | 0, _ => exact c0
          | 1, _ => exact c1) (fun j hj => by
          have hj2 : j < 2 := hj
          match j, hj2 with
          | 0, _ => exact M11.out.below hX
          | 1, _ => exact K11.out.below hX) hg (by simp) (by rw [hj]; have := HMK.out; omega)
        rw [hj] at this
        refine this.mono ?_
        rintro e w' ⟨v, rfl, hown, hb⟩
        obtain ⟨pc, cc, rfl, hfv, -⟩ := ownF_fv hown
        exact ⟨pc, cc, rfl, hfv, hb⟩
      obtain ⟨MK, hMK⟩ : ∃ z, z = M ++ KK := ⟨_, rfl⟩
      rw [← hMK] at OF1 OF2 CF HZ0
      clear hMK
      go_wp2
      go_loopw [110] (fun i wr => ∃ k : Nat, i = .int .i64 k ∧ k ≤ F.length ∧ Hid (Below w11.heap.size w11 wr)) (fun i _ => F.length - (intOf i).toNat)
      case atStart => exact ⟨0, rfl, Nat.zero_le _, Below.refl _ _⟩
      case round =>
        obtain ⟨k, rfl, hkn, BJ⟩ := hrel
        by_cases hk : k < F.length
        · have hkz : (k : Int) < (F.length : Int) := by omega
          obtain ⟨fb, fo, hpF, hfc⟩ : ∃ b off, pF = some ⟨b, off, none⟩ ∧ ∀ j u, (flatF F)[j]? = some u → wr.cell? ⟨b, off + j, none⟩ = some u := by
            rcases (F11.out.below BJ.out).row with e | e
            · rw [e] at hk; simp at hk
            · exact e
          obtain ⟨f0, f1, f2, f3, f4, f5, f6⟩ := fv_cells hfc hk
          generalize F[k]! = f at f0 f1 f2 f3 f4 f5 f6
          obtain ⟨a0, a1, a2, a3, a4, a5, a6⟩ := f
          dsimp only at f0 f1 f2 f3 f4 f5 f6
          subst hpF
          have BA := hide (BJ.out.alloc BJ.out.size (.cells #[.int .i64 a0, .int .i64 a1, .int .i64 a2, .int .i64 a3, .int .i64 a4, .int .i64 a5, .int .i64 a6] 74))
          obtain ⟨WA, hWA⟩ : ∃ WA, WA = wr.alloc (.cells #[.int .i64 a0, .int .i64 a1, .int .i64 a2, .int .i64 a3, .int .i64 a4, .int .i64 a5, .int .i64 a6] 74) := ⟨_, rfl⟩
          have t25 : WA.cell? ⟨wr.heap.size, 0, none⟩ = some (.int .i64 a0) := by rw [hWA]; exact new_cell _ _ _ 0 _ rfl
          rw [← hWA] at BA
          have EWA := hide hWA
          obtain ⟨C, hCC⟩ : ∃ C : World → Prop, C = (fun x => Below WA.heap.size WA x) := ⟨_, rfl⟩
          have CR : Hid (∀ x, C x ↔ Below WA.heap.size WA x) := fun x => by rw [hCC]
          have C0 : Hid (C { WA with drawn := WA.drawn + 1 }) := by rw [hCC]; exact below_drawn WA
          have i0 : ∀ z : InC C, z.w.cell? ⟨wr.heap.size, 0, none⟩ = some (.int .i64 a0) := fun z => (((CR.out z.w).1 z.h).cell (World.block_lt_of_cell? _ _ t25)).trans t25
          have BC : Hid (∀ x, C x → Below w11.heap.size w11 x) := fun x hx => BA.out.trans (((CR.out x).1 hx).mono BA.out.size)
          have CS : Hid (∀ x y, C x → Below x.heap.size x y → C y) := fun x y hx hy => (CR.out y).2 (((CR.out x).1 hx).trans (hy.mono ((CR.out x).1 hx).size))
          clear hCC hWA t25 hfc
          go_wp2_with fail
          rw [← EWA.out]
          clear EWA f0 f1 f2 f3 f4 f5 f6
          refine wp_region_tree (.still 0 (.still 1 (.still 2 (.still 3 (.still 5 (.still 6 (.still 7 (.still 10 (.still 11 (.fork 4 (.main 8 (.main 9 (.main 12 (.still 13 .done)))) 8 (.main 4 (.main 9 (.main 12 (.still 13 .done)))))))))))))) C mixed (by kernel_rfl) C0.out ?_
          repeat (refine mixT_still (by rfl) ?_; go_big_quiet_step (exact rfl); refine wpQuiet_nil ?_)
          clear i0
          refine mixT_fork (by rfl) (by rfl) ?_ ?_
          · rintro ⟨x1, hx1⟩
            dsimp only
            have hc := OF1.out x1 a0 (BC.out x1 hx1)
            have HX := hide hx1
            clear hx1
            go_wp2_with fail
            refine hc.mono ?_
            rintro e y1 ⟨rfl, b1⟩
            go_wp2
            refine ⟨C, CS.out x1 y1 HX.out b1, fun x hx => hx, ?_⟩
            clear hc HX b1 y1 x1
            refine mixT_main (by rfl) ?_
            rintro ⟨x2, hx2⟩
            dsimp only
            have HX2 := hide hx2
            clear hx2
            go_wp2
            have al := (Below.refl x2.heap.size x2).alloc (Nat.le_refl _) (.cells #[.slice pM M.length cM, .slice pK KK.length cK] 65)
            refine ⟨CatC C x2.heap.size (.slice pM M.length cM) (.slice pK KK.length cK), ⟨CS.out _ _ HX2.out al, by simp, new_cell _ _ _ 0 _ rfl, new_cell _ _ _ 1 _ rfl⟩, fun x hx => hx.1, ?_⟩
            generalize x2.heap.size = g
            clear al HX2 x2
            refine mixT_main (by rfl) ?_
            rintro ⟨x3, hx3⟩
            dsimp only
            have CFx := CF.out x3 g (BC.out x3 hx3.1) hx3.2.1 hx3.2.2.1 hx3.2.2.2
            have HX3 := hide hx3
            clear hx3
            go_wp2_with fail
            refine CFx.mono ?_
            rintro e y3 ⟨pc, cc, rfl, hfv, b3⟩
            go_wp2
            refine ⟨fun x => CatC C g (.slice pM M.length cM) (.slice pK KK.length cK) x ∧ FV x pc cc MK, ⟨catC_shut CS.out g _ _ x3 y3 HX3.out b3, hfv⟩, fun x hx => hx.1, ?_⟩
            clear CFx HX3 hfv b3 y3 x3
            refine mixT_main (by rfl) ?_
            rintro ⟨x4, hx4, hf4⟩
            dsimp only
            have OFx := OF2.out x4 pc cc a0 hf4
            have HX4 := hide hx4
            have HF4 := hide hf4
            clear hx4 hf4
            go_wp2_with fail
            refine OFx.mono ?_
            rintro e y4 ⟨rfl, b4⟩
            go_wp2
            refine ⟨fun x => CatC C g (.slice pM M.length cM) (.slice pK KK.length cK) x ∧ FV x pc cc MK, ⟨catC_shut CS.out g _ _ x4 y4 HX4.out b4, HF4.out.below b4⟩, fun x hx => hx, ?_⟩
            clear OFx HX4 HF4 b4 y4 x4
            repeat (refine mixT_still (by rfl) ?_; go_big_quiet_step (exact rfl); refine wpQuiet_nil ?_)
            refine mixT_end ?_
            rintro ⟨x5, hx5, -⟩
            dsimp only
            have BX := hide (BC.out x5 hx5.1)
            clear hx5
            go_wp2
            go_roundw
            case rel => exact ⟨k + 1, by go_num, by omega, BX⟩
            case measure => simp [intOf]; omega
          · rintro ⟨x2, hx2⟩
            dsimp only
            have HX2 := hide hx2
            clear hx2
            go_wp2
            have al := (Below.refl x2.heap.size x2).alloc (Nat.le_refl _) (.cells #[.slice pM M.length cM, .slice pK KK.length cK] 65)
            refine ⟨CatC C x2.heap.size (.slice pM M.length cM) (.slice pK KK.length cK), ⟨CS.out _ _ HX2.out al, by simp, new_cell _ _ _ 0 _ rfl, new_cell _ _ _ 1 _ rfl⟩, fun x hx => hx.1, ?_⟩
            generalize x2.heap.size = g
            clear al HX2 x2
            refine mixT_main (by rfl) ?_
            rintro ⟨x1, hx1⟩
            dsimp only
            have hc := OF1.out x1 a0 (BC.out x1 hx1.1)
            have HX := hide hx1
            clear hx1
            go_wp2_with fail
            refine hc.mono ?_
            rintro e y1 ⟨rfl, b1⟩
            go_wp2
            refine ⟨CatC C g (.slice pM M.length cM) (.slice pK KK.length cK), catC_shut CS.out g _ _ x1 y1 HX.out b1, fun x hx => hx, ?_⟩
            clear hc HX b1 y1 x1
            refine mixT_main (by rfl) ?_
            rintro ⟨x3, hx3⟩
            dsimp only
            have CFx := CF.out x3 g (BC.out x3 hx3.1) hx3.2.1 hx3.2.2.1 hx3.2.2.2
            have HX3 := hide hx3
            clear hx3
            go_wp2_with fail
            refine CFx.mono ?_
            rintro e y3 ⟨pc, cc, rfl, hfv, b3⟩
            go_wp2
            refine ⟨fun x => CatC C g (.slice pM M.length cM) (.slice pK KK.length cK) x ∧ FV x pc cc MK, ⟨catC_shut CS.out g _ _ x3 y3 HX3.out b3, hfv⟩, fun x hx => hx.1, ?_⟩
            clear CFx HX3 hfv b3 y3 x3
            refine mixT_main (by rfl) ?_
            rintro ⟨x4, hx4, hf4⟩
            dsimp only
            have OFx := OF2.out x4 pc cc a0 hf4
            have HX4 := hide hx4
            have HF4 := hide hf4
            clear hx4 hf4
            go_wp2_with fail
            refine OFx.mono ?_
            rintro e y4 ⟨rfl, b4⟩
            go_wp2
            refine ⟨fun x => CatC C g (.slice pM M.length cM) (.slice pK KK.length cK) x ∧ FV x pc cc MK, ⟨catC_shut CS.out g _ _ x4 y4 HX4.out b4, HF4.out.below b4⟩, fun x hx => hx, ?_⟩
            clear OFx HX4 HF4 b4 y4 x4
            repeat (refine mixT_still (by rfl) ?_; go_big_quiet_step (exact rfl); refine wpQuiet_nil ?_)
            refine mixT_end ?_
            rintro ⟨x5, hx5, -⟩
            dsimp only
            have BX := hide (BC.out x5 hx5.1)
            clear hx5
            go_wp2
            go_roundw
            case rel => exact ⟨k + 1, by go_num, by omega, BX⟩
            case measure => simp [intOf]; omega
        · have BE := hide (BW11.out.trans (BJ.out.mono BW11.out.size))
          have al := (Below.refl wr.heap.size wr).alloc (Nat.le_refl _) (.cells #[.slice pM M.length cM, .slice pK KK.length cK] 65)
          have CFx := hide (CF.out _ wr.heap.size (BJ.out.alloc BJ.out.size (.cells #[.slice pM M.length cM, .slice pK KK.length cK] 65)) (by simp) (new_cell _ _ _ _ _ rfl) (new_cell _ _ _ _ _ rfl))
          have BE2 := hide (BE.out.trans (al.mono BE.out.size))
          clear al
          go_wp2_with fail
          refine CFx.out.mono ?_
          rintro e w12 ⟨pc, cc, rfl, hfv, b12⟩
          have BE3 := hide (BE2.out.trans (b12.mono BE2.out.size))
          have OFx := OF2.out _ pc cc 0 hfv
          rw [HZ0.out] at OFx
          clear b12 hfv CFx
          go_wp2_with fail
          refine OFx.mono ?_
          rintro e w13 ⟨rfl, b13⟩
          have BE4 := hide (BE3.out.trans (b13.mono BE3.out.size))
          clear b13 OFx
          go_wp2
          go_ret
          exact ⟨rfl, BE4.out⟩
    · have HQ1 : Hid (∀ f, f ∈ F → 0 ≤ fqt f ∧ fqt f ≤ 1000) := fun f hf => by have := T1.out.1 f (by rw [← EF.out]; exact hf); omega
      have HQ2 : Hid (∀ f, f ∈ M ++ KK → 0 ≤ fqt f ∧ fqt f ≤ 1000) := fun f hf => by
        rcases List.mem_append.1 hf with e | e
        · have := HF2.out.1 f e; omega
        · have := HF3.out.1 f e; omega
      have hF40 : F.length ≤ 40 := by have := T1.out.2.1; rw [← EF.out] at this; exact this
      have HMK : Hid ((M ++ KK).length ≤ 80) := by have h1 := HF2.out.2.1; have h2 := HF3.out.2.1; rw [List.length_append]; show M.length + KK.length ≤ 80; omega
      have HZ0 : Hid (qof 0 (M ++ KK) = 0) := qof_none fun f hf => by
        rcases List.mem_append.1 hf with e | e
        · have := HF2.out.1 f e; omega
        · have := HF3.out.1 f e; omega
      have OF1 : Hid (∀ X id, Below w11.heap.size w11 X → Calls Try.prog 55 #[.slice pF F.length cF, .int .i64 id] X fun e w' => e = .returned (.int .i64 (qof id (M ++ KK))) ∧ Below X.heap.size X w') := fun X id hX => by
        have := of_any pF cF F id X (F11.out.below hX) (by omega) HQ1.out
        rw [HPs.out id] at this
        exact this
      have OF2 : Hid (∀ X p c id, FV X p c (M ++ KK) → Calls Try.prog 55 #[.slice p (M ++ KK).length c, .int .i64 id] X fun e w' => e = .returned (.int .i64 (qof id (M ++ KK))) ∧ Below X.heap.size X w') := fun X p c id hX => of_any p c (M ++ KK) id X hX (by have := HMK.out; omega) HQ2.out
      have CF : Hid (∀ X g, Below w11.heap.size w11 X → g < X.heap.size → X.cell? ⟨g, 0, none⟩ = some (.slice pM M.length cM) → X.cell? ⟨g, 1, none⟩ = some (.slice pK KK.length cK) → Calls Try.prog 56 #[.slice (some ⟨g, 0, none⟩) 2 2] X fun e w' => ∃ pc cc, e = .returned (.slice pc (M ++ KK).length cc) ∧ FV w' pc cc (M ++ KK) ∧ Below X.heap.size X w') := fun X g hX hg c0 c1 => by
        have hj : joinedF [(pM, cM, M), (pK, cK, KK)] = M ++ KK := by simp [joinedF]
        have := concatF_any g 2 [(pM, cM, M), (pK, cK, KK)] X (fun j hj => by
          have hj2 : j < 2 := hj
          match j, hj2 with
          | 0, _ => exact c0
          | 1, _ => exact c1) (fun j hj => by
          have hj2 : j < 2 := hj
          match j, hj2 with
          | 0, _ => exact M11.out.below hX
          | 1, _ => exact K11.out.below hX) hg (by simp) (by rw [hj]; have := HMK.out; omega)
        rw [hj] at this
        refine this.mono ?_
        rintro e w' ⟨v, rfl, hown, hb⟩
        obtain ⟨pc, cc, rfl, hfv, -⟩ := ownF_fv hown
        exact ⟨pc, cc, rfl, hfv, hb⟩
      obtain ⟨MK, hMK⟩ : ∃ z, z = M ++ KK := ⟨_, rfl⟩
      rw [← hMK] at OF1 OF2 CF HZ0
      clear hMK
      go_wp2
      go_loopw [110] (fun i wr => ∃ k : Nat, i = .int .i64 k ∧ k ≤ F.length ∧ Hid (Below w11.heap.size w11 wr)) (fun i _ => F.length - (intOf i).toNat)
      case atStart => exact ⟨0, rfl, Nat.zero_le _, Below.refl _ _⟩
      case round =>
        obtain ⟨k, rfl, hkn, BJ⟩ := hrel
        by_cases hk : k < F.length
        · have hkz : (k : Int) < (F.length : Int) := by omega
          obtain ⟨fb, fo, hpF, hfc⟩ : ∃ b off, pF = some ⟨b, off, none⟩ ∧ ∀ j u, (flatF F)[j]? = some u → wr.cell? ⟨b, off + j, none⟩ = some u := by
            rcases (F11.out.below BJ.out).row with e | e
            · rw [e] at hk; simp at hk
            · exact e
          obtain ⟨f0, f1, f2, f3, f4, f5, f6⟩ := fv_cells hfc hk
          generalize F[k]! = f at f0 f1 f2 f3 f4 f5 f6
          obtain ⟨a0, a1, a2, a3, a4, a5, a6⟩ := f
          dsimp only at f0 f1 f2 f3 f4 f5 f6
          subst hpF
          have BA := hide (BJ.out.alloc BJ.out.size (.cells #[.int .i64 a0, .int .i64 a1, .int .i64 a2, .int .i64 a3, .int .i64 a4, .int .i64 a5, .int .i64 a6] 74))
          obtain ⟨WA, hWA⟩ : ∃ WA, WA = wr.alloc (.cells #[.int .i64 a0, .int .i64 a1, .int .i64 a2, .int .i64 a3, .int .i64 a4, .int .i64 a5, .int .i64 a6] 74) := ⟨_, rfl⟩
          have t25 : WA.cell? ⟨wr.heap.size, 0, none⟩ = some (.int .i64 a0) := by rw [hWA]; exact new_cell _ _ _ 0 _ rfl
          rw [← hWA] at BA
          have EWA := hide hWA
          obtain ⟨C, hCC⟩ : ∃ C : World → Prop, C = (fun x => Below WA.heap.size WA x) := ⟨_, rfl⟩
          have CR : Hid (∀ x, C x ↔ Below WA.heap.size WA x) := fun x => by rw [hCC]
          have C0 : Hid (C { WA with drawn := WA.drawn + 1 }) := by rw [hCC]; exact below_drawn WA
          have i0 : ∀ z : InC C, z.w.cell? ⟨wr.heap.size, 0, none⟩ = some (.int .i64 a0) := fun z => (((CR.out z.w).1 z.h).cell (World.block_lt_of_cell? _ _ t25)).trans t25
          have BC : Hid (∀ x, C x → Below w11.heap.size w11 x) := fun x hx => BA.out.trans (((CR.out x).1 hx).mono BA.out.size)
          have CS : Hid (∀ x y, C x → Below x.heap.size x y → C y) := fun x y hx hy => (CR.out y).2 (((CR.out x).1 hx).trans (hy.mono ((CR.out x).1 hx).size))
          clear hCC hWA t25 hfc
          go_wp2_with fail
          rw [← EWA.out]
          clear EWA f0 f1 f2 f3 f4 f5 f6
          refine wp_region_tree (.still 0 (.still 1 (.still 2 (.still 3 (.still 5 (.still 6 (.still 7 (.still 10 (.still 11 (.fork 4 (.main 8 (.main 9 (.main 12 (.still 13 .done)))) 8 (.main 4 (.main 9 (.main 12 (.still 13 .done)))))))))))))) C mixed (by kernel_rfl) C0.out ?_
          repeat (refine mixT_still (by rfl) ?_; go_big_quiet_step (exact rfl); refine wpQuiet_nil ?_)
          clear i0
          refine mixT_fork (by rfl) (by rfl) ?_ ?_
          · rintro ⟨x1, hx1⟩
            dsimp only
            have hc := OF1.out x1 a0 (BC.out x1 hx1)
            have HX := hide hx1
            clear hx1
            go_wp2_with fail
            refine hc.mono ?_
            rintro e y1 ⟨rfl, b1⟩
            go_wp2
            refine ⟨C, CS.out x1 y1 HX.out b1, fun x hx => hx, ?_⟩
            clear hc HX b1 y1 x1
            refine mixT_main (by rfl) ?_
            rintro ⟨x2, hx2⟩
            dsimp only
            have HX2 := hide hx2
            clear hx2
            go_wp2
            have al := (Below.refl x2.heap.size x2).alloc (Nat.le_refl _) (.cells #[.slice pM M.length cM, .slice pK KK.length cK] 65)
            refine ⟨CatC C x2.heap.size (.slice pM M.length cM) (.slice pK KK.length cK), ⟨CS.out _ _ HX2.out al, by simp, new_cell _ _ _ 0 _ rfl, new_cell _ _ _ 1 _ rfl⟩, fun x hx => hx.1, ?_⟩
            generalize x2.heap.size = g
            clear al HX2 x2
            refine mixT_main (by rfl) ?_
            rintro ⟨x3, hx3⟩
            dsimp only
            have CFx := CF.out x3 g (BC.out x3 hx3.1) hx3.2.1 hx3.2.2.1 hx3.2.2.2
            have HX3 := hide hx3
            clear hx3
            go_wp2_with fail
            refine CFx.mono ?_
            rintro e y3 ⟨pc, cc, rfl, hfv, b3⟩
            go_wp2
            refine ⟨fun x => CatC C g (.slice pM M.length cM) (.slice pK KK.length cK) x ∧ FV x pc cc MK, ⟨catC_shut CS.out g _ _ x3 y3 HX3.out b3, hfv⟩, fun x hx => hx.1, ?_⟩
            clear CFx HX3 hfv b3 y3 x3
            refine mixT_main (by rfl) ?_
            rintro ⟨x4, hx4, hf4⟩
            dsimp only
            have OFx := OF2.out x4 pc cc a0 hf4
            have HX4 := hide hx4
            have HF4 := hide hf4
            clear hx4 hf4
            go_wp2_with fail
            refine OFx.mono ?_
            rintro e y4 ⟨rfl, b4⟩
            go_wp2
            refine ⟨fun x => CatC C g (.slice pM M.length cM) (.slice pK KK.length cK) x ∧ FV x pc cc MK, ⟨catC_shut CS.out g _ _ x4 y4 HX4.out b4, HF4.out.below b4⟩, fun x hx => hx, ?_⟩
            clear OFx HX4 HF4 b4 y4 x4
            repeat (refine mixT_still (by rfl) ?_; go_big_quiet_step (exact rfl); refine wpQuiet_nil ?_)
            refine mixT_end ?_
            rintro ⟨x5, hx5, -⟩
            dsimp only
            have BX := hide (BC.out x5 hx5.1)
            clear hx5
            go_wp2
            go_roundw
            case rel => exact ⟨k + 1, by go_num, by omega, BX⟩
            case measure => simp [intOf]; omega
          · rintro ⟨x2, hx2⟩
            dsimp only
            have HX2 := hide hx2
            clear hx2
            go_wp2
            have al := (Below.refl x2.heap.size x2).alloc (Nat.le_refl _) (.cells #[.slice pM M.length cM, .slice pK KK.length cK] 65)
            refine ⟨CatC C x2.heap.size (.slice pM M.length cM) (.slice pK KK.length cK), ⟨CS.out _ _ HX2.out al, by simp, new_cell _ _ _ 0 _ rfl, new_cell _ _ _ 1 _ rfl⟩, fun x hx => hx.1, ?_⟩
            generalize x2.heap.size = g
            clear al HX2 x2
            refine mixT_main (by rfl) ?_
            rintro ⟨x1, hx1⟩
            dsimp only
            have hc := OF1.out x1 a0 (BC.out x1 hx1.1)
            have HX := hide hx1
            clear hx1
            go_wp2_with fail
            refine hc.mono ?_
            rintro e y1 ⟨rfl, b1⟩
            go_wp2
            refine ⟨CatC C g (.slice pM M.length cM) (.slice pK KK.length cK), catC_shut CS.out g _ _ x1 y1 HX.out b1, fun x hx => hx, ?_⟩
            clear hc HX b1 y1 x1
            refine mixT_main (by rfl) ?_
            rintro ⟨x3, hx3⟩
            dsimp only
            have CFx := CF.out x3 g (BC.out x3 hx3.1) hx3.2.1 hx3.2.2.1 hx3.2.2.2
            have HX3 := hide hx3
            clear hx3
            go_wp2_with fail
            refine CFx.mono ?_
            rintro e y3 ⟨pc, cc, rfl, hfv, b3⟩
            go_wp2
            refine ⟨fun x => CatC C g (.slice pM M.length cM) (.slice pK KK.length cK) x ∧ FV x pc cc MK, ⟨catC_shut CS.out g _ _ x3 y3 HX3.out b3, hfv⟩, fun x hx => hx.1, ?_⟩
            clear CFx HX3 hfv b3 y3 x3
            refine mixT_main (by rfl) ?_
            rintro ⟨x4, hx4, hf4⟩
            dsimp only
            have OFx := OF2.out x4 pc cc a0 hf4
            have HX4 := hide hx4
            have HF4 := hide hf4
            clear hx4 hf4
            go_wp2_with fail
            refine OFx.mono ?_
            rintro e y4 ⟨rfl, b4⟩
            go_wp2
            refine ⟨fun x => CatC C g (.slice pM M.length cM) (.slice pK KK.length cK) x ∧ FV x pc cc MK, ⟨catC_shut CS.out g _ _ x4 y4 HX4.out b4, HF4.out.below b4⟩, fun x hx => hx, ?_⟩
            clear OFx HX4 HF4 b4 y4 x4
            repeat (refine mixT_still (by rfl) ?_; go_big_quiet_step (exact rfl); refine wpQuiet_nil ?_)
            refine mixT_end ?_
            rintro ⟨x5, hx5, -⟩
            dsimp only
            have BX := hide (BC.out x5 hx5.1)
            clear hx5
            go_wp2
            go_roundw
            case rel => exact ⟨k + 1, by go_num, by omega, BX⟩
            case measure => simp [intOf]; omega
        · have BE := hide (BW11.out.trans (BJ.out.mono BW11.out.size))
          have al := (Below.refl wr.heap.size wr).alloc (Nat.le_refl _) (.cells #[.slice pM M.length cM, .slice pK KK.length cK] 65)
          have CFx := hide (CF.out _ wr.heap.size (BJ.out.alloc BJ.out.size (.cells #[.slice pM M.length cM, .slice pK KK.length cK] 65)) (by simp) (new_cell _ _ _ _ _ rfl) (new_cell _ _ _ _ _ rfl))
          have BE2 := hide (BE.out.trans (al.mono BE.out.size))
          clear al
          go_wp2_with fail
          refine CFx.out.mono ?_
          rintro e w12 ⟨pc, cc, rfl, hfv, b12⟩
          have BE3 := hide (BE2.out.trans (b12.mono BE2.out.size))
          have OFx := OF2.out _ pc cc 0 hfv
          rw [HZ0.out] at OFx
          clear b12 hfv CFx
          go_wp2_with fail
          refine OFx.mono ?_
          rintro e w13 ⟨rfl, b13⟩
          have BE4 := hide (BE3.out.trans (b13.mono BE3.out.size))
          clear b13 OFx
          go_wp2
          go_ret
          exact ⟨rfl, BE4.out⟩
  · rintro ⟨x1, hx1⟩
    dsimp only
    have hx1' := hide ((CR.out x1).1 hx1)
    go_wp2
    have al := (Below.refl x1.heap.size x1).alloc (Nat.le_refl _) (.cells #[.int .i64 0, .int .i64 0, .int .i64 0, .int .i64 0, .int .i64 0] 44)
    refine ⟨fun x => C x ∧ Five x x1.heap.size, ⟨(CR.out _).2 (hx1'.out.trans (al.mono hx1'.out.size)), ⟨_, _, _, _, _, heap_alloc_new _ _⟩⟩, fun x hx => hx.1, ?_⟩
    have ge13 : Hid (w3.heap.size ≤ x1.heap.size) := hx1'.out.size
    generalize x1.heap.size = t13 at ge13 ⊢
    clear al hx1' hx1 x1
    refine mixT_main (by rfl) ?_
    rintro ⟨x2, hx2, hf2⟩
    dsimp only
    have hx2' := hide ((CR.out x2).1 hx2)
    have HF2 := hide hf2
    go_wp2
    have al := (Below.refl x2.heap.size x2).alloc (Nat.le_refl _) (.cells #[.int .i64 0, .int .i64 0, .int .i64 0, .int .i64 0, .int .i64 0] 44)
    refine ⟨fun x => C x ∧ Five x x2.heap.size ∧ Five x t13, ⟨(CR.out _).2 (hx2'.out.trans (al.mono hx2'.out.size)), ⟨_, _, _, _, _, heap_alloc_new _ _⟩, five_below HF2.out al⟩, fun x hx => ⟨hx.1, hx.2.2⟩, ?_⟩
    have ge12 : Hid (w3.heap.size ≤ x2.heap.size) := hx2'.out.size
    have ne : Hid (x2.heap.size ≠ t13) := (Nat.ne_of_lt (five_lt HF2.out)).symm
    generalize x2.heap.size = t12 at ge12 ne ⊢
    clear al hx2' hx2 hf2 HF2 x2
    obtain ⟨D2, hD2⟩ : ∃ D2 : World → Prop, D2 = (fun x => C x ∧ Five x t12 ∧ Five x t13) := ⟨_, rfl⟩
    have J2 : Hid (∀ x, D2 x ↔ C x ∧ Five x t12 ∧ Five x t13) := fun x => by rw [hD2]
    rw [← hD2]
    clear hD2
    refine mixT_main (by rfl) ?_
    rintro ⟨x3, hx3⟩
    dsimp only
    obtain ⟨z1, z2, z3⟩ := (J2.out x3).1 hx3
    obtain ⟨⟨u0, u1, u2, u3, u4, t0, t1, t2, t3, t4⟩, s0, s1, s2, s3, s4⟩ := five_facts z2
    have S2 : Hid (D2 (five x3 t12 (.int .i64 a) (.int .i64 ac) (.int .i64 sd) (.int .i64 pr) (.int .i64 q))) := (J2.out _).2 ⟨(CR.out _).2 (five_below_set ((CR.out _).1 z1) ge12.out _ _ _ _ _), five_again z2 _ _ _ _ _, five_five z3 ne.out.symm _ _ _ _ _⟩
    have S3 : Hid (Four (five x3 t12 (.int .i64 a) (.int .i64 ac) (.int .i64 sd) (.int .i64 pr) (.int .i64 q)) t12 a ac sd pr) := by
      obtain ⟨e0, e1, e2, e3, -⟩ := five_set z2 (.int .i64 a) (.int .i64 ac) (.int .i64 sd) (.int .i64 pr) (.int .i64 q)
      exact ⟨e0, e1, e2, e3⟩
    clear z1 z2 z3 hx3
    go_wp2
    refine ⟨fun x => D2 x ∧ Four x t12 a ac sd pr, ⟨S2.out, S3.out⟩, fun x hx => hx.1, ?_⟩
    clear S2 S3 t0 t1 t2 t3 t4 s0 s1 s2 s3 s4 x3
    refine mixT_main (by rfl) ?_
    rintro ⟨x4, hx4, hf4⟩
    dsimp only
    obtain ⟨z1, z2, z3⟩ := (J2.out x4).1 hx4
    obtain ⟨⟨u0, u1, u2, u3, u4, t0, t1, t2, t3, t4⟩, s0, s1, s2, s3, s4⟩ := five_facts z3
    have S2 : Hid (D2 (five x4 t13 (.int .i64 a) (.int .i64 ac) (.int .i64 sd) (.int .i64 pr) (.int .i64 q))) := (J2.out _).2 ⟨(CR.out _).2 (five_below_set ((CR.out _).1 z1) ge13.out _ _ _ _ _), five_five z2 ne.out _ _ _ _ _, five_again z3 _ _ _ _ _⟩
    have S3 : Hid (Four (five x4 t13 (.int .i64 a) (.int .i64 ac) (.int .i64 sd) (.int .i64 pr) (.int .i64 q)) t13 a ac sd pr) := by
      obtain ⟨e0, e1, e2, e3, -⟩ := five_set z3 (.int .i64 a) (.int .i64 ac) (.int .i64 sd) (.int .i64 pr) (.int .i64 q)
      exact ⟨e0, e1, e2, e3⟩
    have S4 : Hid (Four (five x4 t13 (.int .i64 a) (.int .i64 ac) (.int .i64 sd) (.int .i64 pr) (.int .i64 q)) t12 a ac sd pr) := four_five hf4 ne.out _ _ _ _ _
    clear z1 z2 z3 hx4 hf4
    go_wp2
    refine ⟨fun x => (D2 x ∧ Four x t12 a ac sd pr) ∧ Four x t13 a ac sd pr, ⟨⟨S2.out, S4.out⟩, S3.out⟩, fun x hx => hx.1, ?_⟩
    clear S2 S3 S4 t0 t1 t2 t3 t4 s0 s1 s2 s3 s4 x4
    refine mixT_end ?_
    rintro ⟨x5, ⟨hx5, hf5⟩, hg5⟩
    dsimp only
    obtain ⟨z1, z2, z3⟩ := (J2.out x5).1 hx5
    have X5 : Hid (Below w3.heap.size w3 x5 ∧ Five x5 t12 ∧ Five x5 t13 ∧ Four x5 t12 a ac sd pr ∧ Four x5 t13 a ac sd pr) := ⟨(CR.out _).1 z1, z2, z3, hf5, hg5⟩
    clear z1 z2 z3 hx5 hf5 hg5 J2 D2 C0 i0 i1 i2 i3 i4 CR C
    obtain ⟨E, hEE⟩ : ∃ E : World → Prop, E = (fun x => Below w3.heap.size w3 x ∧ Five x t12 ∧ Five x t13 ∧ Four x t12 a ac sd pr ∧ Four x t13 a ac sd pr) := ⟨_, rfl⟩
    have ER : Hid (∀ x, E x ↔ Below w3.heap.size w3 x ∧ Five x t12 ∧ Five x t13 ∧ Four x t12 a ac sd pr ∧ Four x t13 a ac sd pr) := fun x => by rw [hEE]
    have E0 : Hid (E { x5 with drawn := x5.drawn + 1 }) := by
      rw [hEE]
      exact ⟨X5.out.1.trans ((below_drawn x5).mono X5.out.1.size), X5.out.2.1, X5.out.2.2.1, X5.out.2.2.2.1, X5.out.2.2.2.2⟩
    have i4 : ∀ z : InC E, z.w.cell? ⟨w.heap.size + 1, 4, none⟩ = some (.int .i64 q) := fun z => (((ER.out z.w).1 z.h).1.cell (World.block_lt_of_cell? _ _ o4)).trans o4
    clear hEE
    go_wp2_with fail
    refine wp_region_tree (.still 0 (.still 1 (.still 2 (.still 3 (.still 4 (.still 5 (.main 6 (.still 7 (.main 8 .done))))))))) E mixed (by kernel_rfl) E0.out ?_
    repeat (refine mixT_still (by rfl) ?_; go_big_quiet_step (exact rfl); refine wpQuiet_nil ?_)
    refine mixT_main (by rfl) ?_
    rintro ⟨x6, hx6⟩
    dsimp only
    obtain ⟨z1, z2, z3, z4, z5⟩ := (ER.out x6).1 hx6
    obtain ⟨⟨u0, u1, u2, u3, u4, t0, t1, t2, t3, t4⟩, s0, s1, s2, s3, s4⟩ := five_facts z2
    obtain ⟨f1, f2⟩ := four_last z2 z4 (.int .i64 (1 + r))
    have S2 : Hid (E (x6.setCell ⟨t12, 4, none⟩ (.int .i64 (1 + r)))) := (ER.out _).2 ⟨z1.setCell ge12.out _, five_set4 z2 _, five_set1 z3 ne.out.symm _, f1, four_other z5 ne.out.symm _⟩
    have S3 := hide f2
    clear z1 z2 z3 z4 z5 hx6 f1 f2 t0 t1 t2 t3 s0 s1 s2 s3
    go_wp2
    refine ⟨fun x => E x ∧ x.cell? ⟨t12, 4, none⟩ = some (.int .i64 (1 + r)), ⟨S2.out, S3.out⟩, fun x hx => hx.1, ?_⟩
    clear S2 S3 t4 s4 x6 i4
    repeat (refine mixT_still (by rfl) ?_; go_big_quiet_step (exact rfl); refine wpQuiet_nil ?_)
    refine mixT_main (by rfl) ?_
    rintro ⟨x7, hx7, hc7⟩
    dsimp only
    obtain ⟨z1, z2, z3, z4, z5⟩ := (ER.out x7).1 hx7
    obtain ⟨⟨u0, u1, u2, u3, u4, t0, t1, t2, t3, t4⟩, s0, s1, s2, s3, s4⟩ := five_facts z3
    obtain ⟨f1, f2⟩ := four_last z3 z5 (.int .i64 (q - (1 + r)))
    have S2 : Hid (E (x7.setCell ⟨t13, 4, none⟩ (.int .i64 (q - (1 + r))))) := (ER.out _).2 ⟨z1.setCell ge13.out _, five_set1 z2 ne.out _, five_set4 z3 _, four_other z4 ne.out _, f1⟩
    have S3 := hide f2
    have S4 : Hid ((x7.setCell ⟨t13, 4, none⟩ (.int .i64 (q - (1 + r)))).cell? ⟨t12, 4, none⟩ = some (.int .i64 (1 + r))) := (set_other x7 (a := ⟨t12, 4, none⟩) ne.out 4 _).trans hc7
    clear z1 z2 z3 z4 z5 hx7 hc7 f1 f2 t0 t1 t2 t3 s0 s1 s2 s3
    go_wp2
    refine ⟨fun x => (E x ∧ x.cell? ⟨t12, 4, none⟩ = some (.int .i64 (1 + r))) ∧ x.cell? ⟨t13, 4, none⟩ = some (.int .i64 (q - (1 + r))), ⟨⟨S2.out, S4.out⟩, S3.out⟩, fun x hx => hx.1, ?_⟩
    clear S2 S3 S4 t4 s4 x7
    refine mixT_end ?_
    rintro ⟨x8, ⟨hx8, h12⟩, h13⟩
    dsimp only
    obtain ⟨z1, -, -, z4, z5⟩ := (ER.out x8).1 hx8
    have B8 := hide z1
    have BW8 := hide (BW3.out.trans (z1.mono BW3.out.size))
    obtain ⟨d0, d1, d2, d3⟩ := z4
    obtain ⟨e0, e1, e2, e3⟩ := z5
    have CE8 : Hid (Cells x8 [(⟨w2.heap.size, 0, none⟩, .slice p1 B1.length c1), (⟨w2.heap.size, 1, none⟩, .slice p2 A1.length c2), (⟨t13, 0, none⟩, .int .i64 a), (⟨t13, 1, none⟩, .int .i64 ac), (⟨t13, 2, none⟩, .int .i64 sd), (⟨t13, 3, none⟩, .int .i64 pr), (⟨t13, 4, none⟩, .int .i64 (q - (1 + r)))]) :=
      ⟨(z1.cell (World.block_lt_of_cell? _ _ y0)).trans y0, (z1.cell (World.block_lt_of_cell? _ _ y1)).trans y1, e0, e1, e2, e3, h13, trivial⟩
    have j0 := (z1.cell (World.block_lt_of_cell? _ _ g0)).trans g0
    have j1 := (z1.cell (World.block_lt_of_cell? _ _ g1)).trans g1
    have B28 := hide (B23.out.trans (z1.mono B23.out.size))
    clear z1 hx8 ER E E0 X5 g0 g1 o0 o1 o2 o3 o4 y0 y1 ge12 ge13 e0 e1 e2 e3 h13 x5
    have TK2 := take_any p p' c c' bids asks (withQ (a, ac, sd, pr, q) (1 + r)) x8 (HB.out.below BW8.out) (HA.out.below BW8.out) HR.out PA.out.ok1
    rw [NB.out, NA.out] at TK2
    have TR := PA.out.right
    have TQ := hide (PA.out)
    have F2 := T2.out
    have F3 := T3.out
    obtain ⟨B2, hB2⟩ : ∃ z, z = takeB bids asks (withQ (a, ac, sd, pr, q) (1 + r)) := ⟨_, rfl⟩
    obtain ⟨A2, hA2⟩ : ∃ z, z = takeA bids asks (withQ (a, ac, sd, pr, q) (1 + r)) := ⟨_, rfl⟩
    obtain ⟨M, hM⟩ : ∃ z, z = (takeT bids asks (withQ (a, ac, sd, pr, q) (1 + r))).2.1 := ⟨_, rfl⟩
    obtain ⟨some2, hsome2⟩ : ∃ z, z = (takeT bids asks (withQ (a, ac, sd, pr, q) (1 + r))).2.2.1 := ⟨_, rfl⟩
    obtain ⟨met2, hmet2⟩ : ∃ z, z = (takeT bids asks (withQ (a, ac, sd, pr, q) (1 + r))).2.2.2 := ⟨_, rfl⟩
    have P1b := PA.out.b
    have P1a := PA.out.a
    have P1l := PA.out.left
    have P1m := PA.out.met
    have P1s := PA.out.sum
    have P1k := PA.out.ok2
    rw [← hB2, ← hA2, ← hM, ← hsome2, ← hmet2] at TK2
    rw [← hB2, ← hA2] at TR F3 P1b P1a P1l P1m P1s
    rw [← hM, ← hsome2] at F2
    rw [← hsome2] at P1l
    rw [← hM] at P1s
    rw [← EB1.out] at P1b
    rw [← EA1.out] at P1a
    rw [← EL.out] at P1l P1m
    rw [← EM.out] at P1m
    rw [← EF.out] at P1s
    have TK3 := fun X p3 p4 c3 c4 (k3 : OV X p3 c3 B2) (k4 : OV X p4 c4 A2) => take_any p3 p4 c3 c4 B2 A2 (withQ (a, ac, sd, pr, q) (q - (1 + r))) X k3 k4 TR P1k
    obtain ⟨B3, hB3⟩ : ∃ z, z = takeB B2 A2 (withQ (a, ac, sd, pr, q) (q - (1 + r))) := ⟨_, rfl⟩
    obtain ⟨A3, hA3⟩ : ∃ z, z = takeA B2 A2 (withQ (a, ac, sd, pr, q) (q - (1 + r))) := ⟨_, rfl⟩
    obtain ⟨KK, hKK⟩ : ∃ z, z = (takeT B2 A2 (withQ (a, ac, sd, pr, q) (q - (1 + r)))).2.1 := ⟨_, rfl⟩
    obtain ⟨rest3, hrest3⟩ : ∃ z, z = (takeT B2 A2 (withQ (a, ac, sd, pr, q) (q - (1 + r)))).2.2.1 := ⟨_, rfl⟩
    obtain ⟨too, htoo⟩ : ∃ z, z = (takeT B2 A2 (withQ (a, ac, sd, pr, q) (q - (1 + r)))).2.2.2 := ⟨_, rfl⟩
    rw [← hB3, ← hA3, ← hKK, ← hrest3, ← htoo] at TK3
    rw [show oqt (a, ac, sd, pr, q) = q from rfl] at P1b P1a P1l P1m P1s F3
    rw [← hB3] at P1b
    rw [← hA3] at P1a
    rw [← hrest3] at P1l F3
    rw [← htoo] at P1m
    rw [← hKK] at P1s F3
    have L3 := (take_right TR P1k).few
    rw [← hB3, ← hA3] at L3
    have HL3 := hide L3
    have H3 := hide TK3
    have HPb := hide P1b
    have HPa := hide P1a
    have HPl := hide P1l
    have HPm := hide P1m
    have HPs := hide P1s
    have HF2 := hide F2
    have HF3 := hide F3
    have HTR := hide TR
    clear L3 hB2 hA2 hM hsome2 hmet2 hB3 hA3 hKK hrest3 htoo TK3 P1b P1a P1l P1m P1s P1k F2 F3 TR
    go_wp2_with fail
    refine TK2.mono ?_
    rintro e w9 ⟨p3, c3, p4, c4, vM, rfl, v3, v4, ofM, b9, -, -⟩
    obtain ⟨pM, cM, rfl, fvM, -⟩ := ownF_fv ofM
    have al9 := (Below.refl w9.heap.size w9).alloc (Nat.le_refl _) (.cells #[.slice p3 B2.length c3, .slice p4 A2.length c4] 42)
    have b9' := b9.trans (al9.mono b9.size)
    have CE9 := hide (cells_below b9' CE8.out)
    have FM9 := hide (fvM.below al9)
    have TK4 := H3.out _ p3 p4 c3 c4 (v3.below al9) (v4.below al9)
    have B29 := hide (B28.out.trans (b9'.mono B28.out.size))
    have BW9 := hide (BW8.out.trans (b9'.mono BW8.out.size))
    have q0 := new_cell w9 #[.slice p3 B2.length c3, .slice p4 A2.length c4] 42 0 _ rfl
    have q1 := new_cell w9 #[.slice p3 B2.length c3, .slice p4 A2.length c4] 42 1 _ rfl
    obtain ⟨y0, y1, e0, e1, e2, e3, e4, -⟩ := CE9.out
    clear TK2 v3 v4 ofM b9 fvM al9 b9' CE8 j0 j1 d0 d1 d2 d3 h12 B8 H3 B28 BW8 y0 y1
    go_wp2_with fail
    refine TK4.mono ?_
    rintro e w10 ⟨p5, c5, p6, c6, vK, rfl, v5, v6, ofK, b10, -, -⟩
    obtain ⟨pK, cK, rfl, fvK, -⟩ := ownF_fv ofK
    have al10 := (Below.refl w10.heap.size w10).alloc (Nat.le_refl _) (.cells #[.slice p5 B3.length c5, .slice p6 A3.length c6] 42)
    have b10' := b10.trans (al10.mono b10.size)
    obtain ⟨y0, y1, -, -, -, -, -, -⟩ := cells_below b10' CE9.out
    have FM10 := hide (FM9.out.below b10')
    have FK10 := hide (fvK.below al10)
    have B210 := hide (B29.out.trans (b10'.mono B29.out.size))
    have BW10 := hide (BW9.out.trans (b10'.mono BW9.out.size))
    have q0 := new_cell w10 #[.slice p5 B3.length c5, .slice p6 A3.length c6] 42 0 _ rfl
    have q1 := new_cell w10 #[.slice p5 B3.length c5, .slice p6 A3.length c6] 42 1 _ rfl
    have SMx : Hid (Calls Try.prog 41 #[.agg #[.slice p1 B1.length c1, .slice p2 A1.length c2], .agg #[.slice p5 B3.length c5, .slice p6 A3.length c6]] (w10.alloc (.cells #[.slice p5 B3.length c5, .slice p6 A3.length c6] 42)) fun e w' => e = .returned (.bool true) ∧ Below (w10.alloc (.cells #[.slice p5 B3.length c5, .slice p6 A3.length c6] 42)).heap.size (w10.alloc (.cells #[.slice p5 B3.length c5, .slice p6 A3.length c6] 42)) w') := by
      have hl := HL3.out
      have hb := congrArg List.length HPb.out
      have ha := congrArg List.length HPa.out
      have := same_any p1 p2 p5 p6 c1 c2 c5 c6 B1 A1 B3 A3 _ (V1.out.below B210.out).row (V2.out.below B210.out).row (v5.below al10).row (v6.below al10).row (by omega) (by omega) (by omega) (by omega)
      rw [decide_eq_true ⟨HPb.out, HPa.out⟩] at this
      exact this
    have F10 := hide (VF.out.below B210.out)
    clear al10 b10 b10' v5 v6 ofK fvK CE9 FM9 B29 BW9 TK4 e0 e1 e2 e3 e4 B210
    go_wp2_with fail
    refine SMx.out.mono ?_
    rintro e w11 ⟨rfl, b11⟩
    have F11 := hide (F10.out.below b11)
    have M11 := hide (FM10.out.below b11)
    have K11 := hide (FK10.out.below b11)
    have BW11 := hide (BW10.out.trans (b11.mono BW10.out.size))
    have hs2 := HF2.out.2.2
    have hs3 := HF3.out.2.2
    obtain ⟨hs20, hs21⟩ := hs2
    obtain ⟨hs30, hs31⟩ := hs3
    have hpl := HPl.out
    have hpm := HPm.out
    subst hpl
    clear SMx b11 F10 FM10 FK10 BW10 q0 q1 y0 y1
    by_cases hlp : 0 < rest3 + some2
    · have hmm := hpm hlp
      subst hmm
      have HQ1 : Hid (∀ f, f ∈ F → 0 ≤ fqt f ∧ fqt f ≤ 1000) := fun f hf => by have := T1.out.1 f (by rw [← EF.out]; exact hf); omega
      have HQ2 : Hid (∀ f, f ∈ M ++ KK → 0 ≤ fqt f ∧ fqt f ≤ 1000) := fun f hf => by
        rcases List.mem_append.1 hf with e | e
        · have := HF2.out.1 f e; omega
        · have := HF3.out.1 f e; omega
      have hF40 : F.length ≤ 40 := by have := T1.out.2.1; rw [← EF.out] at this; exact this
      have HMK : Hid ((M ++ KK).length ≤ 80) := by have h1 := HF2.out.2.1; have h2 := HF3.out.2.1; rw [List.length_append]; show M.length + KK.length ≤ 80; omega
      have HZ0 : Hid (qof 0 (M ++ KK) = 0) := qof_none fun f hf => by
        rcases List.mem_append.1 hf with e | e
        · have := HF2.out.1 f e; omega
        · have := HF3.out.1 f e; omega
      have OF1 : Hid (∀ X id, Below w11.heap.size w11 X → Calls Try.prog 55 #[.slice pF F.length cF, .int .i64 id] X fun e w' => e = .returned (.int .i64 (qof id (M ++ KK))) ∧ Below X.heap.size X w') := fun X id hX => by
        have := of_any pF cF F id X (F11.out.below hX) (by omega) HQ1.out
        rw [HPs.out id] at this
        exact this
      have OF2 : Hid (∀ X p c id, FV X p c (M ++ KK) → Calls Try.prog 55 #[.slice p (M ++ KK).length c, .int .i64 id] X fun e w' => e = .returned (.int .i64 (qof id (M ++ KK))) ∧ Below X.heap.size X w') := fun X p c id hX => of_any p c (M ++ KK) id X hX (by have := HMK.out; omega) HQ2.out
      have CF : Hid (∀ X g, Below w11.heap.size w11 X → g < X.heap.size → X.cell? ⟨g, 0, none⟩ = some (.slice pM M.length cM) → X.cell? ⟨g, 1, none⟩ = some (.slice pK KK.length cK) → Calls Try.prog 56 #[.slice (some ⟨g, 0, none⟩) 2 2] X fun e w' => ∃ pc cc, e = .returned (.slice pc (M ++ KK).length cc) ∧ FV w' pc cc (M ++ KK) ∧ Below X.heap.size X w') := fun X g hX hg c0 c1 => by
        have hj : joinedF [(pM, cM, M), (pK, cK, KK)] = M ++ KK := by simp [joinedF]
        have := concatF_any g 2 [(pM, cM, M), (pK, cK, KK)] X (fun j hj => by
          have hj2 : j < 2 := hj
          match j, hj2 with
          | 0, _ => exact c0
          | 1, _ => exact c1) (fun j hj => by
          have hj2 : j < 2 := hj
          match j, hj2 with
          | 0, _ => exact M11.out.below hX
          | 1, _ => exact K11.out.below hX) hg (by simp) (by rw [hj]; have := HMK.out; omega)
        rw [hj] at this
        refine this.mono ?_
        rintro e w' ⟨v, rfl, hown, hb⟩
        obtain ⟨pc, cc, rfl, hfv, -⟩ := ownF_fv hown
        exact ⟨pc, cc, rfl, hfv, hb⟩
      obtain ⟨MK, hMK⟩ : ∃ z, z = M ++ KK := ⟨_, rfl⟩
      rw [← hMK] at OF1 OF2 CF HZ0
      clear hMK
      go_wp2
      go_loopw [110] (fun i wr => ∃ k : Nat, i = .int .i64 k ∧ k ≤ F.length ∧ Hid (Below w11.heap.size w11 wr)) (fun i _ => F.length - (intOf i).toNat)
      case atStart => exact ⟨0, rfl, Nat.zero_le _, Below.refl _ _⟩
      case round =>
        obtain ⟨k, rfl, hkn, BJ⟩ := hrel
        by_cases hk : k < F.length
        · have hkz : (k : Int) < (F.length : Int) := by omega
          obtain ⟨fb, fo, hpF, hfc⟩ : ∃ b off, pF = some ⟨b, off, none⟩ ∧ ∀ j u, (flatF F)[j]? = some u → wr.cell? ⟨b, off + j, none⟩ = some u := by
            rcases (F11.out.below BJ.out).row with e | e
            · rw [e] at hk; simp at hk
            · exact e
          obtain ⟨f0, f1, f2, f3, f4, f5, f6⟩ := fv_cells hfc hk
          generalize F[k]! = f at f0 f1 f2 f3 f4 f5 f6
          obtain ⟨a0, a1, a2, a3, a4, a5, a6⟩ := f
          dsimp only at f0 f1 f2 f3 f4 f5 f6
          subst hpF
          have BA := hide (BJ.out.alloc BJ.out.size (.cells #[.int .i64 a0, .int .i64 a1, .int .i64 a2, .int .i64 a3, .int .i64 a4, .int .i64 a5, .int .i64 a6] 74))
          obtain ⟨WA, hWA⟩ : ∃ WA, WA = wr.alloc (.cells #[.int .i64 a0, .int .i64 a1, .int .i64 a2, .int .i64 a3, .int .i64 a4, .int .i64 a5, .int .i64 a6] 74) := ⟨_, rfl⟩
          have t25 : WA.cell? ⟨wr.heap.size, 0, none⟩ = some (.int .i64 a0) := by rw [hWA]; exact new_cell _ _ _ 0 _ rfl
          rw [← hWA] at BA
          have EWA := hide hWA
          obtain ⟨C, hCC⟩ : ∃ C : World → Prop, C = (fun x => Below WA.heap.size WA x) := ⟨_, rfl⟩
          have CR : Hid (∀ x, C x ↔ Below WA.heap.size WA x) := fun x => by rw [hCC]
          have C0 : Hid (C { WA with drawn := WA.drawn + 1 }) := by rw [hCC]; exact below_drawn WA
          have i0 : ∀ z : InC C, z.w.cell? ⟨wr.heap.size, 0, none⟩ = some (.int .i64 a0) := fun z => (((CR.out z.w).1 z.h).cell (World.block_lt_of_cell? _ _ t25)).trans t25
          have BC : Hid (∀ x, C x → Below w11.heap.size w11 x) := fun x hx => BA.out.trans (((CR.out x).1 hx).mono BA.out.size)
          have CS : Hid (∀ x y, C x → Below x.heap.size x y → C y) := fun x y hx hy => (CR.out y).2 (((CR.out x).1 hx).trans (hy.mono ((CR.out x).1 hx).size))
          clear hCC hWA t25 hfc
          go_wp2_with fail
          rw [← EWA.out]
          clear EWA f0 f1 f2 f3 f4 f5 f6
          refine wp_region_tree (.still 0 (.still 1 (.still 2 (.still 3 (.still 5 (.still 6 (.still 7 (.still 10 (.still 11 (.fork 4 (.main 8 (.main 9 (.main 12 (.still 13 .done)))) 8 (.main 4 (.main 9 (.main 12 (.still 13 .done)))))))))))))) C mixed (by kernel_rfl) C0.out ?_
          repeat (refine mixT_still (by rfl) ?_; go_big_quiet_step (exact rfl); refine wpQuiet_nil ?_)
          clear i0
          refine mixT_fork (by rfl) (by rfl) ?_ ?_
          · rintro ⟨x1, hx1⟩
            dsimp only
            have hc := OF1.out x1 a0 (BC.out x1 hx1)
            have HX := hide hx1
            clear hx1
            go_wp2_with fail
            refine hc.mono ?_
            rintro e y1 ⟨rfl, b1⟩
            go_wp2
            refine ⟨C, CS.out x1 y1 HX.out b1, fun x hx => hx, ?_⟩
            clear hc HX b1 y1 x1
            refine mixT_main (by rfl) ?_
            rintro ⟨x2, hx2⟩
            dsimp only
            have HX2 := hide hx2
            clear hx2
            go_wp2
            have al := (Below.refl x2.heap.size x2).alloc (Nat.le_refl _) (.cells #[.slice pM M.length cM, .slice pK KK.length cK] 65)
            refine ⟨CatC C x2.heap.size (.slice pM M.length cM) (.slice pK KK.length cK), ⟨CS.out _ _ HX2.out al, by simp, new_cell _ _ _ 0 _ rfl, new_cell _ _ _ 1 _ rfl⟩, fun x hx => hx.1, ?_⟩
            generalize x2.heap.size = g
            clear al HX2 x2
            refine mixT_main (by rfl) ?_
            rintro ⟨x3, hx3⟩
            dsimp only
            have CFx := CF.out x3 g (BC.out x3 hx3.1) hx3.2.1 hx3.2.2.1 hx3.2.2.2
            have HX3 := hide hx3
            clear hx3
            go_wp2_with fail
            refine CFx.mono ?_
            rintro e y3 ⟨pc, cc, rfl, hfv, b3⟩
            go_wp2
            refine ⟨fun x => CatC C g (.slice pM M.length cM) (.slice pK KK.length cK) x ∧ FV x pc cc MK, ⟨catC_shut CS.out g _ _ x3 y3 HX3.out b3, hfv⟩, fun x hx => hx.1, ?_⟩
            clear CFx HX3 hfv b3 y3 x3
            refine mixT_main (by rfl) ?_
            rintro ⟨x4, hx4, hf4⟩
            dsimp only
            have OFx := OF2.out x4 pc cc a0 hf4
            have HX4 := hide hx4
            have HF4 := hide hf4
            clear hx4 hf4
            go_wp2_with fail
            refine OFx.mono ?_
            rintro e y4 ⟨rfl, b4⟩
            go_wp2
            refine ⟨fun x => CatC C g (.slice pM M.length cM) (.slice pK KK.length cK) x ∧ FV x pc cc MK, ⟨catC_shut CS.out g _ _ x4 y4 HX4.out b4, HF4.out.below b4⟩, fun x hx => hx, ?_⟩
            clear OFx HX4 HF4 b4 y4 x4
            repeat (refine mixT_still (by rfl) ?_; go_big_quiet_step (exact rfl); refine wpQuiet_nil ?_)
            refine mixT_end ?_
            rintro ⟨x5, hx5, -⟩
            dsimp only
            have BX := hide (BC.out x5 hx5.1)
            clear hx5
            go_wp2
            go_roundw
            case rel => exact ⟨k + 1, by go_num, by omega, BX⟩
            case measure => simp [intOf]; omega
          · rintro ⟨x2, hx2⟩
            dsimp only
            have HX2 := hide hx2
            clear hx2
            go_wp2
            have al := (Below.refl x2.heap.size x2).alloc (Nat.le_refl _) (.cells #[.slice pM M.length cM, .slice pK KK.length cK] 65)
            refine ⟨CatC C x2.heap.size (.slice pM M.length cM) (.slice pK KK.length cK), ⟨CS.out _ _ HX2.out al, by simp, new_cell _ _ _ 0 _ rfl, new_cell _ _ _ 1 _ rfl⟩, fun x hx => hx.1, ?_⟩
            generalize x2.heap.size = g
            clear al HX2 x2
            refine mixT_main (by rfl) ?_
            rintro ⟨x1, hx1⟩
            dsimp only
            have hc := OF1.out x1 a0 (BC.out x1 hx1.1)
            have HX := hide hx1
            clear hx1
            go_wp2_with fail
            refine hc.mono ?_
            rintro e y1 ⟨rfl, b1⟩
            go_wp2
            refine ⟨CatC C g (.slice pM M.length cM) (.slice pK KK.length cK), catC_shut CS.out g _ _ x1 y1 HX.out b1, fun x hx => hx, ?_⟩
            clear hc HX b1 y1 x1
            refine mixT_main (by rfl) ?_
            rintro ⟨x3, hx3⟩
            dsimp only
            have CFx := CF.out x3 g (BC.out x3 hx3.1) hx3.2.1 hx3.2.2.1 hx3.2.2.2
            have HX3 := hide hx3
            clear hx3
            go_wp2_with fail
            refine CFx.mono ?_
            rintro e y3 ⟨pc, cc, rfl, hfv, b3⟩
            go_wp2
            refine ⟨fun x => CatC C g (.slice pM M.length cM) (.slice pK KK.length cK) x ∧ FV x pc cc MK, ⟨catC_shut CS.out g _ _ x3 y3 HX3.out b3, hfv⟩, fun x hx => hx.1, ?_⟩
            clear CFx HX3 hfv b3 y3 x3
            refine mixT_main (by rfl) ?_
            rintro ⟨x4, hx4, hf4⟩
            dsimp only
            have OFx := OF2.out x4 pc cc a0 hf4
            have HX4 := hide hx4
            have HF4 := hide hf4
            clear hx4 hf4
            go_wp2_with fail
            refine OFx.mono ?_
            rintro e y4 ⟨rfl, b4⟩
            go_wp2
            refine ⟨fun x => CatC C g (.slice pM M.length cM) (.slice pK KK.length cK) x ∧ FV x pc cc MK, ⟨catC_shut CS.out g _ _ x4 y4 HX4.out b4, HF4.out.below b4⟩, fun x hx => hx, ?_⟩
            clear OFx HX4 HF4 b4 y4 x4
            repeat (refine mixT_still (by rfl) ?_; go_big_quiet_step (exact rfl); refine wpQuiet_nil ?_)
            refine mixT_end ?_
            rintro ⟨x5, hx5, -⟩
            dsimp only
            have BX := hide (BC.out x5 hx5.1)
            clear hx5
            go_wp2
            go_roundw
            case rel => exact ⟨k + 1, by go_num, by omega, BX⟩
            case measure => simp [intOf]; omega
        · have BE := hide (BW11.out.trans (BJ.out.mono BW11.out.size))
          have al := (Below.refl wr.heap.size wr).alloc (Nat.le_refl _) (.cells #[.slice pM M.length cM, .slice pK KK.length cK] 65)
          have CFx := hide (CF.out _ wr.heap.size (BJ.out.alloc BJ.out.size (.cells #[.slice pM M.length cM, .slice pK KK.length cK] 65)) (by simp) (new_cell _ _ _ _ _ rfl) (new_cell _ _ _ _ _ rfl))
          have BE2 := hide (BE.out.trans (al.mono BE.out.size))
          clear al
          go_wp2_with fail
          refine CFx.out.mono ?_
          rintro e w12 ⟨pc, cc, rfl, hfv, b12⟩
          have BE3 := hide (BE2.out.trans (b12.mono BE2.out.size))
          have OFx := OF2.out _ pc cc 0 hfv
          rw [HZ0.out] at OFx
          clear b12 hfv CFx
          go_wp2_with fail
          refine OFx.mono ?_
          rintro e w13 ⟨rfl, b13⟩
          have BE4 := hide (BE3.out.trans (b13.mono BE3.out.size))
          clear b13 OFx
          go_wp2
          go_ret
          exact ⟨rfl, BE4.out⟩
    · have HQ1 : Hid (∀ f, f ∈ F → 0 ≤ fqt f ∧ fqt f ≤ 1000) := fun f hf => by have := T1.out.1 f (by rw [← EF.out]; exact hf); omega
      have HQ2 : Hid (∀ f, f ∈ M ++ KK → 0 ≤ fqt f ∧ fqt f ≤ 1000) := fun f hf => by
        rcases List.mem_append.1 hf with e | e
        · have := HF2.out.1 f e; omega
        · have := HF3.out.1 f e; omega
      have hF40 : F.length ≤ 40 := by have := T1.out.2.1; rw [← EF.out] at this; exact this
      have HMK : Hid ((M ++ KK).length ≤ 80) := by have h1 := HF2.out.2.1; have h2 := HF3.out.2.1; rw [List.length_append]; show M.length + KK.length ≤ 80; omega
      have HZ0 : Hid (qof 0 (M ++ KK) = 0) := qof_none fun f hf => by
        rcases List.mem_append.1 hf with e | e
        · have := HF2.out.1 f e; omega
        · have := HF3.out.1 f e; omega
      have OF1 : Hid (∀ X id, Below w11.heap.size w11 X → Calls Try.prog 55 #[.slice pF F.length cF, .int .i64 id] X fun e w' => e = .returned (.int .i64 (qof id (M ++ KK))) ∧ Below X.heap.size X w') := fun X id hX => by
        have := of_any pF cF F id X (F11.out.below hX) (by omega) HQ1.out
        rw [HPs.out id] at this
        exact this
      have OF2 : Hid (∀ X p c id, FV X p c (M ++ KK) → Calls Try.prog 55 #[.slice p (M ++ KK).length c, .int .i64 id] X fun e w' => e = .returned (.int .i64 (qof id (M ++ KK))) ∧ Below X.heap.size X w') := fun X p c id hX => of_any p c (M ++ KK) id X hX (by have := HMK.out; omega) HQ2.out
      have CF : Hid (∀ X g, Below w11.heap.size w11 X → g < X.heap.size → X.cell? ⟨g, 0, none⟩ = some (.slice pM M.length cM) → X.cell? ⟨g, 1, none⟩ = some (.slice pK KK.length cK) → Calls Try.prog 56 #[.slice (some ⟨g, 0, none⟩) 2 2] X fun e w' => ∃ pc cc, e = .returned (.slice pc (M ++ KK).length cc) ∧ FV w' pc cc (M ++ KK) ∧ Below X.heap.size X w') := fun X g hX hg c0 c1 => by
        have hj : joinedF [(pM, cM, M), (pK, cK, KK)] = M ++ KK := by simp [joinedF]
        have := concatF_any g 2 [(pM, cM, M), (pK, cK, KK)] X (fun j hj => by
          have hj2 : j < 2 := hj
          match j, hj2 with
          | 0, _ => exact c0
          | 1, _ => exact c1) (fun j hj => by
          have hj2 : j < 2 := hj
          match j, hj2 with
          | 0, _ => exact M11.out.below hX
          | 1, _ => exact K11.out.below hX) hg (by simp) (by rw [hj]; have := HMK.out; omega)
        rw [hj] at this
        refine this.mono ?_
        rintro e w' ⟨v, rfl, hown, hb⟩
        obtain ⟨pc, cc, rfl, hfv, -⟩ := ownF_fv hown
        exact ⟨pc, cc, rfl, hfv, hb⟩
      obtain ⟨MK, hMK⟩ : ∃ z, z = M ++ KK := ⟨_, rfl⟩
      rw [← hMK] at OF1 OF2 CF HZ0
      clear hMK
      go_wp2
      go_loopw [110] (fun i wr => ∃ k : Nat, i = .int .i64 k ∧ k ≤ F.length ∧ Hid (Below w11.heap.size w11 wr)) (fun i _ => F.length - (intOf i).toNat)
      case atStart => exact ⟨0, rfl, Nat.zero_le _, Below.refl _ _⟩
      case round =>
        obtain ⟨k, rfl, hkn, BJ⟩ := hrel
        by_cases hk : k < F.length
        · have hkz : (k : Int) < (F.length : Int) := by omega
          obtain ⟨fb, fo, hpF, hfc⟩ : ∃ b off, pF = some ⟨b, off, none⟩ ∧ ∀ j u, (flatF F)[j]? = some u → wr.cell? ⟨b, off + j, none⟩ = some u := by
            rcases (F11.out.below BJ.out).row with e | e
            · rw [e] at hk; simp at hk
            · exact e
          obtain ⟨f0, f1, f2, f3, f4, f5, f6⟩ := fv_cells hfc hk
          generalize F[k]! = f at f0 f1 f2 f3 f4 f5 f6
          obtain ⟨a0, a1, a2, a3, a4, a5, a6⟩ := f
          dsimp only at f0 f1 f2 f3 f4 f5 f6
          subst hpF
          have BA := hide (BJ.out.alloc BJ.out.size (.cells #[.int .i64 a0, .int .i64 a1, .int .i64 a2, .int .i64 a3, .int .i64 a4, .int .i64 a5, .int .i64 a6] 74))
          obtain ⟨WA, hWA⟩ : ∃ WA, WA = wr.alloc (.cells #[.int .i64 a0, .int .i64 a1, .int .i64 a2, .int .i64 a3, .int .i64 a4, .int .i64 a5, .int .i64 a6] 74) := ⟨_, rfl⟩
          have t25 : WA.cell? ⟨wr.heap.size, 0, none⟩ = some (.int .i64 a0) := by rw [hWA]; exact new_cell _ _ _ 0 _ rfl
          rw [← hWA] at BA
          have EWA := hide hWA
          obtain ⟨C, hCC⟩ : ∃ C : World → Prop, C = (fun x => Below WA.heap.size WA x) := ⟨_, rfl⟩
          have CR : Hid (∀ x, C x ↔ Below WA.heap.size WA x) := fun x => by rw [hCC]
          have C0 : Hid (C { WA with drawn := WA.drawn + 1 }) := by rw [hCC]; exact below_drawn WA
          have i0 : ∀ z : InC C, z.w.cell? ⟨wr.heap.size, 0, none⟩ = some (.int .i64 a0) := fun z => (((CR.out z.w).1 z.h).cell (World.block_lt_of_cell? _ _ t25)).trans t25
          have BC : Hid (∀ x, C x → Below w11.heap.size w11 x) := fun x hx => BA.out.trans (((CR.out x).1 hx).mono BA.out.size)
          have CS : Hid (∀ x y, C x → Below x.heap.size x y → C y) := fun x y hx hy => (CR.out y).2 (((CR.out x).1 hx).trans (hy.mono ((CR.out x).1 hx).size))
          clear hCC hWA t25 hfc
          go_wp2_with fail
          rw [← EWA.out]
          clear EWA f0 f1 f2 f3 f4 f5 f6
          refine wp_region_tree (.still 0 (.still 1 (.still 2 (.still 3 (.still 5 (.still 6 (.still 7 (.still 10 (.still 11 (.fork 4 (.main 8 (.main 9 (.main 12 (.still 13 .done)))) 8 (.main 4 (.main 9 (.main 12 (.still 13 .done)))))))))))))) C mixed (by kernel_rfl) C0.out ?_
          repeat (refine mixT_still (by rfl) ?_; go_big_quiet_step (exact rfl); refine wpQuiet_nil ?_)
          clear i0
          refine mixT_fork (by rfl) (by rfl) ?_ ?_
          · rintro ⟨x1, hx1⟩
            dsimp only
            have hc := OF1.out x1 a0 (BC.out x1 hx1)
            have HX := hide hx1
            clear hx1
            go_wp2_with fail
            refine hc.mono ?_
            rintro e y1 ⟨rfl, b1⟩
            go_wp2
            refine ⟨C, CS.out x1 y1 HX.out b1, fun x hx => hx, ?_⟩
            clear hc HX b1 y1 x1
            refine mixT_main (by rfl) ?_
            rintro ⟨x2, hx2⟩
            dsimp only
            have HX2 := hide hx2
            clear hx2
            go_wp2
            have al := (Below.refl x2.heap.size x2).alloc (Nat.le_refl _) (.cells #[.slice pM M.length cM, .slice pK KK.length cK] 65)
            refine ⟨CatC C x2.heap.size (.slice pM M.length cM) (.slice pK KK.length cK), ⟨CS.out _ _ HX2.out al, by simp, new_cell _ _ _ 0 _ rfl, new_cell _ _ _ 1 _ rfl⟩, fun x hx => hx.1, ?_⟩
            generalize x2.heap.size = g
            clear al HX2 x2
            refine mixT_main (by rfl) ?_
            rintro ⟨x3, hx3⟩
            dsimp only
            have CFx := CF.out x3 g (BC.out x3 hx3.1) hx3.2.1 hx3.2.2.1 hx3.2.2.2
            have HX3 := hide hx3
            clear hx3
            go_wp2_with fail
            refine CFx.mono ?_
            rintro e y3 ⟨pc, cc, rfl, hfv, b3⟩
            go_wp2
            refine ⟨fun x => CatC C g (.slice pM M.length cM) (.slice pK KK.length cK) x ∧ FV x pc cc MK, ⟨catC_shut CS.out g _ _ x3 y3 HX3.out b3, hfv⟩, fun x hx => hx.1, ?_⟩
            clear CFx HX3 hfv b3 y3 x3
            refine mixT_main (by rfl) ?_
            rintro ⟨x4, hx4, hf4⟩
            dsimp only
            have OFx := OF2.out x4 pc cc a0 hf4
            have HX4 := hide hx4
            have HF4 := hide hf4
            clear hx4 hf4
            go_wp2_with fail
            refine OFx.mono ?_
            rintro e y4 ⟨rfl, b4⟩
            go_wp2
            refine ⟨fun x => CatC C g (.slice pM M.length cM) (.slice pK KK.length cK) x ∧ FV x pc cc MK, ⟨catC_shut CS.out g _ _ x4 y4 HX4.out b4, HF4.out.below b4⟩, fun x hx => hx, ?_⟩
            clear OFx HX4 HF4 b4 y4 x4
            repeat (refine mixT_still (by rfl) ?_; go_big_quiet_step (exact rfl); refine wpQuiet_nil ?_)
            refine mixT_end ?_
            rintro ⟨x5, hx5, -⟩
            dsimp only
            have BX := hide (BC.out x5 hx5.1)
            clear hx5
            go_wp2
            go_roundw
            case rel => exact ⟨k + 1, by go_num, by omega, BX⟩
            case measure => simp [intOf]; omega
          · rintro ⟨x2, hx2⟩
            dsimp only
            have HX2 := hide hx2
            clear hx2
            go_wp2
            have al := (Below.refl x2.heap.size x2).alloc (Nat.le_refl _) (.cells #[.slice pM M.length cM, .slice pK KK.length cK] 65)
            refine ⟨CatC C x2.heap.size (.slice pM M.length cM) (.slice pK KK.length cK), ⟨CS.out _ _ HX2.out al, by simp, new_cell _ _ _ 0 _ rfl, new_cell _ _ _ 1 _ rfl⟩, fun x hx => hx.1, ?_⟩
            generalize x2.heap.size = g
            clear al HX2 x2
            refine mixT_main (by rfl) ?_
            rintro ⟨x1, hx1⟩
            dsimp only
            have hc := OF1.out x1 a0 (BC.out x1 hx1.1)
            have HX := hide hx1
            clear hx1
            go_wp2_with fail
            refine hc.mono ?_
            rintro e y1 ⟨rfl, b1⟩
            go_wp2
            refine ⟨CatC C g (.slice pM M.length cM) (.slice pK KK.length cK), catC_shut CS.out g _ _ x1 y1 HX.out b1, fun x hx => hx, ?_⟩
            clear hc HX b1 y1 x1
            refine mixT_main (by rfl) ?_
            rintro ⟨x3, hx3⟩
            dsimp only
            have CFx := CF.out x3 g (BC.out x3 hx3.1) hx3.2.1 hx3.2.2.1 hx3.2.2.2
            have HX3 := hide hx3
            clear hx3
            go_wp2_with fail
            refine CFx.mono ?_
            rintro e y3 ⟨pc, cc, rfl, hfv, b3⟩
            go_wp2
            refine ⟨fun x => CatC C g (.slice pM M.length cM) (.slice pK KK.length cK) x ∧ FV x pc cc MK, ⟨catC_shut CS.out g _ _ x3 y3 HX3.out b3, hfv⟩, fun x hx => hx.1, ?_⟩
            clear CFx HX3 hfv b3 y3 x3
            refine mixT_main (by rfl) ?_
            rintro ⟨x4, hx4, hf4⟩
            dsimp only
            have OFx := OF2.out x4 pc cc a0 hf4
            have HX4 := hide hx4
            have HF4 := hide hf4
            clear hx4 hf4
            go_wp2_with fail
            refine OFx.mono ?_
            rintro e y4 ⟨rfl, b4⟩
            go_wp2
            refine ⟨fun x => CatC C g (.slice pM M.length cM) (.slice pK KK.length cK) x ∧ FV x pc cc MK, ⟨catC_shut CS.out g _ _ x4 y4 HX4.out b4, HF4.out.below b4⟩, fun x hx => hx, ?_⟩
            clear OFx HX4 HF4 b4 y4 x4
            repeat (refine mixT_still (by rfl) ?_; go_big_quiet_step (exact rfl); refine wpQuiet_nil ?_)
            refine mixT_end ?_
            rintro ⟨x5, hx5, -⟩
            dsimp only
            have BX := hide (BC.out x5 hx5.1)
            clear hx5
            go_wp2
            go_roundw
            case rel => exact ⟨k + 1, by go_num, by omega, BX⟩
            case measure => simp [intOf]; omega
        · have BE := hide (BW11.out.trans (BJ.out.mono BW11.out.size))
          have al := (Below.refl wr.heap.size wr).alloc (Nat.le_refl _) (.cells #[.slice pM M.length cM, .slice pK KK.length cK] 65)
          have CFx := hide (CF.out _ wr.heap.size (BJ.out.alloc BJ.out.size (.cells #[.slice pM M.length cM, .slice pK KK.length cK] 65)) (by simp) (new_cell _ _ _ _ _ rfl) (new_cell _ _ _ _ _ rfl))
          have BE2 := hide (BE.out.trans (al.mono BE.out.size))
          clear al
          go_wp2_with fail
          refine CFx.out.mono ?_
          rintro e w12 ⟨pc, cc, rfl, hfv, b12⟩
          have BE3 := hide (BE2.out.trans (b12.mono BE2.out.size))
          have OFx := OF2.out _ pc cc 0 hfv
          rw [HZ0.out] at OFx
          clear b12 hfv CFx
          go_wp2_with fail
          refine OFx.mono ?_
          rintro e w13 ⟨rfl, b13⟩
          have BE4 := hide (BE3.out.trans (b13.mono BE3.out.size))
          clear b13 OFx
          go_wp2
          go_ret
          exact ⟨rfl, BE4.out⟩
end Go.Proofs.Ytkjgkmndpbbagaa.Bk
