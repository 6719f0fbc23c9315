/-
  The law BookOrder, by contracts: a right book.
-/
import Derived.Test.YtdlohodompommaaBkOrd
namespace Go.Proofs.Ytdlohodompommaa.Bk
open Go.RowKit Go.Sort Go.Maps Go.Proofs.Ytdlohodompommaa.Mix

/-- what holds at each round: behind W6 nothing below the block t6 has turned; t6 holds the book of those that rest; L are still to come. -/
structure OInv (W6 : World) (t6 : Nat) (bids asks : List Odr) (wr : World) (q : Option Addr) (cl : Nat) (L : List Odr) (p1 p2 : Option Addr) (c1 c2 : Nat) (XB XA : List Odr) : Prop where
  bel : Below t6 W6 wr
  taken : Taken bids asks L XB XA
  l : OV wr q cl L
  lq : Far t6 q L
  x0 : wr.cell? ⟨t6, 0, none⟩ = some (.slice p1 XB.length c1)
  x1 : wr.cell? ⟨t6, 1, none⟩ = some (.slice p2 XA.length c2)
  two : Two wr t6
  xb : OV wr p1 c1 XB
  xa : OV wr p2 c2 XA

/-- behind the call that lays the next book: t9 holds it. -/
structure ONext (wr : World) (t9 : Nat) (x : World) (r1 r2 : Option Addr) (d1 d2 : Nat) (YB YA : List Odr) : Prop where
  bel : Below wr.heap.size wr x
  ge : wr.heap.size ≤ t9
  y0 : x.cell? ⟨t9, 0, none⟩ = some (.slice r1 YB.length d1)
  y1 : x.cell? ⟨t9, 1, none⟩ = some (.slice r2 YA.length d2)
  yb : OV x r1 d1 YB
  ya : OV x r2 d2 YA
  g1 : ∀ a, r1 = some a → wr.heap.size ≤ a.block
  g2 : ∀ a, r2 = some a → wr.heap.size ≤ a.block

theorem take_drop_len {L : List Odr} {k : Nat} (hk : k < L.length) : (L.take k ++ L.drop (k + 1)).length = L.length - 1 := by
  rw [List.length_append, List.length_take, List.length_drop]; omega

theorem two_lt {x : World} {t : Nat} (h : Two x t) : t < x.heap.size := by
  obtain ⟨_, _, h⟩ := h
  exact (Array.getElem?_eq_some_iff.1 h).1

/-- the next round's facts: the book t9 holds is stored at t6, and L loses the k-th. -/
theorem OInv.next {W6 : World} {t6 : Nat} {bids asks : List Odr} {wr x w8 : World} {q : Option Addr} {cl : Nat} {L : List Odr} {p1 p2 : Option Addr} {c1 c2 : Nat} {XB XA : List Odr} (hR : Right bids asks)
    (h : OInv W6 t6 bids asks wr q cl L p1 p2 c1 c2 XB XA) {k : Nat} (hk : k < L.length) {t9 : Nat} {r1 r2 : Option Addr} {d1 d2 : Nat} (hx : ONext wr t9 x r1 r2 d1 d2 (restB XB L[k]!) (restA XA L[k]!))
    {g cap : Nat} (hg : x.heap.size ≤ g)
    (hb : Below x.heap.size ((x.setCell ⟨t6, 0, none⟩ (.slice r1 (restB XB L[k]!).length d1)).setCell ⟨t6, 1, none⟩ (.slice r2 (restA XA L[k]!).length d2)) w8)
    (hog : OwnG w8 g cap (L.take k ++ L.drop (k + 1))) :
    OInv W6 t6 bids asks w8 (some ⟨g, 0, none⟩) cap (L.take k ++ L.drop (k + 1)) r1 r2 d1 d2 (restB XB L[k]!) (restA XA L[k]!) := by
  have ht6 : t6 < wr.heap.size := two_lt h.two
  have hsx := hx.bel.size
  have htx : Two x t6 := two_below h.two hx.bel
  have hsz : ((x.setCell ⟨t6, 0, none⟩ (.slice r1 (restB XB L[k]!).length d1)).setCell ⟨t6, 1, none⟩ (.slice r2 (restA XA L[k]!).length d2)).heap.size = x.heap.size := two_size _ _ _ _
  have hb' := hb
  rw [← hsz] at hb'
  have hst := two_set htx (.slice r1 (restB XB L[k]!).length d1) (.slice r2 (restA XA L[k]!).length d2)
  refine ⟨?_, (h.taken.next hR hk).2, ?_, ?_, ?_, ?_, ?_, ?_, ?_⟩
  · exact ((h.bel.trans (hx.bel.mono (Nat.le_of_lt ht6))).setCell (Nat.le_refl _) _ |>.setCell (Nat.le_refl _) _).trans (hb.mono (by omega))
  · exact ⟨.inr ⟨g, 0, rfl, ownG_cells hog⟩, (fun e => by cases e), hog.1⟩
  · exact .inr fun a ha => by cases ha; show g ≠ t6; omega
  · exact (hb'.cell (by rw [hsz]; show t6 < _; omega)).trans hst.1
  · exact (hb'.cell (by rw [hsz]; show t6 < _; omega)).trans hst.2
  · exact two_below (two_again htx _ _) hb'
  · exact (ov_two hx.yb (fun a ha => by have := hx.g1 a ha; omega) _ _).below hb'
  · exact (ov_two hx.ya (fun a ha => by have := hx.g2 a ha; omega) _ _).below hb'

set_option maxHeartbeats 4000000 in
set_option maxRecDepth 100000 in
theorem order_ok (p p' : Option Addr) (c c' : Nat) (bids asks : List Odr) (ap : Option Addr) (pn pc : Nat) (zs : List Int) (w : World) (h : OV w p c bids) (h' : OV w p' c' asks) (hz : zs.length = pn) (hpn : pn ≤ 140737488351232) (hrow : IRow w ap zs) (hR : Right bids asks) :
    Calls Try.prog 9 #[.agg #[.slice p bids.length c, .slice p' asks.length c'], .slice ap pn pc] w fun e w' => e = .returned (.bool true) ∧ Below w.heap.size w w' := by
  have mixed : Try.prog.follows .mixedOrders = true := by kernel_rfl
  have hb0 : ∀ o1, Below w.heap.size w (w.alloc o1) := fun o1 => ((Below.refl _ w).alloc (Nat.le_refl _) _)
  have hfew := hR.few
  obtain ⟨nb, hnb⟩ : ∃ n, bids.length = n := ⟨_, rfl⟩
  obtain ⟨na, hna⟩ : ∃ n, asks.length = n := ⟨_, rfl⟩
  have SH := hide (fun X => shelved_any X)
  have CK : Hid (∀ X, Below w.heap.size w X → Calls Try.prog 34 #[.agg #[.slice p nb c, .slice p' na c']] X fun e w' => e = .returned (.int .i64 0) ∧ Below X.heap.size X w') := fun X hX => by
    have := check_any p p' c c' bids asks X (orow_below h.row hX) (orow_below h'.row hX) (by omega) (by omega)
    rw [bookErr_zero.2 hR, hnb, hna] at this
    exact this
  have CC : Hid (∀ X g, Below w.heap.size w X → g < X.heap.size → X.cell? ⟨g, 0, none⟩ = some (.slice p nb c) → X.cell? ⟨g, 1, none⟩ = some (.slice p' na c') → Calls Try.prog 44 #[.slice (some ⟨g, 0, none⟩) 2 2] X fun e w' => ∃ v, e = .returned v ∧ w'.ownsRow X.heap.size 44 5 v (bids ++ asks).length (flat (bids ++ asks)) ∧ Below X.heap.size X w') := fun X g hX hg c0 c1 => by
    have hj : joined [(p, c, bids), (p', c', asks)] = bids ++ asks := by simp [joined]
    have := concat_any g 2 [(p, c, bids), (p', c', asks)] X (fun j hj => by
      have hj2 : j < 2 := hj
      match j, hj2 with
      | 0, _ => rw [← hnb] at c0; exact c0
      | 1, _ => rw [← hna] at c1; exact c1) (fun j hj => by
      have hj2 : j < 2 := hj
      match j, hj2 with
      | 0, _ => exact h.below hX
      | 1, _ => exact h'.below hX) hg (by simp) (by rw [hj, List.length_append]; omega)
    rw [hj] at this
    exact this
  have SM : Hid (∀ X r r' d d', Below w.heap.size w X → OV X r d bids → OV X r' d' asks → Calls Try.prog 39 #[.agg #[.slice r nb d, .slice r' na d'], .agg #[.slice p nb c, .slice p' na c']] X fun e w' => e = .returned (.bool true) ∧ Below X.heap.size X w') := fun X r r' d d' hX k k' => by
    have := same_any r r' p p' d d' c c' bids asks bids asks X k.row k'.row (orow_below h.row hX) (orow_below h'.row hX) (by omega) (by omega) (by omega) (by omega)
    rw [hnb, hna, decide_eq_true ⟨rfl, rfl⟩] at this
    exact this
  have IR := hide hrow
  have ZL := hide hz
  have RR := hide hR
  have LB : Hid ((bids ++ asks).length ≤ 40) := by rw [List.length_append]; exact hfew
  have NB := hide hnb
  have NA := hide hna
  rw [hnb, hna]
  clear h h' hrow hz hfew hR hnb hna
  go_enter Try.func9, Try.ntmps9
  go_wp2_with fail
  refine (SH.out _).mono ?_
  rintro e w1 ⟨rfl, b1⟩
  have B1 := hide ((hb0 _).trans (b1.mono (by simp)))
  have e0 : w1.cell? ⟨w.heap.size, 0, none⟩ = some (.slice p nb c) := (b1.cell (by simp)).trans (new_cell _ _ _ _ _ rfl)
  have e1 : w1.cell? ⟨w.heap.size, 1, none⟩ = some (.slice p' na c') := (b1.cell (by simp)).trans (new_cell _ _ _ _ _ rfl)
  clear b1 hb0
  go_wp2_with fail
  refine (CK.out _ B1.out).mono ?_
  rintro e w2 ⟨rfl, b2⟩
  have B2 := hide (B1.out.trans (b2.mono B1.out.size))
  have f0 := (b2.cell (World.block_lt_of_cell? _ _ e0)).trans e0
  have f1 := (b2.cell (World.block_lt_of_cell? _ _ e1)).trans e1
  clear e0 e1 b2 CK B1
  go_wp2_with fail
  have BA := B2.out.alloc B2.out.size (.cells #[.slice p nb c, .slice p' na c'] 40)
  refine (CC.out _ w2.heap.size BA (by simp) (new_cell _ _ _ _ _ rfl) (new_cell _ _ _ _ _ rfl)).mono ?_
  rintro e w3 ⟨v, rfl, hown, b3⟩
  have B3 := hide (BA.trans (b3.mono BA.size))
  have k0 := cell_alloc f0 (.cells #[.slice p nb c, .slice p' na c'] 40)
  have k1 := cell_alloc f1 (.cells #[.slice p nb c, .slice p' na c'] 40)
  have g0 := (b3.cell (World.block_lt_of_cell? _ _ k0)).trans k0
  have g1 := (b3.cell (World.block_lt_of_cell? _ _ k1)).trans k1
  obtain ⟨q, cl, rfl, hov, hlt⟩ := own_ov hown
  obtain ⟨W6, hW6⟩ : ∃ W6, W6 = w3.alloc (.cells #[.slice none 0 0, .slice none 0 0] 42) := ⟨_, rfl⟩
  have bw := (Below.refl w3.heap.size w3).alloc (Nat.le_refl _) (.cells #[.slice none 0 0, .slice none 0 0] 42)
  have ST : Hid (OInv W6 w3.heap.size bids asks W6 q cl (bids ++ asks) none none 0 0 [] []) := by
    rw [hW6]
    exact ⟨Below.refl _ _, Taken.start, hov.below bw, far_lt hov (Nat.le_refl _), new_cell _ _ _ _ _ rfl, new_cell _ _ _ _ _ rfl, ⟨_, _, heap_alloc_new _ _⟩, ov_nil _, ov_nil _⟩
  have h0 : Hid (W6.cell? ⟨w.heap.size, 0, none⟩ = some (.slice p nb c)) := by rw [hW6]; exact cell_alloc g0 _
  have h1 : Hid (W6.cell? ⟨w.heap.size, 1, none⟩ = some (.slice p' na c')) := by rw [hW6]; exact cell_alloc g1 _
  have B6 : Hid (Below w.heap.size w W6) := by rw [hW6]; exact B3.out.trans (bw.mono B3.out.size)
  have T6 : Hid (w.heap.size < w3.heap.size) := by
    have := World.block_lt_of_cell? _ _ g0
    exact this
  have EW := hide hW6
  generalize hL0 : bids ++ asks = L0 at ST LB
  have L0E := hide hL0
  clear hown b3 hlt hov bw f0 f1 k0 k1 g0 g1 BA B2 B3 CC SH hW6 hL0
  go_wp2
  rw [← EW.out]
  clear EW
  generalize w3.heap.size = t6 at ST T6 ⊢
  go_loopw [5, 7] (fun v i wr => ∃ (q : Option Addr) (cl k n : Nat) (L : List Odr) (p1 p2 : Option Addr) (c1 c2 : Nat) (XB XA : List Odr), v = .slice q n cl ∧ i = .int .i64 k ∧ k + n ≤ 40 ∧ Hid (L.length = n) ∧ Hid (OInv W6 t6 bids asks wr q cl L p1 p2 c1 c2 XB XA)) (fun v _ _ => sliceLen v)
  case atStart => exact ⟨q, cl, 0, _, L0, none, none, 0, 0, [], [], rfl, rfl, by have := LB.out; omega, rfl, ST⟩
  case round =>
    clear ST
    obtain ⟨q, cl, k, n, L, p1, p2, c1, c2, XB, XA, rfl, rfl, hkn, LN, IV⟩ := hrel
    have BW := hide (B6.out.trans (IV.out.bel.mono (Nat.le_of_lt T6.out)))
    have x0 := IV.out.x0
    have x1 := IV.out.x1
    by_cases hlt : 0 < n
    · have hltz : (0 : Int) < (n : Int) := by omega
      by_cases hp0 : pn = 0
      · subst hp0
        have hkk : 0 < n := hlt
        have hkL : 0 < L.length := by rw [LN.out]; exact hkk
        have hm := (IV.out.taken.next RR.out hkL).1
        obtain ⟨b, off, rfl, hcl⟩ : ∃ b off, q = some ⟨b, off, none⟩ ∧ ∀ j, j < L.length → ∀ i v, (enc L[j]!)[i]? = some v → wr.cell? ⟨b, off + j * 5 + i, none⟩ = some v := by
          rcases IV.out.l.row with e | e
          · rw [e] at hkL; simp at hkL
          · exact e
        obtain ⟨a0, a1, a2, a3, a4⟩ := orow_cells hcl hkL
        obtain ⟨n1, hn1⟩ : ∃ n, XB.length = n := ⟨_, rfl⟩
        obtain ⟨n2, hn2⟩ : ∃ n, XA.length = n := ⟨_, rfl⟩
        rw [hn1] at x0
        rw [hn2] at x1
        have RC : Hid (∀ X, Below wr.heap.size wr X → Calls Try.prog 28 #[.agg #[.slice p1 n1 c1, .slice p2 n2 c2], odrV L[0]!] X (RestPost X (restB XB L[0]!) (restA XA L[0]!))) := fun X hX => by
          have := rest_any p1 p2 c1 c2 XB XA L[0]! X (IV.out.xb.below hX) (IV.out.xa.below hX) hm
          rw [hn1, hn2] at this
          exact this
        have hT6 := two_lt IV.out.two
        have HT6 := hide hT6
        obtain ⟨YB, hYB⟩ : ∃ Y, Y = restB XB L[0]! := ⟨_, rfl⟩
        obtain ⟨YA, hYA⟩ : ∃ Y, Y = restA XA L[0]! := ⟨_, rfl⟩
        rw [← hYB, ← hYA] at RC
        have EB := hide hYB
        have EA := hide hYA
        clear hYB hYA hm
        obtain ⟨o, ho⟩ : ∃ o, o = L[0]! := ⟨_, rfl⟩
        rw [← ho] at RC a0 a1 a2 a3 a4
        clear ho
        obtain ⟨oa, oac, osd, opr, oqt⟩ := o
        dsimp only [Bk.oid, Bk.oac, Bk.osd, Bk.opr, Bk.oqt] at RC a0 a1 a2 a3 a4
        try simp only [Nat.zero_mul, Nat.add_zero] at a0 a1 a2 a3 a4
        obtain ⟨C, hCC⟩ : ∃ C : World → Prop, C = (fun x => Below wr.heap.size wr x) := ⟨_, rfl⟩
        have CR : Hid (∀ x, C x ↔ Below wr.heap.size wr x) := fun x => by rw [hCC]
        have C0 : Hid (C { wr with drawn := wr.drawn + 1 }) := by rw [hCC]; exact below_drawn wr
        have hC : ∀ z : InC C, ∀ ad v, wr.cell? ad = some v → z.w.cell? ad = some v := fun z ad v hv => (((CR.out z.w).1 z.h).cell (World.block_lt_of_cell? _ _ hv)).trans hv
        have l0 := fun z => hC z _ _ x0
        have l1 := fun z => hC z _ _ x1
        have i0 := fun z => hC z _ _ a0
        have i1 := fun z => hC z _ _ a1
        have i2 := fun z => hC z _ _ a2
        have i3 := fun z => hC z _ _ a3
        have i4 := fun z => hC z _ _ a4
        clear hC hCC a0 a1 a2 a3 a4 x0 x1 hcl hn1 hn2 hT6
        try go_wp2_with fail
        refine wp_region_tree (.still 0 (.still 1 (.still 2 (.still 3 (.still 4 (.fork 5 (.still 6 (.still 7 (.still 8 (.main 9 (.main 10 (.still 11 .done)))))) 9 (.main 5 (.still 6 (.still 7 (.still 8 (.main 10 (.still 11 .done)))))))))))) C mixed (by kernel_rfl) C0.out ?_
        repeat (refine mixT_still (by rfl) ?_; go_big_quiet_step (exact rfl); refine wpQuiet_nil ?_)
        refine mixT_fork (by rfl) (by rfl) ?_ ?_
        · rintro ⟨x1, hx1⟩
          dsimp only
          have hcon := RC.out x1 ((CR.out x1).1 hx1)
          have bx1 := hide ((CR.out x1).1 hx1)
          go_wp2_with (go_at_call 28; refine hcon.mono ?_; rintro e w2' ⟨r1, d1, r2, d2, rfl, o1, o2, b2, f1, f2⟩)
          have ff1 : Hid (∀ a, r1 = some a → wr.heap.size ≤ a.block) := fun a ha => Nat.le_trans bx1.out.size (f1 a ha)
          have ff2 : Hid (∀ a, r2 = some a → wr.heap.size ≤ a.block) := fun a ha => Nat.le_trans bx1.out.size (f2 a ha)
          refine ⟨fun x => Below wr.heap.size wr x ∧ OV x r1 d1 YB ∧ OV x r2 d2 YA, ⟨bx1.out.trans (b2.mono bx1.out.size), o1, o2⟩, fun x hx => (CR.out x).2 hx.1, ?_⟩
          obtain ⟨C1, hC1⟩ : ∃ C1 : World → Prop, C1 = (fun x => Below wr.heap.size wr x ∧ OV x r1 d1 YB ∧ OV x r2 d2 YA) := ⟨_, rfl⟩
          rw [← hC1]
          have K1 : Hid (∀ x, C1 x ↔ Below wr.heap.size wr x ∧ OV x r1 d1 YB ∧ OV x r2 d2 YA) := fun x => by rw [hC1]
          clear hC1 hcon o1 o2 b2 f1 f2 bx1 hx1 x1 w2'
          repeat (refine mixT_still (by rfl) ?_; go_big_quiet_step (exact rfl); refine wpQuiet_nil ?_)
          refine mixT_main (by rfl) ?_
          rintro ⟨x2, hx2⟩
          dsimp only
          have hx2' := hide ((K1.out x2).1 hx2)
          go_wp2
          have al := (Below.refl x2.heap.size x2).alloc (Nat.le_refl _) (.cells #[.slice none 0 0, .slice none 0 0] 42)
          refine ⟨fun x => C1 x ∧ Two x x2.heap.size, ⟨(K1.out _).2 ⟨hx2'.out.1.trans (al.mono hx2'.out.1.size), hx2'.out.2.1.below al, hx2'.out.2.2.below al⟩, ⟨_, _, heap_alloc_new _ _⟩⟩, fun x hx => hx.1, ?_⟩
          have ge9 : Hid (wr.heap.size ≤ x2.heap.size) := hx2'.out.1.size
          have fa1 : Hid (Far x2.heap.size r1 YB) := far_lt hx2'.out.2.1 (Nat.le_refl _)
          have fa2 : Hid (Far x2.heap.size r2 YA) := far_lt hx2'.out.2.2 (Nat.le_refl _)
          generalize x2.heap.size = t9 at ge9 fa1 fa2 ⊢
          clear al hx2' hx2 x2
          obtain ⟨C2, hC2⟩ : ∃ C2 : World → Prop, C2 = (fun x => C1 x ∧ Two x t9) := ⟨_, rfl⟩
          rw [← hC2]
          have K2 : Hid (∀ x, C2 x ↔ C1 x ∧ Two x t9) := fun x => by rw [hC2]
          clear hC2
          refine mixT_main (by rfl) ?_
          rintro ⟨x3, hx3⟩
          dsimp only
          obtain ⟨z1, z2⟩ := (K2.out x3).1 hx3
          obtain ⟨v1, v2, v3⟩ := (K1.out x3).1 z1
          obtain ⟨u0, u1, t0, t1, t2, t3⟩ := two_facts z2
          have S1 := hide (two_set z2 (.slice r1 YB.length d1) (.slice r2 YA.length d2))
          have S2 : Hid (C2 ((x3.setCell ⟨t9, 0, none⟩ (.slice r1 YB.length d1)).setCell ⟨t9, 1, none⟩ (.slice r2 YA.length d2))) := (K2.out _).2 ⟨(K1.out _).2 ⟨two_below_set v1 ge9.out _ _, ov_far v2 fa1.out _ _, ov_far v3 fa2.out _ _⟩, two_again z2 _ _⟩
          clear z1 z2 v1 v2 v3 hx3
          go_wp2
          refine ⟨fun x => C2 x ∧ x.cell? ⟨t9, 0, none⟩ = some (.slice r1 YB.length d1) ∧ x.cell? ⟨t9, 1, none⟩ = some (.slice r2 YA.length d2), ⟨S2.out, S1.out.1, S1.out.2⟩, fun x hx => hx.1, ?_⟩
          obtain ⟨C3, hC3⟩ : ∃ C3 : World → Prop, C3 = (fun x => C2 x ∧ x.cell? ⟨t9, 0, none⟩ = some (.slice r1 YB.length d1) ∧ x.cell? ⟨t9, 1, none⟩ = some (.slice r2 YA.length d2)) := ⟨_, rfl⟩
          rw [← hC3]
          have K3 : Hid (∀ x, C3 x → C2 x ∧ x.cell? ⟨t9, 0, none⟩ = some (.slice r1 YB.length d1) ∧ x.cell? ⟨t9, 1, none⟩ = some (.slice r2 YA.length d2)) := fun x hx => by rw [hC3] at hx; exact hx
          clear hC3 S1 S2 t0 t1 t2 t3 x3
          repeat (refine mixT_still (by rfl) ?_; go_big_quiet_step (exact rfl); refine wpQuiet_nil ?_)
          refine mixT_end ?_
          rintro ⟨x5, hx5⟩
          dsimp only
          have NX0 : Hid (ONext wr t9 x5 r1 r2 d1 d2 YB YA) := by
            obtain ⟨k2, s0, s1⟩ := K3.out x5 hx5
            obtain ⟨z1, z2⟩ := (K2.out x5).1 k2
            obtain ⟨v1, v2, v3⟩ := (K1.out x5).1 z1
            exact ⟨v1, ge9.out, s0, s1, v2, v3, ff1.out, ff2.out⟩
          have eyb := EB.out
          have eya := EA.out
          subst eyb eya
          have NX := NX0
          clear hx5 K1 K2 K3 C1 C2 C3 ge9 fa1 fa2 ff1 ff2 NX0 RC C0 CR
          have y0 := NX.out.y0
          have y1 := NX.out.y1
          have TX := hide (two_below IV.out.two NX.out.bel)
          obtain ⟨u0, u1, t0, t1, t2, t3⟩ := two_facts TX.out
          obtain ⟨m1, hm1⟩ : ∃ m, (restB XB L[0]!).length = m := ⟨_, rfl⟩
          obtain ⟨m2, hm2⟩ : ∃ m, (restA XA L[0]!).length = m := ⟨_, rfl⟩
          rw [hm1] at y0
          rw [hm2] at y1
          have OL := hide (ov_far (IV.out.l.below NX.out.bel) IV.out.lq (.slice r1 m1 d1) (.slice r2 m2 d2))
          have CL := clone_any (some ⟨b, off, none⟩) cl L _ OL.out (by rw [LN.out]; omega)
          have XS := hide (two_size x5 t6 (.slice r1 m1 d1) (.slice r2 m2 d2))
          have M1 := hide hm1
          have M2 := hide hm2
          rw [LN.out] at CL
          clear hm1 hm2 OL l0 l1 i0 i1 i2 i3 i4
          go_wp2_with fail
          refine CL.mono ?_
          rintro e w7 ⟨v, rfl, hown, b7⟩
          rcases hown.2 with ⟨rfl, hh0⟩ | ⟨g, cap, cur, rfl, hg, hcur, hnc, hmx, hsz, htk⟩
          · exact absurd hh0 (by rw [← LN.out] at hlt ⊢; omega)
          have OG : Hid (OwnG w7 g cap L) := ⟨by rw [LN.out]; exact hnc, cur, hcur, hsz, by rw [LN.out]; exact htk⟩
          have DE := delete_own g cap 0 L w7 OG.out hkL
          rw [LN.out] at DE
          have GX : Hid (x5.heap.size ≤ g) := by rw [← XS.out]; exact hg
          have B7 := hide b7
          clear hown b7 hcur hnc hmx hsz htk CL t0 t1 t2 t3
          go_wp2_with fail
          refine DE.mono ?_
          rintro e w8 ⟨rfl, hog, b8⟩
          have NI : Hid (OInv W6 t6 bids asks w8 (some ⟨g, 0, none⟩) cap (L.take 0 ++ L.drop (0 + 1)) r1 r2 d1 d2 (restB XB L[0]!) (restA XA L[0]!)) := by
            refine IV.out.next RR.out hkL NX.out GX.out ?_ hog
            rw [M1.out, M2.out]
            have b9 := B7.out.trans (b8.mono hg)
            rw [XS.out] at b9
            exact b9
          have LE : Hid ((L.take 0 ++ L.drop (0 + 1)).length = n - 1) := by rw [take_drop_len hkL, LN.out]; rfl
          rw [LE.out]
          clear DE hog b8 B7 hg GX OG
          go_wp2
          go_roundw
          case rel => exact ⟨some ⟨g, 0, none⟩, cap, k + 1, n - 1, _, r1, r2, d1, d2, _, _, rfl, by go_num, by omega, LE, NI⟩
          case measure => simp [sliceLen]; omega
        · rintro ⟨x1, hx1⟩
          dsimp only
          have hx1' := hide ((CR.out x1).1 hx1)
          go_wp2
          have al := (Below.refl x1.heap.size x1).alloc (Nat.le_refl _) (.cells #[.slice none 0 0, .slice none 0 0] 42)
          refine ⟨fun x => C x ∧ Two x x1.heap.size, ⟨(CR.out _).2 (hx1'.out.trans (al.mono hx1'.out.size)), ⟨_, _, heap_alloc_new _ _⟩⟩, fun x hx => hx.1, ?_⟩
          have ge9 : Hid (wr.heap.size ≤ x1.heap.size) := hx1'.out.size
          generalize x1.heap.size = t9 at ge9 ⊢
          clear al hx1' hx1 x1
          obtain ⟨D1, hD1⟩ : ∃ D1 : World → Prop, D1 = (fun x => C x ∧ Two x t9) := ⟨_, rfl⟩
          rw [← hD1]
          have J1 : Hid (∀ x, D1 x ↔ C x ∧ Two x t9) := fun x => by rw [hD1]
          clear hD1
          refine mixT_main (by rfl) ?_
          rintro ⟨x2, hx2⟩
          dsimp only
          have hx2' := hide ((J1.out x2).1 hx2)
          have bx2 := hide ((CR.out x2).1 hx2'.out.1)
          have hcon := RC.out x2 bx2.out
          go_wp2_with (go_at_call 28; refine hcon.mono ?_; rintro e w2' ⟨r1, d1, r2, d2, rfl, o1, o2, b2, f1, f2⟩)
          have ff1 : Hid (∀ a, r1 = some a → wr.heap.size ≤ a.block) := fun a ha => Nat.le_trans bx2.out.size (f1 a ha)
          have ff2 : Hid (∀ a, r2 = some a → wr.heap.size ≤ a.block) := fun a ha => Nat.le_trans bx2.out.size (f2 a ha)
          have fa1 : Hid (Far t9 r1 YB) := .inr fun a ha => by have := f1 a ha; have := two_lt hx2'.out.2; omega
          have fa2 : Hid (Far t9 r2 YA) := .inr fun a ha => by have := f2 a ha; have := two_lt hx2'.out.2; omega
          obtain ⟨C1, hC1⟩ : ∃ C1 : World → Prop, C1 = (fun x => Below wr.heap.size wr x ∧ OV x r1 d1 YB ∧ OV x r2 d2 YA) := ⟨_, rfl⟩
          have K1 : Hid (∀ x, C1 x ↔ Below wr.heap.size wr x ∧ OV x r1 d1 YB ∧ OV x r2 d2 YA) := fun x => by rw [hC1]
          refine ⟨fun x => C1 x ∧ Two x t9, ⟨(K1.out _).2 ⟨bx2.out.trans (b2.mono bx2.out.size), o1, o2⟩, two_below hx2'.out.2 b2⟩, fun x hx => (J1.out x).2 ⟨(CR.out x).2 ((K1.out x).1 hx.1).1, hx.2⟩, ?_⟩
          clear hC1 hcon o1 o2 b2 f1 f2 bx2 hx2 hx2' x2 w2' J1 D1
          repeat (refine mixT_still (by rfl) ?_; go_big_quiet_step (exact rfl); refine wpQuiet_nil ?_)
          obtain ⟨C2, hC2⟩ : ∃ C2 : World → Prop, C2 = (fun x => C1 x ∧ Two x t9) := ⟨_, rfl⟩
          rw [← hC2]
          have K2 : Hid (∀ x, C2 x ↔ C1 x ∧ Two x t9) := fun x => by rw [hC2]
          clear hC2
          refine mixT_main (by rfl) ?_
          rintro ⟨x3, hx3⟩
          dsimp only
          obtain ⟨z1, z2⟩ := (K2.out x3).1 hx3
          obtain ⟨v1, v2, v3⟩ := (K1.out x3).1 z1
          obtain ⟨u0, u1, t0, t1, t2, t3⟩ := two_facts z2
          have S1 := hide (two_set z2 (.slice r1 YB.length d1) (.slice r2 YA.length d2))
          have S2 : Hid (C2 ((x3.setCell ⟨t9, 0, none⟩ (.slice r1 YB.length d1)).setCell ⟨t9, 1, none⟩ (.slice r2 YA.length d2))) := (K2.out _).2 ⟨(K1.out _).2 ⟨two_below_set v1 ge9.out _ _, ov_far v2 fa1.out _ _, ov_far v3 fa2.out _ _⟩, two_again z2 _ _⟩
          clear z1 z2 v1 v2 v3 hx3
          go_wp2
          refine ⟨fun x => C2 x ∧ x.cell? ⟨t9, 0, none⟩ = some (.slice r1 YB.length d1) ∧ x.cell? ⟨t9, 1, none⟩ = some (.slice r2 YA.length d2), ⟨S2.out, S1.out.1, S1.out.2⟩, fun x hx => hx.1, ?_⟩
          obtain ⟨C3, hC3⟩ : ∃ C3 : World → Prop, C3 = (fun x => C2 x ∧ x.cell? ⟨t9, 0, none⟩ = some (.slice r1 YB.length d1) ∧ x.cell? ⟨t9, 1, none⟩ = some (.slice r2 YA.length d2)) := ⟨_, rfl⟩
          rw [← hC3]
          have K3 : Hid (∀ x, C3 x → C2 x ∧ x.cell? ⟨t9, 0, none⟩ = some (.slice r1 YB.length d1) ∧ x.cell? ⟨t9, 1, none⟩ = some (.slice r2 YA.length d2)) := fun x hx => by rw [hC3] at hx; exact hx
          clear hC3 S1 S2 t0 t1 t2 t3 x3
          repeat (refine mixT_still (by rfl) ?_; go_big_quiet_step (exact rfl); refine wpQuiet_nil ?_)
          refine mixT_end ?_
          rintro ⟨x5, hx5⟩
          dsimp only
          have NX0 : Hid (ONext wr t9 x5 r1 r2 d1 d2 YB YA) := by
            obtain ⟨k2, s0, s1⟩ := K3.out x5 hx5
            obtain ⟨z1, z2⟩ := (K2.out x5).1 k2
            obtain ⟨v1, v2, v3⟩ := (K1.out x5).1 z1
            exact ⟨v1, ge9.out, s0, s1, v2, v3, ff1.out, ff2.out⟩
          have eyb := EB.out
          have eya := EA.out
          subst eyb eya
          have NX := NX0
          clear hx5 K1 K2 K3 C1 C2 C3 ge9 fa1 fa2 ff1 ff2 NX0 RC C0 CR
          have y0 := NX.out.y0
          have y1 := NX.out.y1
          have TX := hide (two_below IV.out.two NX.out.bel)
          obtain ⟨u0, u1, t0, t1, t2, t3⟩ := two_facts TX.out
          obtain ⟨m1, hm1⟩ : ∃ m, (restB XB L[0]!).length = m := ⟨_, rfl⟩
          obtain ⟨m2, hm2⟩ : ∃ m, (restA XA L[0]!).length = m := ⟨_, rfl⟩
          rw [hm1] at y0
          rw [hm2] at y1
          have OL := hide (ov_far (IV.out.l.below NX.out.bel) IV.out.lq (.slice r1 m1 d1) (.slice r2 m2 d2))
          have CL := clone_any (some ⟨b, off, none⟩) cl L _ OL.out (by rw [LN.out]; omega)
          have XS := hide (two_size x5 t6 (.slice r1 m1 d1) (.slice r2 m2 d2))
          have M1 := hide hm1
          have M2 := hide hm2
          rw [LN.out] at CL
          clear hm1 hm2 OL l0 l1 i0 i1 i2 i3 i4
          go_wp2_with fail
          refine CL.mono ?_
          rintro e w7 ⟨v, rfl, hown, b7⟩
          rcases hown.2 with ⟨rfl, hh0⟩ | ⟨g, cap, cur, rfl, hg, hcur, hnc, hmx, hsz, htk⟩
          · exact absurd hh0 (by rw [← LN.out] at hlt ⊢; omega)
          have OG : Hid (OwnG w7 g cap L) := ⟨by rw [LN.out]; exact hnc, cur, hcur, hsz, by rw [LN.out]; exact htk⟩
          have DE := delete_own g cap 0 L w7 OG.out hkL
          rw [LN.out] at DE
          have GX : Hid (x5.heap.size ≤ g) := by rw [← XS.out]; exact hg
          have B7 := hide b7
          clear hown b7 hcur hnc hmx hsz htk CL t0 t1 t2 t3
          go_wp2_with fail
          refine DE.mono ?_
          rintro e w8 ⟨rfl, hog, b8⟩
          have NI : Hid (OInv W6 t6 bids asks w8 (some ⟨g, 0, none⟩) cap (L.take 0 ++ L.drop (0 + 1)) r1 r2 d1 d2 (restB XB L[0]!) (restA XA L[0]!)) := by
            refine IV.out.next RR.out hkL NX.out GX.out ?_ hog
            rw [M1.out, M2.out]
            have b9 := B7.out.trans (b8.mono hg)
            rw [XS.out] at b9
            exact b9
          have LE : Hid ((L.take 0 ++ L.drop (0 + 1)).length = n - 1) := by rw [take_drop_len hkL, LN.out]; rfl
          rw [LE.out]
          clear DE hog b8 B7 hg GX OG
          go_wp2
          go_roundw
          case rel => exact ⟨some ⟨g, 0, none⟩, cap, k + 1, n - 1, _, r1, r2, d1, d2, _, _, rfl, by go_num, by omega, LE, NI⟩
          case measure => simp [sliceLen]; omega
      · have hpp : (0 : Int) < (pn : Int) := by omega
        obtain ⟨pb, po, rfl, hcp⟩ : ∃ b off, ap = some ⟨b, off, none⟩ ∧ ∀ i, i < pn → w.cell? ⟨b, off + i, none⟩ = some (.int .i64 (zs.getD i 0)) := by
          rcases IR.out with e | ⟨b, off, e1, e2⟩
          · exact absurd ZL.out (by rw [e]; simp; omega)
          · exact ⟨b, off, e1, fun i hi => e2 i (by rw [ZL.out]; exact hi)⟩
        have hrp : k % pn < pn := Nat.mod_lt _ (by omega)
        have hce := hcp (k % pn) hrp
        have hce' := (BW.out.cell (World.block_lt_of_cell? _ _ hce)).trans hce
        have hnz : ((pn : Int) == 0) = false := by simp; omega
        generalize zs.getD (k % pn) 0 = z at hce'
        clear hce hcp
        have hrz : ((k % pn : Nat) : Int) < (pn : Int) := by omega
        obtain ⟨r, hr⟩ : ∃ r : Nat, k % pn = r := ⟨_, rfl⟩
        have hr' : (k : Int) % (pn : Int) = (r : Int) := by rw [← hr]; rfl
        rw [hr] at hrz hce'
        clear hr hrp
        have hat := at_bd z n (by omega)
        obtain ⟨kk, hkz⟩ := Int.eq_ofNat_of_zero_le hat.1
        have hkk : kk < n := by omega
        have AT := fun W => at_any z n W (by omega) (by omega)
        rw [hkz] at AT
        clear hat hkz
        go_wp2_with (go_at_call 25; refine (AT _).mono ?_; rintro e wz ⟨rfl, hwz⟩; rw [hwz]; clear hwz wz)
        clear AT hce' hr' hrz hnz
        have hkL : kk < L.length := by rw [LN.out]; exact hkk
        have hm := (IV.out.taken.next RR.out hkL).1
        obtain ⟨b, off, rfl, hcl⟩ : ∃ b off, q = some ⟨b, off, none⟩ ∧ ∀ j, j < L.length → ∀ i v, (enc L[j]!)[i]? = some v → wr.cell? ⟨b, off + j * 5 + i, none⟩ = some v := by
          rcases IV.out.l.row with e | e
          · rw [e] at hkL; simp at hkL
          · exact e
        obtain ⟨a0, a1, a2, a3, a4⟩ := orow_cells hcl hkL
        obtain ⟨n1, hn1⟩ : ∃ n, XB.length = n := ⟨_, rfl⟩
        obtain ⟨n2, hn2⟩ : ∃ n, XA.length = n := ⟨_, rfl⟩
        rw [hn1] at x0
        rw [hn2] at x1
        have RC : Hid (∀ X, Below wr.heap.size wr X → Calls Try.prog 28 #[.agg #[.slice p1 n1 c1, .slice p2 n2 c2], odrV L[kk]!] X (RestPost X (restB XB L[kk]!) (restA XA L[kk]!))) := fun X hX => by
          have := rest_any p1 p2 c1 c2 XB XA L[kk]! X (IV.out.xb.below hX) (IV.out.xa.below hX) hm
          rw [hn1, hn2] at this
          exact this
        have hT6 := two_lt IV.out.two
        have HT6 := hide hT6
        obtain ⟨YB, hYB⟩ : ∃ Y, Y = restB XB L[kk]! := ⟨_, rfl⟩
        obtain ⟨YA, hYA⟩ : ∃ Y, Y = restA XA L[kk]! := ⟨_, rfl⟩
        rw [← hYB, ← hYA] at RC
        have EB := hide hYB
        have EA := hide hYA
        clear hYB hYA hm
        obtain ⟨o, ho⟩ : ∃ o, o = L[kk]! := ⟨_, rfl⟩
        rw [← ho] at RC a0 a1 a2 a3 a4
        clear ho
        obtain ⟨oa, oac, osd, opr, oqt⟩ := o
        dsimp only [Bk.oid, Bk.oac, Bk.osd, Bk.opr, Bk.oqt] at RC a0 a1 a2 a3 a4
        try simp only [Nat.zero_mul, Nat.add_zero] at a0 a1 a2 a3 a4
        obtain ⟨C, hCC⟩ : ∃ C : World → Prop, C = (fun x => Below wr.heap.size wr x) := ⟨_, rfl⟩
        have CR : Hid (∀ x, C x ↔ Below wr.heap.size wr x) := fun x => by rw [hCC]
        have C0 : Hid (C { wr with drawn := wr.drawn + 1 }) := by rw [hCC]; exact below_drawn wr
        have hC : ∀ z : InC C, ∀ ad v, wr.cell? ad = some v → z.w.cell? ad = some v := fun z ad v hv => (((CR.out z.w).1 z.h).cell (World.block_lt_of_cell? _ _ hv)).trans hv
        have l0 := fun z => hC z _ _ x0
        have l1 := fun z => hC z _ _ x1
        have i0 := fun z => hC z _ _ a0
        have i1 := fun z => hC z _ _ a1
        have i2 := fun z => hC z _ _ a2
        have i3 := fun z => hC z _ _ a3
        have i4 := fun z => hC z _ _ a4
        clear hC hCC a0 a1 a2 a3 a4 x0 x1 hcl hn1 hn2 hT6
        try go_wp2_with fail
        refine wp_region_tree (.still 0 (.still 1 (.still 2 (.still 3 (.still 4 (.fork 5 (.still 6 (.still 7 (.still 8 (.main 9 (.main 10 (.still 11 .done)))))) 9 (.main 5 (.still 6 (.still 7 (.still 8 (.main 10 (.still 11 .done)))))))))))) C mixed (by kernel_rfl) C0.out ?_
        repeat (refine mixT_still (by rfl) ?_; go_big_quiet_step (exact rfl); refine wpQuiet_nil ?_)
        refine mixT_fork (by rfl) (by rfl) ?_ ?_
        · rintro ⟨x1, hx1⟩
          dsimp only
          have hcon := RC.out x1 ((CR.out x1).1 hx1)
          have bx1 := hide ((CR.out x1).1 hx1)
          go_wp2_with (go_at_call 28; refine hcon.mono ?_; rintro e w2' ⟨r1, d1, r2, d2, rfl, o1, o2, b2, f1, f2⟩)
          have ff1 : Hid (∀ a, r1 = some a → wr.heap.size ≤ a.block) := fun a ha => Nat.le_trans bx1.out.size (f1 a ha)
          have ff2 : Hid (∀ a, r2 = some a → wr.heap.size ≤ a.block) := fun a ha => Nat.le_trans bx1.out.size (f2 a ha)
          refine ⟨fun x => Below wr.heap.size wr x ∧ OV x r1 d1 YB ∧ OV x r2 d2 YA, ⟨bx1.out.trans (b2.mono bx1.out.size), o1, o2⟩, fun x hx => (CR.out x).2 hx.1, ?_⟩
          obtain ⟨C1, hC1⟩ : ∃ C1 : World → Prop, C1 = (fun x => Below wr.heap.size wr x ∧ OV x r1 d1 YB ∧ OV x r2 d2 YA) := ⟨_, rfl⟩
          rw [← hC1]
          have K1 : Hid (∀ x, C1 x ↔ Below wr.heap.size wr x ∧ OV x r1 d1 YB ∧ OV x r2 d2 YA) := fun x => by rw [hC1]
          clear hC1 hcon o1 o2 b2 f1 f2 bx1 hx1 x1 w2'
          repeat (refine mixT_still (by rfl) ?_; go_big_quiet_step (exact rfl); refine wpQuiet_nil ?_)
          refine mixT_main (by rfl) ?_
          rintro ⟨x2, hx2⟩
          dsimp only
          have hx2' := hide ((K1.out x2).1 hx2)
          go_wp2
          have al := (Below.refl x2.heap.size x2).alloc (Nat.le_refl _) (.cells #[.slice none 0 0, .slice none 0 0] 42)
          refine ⟨fun x => C1 x ∧ Two x x2.heap.size, ⟨(K1.out _).2 ⟨hx2'.out.1.trans (al.mono hx2'.out.1.size), hx2'.out.2.1.below al, hx2'.out.2.2.below al⟩, ⟨_, _, heap_alloc_new _ _⟩⟩, fun x hx => hx.1, ?_⟩
          have ge9 : Hid (wr.heap.size ≤ x2.heap.size) := hx2'.out.1.size
          have fa1 : Hid (Far x2.heap.size r1 YB) := far_lt hx2'.out.2.1 (Nat.le_refl _)
          have fa2 : Hid (Far x2.heap.size r2 YA) := far_lt hx2'.out.2.2 (Nat.le_refl _)
          generalize x2.heap.size = t9 at ge9 fa1 fa2 ⊢
          clear al hx2' hx2 x2
          obtain ⟨C2, hC2⟩ : ∃ C2 : World → Prop, C2 = (fun x => C1 x ∧ Two x t9) := ⟨_, rfl⟩
          rw [← hC2]
          have K2 : Hid (∀ x, C2 x ↔ C1 x ∧ Two x t9) := fun x => by rw [hC2]
          clear hC2
          refine mixT_main (by rfl) ?_
          rintro ⟨x3, hx3⟩
          dsimp only
          obtain ⟨z1, z2⟩ := (K2.out x3).1 hx3
          obtain ⟨v1, v2, v3⟩ := (K1.out x3).1 z1
          obtain ⟨u0, u1, t0, t1, t2, t3⟩ := two_facts z2
          have S1 := hide (two_set z2 (.slice r1 YB.length d1) (.slice r2 YA.length d2))
          have S2 : Hid (C2 ((x3.setCell ⟨t9, 0, none⟩ (.slice r1 YB.length d1)).setCell ⟨t9, 1, none⟩ (.slice r2 YA.length d2))) := (K2.out _).2 ⟨(K1.out _).2 ⟨two_below_set v1 ge9.out _ _, ov_far v2 fa1.out _ _, ov_far v3 fa2.out _ _⟩, two_again z2 _ _⟩
          clear z1 z2 v1 v2 v3 hx3
          go_wp2
          refine ⟨fun x => C2 x ∧ x.cell? ⟨t9, 0, none⟩ = some (.slice r1 YB.length d1) ∧ x.cell? ⟨t9, 1, none⟩ = some (.slice r2 YA.length d2), ⟨S2.out, S1.out.1, S1.out.2⟩, fun x hx => hx.1, ?_⟩
          obtain ⟨C3, hC3⟩ : ∃ C3 : World → Prop, C3 = (fun x => C2 x ∧ x.cell? ⟨t9, 0, none⟩ = some (.slice r1 YB.length d1) ∧ x.cell? ⟨t9, 1, none⟩ = some (.slice r2 YA.length d2)) := ⟨_, rfl⟩
          rw [← hC3]
          have K3 : Hid (∀ x, C3 x → C2 x ∧ x.cell? ⟨t9, 0, none⟩ = some (.slice r1 YB.length d1) ∧ x.cell? ⟨t9, 1, none⟩ = some (.slice r2 YA.length d2)) := fun x hx => by rw [hC3] at hx; exact hx
          clear hC3 S1 S2 t0 t1 t2 t3 x3
          repeat (refine mixT_still (by rfl) ?_; go_big_quiet_step (exact rfl); refine wpQuiet_nil ?_)
          refine mixT_end ?_
          rintro ⟨x5, hx5⟩
          dsimp only
          have NX0 : Hid (ONext wr t9 x5 r1 r2 d1 d2 YB YA) := by
            obtain ⟨k2, s0, s1⟩ := K3.out x5 hx5
            obtain ⟨z1, z2⟩ := (K2.out x5).1 k2
            obtain ⟨v1, v2, v3⟩ := (K1.out x5).1 z1
            exact ⟨v1, ge9.out, s0, s1, v2, v3, ff1.out, ff2.out⟩
          have eyb := EB.out
          have eya := EA.out
          subst eyb eya
          have NX := NX0
          clear hx5 K1 K2 K3 C1 C2 C3 ge9 fa1 fa2 ff1 ff2 NX0 RC C0 CR
          have y0 := NX.out.y0
          have y1 := NX.out.y1
          have TX := hide (two_below IV.out.two NX.out.bel)
          obtain ⟨u0, u1, t0, t1, t2, t3⟩ := two_facts TX.out
          obtain ⟨m1, hm1⟩ : ∃ m, (restB XB L[kk]!).length = m := ⟨_, rfl⟩
          obtain ⟨m2, hm2⟩ : ∃ m, (restA XA L[kk]!).length = m := ⟨_, rfl⟩
          rw [hm1] at y0
          rw [hm2] at y1
          have OL := hide (ov_far (IV.out.l.below NX.out.bel) IV.out.lq (.slice r1 m1 d1) (.slice r2 m2 d2))
          have CL := clone_any (some ⟨b, off, none⟩) cl L _ OL.out (by rw [LN.out]; omega)
          have XS := hide (two_size x5 t6 (.slice r1 m1 d1) (.slice r2 m2 d2))
          have M1 := hide hm1
          have M2 := hide hm2
          rw [LN.out] at CL
          clear hm1 hm2 OL l0 l1 i0 i1 i2 i3 i4
          go_wp2_with fail
          refine CL.mono ?_
          rintro e w7 ⟨v, rfl, hown, b7⟩
          rcases hown.2 with ⟨rfl, hh0⟩ | ⟨g, cap, cur, rfl, hg, hcur, hnc, hmx, hsz, htk⟩
          · exact absurd hh0 (by rw [← LN.out] at hlt ⊢; omega)
          have OG : Hid (OwnG w7 g cap L) := ⟨by rw [LN.out]; exact hnc, cur, hcur, hsz, by rw [LN.out]; exact htk⟩
          have DE := delete_own g cap kk L w7 OG.out hkL
          rw [LN.out] at DE
          have GX : Hid (x5.heap.size ≤ g) := by rw [← XS.out]; exact hg
          have B7 := hide b7
          clear hown b7 hcur hnc hmx hsz htk CL t0 t1 t2 t3
          go_wp2_with fail
          refine DE.mono ?_
          rintro e w8 ⟨rfl, hog, b8⟩
          have NI : Hid (OInv W6 t6 bids asks w8 (some ⟨g, 0, none⟩) cap (L.take kk ++ L.drop (kk + 1)) r1 r2 d1 d2 (restB XB L[kk]!) (restA XA L[kk]!)) := by
            refine IV.out.next RR.out hkL NX.out GX.out ?_ hog
            rw [M1.out, M2.out]
            have b9 := B7.out.trans (b8.mono hg)
            rw [XS.out] at b9
            exact b9
          have LE : Hid ((L.take kk ++ L.drop (kk + 1)).length = n - 1) := by rw [take_drop_len hkL, LN.out]; rfl
          rw [LE.out]
          clear DE hog b8 B7 hg GX OG
          go_wp2
          go_roundw
          case rel => exact ⟨some ⟨g, 0, none⟩, cap, k + 1, n - 1, _, r1, r2, d1, d2, _, _, rfl, by go_num, by omega, LE, NI⟩
          case measure => simp [sliceLen]; omega
        · rintro ⟨x1, hx1⟩
          dsimp only
          have hx1' := hide ((CR.out x1).1 hx1)
          go_wp2
          have al := (Below.refl x1.heap.size x1).alloc (Nat.le_refl _) (.cells #[.slice none 0 0, .slice none 0 0] 42)
          refine ⟨fun x => C x ∧ Two x x1.heap.size, ⟨(CR.out _).2 (hx1'.out.trans (al.mono hx1'.out.size)), ⟨_, _, heap_alloc_new _ _⟩⟩, fun x hx => hx.1, ?_⟩
          have ge9 : Hid (wr.heap.size ≤ x1.heap.size) := hx1'.out.size
          generalize x1.heap.size = t9 at ge9 ⊢
          clear al hx1' hx1 x1
          obtain ⟨D1, hD1⟩ : ∃ D1 : World → Prop, D1 = (fun x => C x ∧ Two x t9) := ⟨_, rfl⟩
          rw [← hD1]
          have J1 : Hid (∀ x, D1 x ↔ C x ∧ Two x t9) := fun x => by rw [hD1]
          clear hD1
          refine mixT_main (by rfl) ?_
          rintro ⟨x2, hx2⟩
          dsimp only
          have hx2' := hide ((J1.out x2).1 hx2)
          have bx2 := hide ((CR.out x2).1 hx2'.out.1)
          have hcon := RC.out x2 bx2.out
          go_wp2_with (go_at_call 28; refine hcon.mono ?_; rintro e w2' ⟨r1, d1, r2, d2, rfl, o1, o2, b2, f1, f2⟩)
          have ff1 : Hid (∀ a, r1 = some a → wr.heap.size ≤ a.block) := fun a ha => Nat.le_trans bx2.out.size (f1 a ha)
          have ff2 : Hid (∀ a, r2 = some a → wr.heap.size ≤ a.block) := fun a ha => Nat.le_trans bx2.out.size (f2 a ha)
          have fa1 : Hid (Far t9 r1 YB) := .inr fun a ha => by have := f1 a ha; have := two_lt hx2'.out.2; omega
          have fa2 : Hid (Far t9 r2 YA) := .inr fun a ha => by have := f2 a ha; have := two_lt hx2'.out.2; omega
          obtain ⟨C1, hC1⟩ : ∃ C1 : World → Prop, C1 = (fun x => Below wr.heap.size wr x ∧ OV x r1 d1 YB ∧ OV x r2 d2 YA) := ⟨_, rfl⟩
          have K1 : Hid (∀ x, C1 x ↔ Below wr.heap.size wr x ∧ OV x r1 d1 YB ∧ OV x r2 d2 YA) := fun x => by rw [hC1]
          refine ⟨fun x => C1 x ∧ Two x t9, ⟨(K1.out _).2 ⟨bx2.out.trans (b2.mono bx2.out.size), o1, o2⟩, two_below hx2'.out.2 b2⟩, fun x hx => (J1.out x).2 ⟨(CR.out x).2 ((K1.out x).1 hx.1).1, hx.2⟩, ?_⟩
          clear hC1 hcon o1 o2 b2 f1 f2 bx2 hx2 hx2' x2 w2' J1 D1
          repeat (refine mixT_still (by rfl) ?_; go_big_quiet_step (exact rfl); refine wpQuiet_nil ?_)
          obtain ⟨C2, hC2⟩ : ∃ C2 : World → Prop, C2 = (fun x => C1 x ∧ Two x t9) := ⟨_, rfl⟩
          rw [← hC2]
          have K2 : Hid (∀ x, C2 x ↔ C1 x ∧ Two x t9) := fun x => by rw [hC2]
          clear hC2
          refine mixT_main (by rfl) ?_
          rintro ⟨x3, hx3⟩
          dsimp only
          obtain ⟨z1, z2⟩ := (K2.out x3).1 hx3
          obtain ⟨v1, v2, v3⟩ := (K1.out x3).1 z1
          obtain ⟨u0, u1, t0, t1, t2, t3⟩ := two_facts z2
          have S1 := hide (two_set z2 (.slice r1 YB.length d1) (.slice r2 YA.length d2))
          have S2 : Hid (C2 ((x3.setCell ⟨t9, 0, none⟩ (.slice r1 YB.length d1)).setCell ⟨t9, 1, none⟩ (.slice r2 YA.length d2))) := (K2.out _).2 ⟨(K1.out _).2 ⟨two_below_set v1 ge9.out _ _, ov_far v2 fa1.out _ _, ov_far v3 fa2.out _ _⟩, two_again z2 _ _⟩
          clear z1 z2 v1 v2 v3 hx3
          go_wp2
          refine ⟨fun x => C2 x ∧ x.cell? ⟨t9, 0, none⟩ = some (.slice r1 YB.length d1) ∧ x.cell? ⟨t9, 1, none⟩ = some (.slice r2 YA.length d2), ⟨S2.out, S1.out.1, S1.out.2⟩, fun x hx => hx.1, ?_⟩
          obtain ⟨C3, hC3⟩ : ∃ C3 : World → Prop, C3 = (fun x => C2 x ∧ x.cell? ⟨t9, 0, none⟩ = some (.slice r1 YB.length d1) ∧ x.cell? ⟨t9, 1, none⟩ = some (.slice r2 YA.length d2)) := ⟨_, rfl⟩
          rw [← hC3]
          have K3 : Hid (∀ x, C3 x → C2 x ∧ x.cell? ⟨t9, 0, none⟩ = some (.slice r1 YB.length d1) ∧ x.cell? ⟨t9, 1, none⟩ = some (.slice r2 YA.length d2)) := fun x hx => by rw [hC3] at hx; exact hx
          clear hC3 S1 S2 t0 t1 t2 t3 x3
          repeat (refine mixT_still (by rfl) ?_; go_big_quiet_step (exact rfl); refine wpQuiet_nil ?_)
          refine mixT_end ?_
          rintro ⟨x5, hx5⟩
          dsimp only
          have NX0 : Hid (ONext wr t9 x5 r1 r2 d1 d2 YB YA) := by
            obtain ⟨k2, s0, s1⟩ := K3.out x5 hx5
            obtain ⟨z1, z2⟩ := (K2.out x5).1 k2
            obtain ⟨v1, v2, v3⟩ := (K1.out x5).1 z1
            exact ⟨v1, ge9.out, s0, s1, v2, v3, ff1.out, ff2.out⟩
          have eyb := EB.out
          have eya := EA.out
          subst eyb eya
          have NX := NX0
          clear hx5 K1 K2 K3 C1 C2 C3 ge9 fa1 fa2 ff1 ff2 NX0 RC C0 CR
          have y0 := NX.out.y0
          have y1 := NX.out.y1
          have TX := hide (two_below IV.out.two NX.out.bel)
          obtain ⟨u0, u1, t0, t1, t2, t3⟩ := two_facts TX.out
          obtain ⟨m1, hm1⟩ : ∃ m, (restB XB L[kk]!).length = m := ⟨_, rfl⟩
          obtain ⟨m2, hm2⟩ : ∃ m, (restA XA L[kk]!).length = m := ⟨_, rfl⟩
          rw [hm1] at y0
          rw [hm2] at y1
          have OL := hide (ov_far (IV.out.l.below NX.out.bel) IV.out.lq (.slice r1 m1 d1) (.slice r2 m2 d2))
          have CL := clone_any (some ⟨b, off, none⟩) cl L _ OL.out (by rw [LN.out]; omega)
          have XS := hide (two_size x5 t6 (.slice r1 m1 d1) (.slice r2 m2 d2))
          have M1 := hide hm1
          have M2 := hide hm2
          rw [LN.out] at CL
          clear hm1 hm2 OL l0 l1 i0 i1 i2 i3 i4
          go_wp2_with fail
          refine CL.mono ?_
          rintro e w7 ⟨v, rfl, hown, b7⟩
          rcases hown.2 with ⟨rfl, hh0⟩ | ⟨g, cap, cur, rfl, hg, hcur, hnc, hmx, hsz, htk⟩
          · exact absurd hh0 (by rw [← LN.out] at hlt ⊢; omega)
          have OG : Hid (OwnG w7 g cap L) := ⟨by rw [LN.out]; exact hnc, cur, hcur, hsz, by rw [LN.out]; exact htk⟩
          have DE := delete_own g cap kk L w7 OG.out hkL
          rw [LN.out] at DE
          have GX : Hid (x5.heap.size ≤ g) := by rw [← XS.out]; exact hg
          have B7 := hide b7
          clear hown b7 hcur hnc hmx hsz htk CL t0 t1 t2 t3
          go_wp2_with fail
          refine DE.mono ?_
          rintro e w8 ⟨rfl, hog, b8⟩
          have NI : Hid (OInv W6 t6 bids asks w8 (some ⟨g, 0, none⟩) cap (L.take kk ++ L.drop (kk + 1)) r1 r2 d1 d2 (restB XB L[kk]!) (restA XA L[kk]!)) := by
            refine IV.out.next RR.out hkL NX.out GX.out ?_ hog
            rw [M1.out, M2.out]
            have b9 := B7.out.trans (b8.mono hg)
            rw [XS.out] at b9
            exact b9
          have LE : Hid ((L.take kk ++ L.drop (kk + 1)).length = n - 1) := by rw [take_drop_len hkL, LN.out]; rfl
          rw [LE.out]
          clear DE hog b8 B7 hg GX OG
          go_wp2
          go_roundw
          case rel => exact ⟨some ⟨g, 0, none⟩, cap, k + 1, n - 1, _, r1, r2, d1, d2, _, _, rfl, by go_num, by omega, LE, NI⟩
          case measure => simp [sliceLen]; omega
    · have hn0 : n = 0 := by omega
      subst hn0
      have hL : L = [] := List.eq_nil_of_length_eq_zero LN.out
      have hd := (show Taken bids asks [] XB XA from hL ▸ IV.out.taken).done RR.out
      obtain ⟨rfl, rfl⟩ := hd
      rw [NB.out] at x0
      rw [NA.out] at x1
      have y0 := (IV.out.bel.cell (p := ⟨w.heap.size, 0, none⟩) T6.out).trans h0.out
      have y1 := (IV.out.bel.cell (p := ⟨w.heap.size, 1, none⟩) T6.out).trans h1.out
      have SC := SM.out _ p1 p2 c1 c2 BW.out IV.out.xb IV.out.xa
      go_wp2_with fail
      refine SC.mono ?_
      rintro e w9 ⟨rfl, b9⟩
      have B9 := hide (BW.out.trans (b9.mono BW.out.size))
      clear SC b9
      go_wp2
      go_ret
      exact ⟨rfl, B9.out⟩
end Go.Proofs.Ytdlohodompommaa.Bk
