/-
  The reference's orders, by a contract: a book's bids, then its asks, in a row of its own.
-/
import Derived.Test.YtbphljnncbiddaaBkMay
import Derived.Test.YtbphljnncbiddaaBkFlat
import Derived.Test.YtbphljnncbiddaaBkWith
import Derived.ArgAppend
import Derived.Lib.LazyBuf
import Derived.Deep.MidRow
namespace Go.Proofs.Ytbphljnncbiddaa.Rk
open Go.RowKit Go.Sort Go.Maps Go.Proofs.Ytbphljnncbiddaa.Mix Go.Proofs.Ytbphljnncbiddaa.Bk

theorem flat_len (xs : List Odr) : (flat xs).length = xs.length * 5 := by
  induction xs with
  | nil => rfl
  | cons x l ih => rw [flat_cons, List.length_append, ih, enc_length]; simp; omega
theorem ov_news {w : World} {ad : Addr} {c : Nat} {xs : List Odr} (h : OV w (some ad) c xs) (j : Nat) (u : Value) (hu : (flat xs)[j]? = some u) : w.cell? (ad.add j) = some u := by
  rcases h.row with rfl | ⟨b, off, e, hc⟩
  · simp [flat] at hu
  · cases e
    have hj : j < xs.length * 5 := by
      have := (List.getElem?_eq_some_iff.1 hu).1
      rwa [flat_len] at this
    have := flat_get xs (j / 5) (j % 5) (by omega) (Nat.mod_lt _ (by decide))
    rw [show j / 5 * 5 + j % 5 = j by omega, hu] at this
    have := hc (j / 5) (by omega) (j % 5) u this.symm
    rw [add_lit]
    rwa [show off + j / 5 * 5 + j % 5 = off + j by omega] at this
theorem flat_cell (xs : List Odr) : ∀ u ∈ flat xs, u.oneCell' = true := by
  intro u hu
  obtain ⟨x, _, hx⟩ := List.mem_flatMap.1 hu
  simp [Bk.enc] at hx
  rcases hx with rfl | rfl | rfl | rfl | rfl <;> rfl

/-- a row that was made behind W: it holds these orders, and may be written up to its end. -/
structure AR (W x : World) (g cap : Nat) (xs : List Odr) : Prop where
  le : W.heap.size ≤ g
  lt : g < x.heap.size
  cells : ∀ j u, (flat xs)[j]? = some u → x.cell? ⟨g, j, none⟩ = some u
  spare : ∀ j, j < cap * 5 → (x.cell? ⟨g, j, none⟩).isSome = true ∧ x.frozen? ⟨g, j, none⟩ = false
  fits : xs.length ≤ cap
theorem ar_same {W x y : World} {g cap : Nat} {xs : List Odr} (h : AR W x g cap xs) (hs : x.heap.size ≤ y.heap.size) (hb : y.heap[g]? = x.heap[g]?) : AR W y g cap xs :=
  ⟨h.le, Nat.lt_of_lt_of_le h.lt hs, fun j u hu => (World.cell?_of_block (a := ⟨g, j, none⟩) hb).trans (h.cells j u hu), fun j hj => by
    rw [World.cell?_of_block (a := ⟨g, j, none⟩) hb, World.frozen?_of_block (a := ⟨g, j, none⟩) hb]
    exact h.spare j hj, h.fits⟩
theorem ar_new {W x : World} (h : W.heap.size ≤ x.heap.size) : AR W (x.alloc (.cells #[] 44)) x.heap.size 0 [] :=
  ⟨h, by simp, fun j u hu => by simp [flat] at hu, fun j hj => by omega, Nat.le_refl _⟩
theorem ar_own {W x : World} {v : Value} {B n : Nat} {xs : List Odr} (h : x.ownsRow B 44 5 v n (flat xs)) (hn : xs.length = n) (h0 : 0 < n) (hB : W.heap.size ≤ B) : ∃ g cap, v = .slice (some ⟨g, 0, none⟩) n cap ∧ AR W x g cap xs ∧ B ≤ g := by
  have h' := h
  rcases h.2 with ⟨rfl, e⟩ | ⟨g, cap, cur, rfl, hb, hg, hnc, hm, hcs, ht⟩
  · omega
  · refine ⟨g, cap, rfl, ⟨Nat.le_trans hB hb, (Array.getElem?_eq_some_iff.1 hg).1, fun j u hu => ?_, fun j hj => ?_, by omega⟩, hb⟩
    · have hj : j < n * 5 := by
        have := (List.getElem?_eq_some_iff.1 hu).1
        rwa [flat_len, hn] at this
      rw [h'.cellAt j hj]
      exact hu
    · have hjc : j < cur.size := by omega
      simp [World.cell?, World.frozen?, hg, hjc]

/-- an append to such a row: it stays one, and the longer one is one. -/
theorem ar_append {W x : World} {g cap : Nat} {xs ys : List Odr} (h : AR W x g cap xs) {ad : Addr} {c : Nat} (hy : OV x (some ad) c ys) (hl : xs.length + ys.length ≤ 80) {i0 : TypeInfo} (hi : Try.prog.info? 44 = some i0) (hz0 : i0.zero = some (odrV noOdr)) (hz1 : i0.size = 5) (hz2 : i0.bytes = 40)
    {ops : Array Oper} {rest : List Oper} {o : Oper} {a : Act} {Q : Exit → Act → World → Prop} (hgd : o.guard = none) (s t : Operand) (ho : o.op = .call { callee := .builtin .append, args := #[s, t], argTypes := #[40, 40] })
    (hs : a.eval s = .slice (some ⟨g, 0, none⟩) xs.length cap) (ht : a.eval t = .slice (some ad) ys.length c)
    (hK : ∀ g' cap' x', AR W x' g' cap' (xs ++ ys) → AR W x' g cap xs → Below W.heap.size x x' → wpList Try.prog ops Q rest (a.put o.dst (.slice (some ⟨g', 0, none⟩) (xs ++ ys).length cap')) x') : wpList Try.prog ops Q (o :: rest) a x := by
  refine wpList_append_arg x hgd s t 40 ho 44 i0 (odrV noOdr) 5 40 Try.underlying40 hi hz0 hz1 hz2 rfl (by decide) g 0 xs.length cap (flat xs) hs (flat_len xs) (fun j u hu => by rw [Nat.zero_add]; exact h.cells j u hu) ad ys.length c (flat ys) ht (flat_len ys) (fun j u hu => ov_news hy j u hu) (flat_cell ys) ?_ (by unfold maxLen; omega) (by omega) ?_ ?_
  · intro hr j hj
    rw [flat_len] at hj
    rw [Nat.zero_add]
    exact h.spare _ (by omega)
  · intro hr
    have hin : ∀ j, j < (flat ys).length → (x.cell? ⟨g, 0 + xs.length * 5 + j, none⟩).isSome = true := fun j hj => by
      rw [flat_len] at hj
      rw [Nat.zero_add]
      exact (h.spare _ (by omega)).1
    have hsp : ∀ j, j < cap * 5 → ((x.setCells g (0 + xs.length * 5) (flat ys)).cell? ⟨g, j, none⟩).isSome = true ∧ (x.setCells g (0 + xs.length * 5) (flat ys)).frozen? ⟨g, j, none⟩ = false := fun j hj =>
      ⟨World.isSome_setCells g (flat ys) _ x _ (h.spare j hj).1, by rw [World.frozen?_setCells]; exact (h.spare j hj).2⟩
    have hold : ∀ j u, (flat xs)[j]? = some u → (x.setCells g (0 + xs.length * 5) (flat ys)).cell? ⟨g, j, none⟩ = some u := fun j u hu => by
      have hj := (List.getElem?_eq_some_iff.1 hu).1
      rw [flat_len] at hj
      rw [World.cell?_setCells_out g (flat ys) _ x ⟨g, j, none⟩ (fun _ _ => by show j < _ ∨ _; omega)]
      exact h.cells j u hu
    have := hK g cap (x.setCells g (0 + xs.length * 5) (flat ys)) ⟨h.le, Nat.lt_of_lt_of_le h.lt (below_setCells h.le (flat ys) _ x (Below.refl _ x)).size, fun j u hu => ?_, hsp, by rw [List.length_append]; exact hr⟩ ⟨h.le, Nat.lt_of_lt_of_le h.lt (below_setCells h.le (flat ys) _ x (Below.refl _ x)).size, hold, hsp, h.fits⟩ ?_
    · rw [List.length_append] at this
      exact this
    · rw [flat_append] at hu
      by_cases hj : j < (flat xs).length
      · rw [List.getElem?_append_left hj] at hu
        exact hold j u hu
      · rw [List.getElem?_append_right (by omega)] at hu
        have hj2 := (List.getElem?_eq_some_iff.1 hu)
        obtain ⟨hj2, hj3⟩ := hj2
        have := World.cell?_setCells_in g (flat ys) (0 + xs.length * 5) x hin (j - (flat xs).length) hj2
        rw [show 0 + xs.length * 5 + (j - (flat xs).length) = j by rw [flat_len] at hj ⊢; omega] at this
        rw [this, hj3]
    · exact below_setCells h.le (flat ys) _ x (Below.refl _ x)
  · intro hfull v' w' hown hg
    have hxy : (xs ++ ys).length = xs.length + ys.length := List.length_append
    obtain ⟨g', cap', rfl, har, -⟩ := ar_own (W := W) (by rw [flat_append]; exact hown) hxy (by have := h.fits; omega) (Nat.le_trans h.le (Nat.le_of_lt h.lt))
    have := hK g' cap' w' har (ar_same h hg.size (hg.block g h.lt (by simp))) ⟨hg.os, hg.tape, hg.output, hg.size, fun k hk => hg.block k (by have := h.le; have := h.lt; omega) (by simp)⟩
    rw [hxy] at this
    exact this

/-- a book, as it lies. -/
abbrev bkO (p : Option Addr) (bids : List Odr) (p' : Option Addr) (asks : List Odr) (c c' : Nat) : Obj := .cells #[.slice p bids.length c, .slice p' asks.length c'] 42

theorem ar_zero {W x y : World} {g : Nat} (h : AR W x g 0 []) (hs : x.heap.size ≤ y.heap.size) : AR W y g 0 [] :=
  ⟨h.le, Nat.lt_of_lt_of_le h.lt hs, fun j u hu => by simp [flat] at hu, fun j hj => by omega, Nat.le_refl _⟩
set_option maxHeartbeats 2000000 in
set_option maxRecDepth 100000 in
theorem orders_any (p p' : Option Addr) (c c' : Nat) (bids asks : List Odr) (w : World) (h : OV w p c bids) (h' : OV w p' c' asks) (hl : bids.length + asks.length ≤ 40) :
    Calls Try.prog 85 #[.agg #[.slice p bids.length c, .slice p' asks.length c']] w fun e w' => ∃ g cap, e = .returned (.slice (some ⟨g, 0, none⟩) (bids ++ asks).length cap) ∧ AR w w' g cap (bids ++ asks) ∧ Below w.heap.size w w' := by
  obtain ⟨i0, hi, hz0, hz1, hz2⟩ := info_parts Try.infoO
  have mixed : Try.prog.follows .mixedOrders = true := by kernel_rfl
  have HB := hide h
  have HA := hide h'
  clear h h'
  go_enter Try.func85, Try.ntmps85
  go_wp2_with fail
  obtain ⟨W, hW⟩ : ∃ W, W = w.alloc (bkO p bids p' asks c c') := ⟨_, rfl⟩
  have BW : Hid (Below w.heap.size w W) := by rw [hW]; exact (Below.refl _ _).alloc (Nat.le_refl _) _
  have e0 : W.cell? ⟨w.heap.size, 0, none⟩ = some (.slice p bids.length c) := by rw [hW]; exact new_cell w _ _ 0 _ rfl
  have e1 : W.cell? ⟨w.heap.size, 1, none⟩ = some (.slice p' asks.length c') := by rw [hW]; exact new_cell w _ _ 1 _ rfl
  rw [← hW]
  clear hW
  have hC : ∀ q : InC (fun x => Below W.heap.size W x), ∀ x v, W.cell? x = some v → q.w.cell? x = some v := fun q x v hx => (q.h.cell (World.block_lt_of_cell? _ _ hx)).trans hx
  generalize hCC : (fun x => Below W.heap.size W x) = C at hC
  have g0 := fun q => hC q _ _ e0
  have g1 := fun q => hC q _ _ e1
  have CE := hide hCC
  have CW : Hid (∀ x, C x ↔ Below W.heap.size W x) := fun x => by rw [← CE.out]
  have C0 : Hid (C { W with drawn := W.drawn + 1 }) := by rw [← CE.out]; exact below_drawn _
  clear hC hCC e0 e1
  refine wp_region_mix [(1, true), (2, true), (4, true), (5, true), (0, false), (3, false), (6, false), (7, true)] C mixed (by kernel_rfl) C0.out ?_
  repeat (refine mix_still (by rfl) ?_; go_big_quiet_step (exact rfl); refine wpQuiet_nil ?_)
  refine mix_main (by rfl) ?_
  rintro ⟨x1, hx1⟩
  go_wp2
  have hb1 := (CW.out x1).1 hx1
  refine ⟨fun x => C x ∧ AR W x x1.heap.size 0 [], ⟨(CW.out _).2 (hb1.alloc hb1.size _), ar_new hb1.size⟩, fun x hx => hx.1, ?_⟩
  generalize x1.heap.size = g
  clear hb1 hx1 x1 g0 g1
  have BR : Hid (∀ q d ys, OV w q d ys → ∀ x, C x → OV x q d ys) := fun q d ys hq x hx => hq.below (BW.out.trans (((CW.out x).1 hx).mono BW.out.size))
  have CG : Hid (∀ x y, C x → Below W.heap.size x y → C y) := fun x y hx hy => (CW.out y).2 (((CW.out x).1 hx).trans hy)
  cases p with
  | none =>
    obtain rfl := HB.out.nil rfl
    obtain rfl : bids = [] := by
      rcases HB.out.row with h | ⟨_, _, e, _⟩
      · exact h
      · cases e
    refine mix_main (by rfl) ?_
    rintro ⟨x3, hx3⟩
    go_wp2
    refine ⟨fun x => C x ∧ AR W x g 0 [], hx3, fun _ h => h, ?_⟩
    clear hx3 x3
    generalize hD : (fun x => C x ∧ AR W x g 0 []) = D
    have DD : ∀ x, D x ↔ C x ∧ AR W x g 0 [] := fun x => by rw [← hD]
    have DC : Hid (∀ x, D x → C x) := fun x hx => ((DD x).1 hx).1
    have DA : Hid (∀ x, D x → AR W x g 0 []) := fun x hx => ((DD x).1 hx).2
    have DM : Hid (∀ x y, D x → Below W.heap.size x y → AR W y g 0 [] → D y) := fun x y hx hb ha => (DD y).2 ⟨CG.out x y ((DD x).1 hx).1 hb, ha⟩
    clear hD DD
    cases p' with
    | none =>
      obtain rfl := HA.out.nil rfl
      obtain rfl : asks = [] := by
        rcases HA.out.row with h | ⟨_, _, e, _⟩
        · exact h
        · cases e
      refine mix_main (by rfl) ?_
      rintro ⟨x6, hx6⟩
      dsimp only
      have hfit := (DA.out x6 hx6).fits
      go_wp2
      refine ⟨D, hx6, fun _ h => h, ?_⟩
      clear hx6 x6
      repeat (refine mix_still (by rfl) ?_; go_big_quiet_step (exact rfl); refine wpQuiet_nil ?_)
      refine mix_end ?_
      rintro ⟨x9, hx9⟩
      dsimp only
      have A9 := hide (DA.out x9 hx9)
      have B9 := hide (BW.out.trans (((CW.out x9).1 (DC.out x9 hx9)).mono BW.out.size))
      clear hx9
      go_wp2
      go_ret
      exact ⟨g, 0, by rw [List.append_nil]; rfl, ⟨Nat.le_trans BW.out.size A9.out.le, A9.out.lt, by rw [List.append_nil]; exact A9.out.cells, A9.out.spare, by rw [List.append_nil]; exact A9.out.fits⟩, B9.out⟩
    | some ad' =>
      have HA' := hide (BR.out _ _ _ HA.out)
      refine mix_main (by rfl) ?_
      rintro ⟨x6, hx6⟩
      dsimp only
      have OX := hide (HA'.out x6 (DC.out x6 hx6))
      have AX := hide (DA.out x6 hx6)
      have DX := hide hx6
      clear hx6
      go_wp2_with (at_builtin; refine ar_append AX.out OX.out (by omega) hi hz0 hz1 hz2 rfl _ _ rfl rfl rfl ?_; intro g2 cap2 x7 har har0 hbel)
      refine ⟨fun x => D x ∧ AR W x g2 cap2 ([] ++ asks), ⟨DM.out x6 x7 DX.out hbel har0, har⟩, fun x hx => hx.1, ?_⟩
      clear har har0 hbel OX AX DX x6 x7
      generalize hE : (fun x => D x ∧ AR W x g2 cap2 ([] ++ asks)) = E
      have EE : Hid (∀ x, E x ↔ D x ∧ AR W x g2 cap2 ([] ++ asks)) := fun x => by rw [← hE]
      clear hE
      repeat (refine mix_still (by rfl) ?_; go_big_quiet_step (exact rfl); refine wpQuiet_nil ?_)
      refine mix_end ?_
      rintro ⟨x9, hx9⟩
      dsimp only
      have A9 := hide ((EE.out x9).1 hx9).2
      have B9 := hide (BW.out.trans (((CW.out x9).1 (DC.out x9 ((EE.out x9).1 hx9).1)).mono BW.out.size))
      clear hx9
      go_wp2
      go_ret
      exact ⟨g2, cap2, by rw [List.length_append]; first | rfl | (rw [List.length_nil, Nat.zero_add]; rfl), ⟨Nat.le_trans BW.out.size A9.out.le, A9.out.lt, A9.out.cells, A9.out.spare, A9.out.fits⟩, B9.out⟩
  | some ad =>
    have HB' := hide (BR.out _ _ _ HB.out)
    refine mix_main (by rfl) ?_
    rintro ⟨x3, hx3⟩
    dsimp only
    have OX := hide (HB'.out x3 hx3.1)
    have AX := hide hx3.2
    have CX := hide hx3.1
    clear hx3
    go_wp2_with (at_builtin; refine ar_append AX.out OX.out (by simp; omega) hi hz0 hz1 hz2 rfl _ _ rfl rfl rfl ?_; intro g' cap' x' har har0 hbel)
    refine ⟨fun x => (C x ∧ AR W x g 0 []) ∧ AR W x g' cap' bids, ⟨⟨CG.out x3 x' CX.out hbel, har0⟩, har⟩, fun x hx => hx.1, ?_⟩
    clear har har0 hbel OX AX CX x3 x'
    generalize hD : (fun x => (C x ∧ AR W x g 0 []) ∧ AR W x g' cap' bids) = D
    have DD : ∀ x, D x ↔ (C x ∧ AR W x g 0 []) ∧ AR W x g' cap' bids := fun x => by rw [← hD]
    have DC : Hid (∀ x, D x → C x) := fun x hx => ((DD x).1 hx).1.1
    have DA : Hid (∀ x, D x → AR W x g' cap' bids) := fun x hx => ((DD x).1 hx).2
    have DM : Hid (∀ x y, D x → Below W.heap.size x y → AR W y g' cap' bids → D y) := fun x y hx hb ha => (DD y).2 ⟨⟨CG.out x y ((DD x).1 hx).1.1 hb, ar_zero ((DD x).1 hx).1.2 hb.size⟩, ha⟩
    clear hD DD
    cases p' with
    | none =>
      obtain rfl := HA.out.nil rfl
      obtain rfl : asks = [] := by
        rcases HA.out.row with h | ⟨_, _, e, _⟩
        · exact h
        · cases e
      refine mix_main (by rfl) ?_
      rintro ⟨x6, hx6⟩
      dsimp only
      have hfit := (DA.out x6 hx6).fits
      go_wp2
      refine ⟨D, hx6, fun _ h => h, ?_⟩
      clear hx6 x6
      repeat (refine mix_still (by rfl) ?_; go_big_quiet_step (exact rfl); refine wpQuiet_nil ?_)
      refine mix_end ?_
      rintro ⟨x9, hx9⟩
      dsimp only
      have A9 := hide (DA.out x9 hx9)
      have B9 := hide (BW.out.trans (((CW.out x9).1 (DC.out x9 hx9)).mono BW.out.size))
      clear hx9
      go_wp2
      go_ret
      exact ⟨g', cap', by rw [List.append_nil]; rfl, ⟨Nat.le_trans BW.out.size A9.out.le, A9.out.lt, by rw [List.append_nil]; exact A9.out.cells, A9.out.spare, by rw [List.append_nil]; exact A9.out.fits⟩, B9.out⟩
    | some ad' =>
      have HA' := hide (BR.out _ _ _ HA.out)
      refine mix_main (by rfl) ?_
      rintro ⟨x6, hx6⟩
      dsimp only
      have OX := hide (HA'.out x6 (DC.out x6 hx6))
      have AX := hide (DA.out x6 hx6)
      have DX := hide hx6
      clear hx6
      go_wp2_with (at_builtin; refine ar_append AX.out OX.out (by omega) hi hz0 hz1 hz2 rfl _ _ rfl rfl rfl ?_; intro g2 cap2 x7 har har0 hbel)
      refine ⟨fun x => D x ∧ AR W x g2 cap2 (bids ++ asks), ⟨DM.out x6 x7 DX.out hbel har0, har⟩, fun x hx => hx.1, ?_⟩
      clear har har0 hbel OX AX DX x6 x7
      generalize hE : (fun x => D x ∧ AR W x g2 cap2 (bids ++ asks)) = E
      have EE : Hid (∀ x, E x ↔ D x ∧ AR W x g2 cap2 (bids ++ asks)) := fun x => by rw [← hE]
      clear hE
      repeat (refine mix_still (by rfl) ?_; go_big_quiet_step (exact rfl); refine wpQuiet_nil ?_)
      refine mix_end ?_
      rintro ⟨x9, hx9⟩
      dsimp only
      have A9 := hide ((EE.out x9).1 hx9).2
      have B9 := hide (BW.out.trans (((CW.out x9).1 (DC.out x9 ((EE.out x9).1 hx9).1)).mono BW.out.size))
      clear hx9
      go_wp2
      go_ret
      exact ⟨g2, cap2, by rw [List.length_append]; first | rfl | (rw [List.length_nil, Nat.zero_add]; rfl), ⟨Nat.le_trans BW.out.size A9.out.le, A9.out.lt, A9.out.cells, A9.out.spare, A9.out.fits⟩, B9.out⟩
end Go.Proofs.Ytbphljnncbiddaa.Rk
