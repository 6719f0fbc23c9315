/-
  Package book by contracts: Find.
-/
import Derived.Test.YtbphljnncbiddaaBkRest
namespace Go.Proofs.Ytbphljnncbiddaa.Bk
open Go.RowKit Go.Sort Go.Maps Go.Proofs.Ytbphljnncbiddaa.Mix

/-- five cells that may be written, at this block. -/
def Five (x : World) (t : Nat) : Prop := ∃ u0 u1 u2 u3 u4, x.heap[t]? = some (.cells #[u0, u1, u2, u3, u4] 44 (0, 0))
theorem five_below {x y : World} {t : Nat} (h : Five x t) (hb : Below x.heap.size x y) : Five y t := by
  obtain ⟨u0, u1, u2, u3, u4, h⟩ := h
  exact ⟨u0, u1, u2, u3, u4, (hb.block t (Array.getElem?_eq_some_iff.1 h).1).trans h⟩
theorem five_lt {x : World} {t : Nat} (h : Five x t) : t < x.heap.size := by
  obtain ⟨_, _, _, _, _, h⟩ := h
  exact (Array.getElem?_eq_some_iff.1 h).1
theorem five_facts {x : World} {t : Nat} (h : Five x t) : (∃ u0 u1 u2 u3 u4, x.cell? ⟨t, 0, none⟩ = some u0 ∧ x.cell? ⟨t, 1, none⟩ = some u1 ∧ x.cell? ⟨t, 2, none⟩ = some u2 ∧ x.cell? ⟨t, 3, none⟩ = some u3 ∧ x.cell? ⟨t, 4, none⟩ = some u4) ∧
    x.frozen? ⟨t, 0, none⟩ = false ∧ x.frozen? ⟨t, 1, none⟩ = false ∧ x.frozen? ⟨t, 2, none⟩ = false ∧ x.frozen? ⟨t, 3, none⟩ = false ∧ x.frozen? ⟨t, 4, none⟩ = false := by
  obtain ⟨u0, u1, u2, u3, u4, h⟩ := h
  refine ⟨⟨u0, u1, u2, u3, u4, ?_, ?_, ?_, ?_, ?_⟩, ?_, ?_, ?_, ?_, ?_⟩ <;> simp [World.cell?, World.frozen?, h]
abbrev five (x : World) (t : Nat) (v0 v1 v2 v3 v4 : Value) : World := ((((x.setCell ⟨t, 0, none⟩ v0).setCell ⟨t, 1, none⟩ v1).setCell ⟨t, 2, none⟩ v2).setCell ⟨t, 3, none⟩ v3).setCell ⟨t, 4, none⟩ v4
theorem five_heap {x : World} {t : Nat} (h : Five x t) (v0 v1 v2 v3 v4 : Value) : (five x t v0 v1 v2 v3 v4).heap[t]? = some (.cells #[v0, v1, v2, v3, v4] 44 (0, 0)) := by
  obtain ⟨u0, u1, u2, u3, u4, h⟩ := h
  simp [five, World.setCell, Array.getElem?_modify, h]
theorem five_set {x : World} {t : Nat} (h : Five x t) (v0 v1 v2 v3 v4 : Value) : (five x t v0 v1 v2 v3 v4).cell? ⟨t, 0, none⟩ = some v0 ∧ (five x t v0 v1 v2 v3 v4).cell? ⟨t, 1, none⟩ = some v1 ∧ (five x t v0 v1 v2 v3 v4).cell? ⟨t, 2, none⟩ = some v2 ∧ (five x t v0 v1 v2 v3 v4).cell? ⟨t, 3, none⟩ = some v3 ∧ (five x t v0 v1 v2 v3 v4).cell? ⟨t, 4, none⟩ = some v4 := by
  have h1 := five_heap h v0 v1 v2 v3 v4
  refine ⟨?_, ?_, ?_, ?_, ?_⟩ <;> simp only [World.cell?, h1] <;> simp
theorem five_below_set {B t : Nat} {w x : World} (h : Below B w x) (ht : B ≤ t) (v0 v1 v2 v3 v4 : Value) : Below B w (five x t v0 v1 v2 v3 v4) := ((((h.setCell ht _).setCell ht _).setCell ht _).setCell ht _).setCell ht _
theorem five_made (w : World) (o1 : Obj) (u0 u1 u2 u3 u4 : Value) : Five ((w.alloc o1).alloc (.cells #[u0, u1, u2, u3, u4] 44)) (w.heap.size + 1) :=
  ⟨u0, u1, u2, u3, u4, by have := heap_alloc_new (w.alloc o1) (.cells #[u0, u1, u2, u3, u4] 44); simpa using this⟩
theorem box2_a {w W : World} {cs : Array Value} {t : TypeId} {o2 : Obj} (hb : Below ((w.alloc (.cells cs t)).alloc o2).heap.size ((w.alloc (.cells cs t)).alloc o2) W) {i : Nat} {v : Value} (h : cs[i]? = some v) : W.cell? ⟨w.heap.size, i, none⟩ = some v := by
  have := cell_alloc (new_cell w cs t i v h) o2
  exact (hb.cell (World.block_lt_of_cell? _ _ this)).trans this

/-- what Find answers. -/
def findO (bids asks : List Odr) (id : Int) : Odr := if bookErr bids asks = 0 then (findIn id bids asks).getD noOdr else noOdr
def findE (bids asks : List Odr) (id : Int) : Int := if bookErr bids asks = 0 then (findIn id bids asks).elim 5 (fun _ => 0) else bookErr bids asks

theorem idx2_0 (u v : Value) (w : World) : Sem.run Try.prog (Instr.index 91 (.agg #[u, v]) (.int .i64 0)) w = .ok u w := by
  have h1 := Try.underlying91
  have h2 := Try.sizeOf40
  have h3 := Try.isAgg40
  simp [Instr.index, go_sem, h2, h3, run_underlying h1, asIntOf]
theorem idx2_1 (u v : Value) (w : World) : Sem.run Try.prog (Instr.index 91 (.agg #[u, v]) (.int .i64 1)) w = .ok v w := by
  have h1 := Try.underlying91
  have h2 := Try.sizeOf40
  have h3 := Try.isAgg40
  simp [Instr.index, go_sem, h2, h3, run_underlying h1, asIntOf]

set_option maxHeartbeats 1000000 in
set_option maxRecDepth 100000 in
theorem find_any (p p' : Option Addr) (c c' : Nat) (bids asks : List Odr) (id : Int) (w : World) (h : ORow w p bids) (h' : ORow w p' asks) (hn : bids.length ≤ 140737488351232) (hn' : asks.length ≤ 140737488351232) :
    Calls Try.prog 31 #[.agg #[.slice p bids.length c, .slice p' asks.length c'], .int .i64 id] w fun e w' =>
      e = .returned (.tuple #[odrV (findO bids asks id), .int .i64 (findE bids asks id)]) ∧ Below w.heap.size w w' := by
  have hb0 : ∀ o1 o2, Below w.heap.size w ((w.alloc o1).alloc o2) := fun o1 o2 => ((Below.refl _ w).alloc (Nat.le_refl _) _).alloc (by simp) _
  have H := hide h
  have H' := hide h'
  obtain ⟨nb, hnb⟩ : ∃ n, bids.length = n := ⟨_, rfl⟩
  obtain ⟨na, hna⟩ : ∃ n, asks.length = n := ⟨_, rfl⟩
  have CK : Hid (∀ W, Below w.heap.size w W → Calls Try.prog 36 #[.agg #[.slice p nb c, .slice p' na c']] W fun e w' => e = .returned (.int .i64 (bookErr bids asks)) ∧ Below W.heap.size W w') := fun W hW => by
    have := check_any p p' c c' bids asks W (orow_below h hW) (orow_below h' hW) hn hn'
    rw [hnb, hna] at this
    exact this
  have IB : Hid (∀ W B, Below w.heap.size w W → W.cell? ⟨B, 0, none⟩ = some (.int .i64 id) → Calls Try.prog 76 #[.slice p nb c, idFn B] W fun e w' => e = .returned (.int .i64 (idxAt id bids 0)) ∧ Below W.heap.size W w') := fun W B hW hB => by
    have := indexFunc_any p c bids id B W hn (orow_below h hW) hB
    rw [hnb] at this
    exact this
  have IA : Hid (∀ W B, Below w.heap.size w W → W.cell? ⟨B, 0, none⟩ = some (.int .i64 id) → Calls Try.prog 76 #[.slice p' na c', idFn B] W fun e w' => e = .returned (.int .i64 (idxAt id asks 0)) ∧ Below W.heap.size W w') := fun W B hW hB => by
    have := indexFunc_any p' c' asks id B W hn' (orow_below h' hW) hB
    rw [hna] at this
    exact this
  rw [hnb, hna]
  rw [hnb] at hn
  rw [hna] at hn'
  have NB := hide hnb
  have NA := hide hna
  clear h h' hnb hna
  have FO : Hid (¬ bookErr bids asks = 0 → findO bids asks id = noOdr ∧ findE bids asks id = bookErr bids asks) := fun hb => by unfold findO findE; rw [if_neg hb, if_neg hb]; exact ⟨rfl, rfl⟩
  have FS : Hid (∀ o, bookErr bids asks = 0 → findIn id bids asks = some o → findO bids asks id = o ∧ findE bids asks id = 0) := fun o hb hf => by unfold findO findE; rw [if_pos hb, if_pos hb, hf]; exact ⟨rfl, rfl⟩
  have FN : Hid (bookErr bids asks = 0 → findIn id bids asks = none → findO bids asks id = noOdr ∧ findE bids asks id = 5) := fun hb hf => by unfold findO findE; rw [if_pos hb, if_pos hb, hf]; exact ⟨rfl, rfl⟩
  generalize findO bids asks id = fo at FO FS FN ⊢
  generalize findE bids asks id = fe at FO FS FN ⊢
  go_enter Try.func31, Try.ntmps31
  go_wp2_with fail
  refine (CK.out _ (hb0 _ _)).mono ?_
  rintro e W ⟨rfl, hb⟩
  have BW := hide ((hb0 _ _).trans (hb.mono (by simp; omega)))
  have T := hide (five_below (five_made _ _ _ _ _ _ _) hb)
  have e0 : W.cell? ⟨w.heap.size, 0, none⟩ = some (.slice p nb c) := box2_a hb rfl
  have e1 : W.cell? ⟨w.heap.size, 1, none⟩ = some (.slice p' na c') := box2_a hb rfl
  clear hb hb0 CK
  by_cases hbk : bookErr bids asks = 0
  · have FS' := hide (fun o => FS.out o hbk)
    have FN' := hide (FN.out hbk)
    rw [hbk]
    clear FO FS FN hbk
    have x0 := idx2_0 (.slice p nb c) (.slice p' na c')
    have x1 := idx2_1 (.slice p nb c) (.slice p' na c')
    have hW1 : Hid (∀ x, Below W.heap.size W x → Below w.heap.size w x) := fun x hx => BW.out.trans (hx.mono BW.out.size)
    go_wp2
    refine wp_loop_rounds 3 ?_
    rw [rounds_succ]
    go_wp2_with fail
    refine (hasID_any _ _).mono ?_
    rintro e w1 ⟨rfl, rfl⟩
    go_wp2_with fail
    refine (IB.out _ _ (hW1.out _ ((Below.refl _ _).alloc (Nat.le_refl _) _)) (new_cell _ _ _ _ _ rfl)).mono ?_
    rintro e w2 ⟨rfl, hb2⟩
    have B2 := hide (((Below.refl _ W).alloc (Nat.le_refl _) (.cells #[.int .i64 id] 3)).trans (hb2.mono (by simp)))
    clear hb2
    rcases idxAt_ways id bids 0 with ⟨i1, i2, i3⟩ | ⟨j, hj, i1, i2, _⟩
    · rw [i1]
      clear i3
      go_wp2_with fail
      rw [rounds_succ]
      go_wp2_with fail
      refine (hasID_any _ _).mono ?_
      rintro e w3 ⟨rfl, rfl⟩
      have B3 := hide (B2.out.trans (((Below.refl _ w2).alloc (Nat.le_refl _) (.cells #[.int .i64 id] 3)).mono B2.out.size))
      go_wp2_with fail
      refine (IA.out _ _ (hW1.out _ B3.out) (new_cell _ _ _ _ _ rfl)).mono ?_
      rintro e w4 ⟨rfl, hb4⟩
      have B4 := hide (B3.out.trans (hb4.mono B3.out.size))
      have T4 := hide (five_below T.out B4.out)
      obtain ⟨⟨u0, u1, u2, u3, u4, t0, t1, t2, t3, t4⟩, r0, r1, r2, r3, r4⟩ := five_facts T4.out
      have BX4 := hide (hW1.out _ B4.out)
      clear hb4 B3 B2 T
      rcases idxAt_ways id asks 0 with ⟨k1, k2, k3⟩ | ⟨j, hj, k1, k2, _⟩
      · rw [k1]
        have HF := FN'.out (by unfold findIn; rw [List.find?_append, i2, k2]; rfl)
        have HE := hide (show Ending.returned (.tuple #[odrV fo, .int .i64 fe]) = Ending.returned (.tuple #[odrV noOdr, .int .i64 5]) by rw [HF.1, HF.2])
        clear HF k3
        go_wp2_with fail
        rw [rounds_succ]
        go_wp2
        obtain ⟨s0, s1, s2, s3, s4⟩ := five_set T4.out (.int .i64 0) (.int .i64 0) (.int .i64 0) (.int .i64 0) (.int .i64 0)
        refine bodyPost_ret (v := .tuple #[odrV noOdr, .int .i64 5]) (by simp [results, Try.results31, go_sem, s0, s1, s2, s3, s4]) rfl ⟨HE.out.symm, five_below_set BX4.out (by omega) _ _ _ _ _⟩
      · rw [k1]
        simp only [Nat.zero_add]
        rcases H'.out with hh | ⟨b, off, rfl, hc⟩
        · rw [hh] at hj; exact absurd hj (by simp)
        · have hbl : b < w.heap.size := World.block_lt_of_cell? w _ (hc j hj 0 _ rfl)
          have CX := hide (fun (x : World) (hx : Below w.heap.size w x) => orow_cells (w := x) (b := b) (off := off) (xs := asks) (fun j hj i v hv => (hx.cell hbl).trans (hc j hj i v hv)) hj)
          have HF := FS'.out asks[j]! (by unfold findIn; rw [List.find?_append, i2, k2]; rfl)
          generalize asks[j]! = y at CX HF
          obtain ⟨a, ac, sd, pr, q⟩ := y
          dsimp only [oid, oac, osd, opr, oqt] at CX
          have HE := hide (show Ending.returned (.tuple #[odrV fo, .int .i64 fe]) = Ending.returned (.tuple #[odrV (a, ac, sd, pr, q), .int .i64 0]) by rw [HF.1, HF.2])
          have hjn : (j : Int) < (na : Int) := by rw [← NA.out]; omega
          clear HF hc
          obtain ⟨c0, c1, c2, c3, c4⟩ := CX.out w4 BX4.out
          go_wp2
          obtain ⟨s0, s1, s2, s3, s4⟩ := five_set T4.out (.int .i64 a) (.int .i64 ac) (.int .i64 sd) (.int .i64 pr) (.int .i64 q)
          refine bodyPost_ret (v := .tuple #[odrV (a, ac, sd, pr, q), .int .i64 0]) (by simp [results, Try.results31, go_sem, s0, s1, s2, s3, s4]) rfl ⟨HE.out.symm, five_below_set BX4.out (by omega) _ _ _ _ _⟩
    · rw [i1]
      simp only [Nat.zero_add]
      have T4 := hide (five_below T.out B2.out)
      obtain ⟨⟨u0, u1, u2, u3, u4, t0, t1, t2, t3, t4⟩, r0, r1, r2, r3, r4⟩ := five_facts T4.out
      have BX4 := hide (hW1.out _ B2.out)
      clear B2 T
      rcases H.out with hh | ⟨b, off, rfl, hc⟩
      · rw [hh] at hj; exact absurd hj (by simp)
      · have hbl : b < w.heap.size := World.block_lt_of_cell? w _ (hc j hj 0 _ rfl)
        have CX := hide (fun (x : World) (hx : Below w.heap.size w x) => orow_cells (w := x) (b := b) (off := off) (xs := bids) (fun j hj i v hv => (hx.cell hbl).trans (hc j hj i v hv)) hj)
        have HF := FS'.out bids[j]! (by unfold findIn; rw [List.find?_append, i2]; rfl)
        generalize bids[j]! = y at CX HF
        obtain ⟨a, ac, sd, pr, q⟩ := y
        dsimp only [oid, oac, osd, opr, oqt] at CX
        have HE := hide (show Ending.returned (.tuple #[odrV fo, .int .i64 fe]) = Ending.returned (.tuple #[odrV (a, ac, sd, pr, q), .int .i64 0]) by rw [HF.1, HF.2])
        have hjn : (j : Int) < (nb : Int) := by rw [← NB.out]; omega
        clear HF hc
        obtain ⟨c0, c1, c2, c3, c4⟩ := CX.out w2 BX4.out
        go_wp2
        obtain ⟨s0, s1, s2, s3, s4⟩ := five_set T4.out (.int .i64 a) (.int .i64 ac) (.int .i64 sd) (.int .i64 pr) (.int .i64 q)
        refine bodyPost_ret (v := .tuple #[odrV (a, ac, sd, pr, q), .int .i64 0]) (by simp [results, Try.results31, go_sem, s0, s1, s2, s3, s4]) rfl ⟨HE.out.symm, five_below_set BX4.out (by omega) _ _ _ _ _⟩
  · obtain ⟨h1, h2⟩ := FO.out hbk
    have HE := hide (show Ending.returned (.tuple #[odrV fo, .int .i64 fe]) = Ending.returned (.tuple #[odrV noOdr, .int .i64 (bookErr bids asks)]) by rw [h1, h2])
    clear h1 h2
    generalize bookErr bids asks = eb at hbk HE ⊢
    obtain ⟨⟨u0, u1, u2, u3, u4, t0, t1, t2, t3, t4⟩, r0, r1, r2, r3, r4⟩ := five_facts T.out
    clear FO FS FN IB IA
    go_wp2
    obtain ⟨s0, s1, s2, s3, s4⟩ := five_set T.out (.int .i64 0) (.int .i64 0) (.int .i64 0) (.int .i64 0) (.int .i64 0)
    refine bodyPost_ret (v := .tuple #[odrV noOdr, .int .i64 eb]) (by simp [results, Try.results31, go_sem, s0, s1, s2, s3, s4]) rfl ⟨HE.out.symm, five_below_set BW.out (by omega) _ _ _ _ _⟩
end Go.Proofs.Ytbphljnncbiddaa.Bk
