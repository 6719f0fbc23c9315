/-
  slices.DeleteFunc at orders, in a row that the call owns; without.
-/
import Derived.Test.YtbphljnncbiddaaBkOwnG
namespace Go.Proofs.Ytbphljnncbiddaa.Bk
open Go.RowKit Go.Sort Go.Maps Go.Proofs.Ytbphljnncbiddaa.Mix

/-- behind j orders the first i of the row are those that stay; from j on it is as it was. -/
structure KInv (id : Int) (xs : List Odr) (i j : Nat) (ys : List Odr) : Prop where
  len : ys.length = xs.length
  kept : ys.take i = without id (xs.take j)
  rest : ys.drop j = xs.drop j
  lt : i < j
  le : j ≤ xs.length

theorem KInv.at {id : Int} {xs ys : List Odr} {i j : Nat} (h : KInv id xs i j ys) (hj : j < xs.length) : ys[j]! = xs[j]! := by
  have h1 := drop_at (xs := ys) (k := j) (by rw [h.len]; exact hj)
  have h2 := drop_at (xs := xs) (k := j) hj
  rw [h.rest, h2] at h1
  exact (List.cons.inj h1).1.symm
theorem KInv.next {id : Int} {xs ys : List Odr} {i j : Nat} (h : KInv id xs i j ys) : ys.drop (j + 1) = xs.drop (j + 1) := by
  have := congrArg List.tail h.rest
  rwa [List.tail_drop, List.tail_drop] at this
theorem KInv.skip {id : Int} {xs ys : List Odr} {i j : Nat} (h : KInv id xs i j ys) (hj : j < xs.length) (he : hasId id xs[j]! = true) : KInv id xs i (j + 1) ys := by
  refine ⟨h.len, ?_, h.next, by have := h.lt; omega, hj⟩
  rw [take_at hj, h.kept]
  unfold without
  rw [List.filter_append, List.filter_cons, he]
  simp
theorem KInv.keep {id : Int} {xs ys : List Odr} {i j : Nat} (h : KInv id xs i j ys) (hj : j < xs.length) (he : hasId id xs[j]! = false) : KInv id xs (i + 1) (j + 1) (ys.set i xs[j]!) := by
  have hi := h.lt
  have hl := h.len
  refine ⟨by rw [List.length_set]; exact hl, ?_, ?_, by omega, hj⟩
  · rw [take_at hj]
    unfold without
    rw [List.filter_append, List.filter_cons, he]
    have hk := h.kept
    unfold without at hk
    rw [← hk, List.take_add_one, List.take_set_of_le (Nat.le_refl _), List.getElem?_set_self (by omega)]
    simp
  · rw [List.drop_set_of_lt (by omega)]
    exact h.next
theorem KInv.start {id : Int} {xs : List Odr} {k : Nat} (hk : k < xs.length) (h1 : xs.take k = (xs.take k).filter (fun x => !hasId id x)) (he : hasId id xs[k]! = true) : KInv id xs k (k + 1) xs := by
  refine ⟨rfl, ?_, rfl, by omega, hk⟩
  rw [take_at hk]
  unfold without
  rw [List.filter_append, List.filter_cons, he, ← h1]
  simp
theorem KInv.done {id : Int} {xs ys : List Odr} {i : Nat} (h : KInv id xs i xs.length ys) : ys.take i = without id xs ∧ i = (without id xs).length := by
  have hk := h.kept
  rw [List.take_length] at hk
  refine ⟨hk, ?_⟩
  rw [← hk, List.length_take, h.len]
  have := h.lt
  omega

set_option maxHeartbeats 2000000 in
set_option maxRecDepth 100000 in
theorem deleteFunc_own (g cap : Nat) (xs : List Odr) (id : Int) (bx : Nat) (w : World) (h : OwnG w g cap xs) (hn : xs.length ≤ 1000) (hid : w.cell? ⟨bx, 0, none⟩ = some (.int .i64 id)) (hne : bx ≠ g) :
    Calls Try.prog 105 #[.slice (some ⟨g, 0, none⟩) xs.length cap, idFn bx] w fun e w' =>
      e = .returned (.slice (some ⟨g, 0, none⟩) (without id xs).length cap) ∧ OwnG w' g cap (without id xs) ∧ Below g w w' := by
  have eg : ∀ args w, (callFunc 104 args).run Try.prog w = .ok (.enter 104 args) w := enters_of Try.func104 (by kernel_rfl) rfl
  have hcon := indexFunc_any (some ⟨g, 0, none⟩) cap xs id bx w (by omega) (.inr ⟨g, 0, rfl, ownG_cells h⟩) hid
  have hgw := ownG_lt h
  have O := hide h
  have HI := hide hid
  have hcap := h.1
  clear h hid
  obtain ⟨n, hxn⟩ : ∃ n, xs.length = n := ⟨_, rfl⟩
  rw [hxn] at hcon hn hcap
  rw [hxn]
  have N := hide hxn
  clear hxn
  rcases idxAt_ways id xs 0 with ⟨i1, i2, i3⟩ | ⟨k0, hk0, i1, i2, i4⟩
  · have hw : Hid (without id xs = xs) := without_none (fun hm => by obtain ⟨x, hx, e⟩ := List.mem_map.1 hm; exact i3 x hx e)
    rw [i1] at hcon
    rw [hw.out, N.out]
    clear i1 i2 i3
    go_enter Try.func105, Try.ntmps105
    go_wp2_with (go_at_call 76; refine hcon.mono ?_; rintro e w1 ⟨rfl, hb1⟩)
    go_ret
    exact ⟨rfl, ownG_below O.out hb1 hgw, hb1.mono (Nat.le_of_lt hgw)⟩
  · rw [i1] at hcon
    rw [Nat.zero_add] at hcon
    have hit : hasId id xs[k0]! = true := List.find?_some i2
    have ST := hide (KInv.start hk0 i4 hit)
    have hkn : k0 < n := by rw [← N.out]; exact hk0
    clear i1 i2 i4 hit hk0
    go_enter Try.func105, Try.ntmps105
    go_wp2_with fail
    refine hcon.mono ?_
    rintro e w1 ⟨rfl, hb1⟩
    have BW1 := hide (hb1.mono (Nat.le_of_lt hgw))
    have O1 := hide (ownG_below O.out hb1 hgw)
    have HI1 : Hid (w1.cell? ⟨bx, 0, none⟩ = some (.int .i64 id)) := hide ((hb1.cell (World.block_lt_of_cell? _ _ HI.out)).trans HI.out)
    have hk1 : ((k0 : Int) == -1) = false := by simp
    clear hcon hb1 O HI
    go_wp2
    go_loopw [5, 6] (fun s5 s6 wr => ∃ (i j : Nat) (ys : List Odr), s5 = .int .i64 i ∧ s6 = .int .i64 j ∧ Hid (KInv id xs i j ys) ∧ Hid (OwnG wr g cap ys) ∧ Hid (wr.cell? ⟨bx, 0, none⟩ = some (.int .i64 id)) ∧ Hid (Below g w wr)) (fun _ j _ => n - (intOf j).toNat)
    case atStart => exact ⟨k0, k0 + 1, xs, rfl, by go_num, ST, O1, HI1, BW1⟩
    case round =>
      obtain ⟨i, j, ys, rfl, rfl, K, OW, HB, BW⟩ := hrel
      have hij := K.out.lt
      have hjn : j ≤ n := by rw [← N.out]; exact K.out.le
      have hyl : Hid (ys.length = n) := K.out.len.trans N.out
      by_cases hlt : j < n
      · have hltz : (j : Int) < (n : Int) := by omega
        have hjx : j < xs.length := by rw [N.out]; exact hlt
        obtain ⟨c0, c1, c2, c3, c4⟩ := orow_cells (ownG_cells OW.out) (j := j) (by rw [hyl.out]; exact hlt)
        simp only [Nat.zero_add] at c0 c1 c2 c3 c4
        have hat := K.out.at hjx
        rw [hat] at c0 c1 c2 c3 c4
        have KK := hide (K.out.keep hjx)
        have KS := hide (K.out.skip hjx)
        clear hat
        generalize xs[j]! = x at c0 c1 c2 c3 c4 KK KS
        obtain ⟨a, ac, sd, pr, q⟩ := x
        dsimp only [oid, oac, osd, opr, oqt] at c0 c1 c2 c3 c4
        go_wp2_with fail
        refine (hasID1_any _ _ _ _ _ id bx _ (cell_alloc HB.out _)).mono ?_
        rintro e x7 ⟨rfl, q1, os1, hw⟩
        have hgr := ownG_lt OW.out
        have B7 : Hid (Below wr.heap.size wr x7) := by rw [hw]; exact box_below _ _ _ _
        have O7 := hide (ownG_below OW.out B7.out hgr)
        have HB7 := hide ((B7.out.cell (World.block_lt_of_cell? _ _ HB.out)).trans HB.out)
        have e0 : x7.cell? ⟨wr.heap.size, 0, none⟩ = some (.int .i64 a) := by rw [hw]; exact box_cell _ _ _ _ _ _ _ rfl
        have e1 : x7.cell? ⟨wr.heap.size, 1, none⟩ = some (.int .i64 ac) := by rw [hw]; exact box_cell _ _ _ _ _ _ _ rfl
        have e2 : x7.cell? ⟨wr.heap.size, 2, none⟩ = some (.int .i64 sd) := by rw [hw]; exact box_cell _ _ _ _ _ _ _ rfl
        have e3 : x7.cell? ⟨wr.heap.size, 3, none⟩ = some (.int .i64 pr) := by rw [hw]; exact box_cell _ _ _ _ _ _ _ rfl
        have e4 : x7.cell? ⟨wr.heap.size, 4, none⟩ = some (.int .i64 q) := by rw [hw]; exact box_cell _ _ _ _ _ _ _ rfl
        have BB := hide (BW.out.trans (B7.out.mono (Nat.le_of_lt hgr)))
        clear hw c0 c1 c2 c3 c4
        cases hh : hasId id (a, ac, sd, pr, q) with
        | true =>
          have K1 := hide (KS.out hh)
          clear KK KS e0 e1 e2 e3 e4
          go_wp2
          go_roundw
          case rel => exact ⟨i, j + 1, ys, rfl, by go_num, K1, O7, HB7, BB⟩
          case measure => simp [intOf]; omega
        | false =>
          have K1 := hide (KK.out hh)
          have hiy : i < ys.length := by rw [hyl.out]; omega
          have O8 := hide (ownG_set O7.out hiy (a, ac, sd, pr, q))
          have hiz : (i : Int) < (n : Int) := by omega
          obtain ⟨d0, f0⟩ := ownG_some O7.out (k := i * 5) (by omega)
          obtain ⟨d1, f1⟩ := ownG_some O7.out (k := i * 5 + 1) (by omega)
          obtain ⟨d2, f2⟩ := ownG_some O7.out (k := i * 5 + 2) (by omega)
          obtain ⟨d3, f3⟩ := ownG_some O7.out (k := i * 5 + 3) (by omega)
          obtain ⟨d4, f4⟩ := ownG_some O7.out (k := i * 5 + 4) (by omega)
          obtain ⟨u0, d0⟩ := Option.isSome_iff_exists.1 d0
          obtain ⟨u1, d1⟩ := Option.isSome_iff_exists.1 d1
          obtain ⟨u2, d2⟩ := Option.isSome_iff_exists.1 d2
          obtain ⟨u3, d3⟩ := Option.isSome_iff_exists.1 d3
          obtain ⟨u4, d4⟩ := Option.isSome_iff_exists.1 d4
          clear KK KS
          go_wp2
          go_roundw
          case rel =>
            refine ⟨i + 1, j + 1, ys.set i (a, ac, sd, pr, q), by go_num, by go_num, K1, ?_, ?_, ?_⟩
            · exact O8
            · exact (fiveAt_other (i := i) (y := (a, ac, sd, pr, q)) hne).trans HB7.out
            · exact fiveAt_below (i := i) BB.out (Nat.le_refl _) (a, ac, sd, pr, q)
          case measure => simp [intOf]; omega
      · have hj' : j = n := by omega
        subst hj'
        have hdone : Hid (ys.take i = without id xs ∧ i = (without id xs).length) := by have := K.out; rw [← N.out] at this; exact this.done
        have hcl := fun ty => run_clear5 wr g cap ys OW.out i j (cap - i) ty (by omega) hcap
        have hs1 := fun x => slice_from (p := some ⟨g, 0, none⟩) (n := j) (c := cap) (k := i) (by omega) x
        have hs2 := fun x => slice_to (p := some ⟨g, 0, none⟩) (n := j) (c := cap) (k := i) (by omega) x
        rw [if_neg (by omega), Option.map_some, add_lit, Nat.zero_add] at hs1
        have OC := hide (ownG_clear OW.out i (by rw [hyl.out]; omega) (List.replicate ((j - i) * 5) (.int .i64 0)))
        have BC := hide (setCells_below (Nat.le_refl g) (List.replicate ((j - i) * 5) (.int .i64 0)) (i * 5) wr BW.out)
        go_wp2
        go_ret
        refine ⟨?_, ?_, BC.out⟩
        · rw [← hdone.out.2]; rfl
        · have := OC.out; rw [hdone.out.1] at this; exact this

theorem deleteFunc_none (f : Value) (w : World) : Calls Try.prog 105 #[.slice none 0 0, f] w fun e w' => e = .returned (.slice none 0 0) ∧ w' = w := by
  go_enter Try.func105, Try.ntmps105
  go_wp2_with (go_at_call 76; refine (indexFunc_none _ _ _ _).mono ?_; rintro e w1 ⟨rfl, rfl⟩)
  go_ret
  exact ⟨rfl, rfl⟩

set_option maxHeartbeats 1000000 in
theorem without_any (p : Option Addr) (c : Nat) (xs : List Odr) (id : Int) (w : World) (h : OV w p c xs) (hn : xs.length ≤ 1000) :
    Calls Try.prog 78 #[.slice p xs.length c, .int .i64 id] w fun e w' => ∃ v, e = .returned v ∧ w'.ownsRow w.heap.size 44 5 v (without id xs).length (flat (without id xs)) ∧ Below w.heap.size w w' := by
  have CO := copyOf_any p c xs w h (by omega)
  generalize hL : without id xs = L
  have HL := hide hL
  clear h hL
  obtain ⟨n, hxn⟩ : ∃ n, xs.length = n := ⟨_, rfl⟩
  rw [hxn]
  have N := hide hxn
  rw [show (Calls Try.prog 75 #[.slice p xs.length c]) = (Calls Try.prog 75 #[.slice p n c]) by rw [hxn]] at CO
  clear hxn
  go_enter Try.func78, Try.ntmps78
  go_wp2_with fail
  refine CO.mono ?_
  rintro e w1 ⟨v, rfl, hown, hb1⟩
  have B1 := hide hb1
  rcases hown.2 with ⟨rfl, h0⟩ | ⟨g, cap, cur, rfl, hg, hcur, hnc, hmx, hsz, htk⟩
  · have hx : xs = [] := List.eq_nil_of_length_eq_zero h0
    have hL0 : L = [] := by rw [← HL.out, hx]; rfl
    clear CO hown hb1 h0
    go_wp2_with (first | (go_at_call 77; refine (hasID_any _ _).mono ?_; rintro e w2 ⟨rfl, rfl⟩) | (go_at_call 105; refine (deleteFunc_none _ _).mono ?_; rintro e w3 ⟨rfl, rfl⟩))
    go_ret
    refine ⟨_, rfl, ?_, B1.out.alloc B1.out.size _⟩
    rw [hL0]
    exact World.ownsRow_nil _ _ _ _
  · have OG : Hid (OwnG w1 g cap xs) := ⟨hnc, cur, hcur, hsz, htk⟩
    have hgl := ownG_lt OG.out
    have MX := hide hmx
    clear CO hown hb1 hcur hnc hsz htk hmx
    go_wp2_with fail
    refine (hasID_any _ _).mono ?_
    rintro e w2 ⟨rfl, rfl⟩
    have OG2 := hide (ownG_below OG.out ((Below.refl w1.heap.size w1).alloc (Nat.le_refl _) (.cells #[.int .i64 id] 3)) hgl)
    have DF := deleteFunc_own g cap xs id w1.heap.size (w1.alloc (.cells #[.int .i64 id] 3)) OG2.out hn (new_cell _ _ _ _ _ rfl) (by omega)
    rw [N.out, HL.out] at DF
    go_wp2_with fail
    rw [N.out]
    refine DF.mono ?_
    rintro e w3 ⟨rfl, hog, hb3⟩
    have B3 := hide ((B1.out.alloc B1.out.size (.cells #[.int .i64 id] 3)).trans (hb3.mono hg))
    have OG3 := hide hog
    clear DF hog hb3
    go_wp2
    go_ret
    refine ⟨_, rfl, ?_, B3.out⟩
    obtain ⟨q0, cur3, q1, q2, q3⟩ := OG3.out
    exact ⟨flat_length L, .inr ⟨g, cap, cur3, rfl, hg, q1, q0, MX.out, q2, q3⟩⟩
end Go.Proofs.Ytbphljnncbiddaa.Bk
