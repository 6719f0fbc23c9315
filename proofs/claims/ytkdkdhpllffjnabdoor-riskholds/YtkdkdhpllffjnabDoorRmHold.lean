/-
  RiskHolds, walked.
-/
import Derived.Test.YtkdkdhpllffjnabDoorRmHoldP
import Derived.Test.YtkdkdhpllffjnabDoorOwn
import Derived.Test.YtkdkdhpllffjnabDoorAc5
namespace Go.Proofs.YtkdkdhpllffjnabDoor.Rm
open Go.RowKit Go.Proofs.YtkdkdhpllffjnabDoor.Num Go.Proofs.YtkdkdhpllffjnabDoor.Fix Go.Proofs.YtkdkdhpllffjnabDoor.AcP Go.Proofs.YtkdkdhpllffjnabDoor.RkP Go.Proofs.YtkdkdhpllffjnabDoor.Ac Go.Proofs.YtkdkdhpllffjnabDoor.Rk

/-- what is known of the price of bankruptcy. -/
structure Broke (id bal : Int) (pos marks : List Int) (k : Nat) (p : Int) : Prop where
  lo : 1 ≤ p
  hi : p ≤ 10000
  at1 : (equityR id bal pos (marks.set k p)).2 = 0 ∨ (equityR id bal pos (marks.set k p)).2 = 7
  non : (equityR id bal pos (marks.set k p)).2 = 0 → 1 < p → p < 10000 → 0 ≤ (equityR id bal pos (marks.set k p)).1
  up : 0 < pos.getD k 0 → 1 < p → p < 10000 → ((equityR id bal pos (marks.set k (p - 1))).2 = 0 ∧ (equityR id bal pos (marks.set k (p - 1))).1 < 0) ∨ (equityR id bal pos (marks.set k (p - 1))).2 = 7
  down : pos.getD k 0 < 0 → 1 < p → p < 10000 → ((equityR id bal pos (marks.set k (p + 1))).2 = 0 ∧ (equityR id bal pos (marks.set k (p + 1))).1 < 0) ∨ (equityR id bal pos (marks.set k (p + 1))).2 = 7

theorem broke {id bal : Int} {pos marks : List Int} {k : Nat} (h : (equityR id bal pos marks).2 = 0) (hk : k < pos.length) (hq : ¬ pos.getD k 0 = 0) : Broke id bal pos marks k (bankR id bal pos marks k).1 := by
  obtain ⟨f0, f1, f2, f3⟩ := equity_facts h
  obtain ⟨c1, c2⟩ := betw_true (f3 k hk).1
  obtain ⟨n, hn⟩ : ∃ n, equityR id bal pos marks = (n, 0) := ⟨_, Prod.ext rfl h⟩
  have e : (bankR id bal pos marks k).1 = middleR 1 (evenR (n - pos.getD k 0 * marks.getD k 0) (pos.getD k 0)) 10000 := by
    unfold bankR
    rw [if_pos h, if_pos (betw_mk (by omega)), show ((k : Int)).toNat = k by omega, if_neg hq, hn]
  have sh : ∀ v, (equityR id bal pos (marks.set k v)).2 = 0 → (equityR id bal pos (marks.set k v)).1 = n - pos.getD k 0 * marks.getD k 0 + pos.getD k 0 * v := fun v h' => equity_shift hn (Prod.ext rfl h') hk
  have ways : ∀ v, betw 0 v 10000 = true → (equityR id bal pos (marks.set k v)).2 = 0 ∨ (equityR id bal pos (marks.set k v)).2 = 7 := fun v hv => equity_set h hk hv
  rw [e]
  generalize n - pos.getD k 0 * marks.getD k 0 = rest at sh ⊢
  generalize hqv : pos.getD k 0 = q at hq c1 c2 sh ⊢
  have b1 : 1 ≤ middleR 1 (evenR rest q) 10000 := by unfold middleR; omega
  have b2 : middleR 1 (evenR rest q) 10000 ≤ 10000 := by unfold middleR; omega
  refine ⟨b1, b2, ways _ (betw_mk (by omega)), ?_, ?_, ?_⟩
  · intro g1 g2 g3
    rw [sh _ g1]
    by_cases hs : 0 < q
    · exact (even_up_of hs c2 g2 g3).1
    · exact (even_down_of (by omega) c1 g2 g3).1
  · intro hs g2 g3
    rw [hqv] at hs
    rcases ways (middleR 1 (evenR rest q) 10000 - 1) (betw_mk (by omega)) with g | g
    · exact .inl ⟨g, by rw [sh _ g]; exact (even_up_of hs c2 g2 g3).2⟩
    · exact .inr g
  · intro hs g2 g3
    rw [hqv] at hs
    rcases ways (middleR 1 (evenR rest q) 10000 + 1) (betw_mk (by omega)) with g | g
    · exact .inl ⟨g, by rw [sh _ g]; exact (even_down_of hs c1 g2 g3).2⟩
    · exact .inr g

theorem row_set {W : World} {g k : Nat} {xs : List Int} {v : Int} (h : Row W (some ⟨g, 0, none⟩) xs) (hk : k < xs.length) : Row (W.setCell ⟨g, k, none⟩ (.int .i64 v)) (some ⟨g, 0, none⟩) (xs.set k v) := by
  rcases h with rfl | ⟨b, off, e, hc⟩
  · simp at hk
  · cases e
    refine .inr ⟨g, 0, rfl, fun i hi => ?_⟩
    rw [List.length_set] at hi
    by_cases hik : i = k
    · subst hik
      rw [show 0 + i = i by omega, World.cell?_setCell_same' _ _ _ (by have := hc i hi; rw [show 0 + i = i by omega] at this; rw [this]; rfl)]
      simp only [List.getD_eq_getElem?_getD]
      rw [List.getElem?_set_self hi]
      rfl
    · rw [World.cell?_setCell_other _ _ _ _ (by intro e; cases e; omega), hc i hi]
      simp only [List.getD_eq_getElem?_getD]
      rw [List.getElem?_set_ne (fun e => hik e.symm)]
theorem cell_set {W : World} {s g k i : Nat} {u v : Value} (h : W.cell? ⟨s, i, none⟩ = some u) (hg : s < g) : (W.setCell ⟨g, k, none⟩ v).cell? ⟨s, i, none⟩ = some u := (World.cell?_setCell_other _ _ _ _ (by intro e; cases e; omega)).trans h
theorem frozen_in {B : Nat} {w w' : World} {a : Addr} (hb : Below B w w') (ha : a.block < B) (h : w.frozen? a = false) : w'.frozen? a = false := (World.frozen?_of_block (hb.block a.block ha)).trans h
theorem row_cell {W : World} {g k : Nat} {xs : List Int} (h : Row W (some ⟨g, 0, none⟩) xs) (hk : k < xs.length) : W.cell? ⟨g, k, none⟩ = some (.int .i64 (xs.getD k 0)) := by
  rcases h with rfl | ⟨b, off, e, hc⟩
  · simp at hk
  · cases e
    have := hc k hk
    rwa [show 0 + k = k by omega] at this

set_option maxHeartbeats 4000000 in
set_option maxRecDepth 100000 in
theorem holds_bad (p p' : Option Addr) (nb c na c' : Nat) (idx last : Int) (id bal : Int) (ap mp : Option Addr) (n ac n2 mc : Nat) (mk : Int) (w : World) (mv me x y m : Int) (sb sc : Bool) (se : Int) (bp be : Int)
    (i1 : me = 0 → 1 ≤ idx) (i2 : me = 0 → idx ≤ 10000) (hmv : me = 0 → 1 ≤ mv ∧ idx - idx.tdiv 20 ≤ mv ∧ mv ≤ idx + idx.tdiv 20) (hxy : m = 0 → 0 ≤ y ∧ y ≤ x) (hs : se = 0 → sb = true → sc = true) (hbad : ¬ m = 0 ∨ ¬ be = 0)
    (MK : Hid (∀ W, Below w.heap.size w W → Calls Tryd.prog 18 #[mktV p p' nb c na c' idx last] W fun e w' => e = .returned (.tuple #[.int .i64 mv, .int .i64 me]) ∧ Below W.heap.size W w'))
    (MA : Hid (∀ W, Below w.heap.size w W → Calls Tryd.prog 8 #[accV id bal ap n ac, .slice mp n2 mc] W fun e w' => e = .returned (.tuple #[.int .i64 x, .int .i64 y, .int .i64 m]) ∧ Below W.heap.size W w'))
    (WE : Hid (∀ W, Below w.heap.size w W → Calls Tryd.prog 15 #[] W fun e w' => e = .returned (.bool true) ∧ Below W.heap.size W w'))
    (SO : Hid (∀ W, Below w.heap.size w W → Calls Tryd.prog 9 #[accV id bal ap n ac, .slice mp n2 mc] W fun e w' => e = .returned (.tuple #[.bool sb, .bool sc, .int .i64 se]) ∧ Below W.heap.size W w'))
    (BA : Hid (∀ W, Below w.heap.size w W → Calls Tryd.prog 10 #[accV id bal ap n ac, .slice mp n2 mc, .int .i64 mk] W fun e w' => e = .returned (.tuple #[.int .i64 bp, .int .i64 be]) ∧ Below W.heap.size W w')) :
    Calls Tryd.prog 4 #[mktV p p' nb c na c' idx last, accV id bal ap n ac, .slice mp n2 mc, .int .i64 mk] w fun e w' => e = .returned (.bool true) ∧ Below w.heap.size w w' := by
  have t0 : me = 0 → 0 ≤ idx.tdiv 20 ∧ idx.tdiv 20 ≤ 10000 := fun e => by
    have := i1 e
    have := i2 e
    rw [Int.tdiv_eq_ediv_of_nonneg (by omega)]
    omega
  by_cases hme : me = 0
  · subst hme
    obtain ⟨k1, k2, k3⟩ := hmv rfl
    have j1 := i1 rfl
    have j2 := i2 rfl
    obtain ⟨j3, j4⟩ := t0 rfl
    clear i1 i2 hmv t0
    by_cases hm : m = 0
    · subst hm
      obtain ⟨y1, y2⟩ := hxy rfl
      have hbe : ¬ be = 0 := hbad.elim (fun e => absurd rfl e) (fun e => e)
      clear hbad hxy
      by_cases hse : se = 0
      · subst hse
        cases sb with
        | false =>
          go_enter Tryd.func4, Tryd.ntmps4
          go_wp2_with fail
          refine (MK.out _ (below_alloc2 w _ _)).mono ?_
          rintro e W1 ⟨rfl, hb1⟩
          have B1 := hide ((below_alloc2 w (mktO p p' nb c na c' idx last) (accO id bal ap n ac)).trans (hb1.mono (by simp; omega)))
          have a2 := cell_in hb1 (cell_alloc (new_cell w _ _ 2 _ rfl) _) (by simp; omega)
          have b0 := cell_in hb1 (new_cell2 w _ _ _ 0 _ rfl) (by simp)
          have b1 := cell_in hb1 (new_cell2 w _ _ _ 1 _ rfl) (by simp)
          have b2 := cell_in hb1 (new_cell2 w _ _ _ 2 _ rfl) (by simp)
          clear hb1
          go_wp2_with fail
          refine (MA.out _ B1.out).mono ?_
          rintro e W2 ⟨rfl, hb2⟩
          have B2 := hide (B1.out.trans (hb2.mono B1.out.size))
          have b0 := cell_in hb2 b0 (World.block_lt_of_cell? _ _ b0)
          have b1 := cell_in hb2 b1 (World.block_lt_of_cell? _ _ b1)
          have b2 := cell_in hb2 b2 (World.block_lt_of_cell? _ _ b2)
          clear hb2
          go_wp2_with fail
          refine (WE.out _ B2.out).mono ?_
          rintro e W3 ⟨rfl, hb3⟩
          have B3 := hide (B2.out.trans (hb3.mono B2.out.size))
          have b0 := cell_in hb3 b0 (World.block_lt_of_cell? _ _ b0)
          have b1 := cell_in hb3 b1 (World.block_lt_of_cell? _ _ b1)
          have b2 := cell_in hb3 b2 (World.block_lt_of_cell? _ _ b2)
          clear hb3
          go_wp2_with fail
          refine (SO.out _ B3.out).mono ?_
          rintro e W4 ⟨rfl, hb4⟩
          have B4 := hide (B3.out.trans (hb4.mono B3.out.size))
          have b0 := cell_in hb4 b0 (World.block_lt_of_cell? _ _ b0)
          have b1 := cell_in hb4 b1 (World.block_lt_of_cell? _ _ b1)
          have b2 := cell_in hb4 b2 (World.block_lt_of_cell? _ _ b2)
          clear hb4
          go_wp2_with fail
          refine (BA.out _ B4.out).mono ?_
          rintro e W5 ⟨rfl, hb5⟩
          have B5 := hide (B4.out.trans (hb5.mono B4.out.size))
          have b0 := cell_in hb5 b0 (World.block_lt_of_cell? _ _ b0)
          have b1 := cell_in hb5 b1 (World.block_lt_of_cell? _ _ b1)
          have b2 := cell_in hb5 b2 (World.block_lt_of_cell? _ _ b2)
          clear hb5
          go_wp2
          go_ret
          exact ⟨rfl, B5.out⟩
        | true =>
          obtain rfl := hs rfl rfl
          go_enter Tryd.func4, Tryd.ntmps4
          go_wp2_with fail
          refine (MK.out _ (below_alloc2 w _ _)).mono ?_
          rintro e W1 ⟨rfl, hb1⟩
          have B1 := hide ((below_alloc2 w (mktO p p' nb c na c' idx last) (accO id bal ap n ac)).trans (hb1.mono (by simp; omega)))
          have a2 := cell_in hb1 (cell_alloc (new_cell w _ _ 2 _ rfl) _) (by simp; omega)
          have b0 := cell_in hb1 (new_cell2 w _ _ _ 0 _ rfl) (by simp)
          have b1 := cell_in hb1 (new_cell2 w _ _ _ 1 _ rfl) (by simp)
          have b2 := cell_in hb1 (new_cell2 w _ _ _ 2 _ rfl) (by simp)
          clear hb1
          go_wp2_with fail
          refine (MA.out _ B1.out).mono ?_
          rintro e W2 ⟨rfl, hb2⟩
          have B2 := hide (B1.out.trans (hb2.mono B1.out.size))
          have b0 := cell_in hb2 b0 (World.block_lt_of_cell? _ _ b0)
          have b1 := cell_in hb2 b1 (World.block_lt_of_cell? _ _ b1)
          have b2 := cell_in hb2 b2 (World.block_lt_of_cell? _ _ b2)
          clear hb2
          go_wp2_with fail
          refine (WE.out _ B2.out).mono ?_
          rintro e W3 ⟨rfl, hb3⟩
          have B3 := hide (B2.out.trans (hb3.mono B2.out.size))
          have b0 := cell_in hb3 b0 (World.block_lt_of_cell? _ _ b0)
          have b1 := cell_in hb3 b1 (World.block_lt_of_cell? _ _ b1)
          have b2 := cell_in hb3 b2 (World.block_lt_of_cell? _ _ b2)
          clear hb3
          go_wp2_with fail
          refine (SO.out _ B3.out).mono ?_
          rintro e W4 ⟨rfl, hb4⟩
          have B4 := hide (B3.out.trans (hb4.mono B3.out.size))
          have b0 := cell_in hb4 b0 (World.block_lt_of_cell? _ _ b0)
          have b1 := cell_in hb4 b1 (World.block_lt_of_cell? _ _ b1)
          have b2 := cell_in hb4 b2 (World.block_lt_of_cell? _ _ b2)
          clear hb4
          go_wp2_with fail
          refine (BA.out _ B4.out).mono ?_
          rintro e W5 ⟨rfl, hb5⟩
          have B5 := hide (B4.out.trans (hb5.mono B4.out.size))
          have b0 := cell_in hb5 b0 (World.block_lt_of_cell? _ _ b0)
          have b1 := cell_in hb5 b1 (World.block_lt_of_cell? _ _ b1)
          have b2 := cell_in hb5 b2 (World.block_lt_of_cell? _ _ b2)
          clear hb5
          go_wp2
          go_ret
          exact ⟨rfl, B5.out⟩
      · go_enter Tryd.func4, Tryd.ntmps4
        go_wp2_with fail
        refine (MK.out _ (below_alloc2 w _ _)).mono ?_
        rintro e W1 ⟨rfl, hb1⟩
        have B1 := hide ((below_alloc2 w (mktO p p' nb c na c' idx last) (accO id bal ap n ac)).trans (hb1.mono (by simp; omega)))
        have a2 := cell_in hb1 (cell_alloc (new_cell w _ _ 2 _ rfl) _) (by simp; omega)
        have b0 := cell_in hb1 (new_cell2 w _ _ _ 0 _ rfl) (by simp)
        have b1 := cell_in hb1 (new_cell2 w _ _ _ 1 _ rfl) (by simp)
        have b2 := cell_in hb1 (new_cell2 w _ _ _ 2 _ rfl) (by simp)
        clear hb1
        go_wp2_with fail
        refine (MA.out _ B1.out).mono ?_
        rintro e W2 ⟨rfl, hb2⟩
        have B2 := hide (B1.out.trans (hb2.mono B1.out.size))
        have b0 := cell_in hb2 b0 (World.block_lt_of_cell? _ _ b0)
        have b1 := cell_in hb2 b1 (World.block_lt_of_cell? _ _ b1)
        have b2 := cell_in hb2 b2 (World.block_lt_of_cell? _ _ b2)
        clear hb2
        go_wp2_with fail
        refine (WE.out _ B2.out).mono ?_
        rintro e W3 ⟨rfl, hb3⟩
        have B3 := hide (B2.out.trans (hb3.mono B2.out.size))
        have b0 := cell_in hb3 b0 (World.block_lt_of_cell? _ _ b0)
        have b1 := cell_in hb3 b1 (World.block_lt_of_cell? _ _ b1)
        have b2 := cell_in hb3 b2 (World.block_lt_of_cell? _ _ b2)
        clear hb3
        go_wp2_with fail
        refine (SO.out _ B3.out).mono ?_
        rintro e W4 ⟨rfl, hb4⟩
        have B4 := hide (B3.out.trans (hb4.mono B3.out.size))
        have b0 := cell_in hb4 b0 (World.block_lt_of_cell? _ _ b0)
        have b1 := cell_in hb4 b1 (World.block_lt_of_cell? _ _ b1)
        have b2 := cell_in hb4 b2 (World.block_lt_of_cell? _ _ b2)
        clear hb4
        go_wp2_with fail
        refine (BA.out _ B4.out).mono ?_
        rintro e W5 ⟨rfl, hb5⟩
        have B5 := hide (B4.out.trans (hb5.mono B4.out.size))
        have b0 := cell_in hb5 b0 (World.block_lt_of_cell? _ _ b0)
        have b1 := cell_in hb5 b1 (World.block_lt_of_cell? _ _ b1)
        have b2 := cell_in hb5 b2 (World.block_lt_of_cell? _ _ b2)
        clear hb5
        go_wp2
        go_ret
        exact ⟨rfl, B5.out⟩
    · clear hbad hxy hs SO BA
      go_enter Tryd.func4, Tryd.ntmps4
      go_wp2_with fail
      refine (MK.out _ (below_alloc2 w _ _)).mono ?_
      rintro e W1 ⟨rfl, hb1⟩
      have B1 := hide ((below_alloc2 w (mktO p p' nb c na c' idx last) (accO id bal ap n ac)).trans (hb1.mono (by simp; omega)))
      have a2 := cell_in hb1 (cell_alloc (new_cell w _ _ 2 _ rfl) _) (by simp; omega)
      have b0 := cell_in hb1 (new_cell2 w _ _ _ 0 _ rfl) (by simp)
      have b1 := cell_in hb1 (new_cell2 w _ _ _ 1 _ rfl) (by simp)
      have b2 := cell_in hb1 (new_cell2 w _ _ _ 2 _ rfl) (by simp)
      clear hb1
      go_wp2_with fail
      refine (MA.out _ B1.out).mono ?_
      rintro e W2 ⟨rfl, hb2⟩
      have B2 := hide (B1.out.trans (hb2.mono B1.out.size))
      have b0 := cell_in hb2 b0 (World.block_lt_of_cell? _ _ b0)
      have b1 := cell_in hb2 b1 (World.block_lt_of_cell? _ _ b1)
      have b2 := cell_in hb2 b2 (World.block_lt_of_cell? _ _ b2)
      clear hb2
      go_wp2_with fail
      refine (WE.out _ B2.out).mono ?_
      rintro e W3 ⟨rfl, hb3⟩
      have B3 := hide (B2.out.trans (hb3.mono B2.out.size))
      have b0 := cell_in hb3 b0 (World.block_lt_of_cell? _ _ b0)
      have b1 := cell_in hb3 b1 (World.block_lt_of_cell? _ _ b1)
      have b2 := cell_in hb3 b2 (World.block_lt_of_cell? _ _ b2)
      clear hb3
      go_wp2_with fail
      refine (WE.out _ B3.out).mono ?_
      rintro e W4 ⟨rfl, hb4⟩
      go_wp2
      go_ret
      exact ⟨rfl, B3.out.trans (hb4.mono B3.out.size)⟩
  · clear i1 i2 hmv t0
    by_cases hm : m = 0
    · subst hm
      obtain ⟨y1, y2⟩ := hxy rfl
      have hbe : ¬ be = 0 := hbad.elim (fun e => absurd rfl e) (fun e => e)
      clear hbad hxy
      by_cases hse : se = 0
      · subst hse
        cases sb with
        | false =>
          go_enter Tryd.func4, Tryd.ntmps4
          go_wp2_with fail
          refine (MK.out _ (below_alloc2 w _ _)).mono ?_
          rintro e W1 ⟨rfl, hb1⟩
          have B1 := hide ((below_alloc2 w (mktO p p' nb c na c' idx last) (accO id bal ap n ac)).trans (hb1.mono (by simp; omega)))
          have a2 := cell_in hb1 (cell_alloc (new_cell w _ _ 2 _ rfl) _) (by simp; omega)
          have b0 := cell_in hb1 (new_cell2 w _ _ _ 0 _ rfl) (by simp)
          have b1 := cell_in hb1 (new_cell2 w _ _ _ 1 _ rfl) (by simp)
          have b2 := cell_in hb1 (new_cell2 w _ _ _ 2 _ rfl) (by simp)
          clear hb1
          go_wp2_with fail
          refine (MA.out _ B1.out).mono ?_
          rintro e W2 ⟨rfl, hb2⟩
          have B2 := hide (B1.out.trans (hb2.mono B1.out.size))
          have b0 := cell_in hb2 b0 (World.block_lt_of_cell? _ _ b0)
          have b1 := cell_in hb2 b1 (World.block_lt_of_cell? _ _ b1)
          have b2 := cell_in hb2 b2 (World.block_lt_of_cell? _ _ b2)
          clear hb2
          go_wp2_with fail
          refine (WE.out _ B2.out).mono ?_
          rintro e W3 ⟨rfl, hb3⟩
          have B3 := hide (B2.out.trans (hb3.mono B2.out.size))
          have b0 := cell_in hb3 b0 (World.block_lt_of_cell? _ _ b0)
          have b1 := cell_in hb3 b1 (World.block_lt_of_cell? _ _ b1)
          have b2 := cell_in hb3 b2 (World.block_lt_of_cell? _ _ b2)
          clear hb3
          go_wp2_with fail
          refine (SO.out _ B3.out).mono ?_
          rintro e W4 ⟨rfl, hb4⟩
          have B4 := hide (B3.out.trans (hb4.mono B3.out.size))
          have b0 := cell_in hb4 b0 (World.block_lt_of_cell? _ _ b0)
          have b1 := cell_in hb4 b1 (World.block_lt_of_cell? _ _ b1)
          have b2 := cell_in hb4 b2 (World.block_lt_of_cell? _ _ b2)
          clear hb4
          go_wp2_with fail
          refine (BA.out _ B4.out).mono ?_
          rintro e W5 ⟨rfl, hb5⟩
          have B5 := hide (B4.out.trans (hb5.mono B4.out.size))
          have b0 := cell_in hb5 b0 (World.block_lt_of_cell? _ _ b0)
          have b1 := cell_in hb5 b1 (World.block_lt_of_cell? _ _ b1)
          have b2 := cell_in hb5 b2 (World.block_lt_of_cell? _ _ b2)
          clear hb5
          go_wp2
          go_ret
          exact ⟨rfl, B5.out⟩
        | true =>
          obtain rfl := hs rfl rfl
          go_enter Tryd.func4, Tryd.ntmps4
          go_wp2_with fail
          refine (MK.out _ (below_alloc2 w _ _)).mono ?_
          rintro e W1 ⟨rfl, hb1⟩
          have B1 := hide ((below_alloc2 w (mktO p p' nb c na c' idx last) (accO id bal ap n ac)).trans (hb1.mono (by simp; omega)))
          have a2 := cell_in hb1 (cell_alloc (new_cell w _ _ 2 _ rfl) _) (by simp; omega)
          have b0 := cell_in hb1 (new_cell2 w _ _ _ 0 _ rfl) (by simp)
          have b1 := cell_in hb1 (new_cell2 w _ _ _ 1 _ rfl) (by simp)
          have b2 := cell_in hb1 (new_cell2 w _ _ _ 2 _ rfl) (by simp)
          clear hb1
          go_wp2_with fail
          refine (MA.out _ B1.out).mono ?_
          rintro e W2 ⟨rfl, hb2⟩
          have B2 := hide (B1.out.trans (hb2.mono B1.out.size))
          have b0 := cell_in hb2 b0 (World.block_lt_of_cell? _ _ b0)
          have b1 := cell_in hb2 b1 (World.block_lt_of_cell? _ _ b1)
          have b2 := cell_in hb2 b2 (World.block_lt_of_cell? _ _ b2)
          clear hb2
          go_wp2_with fail
          refine (WE.out _ B2.out).mono ?_
          rintro e W3 ⟨rfl, hb3⟩
          have B3 := hide (B2.out.trans (hb3.mono B2.out.size))
          have b0 := cell_in hb3 b0 (World.block_lt_of_cell? _ _ b0)
          have b1 := cell_in hb3 b1 (World.block_lt_of_cell? _ _ b1)
          have b2 := cell_in hb3 b2 (World.block_lt_of_cell? _ _ b2)
          clear hb3
          go_wp2_with fail
          refine (SO.out _ B3.out).mono ?_
          rintro e W4 ⟨rfl, hb4⟩
          have B4 := hide (B3.out.trans (hb4.mono B3.out.size))
          have b0 := cell_in hb4 b0 (World.block_lt_of_cell? _ _ b0)
          have b1 := cell_in hb4 b1 (World.block_lt_of_cell? _ _ b1)
          have b2 := cell_in hb4 b2 (World.block_lt_of_cell? _ _ b2)
          clear hb4
          go_wp2_with fail
          refine (BA.out _ B4.out).mono ?_
          rintro e W5 ⟨rfl, hb5⟩
          have B5 := hide (B4.out.trans (hb5.mono B4.out.size))
          have b0 := cell_in hb5 b0 (World.block_lt_of_cell? _ _ b0)
          have b1 := cell_in hb5 b1 (World.block_lt_of_cell? _ _ b1)
          have b2 := cell_in hb5 b2 (World.block_lt_of_cell? _ _ b2)
          clear hb5
          go_wp2
          go_ret
          exact ⟨rfl, B5.out⟩
      · go_enter Tryd.func4, Tryd.ntmps4
        go_wp2_with fail
        refine (MK.out _ (below_alloc2 w _ _)).mono ?_
        rintro e W1 ⟨rfl, hb1⟩
        have B1 := hide ((below_alloc2 w (mktO p p' nb c na c' idx last) (accO id bal ap n ac)).trans (hb1.mono (by simp; omega)))
        have a2 := cell_in hb1 (cell_alloc (new_cell w _ _ 2 _ rfl) _) (by simp; omega)
        have b0 := cell_in hb1 (new_cell2 w _ _ _ 0 _ rfl) (by simp)
        have b1 := cell_in hb1 (new_cell2 w _ _ _ 1 _ rfl) (by simp)
        have b2 := cell_in hb1 (new_cell2 w _ _ _ 2 _ rfl) (by simp)
        clear hb1
        go_wp2_with fail
        refine (MA.out _ B1.out).mono ?_
        rintro e W2 ⟨rfl, hb2⟩
        have B2 := hide (B1.out.trans (hb2.mono B1.out.size))
        have b0 := cell_in hb2 b0 (World.block_lt_of_cell? _ _ b0)
        have b1 := cell_in hb2 b1 (World.block_lt_of_cell? _ _ b1)
        have b2 := cell_in hb2 b2 (World.block_lt_of_cell? _ _ b2)
        clear hb2
        go_wp2_with fail
        refine (WE.out _ B2.out).mono ?_
        rintro e W3 ⟨rfl, hb3⟩
        have B3 := hide (B2.out.trans (hb3.mono B2.out.size))
        have b0 := cell_in hb3 b0 (World.block_lt_of_cell? _ _ b0)
        have b1 := cell_in hb3 b1 (World.block_lt_of_cell? _ _ b1)
        have b2 := cell_in hb3 b2 (World.block_lt_of_cell? _ _ b2)
        clear hb3
        go_wp2_with fail
        refine (SO.out _ B3.out).mono ?_
        rintro e W4 ⟨rfl, hb4⟩
        have B4 := hide (B3.out.trans (hb4.mono B3.out.size))
        have b0 := cell_in hb4 b0 (World.block_lt_of_cell? _ _ b0)
        have b1 := cell_in hb4 b1 (World.block_lt_of_cell? _ _ b1)
        have b2 := cell_in hb4 b2 (World.block_lt_of_cell? _ _ b2)
        clear hb4
        go_wp2_with fail
        refine (BA.out _ B4.out).mono ?_
        rintro e W5 ⟨rfl, hb5⟩
        have B5 := hide (B4.out.trans (hb5.mono B4.out.size))
        have b0 := cell_in hb5 b0 (World.block_lt_of_cell? _ _ b0)
        have b1 := cell_in hb5 b1 (World.block_lt_of_cell? _ _ b1)
        have b2 := cell_in hb5 b2 (World.block_lt_of_cell? _ _ b2)
        clear hb5
        go_wp2
        go_ret
        exact ⟨rfl, B5.out⟩
    · clear hbad hxy hs SO BA
      go_enter Tryd.func4, Tryd.ntmps4
      go_wp2_with fail
      refine (MK.out _ (below_alloc2 w _ _)).mono ?_
      rintro e W1 ⟨rfl, hb1⟩
      have B1 := hide ((below_alloc2 w (mktO p p' nb c na c' idx last) (accO id bal ap n ac)).trans (hb1.mono (by simp; omega)))
      have a2 := cell_in hb1 (cell_alloc (new_cell w _ _ 2 _ rfl) _) (by simp; omega)
      have b0 := cell_in hb1 (new_cell2 w _ _ _ 0 _ rfl) (by simp)
      have b1 := cell_in hb1 (new_cell2 w _ _ _ 1 _ rfl) (by simp)
      have b2 := cell_in hb1 (new_cell2 w _ _ _ 2 _ rfl) (by simp)
      clear hb1
      go_wp2_with fail
      refine (MA.out _ B1.out).mono ?_
      rintro e W2 ⟨rfl, hb2⟩
      have B2 := hide (B1.out.trans (hb2.mono B1.out.size))
      have b0 := cell_in hb2 b0 (World.block_lt_of_cell? _ _ b0)
      have b1 := cell_in hb2 b1 (World.block_lt_of_cell? _ _ b1)
      have b2 := cell_in hb2 b2 (World.block_lt_of_cell? _ _ b2)
      clear hb2
      go_wp2_with fail
      refine (WE.out _ B2.out).mono ?_
      rintro e W3 ⟨rfl, hb3⟩
      have B3 := hide (B2.out.trans (hb3.mono B2.out.size))
      have b0 := cell_in hb3 b0 (World.block_lt_of_cell? _ _ b0)
      have b1 := cell_in hb3 b1 (World.block_lt_of_cell? _ _ b1)
      have b2 := cell_in hb3 b2 (World.block_lt_of_cell? _ _ b2)
      clear hb3
      go_wp2_with fail
      refine (WE.out _ B3.out).mono ?_
      rintro e W4 ⟨rfl, hb4⟩
      go_wp2
      go_ret
      exact ⟨rfl, B3.out.trans (hb4.mono B3.out.size)⟩
end Go.Proofs.YtkdkdhpllffjnabDoor.Rm
