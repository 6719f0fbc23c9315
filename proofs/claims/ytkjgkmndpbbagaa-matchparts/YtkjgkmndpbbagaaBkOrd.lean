/-
  The law BookOrder, by contracts.
-/
import Derived.Test.YtkjgkmndpbbagaaBkShelf
import Derived.Test.YtkjgkmndpbbagaaBkClone
import Derived.Test.YtkjgkmndpbbagaaBkOrdP
import Derived.Test.YtkjgkmndpbbagaaMix2
namespace Go.Proofs.Ytkjgkmndpbbagaa.Bk
open Go.RowKit Go.Sort Go.Maps Go.Proofs.Ytkjgkmndpbbagaa.Mix

theorem at_bd (k n : Int) (hn : 1 ≤ n) : 0 ≤ k % n ∧ k % n < n := ⟨Int.emod_nonneg _ (by omega), Int.emod_lt_of_pos _ (by omega)⟩
theorem at_way {k n : Int} (hn : 1 ≤ n) : (k.tmod n < 0 → k.tmod n + n = k % n) ∧ (¬ k.tmod n < 0 → k.tmod n = k % n) := by
  have e := Int.mul_tdiv_add_tmod k n
  have l := Int.tmod_lt_of_pos k (b := n) (by omega)
  have g := Int.lt_tmod_of_pos k (b := n) (by omega)
  constructor
  · intro m
    have := ((Int.ediv_emod_unique (a := k) (b := n) (r := k.tmod n + n) (q := k.tdiv n - 1) (by omega)).2 ⟨by rw [Int.mul_sub]; omega, by omega, by omega⟩).2
    exact this.symm
  · intro m
    have := ((Int.ediv_emod_unique (a := k) (b := n) (r := k.tmod n) (q := k.tdiv n) (by omega)).2 ⟨by omega, by omega, by omega⟩).2
    exact this.symm
theorem at_any (k n : Int) (w : World) (hn : 1 ≤ n) (hn2 : n ≤ 1000000000000000) :
    Calls Try.prog 27 #[.int .i64 k, .int .i64 n] w fun e w' => e = .returned (.int .i64 (k % n)) ∧ w' = w := by
  have H1 := hide (at_way (k := k) hn).1
  have H2 := hide (at_way (k := k) hn).2
  have l := Int.tmod_lt_of_pos k (b := n) (by omega)
  have g := Int.lt_tmod_of_pos k (b := n) (by omega)
  have hz : (n == 0) = false := by simp; omega
  by_cases h : k.tmod n < 0
  · have H := hide (unhide H1 h)
    clear H1 H2
    go_enter Try.func27, Try.ntmps27
    go_wp2
    go_ret
    exact ⟨by rw [← unhide H]; rfl, rfl⟩
  · have H := hide (unhide H2 h)
    clear H1 H2
    go_enter Try.func27, Try.ntmps27
    go_wp2
    go_ret
    exact ⟨by rw [← unhide H]; rfl, rfl⟩

/-- a slice of ints that is read: nothing, or so many cells. -/
def IRow (w : World) (a : Option Addr) (xs : List Int) : Prop :=
  xs = [] ∨ ∃ b off, a = some ⟨b, off, none⟩ ∧ ∀ i, i < xs.length → w.cell? ⟨b, off + i, none⟩ = some (.int .i64 (xs.getD i 0))
theorem irow_below {w w' : World} {a : Option Addr} {xs : List Int} (h : IRow w a xs) (hb : Below w.heap.size w w') : IRow w' a xs := by
  rcases h with rfl | ⟨b, off, rfl, hc⟩
  · exact .inl rfl
  · refine .inr ⟨b, off, rfl, fun i hi => ?_⟩
    have := hc i hi
    rw [hb.cell (World.block_lt_of_cell? w _ this)]
    exact this

/-- a row does not lie in this block. -/
def Far (t : Nat) (p : Option Addr) (xs : List Odr) : Prop := xs = [] ∨ ∀ a, p = some a → a.block ≠ t
theorem ov_far {w : World} {p : Option Addr} {c t : Nat} {xs : List Odr} (h : OV w p c xs) (hp : Far t p xs) (v0 v1 : Value) : OV ((w.setCell ⟨t, 0, none⟩ v0).setCell ⟨t, 1, none⟩ v1) p c xs := by
  rcases hp with rfl | hp
  · exact ⟨.inl rfl, h.nil, h.cap⟩
  · exact ov_two h hp v0 v1
theorem far_lt {w : World} {p : Option Addr} {c t : Nat} {xs : List Odr} (h : OV w p c xs) (ht : w.heap.size ≤ t) : Far t p xs := by
  rcases h.row with rfl | ⟨b, off, rfl, hc⟩
  · exact .inl rfl
  · by_cases hx : xs = []
    · exact .inl hx
    · refine .inr fun a ha => ?_
      cases ha
      have := World.block_lt_of_cell? w _ (hc 0 (List.length_pos_iff.2 hx) 0 _ rfl)
      simp at this
      show b ≠ t
      omega

set_option maxHeartbeats 2000000 in
set_option maxRecDepth 100000 in
theorem order_bad (p p' : Option Addr) (c c' : Nat) (bids asks : List Odr) (pk : Value) (w : World) (h : OV w p c bids) (h' : OV w p' c' asks) (hn : bids.length ≤ 140737488351232) (hn' : asks.length ≤ 140737488351232) (hbe : ¬ bookErr bids asks = 0) :
    Calls Try.prog 9 #[.agg #[.slice p bids.length c, .slice p' asks.length c'], pk] w fun e w' => e = .returned (.bool true) ∧ Below w.heap.size w w' := by
  have hb0 : ∀ o1, Below w.heap.size w (w.alloc o1) := fun o1 => ((Below.refl _ w).alloc (Nat.le_refl _) _)
  have SH := hide (fun X => shelved_any X)
  have CK := hide (fun X (hX : Below w.heap.size w X) => check_any p p' c c' bids asks X (orow_below h.row hX) (orow_below h'.row hX) hn hn')
  generalize bookErr bids asks = r at hbe CK
  generalize bids.length = nb at CK ⊢
  generalize asks.length = na at CK ⊢
  have hr : (r == 0) = false := by simp [hbe]
  clear h h' hn hn' hbe
  go_enter Try.func9, Try.ntmps9
  go_wp2_with fail
  refine (SH.out _).mono ?_
  rintro e w1 ⟨rfl, b1⟩
  have B1 := hide ((hb0 _).trans (b1.mono (by simp)))
  have e0 : w1.cell? ⟨w.heap.size, 0, none⟩ = some (.slice p nb c) := (b1.cell (by simp)).trans (new_cell _ _ _ _ _ rfl)
  have e1 : w1.cell? ⟨w.heap.size, 1, none⟩ = some (.slice p' na c') := (b1.cell (by simp)).trans (new_cell _ _ _ _ _ rfl)
  clear b1 hb0
  go_wp2_with fail
  refine (CK.out _ B1.out).mono ?_
  rintro e w2 ⟨rfl, b2⟩
  have B2 := hide (B1.out.trans (b2.mono B1.out.size))
  clear e0 e1 b2 CK B1
  go_wp2_with fail
  refine (SH.out _).mono ?_
  rintro e w3 ⟨rfl, b3⟩
  have B3 := hide (B2.out.trans (b3.mono B2.out.size))
  clear b3 B2
  go_wp2
  go_ret
  exact ⟨rfl, B3.out⟩
end Go.Proofs.Ytkjgkmndpbbagaa.Bk
