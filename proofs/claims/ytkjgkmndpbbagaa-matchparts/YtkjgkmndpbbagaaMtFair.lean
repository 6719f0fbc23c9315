/-
  The law MatchFair by contracts: what holds at each round; an order that may not come.
-/
import Derived.Test.YtkjgkmndpbbagaaMtMat
import Derived.Test.YtkjgkmndpbbagaaMtFairP
import Derived.Test.YtkjgkmndpbbagaaBkOrd
namespace Go.Proofs.Ytkjgkmndpbbagaa.Bk
open Go.RowKit Go.Sort Go.Maps Go.Proofs.Ytkjgkmndpbbagaa.Mix

/-- what holds at each round: behind W6 nothing below the block t11 has turned; t11 holds this book. -/
structure FInv (W6 : World) (t11 : Nat) (wr : World) (r1 r2 : Option Addr) (d1 d2 : Nat) (NB NA : List Odr) : Prop where
  bel : Below t11 W6 wr
  two : Two wr t11
  c0 : wr.cell? ⟨t11, 0, none⟩ = some (.slice r1 NB.length d1)
  c1 : wr.cell? ⟨t11, 1, none⟩ = some (.slice r2 NA.length d2)
  b : OV wr r1 d1 NB
  a : OV wr r2 d2 NA
  fb : Far t11 r1 NB
  fa : Far t11 r2 NA
theorem FInv.below {W6 : World} {t11 : Nat} {wr x : World} {r1 r2 : Option Addr} {d1 d2 : Nat} {NB NA : List Odr} (h : FInv W6 t11 wr r1 r2 d1 d2 NB NA) (hb : Below wr.heap.size wr x) : FInv W6 t11 x r1 r2 d1 d2 NB NA := by
  have ht := two_lt h.two
  exact ⟨h.bel.trans (hb.mono (Nat.le_of_lt ht)), two_below h.two hb, (hb.cell ht).trans h.c0, (hb.cell ht).trans h.c1, h.b.below hb, h.a.below hb, h.fb, h.fa⟩
theorem FInv.next {W6 : World} {t11 : Nat} {wr x : World} {r1 r2 : Option Addr} {d1 d2 : Nat} {NB NA : List Odr} (h : FInv W6 t11 wr r1 r2 d1 d2 NB NA) (hb : Below wr.heap.size wr x) {q1 q2 : Option Addr} {e1 e2 : Nat} {MB MA : List Odr}
    (hB : OV x q1 e1 MB) (hA : OV x q2 e2 MA) (g1 : ∀ a, q1 = some a → wr.heap.size ≤ a.block) (g2 : ∀ a, q2 = some a → wr.heap.size ≤ a.block) :
    FInv W6 t11 ((x.setCell ⟨t11, 0, none⟩ (.slice q1 MB.length e1)).setCell ⟨t11, 1, none⟩ (.slice q2 MA.length e2)) q1 q2 e1 e2 MB MA := by
  have ht := two_lt h.two
  have hx := two_below h.two hb
  have hs := two_set hx (.slice q1 MB.length e1) (.slice q2 MA.length e2)
  have n1 : ∀ a, q1 = some a → a.block ≠ t11 := fun a ha => by have := g1 a ha; omega
  have n2 : ∀ a, q2 = some a → a.block ≠ t11 := fun a ha => by have := g2 a ha; omega
  exact ⟨two_below_set (h.bel.trans (hb.mono (Nat.le_of_lt ht))) (Nat.le_refl _) _ _, two_again hx _ _, hs.1, hs.2, ov_two hB n1 _ _, ov_two hA n2 _ _, .inr n1, .inr n2⟩

theorem FInv.drew {W6 : World} {t11 : Nat} {wr : World} {r1 r2 : Option Addr} {d1 d2 : Nat} {NB NA : List Odr} (h : FInv W6 t11 wr r1 r2 d1 d2 NB NA) : FInv W6 t11 wr.drew r1 r2 d1 d2 NB NA :=
  ⟨h.bel.drew, h.two, h.c0, h.c1, ⟨h.b.row, h.b.nil, h.b.cap⟩, ⟨h.a.row, h.a.nil, h.a.cap⟩, h.fb, h.fa⟩
theorem made2_two (w : World) (u0 u1 : Value) (o : Obj) : Two ((w.alloc (.cells #[u0, u1] 42)).alloc o) w.heap.size :=
  ⟨u0, u1, by rw [Below.heap_alloc _ _ _ (by simp)]; exact heap_alloc_new _ _⟩
theorem two_set1 {x : World} {t s k : Nat} (h : Two x t) (hn : t ≠ s) (v : Value) : Two (x.setCell ⟨s, k, none⟩ v) t := by
  obtain ⟨u0, u1, h⟩ := h
  exact ⟨u0, u1, (Below.heap_setCell x ⟨s, k, none⟩ v t hn).trans h⟩
theorem wrap_in (n : Int) (h : -9223372036854775808 ≤ n ∧ n ≤ 9223372036854775807) : wrap64 n = n := by unfold wrap64; omega
/-- so these cells read. -/
def Cells (X : World) : List (Addr × Value) → Prop
  | [] => True
  | e :: l => X.cell? e.1 = some e.2 ∧ Cells X l
theorem cells_below {X Y : World} (hb : Below X.heap.size X Y) : ∀ {l : List (Addr × Value)}, Cells X l → Cells Y l
  | [], _ => trivial
  | _ :: _, h => ⟨(hb.cell (World.block_lt_of_cell? _ _ h.1)).trans h.1, cells_below hb h.2⟩
theorem cells_set {X : World} {t o : Nat} (v : Value) : ∀ {l : List (Addr × Value)}, (∀ e, e ∈ l → e.1.block ≠ t) → Cells X l → Cells (X.setCell ⟨t, o, none⟩ v) l
  | [], _, _ => trivial
  | _ :: _, hn, h => ⟨(set_other X (hn _ (by simp)) o v).trans h.1, cells_set v (fun e he => hn e (by simp [he])) h.2⟩

set_option maxHeartbeats 1000000 in
set_option maxRecDepth 100000 in
theorem fair_bad (p p' : Option Addr) (c c' : Nat) (bids asks : List Odr) (a ac sd pr q how : Int) (w : World) (h : OV w p c bids) (h' : OV w p' c' asks) (hn : bids.length ≤ 140737488351232) (hn' : asks.length ≤ 140737488351232) (he : ¬ comeE bids asks (a, ac, sd, pr, q) how = 0) :
    Calls Try.prog 11 #[.agg #[.slice p bids.length c, .slice p' asks.length c'], .agg #[.int .i64 a, .int .i64 ac, .int .i64 sd, .int .i64 pr, .int .i64 q], .int .i64 how] w fun e w' => e = .returned (.bool true) ∧ Below w.heap.size w w' := by
  have hb0 : ∀ o1 o2, Below w.heap.size w ((w.alloc o1).alloc o2) := fun o1 o2 => ((Below.refl _ w).alloc (Nat.le_refl _) _).alloc (by simp) _
  have CO := hide (fun X (hX : Below w.heap.size w X) => come_bad p p' c c' bids asks (a, ac, sd, pr, q) how X (h.below hX) (h'.below hX) hn hn' he)
  have MT := hide matched_any
  generalize comeE bids asks (a, ac, sd, pr, q) how = r at he CO
  have er : (r == 0) = false := by simp [he]
  generalize bids.length = nb at CO ⊢
  generalize asks.length = na at CO ⊢
  clear h h' hn hn' he
  go_enter Try.func11, Try.ntmps11
  go_wp2_with fail
  refine (CO.out _ (hb0 _ _)).mono ?_
  rintro e w2 ⟨rfl, b2⟩
  have B2 := (hb0 (.cells #[.slice p nb c, .slice p' na c'] 42) (.cells #[.int .i64 a, .int .i64 ac, .int .i64 sd, .int .i64 pr, .int .i64 q] 44)).trans (b2.mono (by simp; omega))
  have B3 := hide (B2.alloc B2.size (.cells #[.slice none 0 0, .slice none 0 0] 42))
  clear b2 B2 CO hb0
  go_wp2_with fail
  refine (MT.out _).mono ?_
  rintro e w3 ⟨rfl, b3⟩
  have B4 := hide (B3.out.trans (b3.mono B3.out.size))
  clear b3 B3
  go_wp2_with fail
  refine (MT.out _).mono ?_
  rintro e w4 ⟨rfl, b4⟩
  have B5 := hide (B4.out.trans (b4.mono B4.out.size))
  clear b4 B4
  go_wp2
  go_ret
  exact ⟨rfl, B5.out⟩
end Go.Proofs.Ytkjgkmndpbbagaa.Bk
