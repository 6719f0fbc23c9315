/-
  The law MatchFair by contracts: every book, every order, every kind.
-/
import Derived.Test.YtdlohodompommaaMtFairA
import Derived.Test.YtdlohodompommaaMtFairB
import Derived.Test.YtdlohodompommaaMtFairC
import Derived.Test.YtdlohodompommaaMtFairD
import Derived.Test.YtdlohodompommaaMtFairE
import Derived.Test.YtdlohodompommaaMtFairG
namespace Go.Proofs.Ytdlohodompommaa.Bk
open Go.RowKit

theorem takes_left (o : Odr) : ∀ (xs : List Odr) (left : Int), 0 ≤ left → (∀ x, x ∈ xs → 1 ≤ oqt x) → 0 ≤ (takes o left xs).2.2.1 ∧ (takes o left xs).2.2.1 ≤ left
  | [], left, h, _ => ⟨h, Int.le_refl _⟩
  | x :: l, left, h, hx => by
    unfold takes
    split
    · split
      · exact ⟨h, Int.le_refl _⟩
      · split
        · have := takes_left o l (left - oqt x) (by omega) (fun y hy => hx y (by simp [hy]))
          have := hx x (by simp)
          dsimp only
          omega
        · exact ⟨Int.le_refl _, h⟩
    · exact ⟨h, Int.le_refl _⟩

theorem fair_any (p p' : Option Addr) (c c' : Nat) (bids asks : List Odr) (a ac sd pr q how : Int) (w : World) (h : OV w p c bids) (h' : OV w p' c' asks) (hn : bids.length ≤ 140737488351232) (hn' : asks.length ≤ 140737488351232) :
    Calls Try.prog 11 #[.agg #[.slice p bids.length c, .slice p' asks.length c'], .agg #[.int .i64 a, .int .i64 ac, .int .i64 sd, .int .i64 pr, .int .i64 q], .int .i64 how] w fun e w' => e = .returned (.bool true) ∧ Below w.heap.size w w' := by
  by_cases he : comeE bids asks (a, ac, sd, pr, q) how = 0
  · obtain ⟨hR, hok, -, -, -, -, -⟩ := come_facts he
    have hq := okOrder_pq hok
    have hs := okOrder_sd hok
    dsimp only [osd, oqt, opr] at hq hs
    have hl : 0 ≤ (takeT bids asks (a, ac, sd, pr, q)).2.2.1 ∧ (takeT bids asks (a, ac, sd, pr, q)).2.2.1 ≤ q := by
      unfold takeT
      refine takes_left _ _ _ (by show 0 ≤ q; omega) ?_
      intro x hx
      by_cases hsd : sd = 1
      · rw [if_pos hsd] at hx; exact (okOrder_pq (hR.a.ok x hx)).2.2.1
      · rw [if_neg hsd] at hx; exact (okOrder_pq (hR.b.ok x hx)).2.2.1
    have hL : 0 ≤ comeL how (takeT bids asks (a, ac, sd, pr, q)).2.2.1 ∧ comeL how (takeT bids asks (a, ac, sd, pr, q)).2.2.1 ≤ 1000 := by
      unfold comeL
      split <;> omega
    by_cases hp : 0 < comeL how (takeT bids asks (a, ac, sd, pr, q)).2.2.1
    · have h2 : how = 2 := by
        unfold comeL at hp
        split at hp
        · rename_i hst
          unfold stays at hst
          simp only [Bool.or_eq_true, decide_eq_true_eq] at hst
          omega
        · omega
      rcases hs with e | e
      · exact fair_B p p' c c' bids asks a ac sd pr q how w h h' he e ⟨hL.1, hL.2, h2, hp⟩
      · exact fair_D p p' c c' bids asks a ac sd pr q how w h h' he e ⟨hL.1, hL.2, h2, hp⟩
    · by_cases h4 : how = 4
      · rcases hs with e | e
        · exact fair_E p p' c c' bids asks a ac sd pr q how w h h' he e ⟨hL.1, hp, h4⟩
        · exact fair_G p p' c c' bids asks a ac sd pr q how w h h' he e ⟨hL.1, hp, h4⟩
      · rcases hs with e | e
        · exact fair_A p p' c c' bids asks a ac sd pr q how w h h' he e ⟨hL.1, hp, h4⟩
        · exact fair_C p p' c c' bids asks a ac sd pr q how w h h' he e ⟨hL.1, hp, h4⟩
  · exact fair_bad p p' c c' bids asks a ac sd pr q how w h h' hn hn' he
end Go.Proofs.Ytdlohodompommaa.Bk
