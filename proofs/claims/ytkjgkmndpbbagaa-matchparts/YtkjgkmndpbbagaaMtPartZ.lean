/-
  The law MatchParts by contracts: every book, every order, every n.
-/
import Derived.Test.YtkjgkmndpbbagaaMtPart2
namespace Go.Proofs.Ytkjgkmndpbbagaa.Bk
open Go.RowKit

theorem parts_any (p p' : Option Addr) (c c' : Nat) (bids asks : List Odr) (a ac sd pr q n : Int) (w : World) (h : OV w p c bids) (h' : OV w p' c' asks) (hn : bids.length ≤ 140737488351232) (hn' : asks.length ≤ 140737488351232) :
    Calls Try.prog 12 #[.agg #[.slice p bids.length c, .slice p' asks.length c'], .agg #[.int .i64 a, .int .i64 ac, .int .i64 sd, .int .i64 pr, .int .i64 q], .int .i64 n] w fun e w' => e = .returned (.bool true) ∧ Below w.heap.size w w' := by
  by_cases he : takeErr bids asks (a, ac, sd, pr, q) = 0
  · obtain ⟨hR, hok⟩ := takeErr_zero.1 he
    by_cases hq : q < 2
    · exact parts_small p p' c c' bids asks a ac sd pr q n w h h' hR hok hq
    · exact parts_main p p' c c' bids asks a ac sd pr q n w h h' hR hok (by omega)
  · exact parts_bad p p' c c' bids asks a ac sd pr q n w h h' hn hn' he
end Go.Proofs.Ytkjgkmndpbbagaa.Bk
