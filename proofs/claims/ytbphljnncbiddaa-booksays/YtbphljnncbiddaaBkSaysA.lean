/-
  BookSays, by a contract: small lemmas.
-/
import Derived.Test.YtbphljnncbiddaaRefP2
import Derived.Test.YtbphljnncbiddaaRefQ
import Derived.Test.YtbphljnncbiddaaRefS
import Derived.Test.YtbphljnncbiddaaBkSame
namespace Go.Proofs.Ytbphljnncbiddaa.Rk
open Go.RowKit Go.Sort Go.Maps Go.Proofs.Ytbphljnncbiddaa.Mix Go.Proofs.Ytbphljnncbiddaa.Bk

theorem below_alloc {w x : World} (h : Below w.heap.size w x) (o : Obj) : Below w.heap.size w (x.alloc o) := h.alloc h.size o
theorem below_on {B : Nat} {w x y : World} (h : Below B w x) (h0 : B = w.heap.size) (h' : Below x.heap.size x y) : Below B w y := h.trans (h'.mono (by rw [h0]; exact h.size))
theorem new_kept {w x : World} {cs : Array Value} {t : TypeId} (h : Below (w.alloc (.cells cs t)).heap.size (w.alloc (.cells cs t)) x) {i : Nat} {v : Value} (hv : cs[i]? = some v) : x.cell? ⟨w.heap.size, i, none⟩ = some v :=
  (h.cell (by simp)).trans (new_cell w cs t i v hv)

theorem bad_facts {bids asks : List Odr} {o fo : Odr} {id be fe mr bb ba : Int} {RB RA MB MA : List Odr} (hbe : bookErr bids asks = be) (h0 : ¬ be = 0) (hfo : findO bids asks id = fo) (hfe : findE bids asks id = fe) (hmr : mayRest bids asks o = mr) (hRB : restedB bids asks o = RB) (hRA : restedA bids asks o = RA) (hMB : remB bids asks id = MB) (hMA : remA bids asks id = MA) (hbb : bestB bids asks = bb) (hba : bestA bids asks = ba) :
    fo = noOdr ∧ fe = be ∧ mr = be ∧ RB = [] ∧ RA = [] ∧ MB = [] ∧ MA = [] ∧ bb = 0 ∧ ba = 0 := by
  have hb : ¬ bookErr bids asks = 0 := by rw [hbe]; exact h0
  have hm : mayRest bids asks o = be := (may_book hb).trans hbe
  have hf : findE bids asks id = be := by unfold findE; rw [if_neg hb]; exact hbe
  refine ⟨?_, hfe.symm.trans hf, hmr.symm.trans hm, ?_, ?_, ?_, ?_, ?_, ?_⟩
  · rw [← hfo]; unfold findO; rw [if_neg hb]
  · rw [← hRB]; unfold restedB; rw [hm, if_neg h0]
  · rw [← hRA]; unfold restedA; rw [hm, if_neg h0]
  · rw [← hMB]; unfold remB; rw [hf, if_neg h0]
  · rw [← hMA]; unfold remA; rw [hf, if_neg h0]
  · rw [← hbb]; unfold bestB; rw [if_neg hb]
  · rw [← hba]; unfold bestA; rw [if_neg hb]
theorem grow_calls {f : Nat} {args : Array Value} {w : World} {E : Ending} (h : Calls Try.prog f args w fun e w' => e = E ∧ ∃ k os, w' = grow (w.drewN k) os) : Calls Try.prog f args w fun e w' => e = E ∧ Below w.heap.size w w' :=
  h.mono fun _ _ ⟨he, k, os, hw⟩ => ⟨he, hw ▸ grow_below w k os⟩
end Go.Proofs.Ytbphljnncbiddaa.Rk
