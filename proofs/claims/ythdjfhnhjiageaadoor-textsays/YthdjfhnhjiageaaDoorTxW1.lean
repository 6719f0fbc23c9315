/-
  Package text by contracts: the words, and which one is at a number.
-/
import Derived.Test.YthdjfhnhjiageaaDoorProg
import Derived.Test.YthdjfhnhjiageaaDoorTxP
import Derived.WalkKit
import Derived.ProofKit
import Derived.Below
import Derived.BigQuiet
import Derived.Deep.QuietTactic
import Derived.WalkLawsBesides
import Derived.Outline
namespace Go.Proofs.YthdjfhnhjiageaaDoor.Tx
open Go.RowKit Go.Lib

theorem hide {p : Prop} (h : p) : Hid p := h
theorem unhide {p : Prop} (h : Hid p) : p := h
abbrev sB (b : Bs) : ByteArray := ⟨b.toArray⟩
abbrev sV (b : Bs) : Value := .string (sB b)
abbrev words8 (a b c d e f g h : Bs) : Value := .agg #[sV a, sV b, sV c, sV d, sV e, sV f, sV g, sV h]
abbrev kindsV : Value := words8 [] wDeposit wWithdraw wPlace wCancel wIndex wFund wSweep
abbrev howsV : Value := words8 [] wLimit wNow wWhole wPost [] [] []
abbrev sidesV : Value := words8 wSell [] wBuy [] [] [] [] []
theorem below_alloc (w : World) (o : Obj) : Below w.heap.size w (w.alloc o) := (Below.refl w.heap.size w).alloc (Nat.le_refl _) o
theorem new_cell (w : World) (cs : Array Value) (t : TypeId) (i : Nat) (v : Value) (h : cs[i]? = some v) : (w.alloc (.cells cs t)).cell? ⟨w.heap.size, i, none⟩ = some v := by
  rw [World.cell?_alloc_at (w := w) cs t w.heap.size i rfl]; exact h

set_option maxHeartbeats 1000000 in
theorem kinds_any (w : World) : Calls Tryd.prog 18 #[] w fun e w' => e = .returned kindsV ∧ Below w.heap.size w w' := by
  go_enter Tryd.func18, Tryd.ntmps18
  go_wp2
  refine bodyPost_ret (v := kindsV) (by simp [results, Tryd.results18, go_sem]) rfl ?_
  exact ⟨rfl, below_alloc w _⟩
set_option maxHeartbeats 1000000 in
theorem hows_any (w : World) : Calls Tryd.prog 23 #[] w fun e w' => e = .returned howsV ∧ Below w.heap.size w w' := by
  go_enter Tryd.func23, Tryd.ntmps23
  go_wp2
  refine bodyPost_ret (v := howsV) (by simp [results, Tryd.results23, go_sem]) rfl ?_
  exact ⟨rfl, below_alloc w _⟩
set_option maxHeartbeats 1000000 in
theorem sides_any (w : World) : Calls Tryd.prog 24 #[] w fun e w' => e = .returned sidesV ∧ Below w.heap.size w w' := by
  go_enter Tryd.func24, Tryd.ntmps24
  go_wp2
  refine bodyPost_ret (v := sidesV) (by simp [results, Tryd.results24, go_sem]) rfl ?_
  exact ⟨rfl, below_alloc w _⟩
theorem eight {n : Int} (h : 0 ≤ n ∧ n < 8) : n = 0 ∨ n = 1 ∨ n = 2 ∨ n = 3 ∨ n = 4 ∨ n = 5 ∨ n = 6 ∨ n = 7 := by omega
set_option maxHeartbeats 4000000 in
theorem at_any (a b c d e f g h : Bs) (n : Int) (w : World) : Calls Tryd.prog 19 #[words8 a b c d e f g h, .int .i64 n] w fun x w' => x = .returned (sV (atW [a, b, c, d, e, f, g, h] n)) ∧ Below w.heap.size w w' := by
  by_cases h1 : n < 0
  · have e : atW [a, b, c, d, e, f, g, h] n = [] := by unfold atW; rw [if_neg (by omega)]
    rw [e]
    clear e
    go_enter Tryd.func19, Tryd.ntmps19
    go_wp2
    go_ret
    exact ⟨rfl, below_alloc w _⟩
  by_cases h2 : 8 ≤ n
  · have e : atW [a, b, c, d, e, f, g, h] n = [] := by unfold atW; rw [if_neg (by omega)]
    rw [e]
    clear e
    go_enter Tryd.func19, Tryd.ntmps19
    go_wp2
    go_ret
    exact ⟨rfl, below_alloc w _⟩
  rcases eight (show 0 ≤ n ∧ n < 8 by omega) with rfl | rfl | rfl | rfl | rfl | rfl | rfl | rfl <;> clear h1 h2
  all_goals
    go_enter Tryd.func19, Tryd.ntmps19
    go_wp2
    go_ret
    exact ⟨rfl, below_alloc w _⟩
end Go.Proofs.YthdjfhnhjiageaaDoor.Tx
