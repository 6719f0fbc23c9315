/-
  Package text by contracts: the words, and which one is at a number.
-/
import Derived.Test.YthdjfhnhjiageaaGreatDoorProg
import Derived.Test.YthdjfhnhjiageaaGreatDoorMgP
import Derived.WalkKit
import Derived.ProofKit
import Derived.Below
import Derived.BigQuiet
import Derived.Deep.QuietTactic
import Derived.WalkLawsBesides
import Derived.Outline
import Derived.Laws.StructEq
namespace Go.Proofs.YthdjfhnhjiageaaGreatDoor.Tx
open Go.RowKit Go.Lib

theorem hide {p : Prop} (h : p) : Hid p := h
theorem unhide {p : Prop} (h : Hid p) : p := h
abbrev sB (b : Bs) : ByteArray := ⟨b.toArray⟩
abbrev sV (b : Bs) : Value := .string (sB b)
abbrev words8 (a b c d e f g h : Bs) : Value := .agg #[sV a, sV b, sV c, sV d, sV e, sV f, sV g, sV h]
abbrev kindsV : Value := words8 [] wDeposit wWithdraw wPlace wCancel wIndex wFund wSweep
abbrev howsV : Value := words8 [] wLimit wNow wWhole wPost [] [] []
abbrev sidesV : Value := words8 wSell [] wBuy [] [] [] [] []
theorem below_alloc (w : World) (o : Obj) : Below w.heap.size w (w.alloc o) := (Below.refl w.heap.size w).alloc (Nat.le_refl _) o
theorem new_cell (w : World) (cs : Array Value) (t : TypeId) (i : Nat) (v : Value) (h : cs[i]? = some v) : (w.alloc (.cells cs t)).cell? ⟨w.heap.size, i, none⟩ = some v := by
  rw [World.cell?_alloc_at (w := w) cs t w.heap.size i rfl]; exact h

set_option maxHeartbeats 1000000 in
theorem kinds_any (w : World) : Calls Tryz.prog 47 #[] w fun e w' => e = .returned kindsV ∧ Below w.heap.size w w' := by
  go_enter Tryz.func47, Tryz.ntmps47
  go_wp2
  refine bodyPost_ret (v := kindsV) (by simp [results, Tryz.results47, go_sem]) rfl ?_
  exact ⟨rfl, below_alloc w _⟩
set_option maxHeartbeats 1000000 in
theorem hows_any (w : World) : Calls Tryz.prog 69 #[] w fun e w' => e = .returned howsV ∧ Below w.heap.size w w' := by
  go_enter Tryz.func69, Tryz.ntmps69
  go_wp2
  refine bodyPost_ret (v := howsV) (by simp [results, Tryz.results69, go_sem]) rfl ?_
  exact ⟨rfl, below_alloc w _⟩
set_option maxHeartbeats 1000000 in
theorem sides_any (w : World) : Calls Tryz.prog 70 #[] w fun e w' => e = .returned sidesV ∧ Below w.heap.size w w' := by
  go_enter Tryz.func70, Tryz.ntmps70
  go_wp2
  refine bodyPost_ret (v := sidesV) (by simp [results, Tryz.results70, go_sem]) rfl ?_
  exact ⟨rfl, below_alloc w _⟩
theorem eight {n : Int} (h : 0 ≤ n ∧ n < 8) : n = 0 ∨ n = 1 ∨ n = 2 ∨ n = 3 ∨ n = 4 ∨ n = 5 ∨ n = 6 ∨ n = 7 := by omega
set_option maxHeartbeats 4000000 in
theorem at_any (a b c d e f g h : Bs) (n : Int) (w : World) : Calls Tryz.prog 48 #[words8 a b c d e f g h, .int .i64 n] w fun x w' => x = .returned (sV (atW [a, b, c, d, e, f, g, h] n)) ∧ Below w.heap.size w w' := by
  by_cases h1 : n < 0
  · have e : atW [a, b, c, d, e, f, g, h] n = [] := by unfold atW; rw [if_neg (by omega)]
    rw [e]
    clear e
    go_enter Tryz.func48, Tryz.ntmps48
    go_wp2
    go_ret
    exact ⟨rfl, below_alloc w _⟩
  by_cases h2 : 8 ≤ n
  · have e : atW [a, b, c, d, e, f, g, h] n = [] := by unfold atW; rw [if_neg (by omega)]
    rw [e]
    clear e
    go_enter Tryz.func48, Tryz.ntmps48
    go_wp2
    go_ret
    exact ⟨rfl, below_alloc w _⟩
  rcases eight (show 0 ≤ n ∧ n < 8 by omega) with rfl | rfl | rfl | rfl | rfl | rfl | rfl | rfl <;> clear h1 h2
  all_goals
    go_enter Tryz.func48, Tryz.ntmps48
    go_wp2
    go_ret
    exact ⟨rfl, below_alloc w _⟩
end Go.Proofs.YthdjfhnhjiageaaGreatDoor.Tx
namespace Go.Proofs.YthdjfhnhjiageaaGreatDoor.Tx
open Go.RowKit Go.Lib

abbrev cdV (c : Cd) : Value := .agg #[.int .i64 c.kind, .int .i64 c.ac, .int .i64 c.mkt, .int .i64 c.n, .int .i64 c.oi, .int .i64 c.oa, .int .i64 c.sd, .int .i64 c.pr, .int .i64 c.qt, .int .i64 c.how, .bool c.red]
abbrev cdO (c : Cd) : Obj := .cells #[.int .i64 c.kind, .int .i64 c.ac, .int .i64 c.mkt, .int .i64 c.n, .int .i64 c.oi, .int .i64 c.oa, .int .i64 c.sd, .int .i64 c.pr, .int .i64 c.qt, .int .i64 c.how, .bool c.red] 28
theorem below3 (w : World) (a b c : Obj) : Below w.heap.size w (((w.alloc a).alloc b).alloc c) := (((Below.refl _ w).alloc (Nat.le_refl _) a).alloc (by simp) b).alloc (by simp; omega) c

set_option maxHeartbeats 4000000 in
theorem used_1 (ac mkt n oi oa sd pr qt how : Int) (red : Bool) (w : World) : Calls Tryz.prog 71 #[cdV ⟨1, ac, mkt, n, oi, oa, sd, pr, qt, how, red⟩] w fun e w' => e = .returned (cdV ⟨1, ac, 0, n, 0, 0, 0, 0, 0, 0, false⟩) ∧ Below w.heap.size w w' := by
  go_enter Tryz.func71, Tryz.ntmps71
  go_wp2
  go_region
  go_wp2
  refine bodyPost_ret (v := cdV ⟨1, ac, 0, n, 0, 0, 0, 0, 0, 0, false⟩) (by simp [results, Tryz.results71, go_sem]) rfl ?_
  exact ⟨rfl, by first | exact (below3 w _ _ _).drew | exact below3 w _ _ _⟩
set_option maxHeartbeats 4000000 in
theorem used_2 (ac mkt n oi oa sd pr qt how : Int) (red : Bool) (w : World) : Calls Tryz.prog 71 #[cdV ⟨2, ac, mkt, n, oi, oa, sd, pr, qt, how, red⟩] w fun e w' => e = .returned (cdV ⟨2, ac, 0, n, 0, 0, 0, 0, 0, 0, false⟩) ∧ Below w.heap.size w w' := by
  go_enter Tryz.func71, Tryz.ntmps71
  go_wp2
  go_region
  go_wp2
  refine bodyPost_ret (v := cdV ⟨2, ac, 0, n, 0, 0, 0, 0, 0, 0, false⟩) (by simp [results, Tryz.results71, go_sem]) rfl ?_
  exact ⟨rfl, by first | exact (below3 w _ _ _).drew | exact below3 w _ _ _⟩
set_option maxHeartbeats 4000000 in
theorem used_3 (ac mkt n oi oa sd pr qt how : Int) (red : Bool) (w : World) : Calls Tryz.prog 71 #[cdV ⟨3, ac, mkt, n, oi, oa, sd, pr, qt, how, red⟩] w fun e w' => e = .returned (cdV ⟨3, ac, mkt, 0, 0, 0, sd, pr, qt, how, red⟩) ∧ Below w.heap.size w w' := by
  go_enter Tryz.func71, Tryz.ntmps71
  go_wp2
  go_region
  go_wp2
  refine bodyPost_ret (v := cdV ⟨3, ac, mkt, 0, 0, 0, sd, pr, qt, how, red⟩) (by simp [results, Tryz.results71, go_sem]) rfl ?_
  exact ⟨rfl, by first | exact (below3 w _ _ _).drew | exact below3 w _ _ _⟩
set_option maxHeartbeats 4000000 in
theorem used_4 (ac mkt n oi oa sd pr qt how : Int) (red : Bool) (w : World) : Calls Tryz.prog 71 #[cdV ⟨4, ac, mkt, n, oi, oa, sd, pr, qt, how, red⟩] w fun e w' => e = .returned (cdV ⟨4, ac, 0, n, 0, 0, 0, 0, 0, 0, false⟩) ∧ Below w.heap.size w w' := by
  go_enter Tryz.func71, Tryz.ntmps71
  go_wp2
  go_region
  go_wp2
  refine bodyPost_ret (v := cdV ⟨4, ac, 0, n, 0, 0, 0, 0, 0, 0, false⟩) (by simp [results, Tryz.results71, go_sem]) rfl ?_
  exact ⟨rfl, by first | exact (below3 w _ _ _).drew | exact below3 w _ _ _⟩
set_option maxHeartbeats 4000000 in
theorem used_5 (ac mkt n oi oa sd pr qt how : Int) (red : Bool) (w : World) : Calls Tryz.prog 71 #[cdV ⟨5, ac, mkt, n, oi, oa, sd, pr, qt, how, red⟩] w fun e w' => e = .returned (cdV ⟨5, 0, mkt, n, 0, 0, 0, 0, 0, 0, false⟩) ∧ Below w.heap.size w w' := by
  go_enter Tryz.func71, Tryz.ntmps71
  go_wp2
  go_region
  go_wp2
  refine bodyPost_ret (v := cdV ⟨5, 0, mkt, n, 0, 0, 0, 0, 0, 0, false⟩) (by simp [results, Tryz.results71, go_sem]) rfl ?_
  exact ⟨rfl, by first | exact (below3 w _ _ _).drew | exact below3 w _ _ _⟩
set_option maxHeartbeats 4000000 in
theorem used_6 (ac mkt n oi oa sd pr qt how : Int) (red : Bool) (w : World) : Calls Tryz.prog 71 #[cdV ⟨6, ac, mkt, n, oi, oa, sd, pr, qt, how, red⟩] w fun e w' => e = .returned (cdV ⟨6, 0, mkt, n, 0, 0, 0, 0, 0, 0, false⟩) ∧ Below w.heap.size w w' := by
  go_enter Tryz.func71, Tryz.ntmps71
  go_wp2
  go_region
  go_wp2
  refine bodyPost_ret (v := cdV ⟨6, 0, mkt, n, 0, 0, 0, 0, 0, 0, false⟩) (by simp [results, Tryz.results71, go_sem]) rfl ?_
  exact ⟨rfl, by first | exact (below3 w _ _ _).drew | exact below3 w _ _ _⟩
set_option maxHeartbeats 4000000 in
theorem used_no (k ac mkt n oi oa sd pr qt how : Int) (red : Bool) (w : World) (h1 : ¬ k = 1) (h2 : ¬ k = 2) (h3 : ¬ k = 3) (h4 : ¬ k = 4) (h5 : ¬ k = 5) (h6 : ¬ k = 6) : Calls Tryz.prog 71 #[cdV ⟨k, ac, mkt, n, oi, oa, sd, pr, qt, how, red⟩] w fun e w' => e = .returned (cdV ⟨k, 0, 0, 0, 0, 0, 0, 0, 0, 0, false⟩) ∧ Below w.heap.size w w' := by
  go_enter Tryz.func71, Tryz.ntmps71
  go_wp2
  refine bodyPost_ret (v := cdV ⟨k, 0, 0, 0, 0, 0, 0, 0, 0, 0, false⟩) (by simp [results, Tryz.results71, go_sem]) rfl ?_
  exact ⟨rfl, by first | exact (below3 w _ _ _).drew | exact below3 w _ _ _⟩
theorem used_any (c : Cd) (w : World) : Calls Tryz.prog 71 #[cdV c] w fun e w' => e = .returned (cdV (usedC c)) ∧ Below w.heap.size w w' := by
  obtain ⟨kind, ac, mkt, n, oi, oa, sd, pr, qt, how, red⟩ := c
  by_cases h1 : kind = 1
  · subst h1; exact used_1 ac mkt n oi oa sd pr qt how red w
  by_cases h2 : kind = 2
  · subst h2; exact used_2 ac mkt n oi oa sd pr qt how red w
  by_cases h3 : kind = 3
  · subst h3; exact used_3 ac mkt n oi oa sd pr qt how red w
  by_cases h4 : kind = 4
  · subst h4; exact used_4 ac mkt n oi oa sd pr qt how red w
  by_cases h5 : kind = 5
  · subst h5; exact used_5 ac mkt n oi oa sd pr qt how red w
  by_cases h6 : kind = 6
  · subst h6; exact used_6 ac mkt n oi oa sd pr qt how red w
  have e : usedC ⟨kind, ac, mkt, n, oi, oa, sd, pr, qt, how, red⟩ = ⟨kind, 0, 0, 0, 0, 0, 0, 0, 0, 0, false⟩ := by
    unfold usedC
    dsimp only
    rw [if_neg (by omega), if_neg (by omega), if_neg (by omega)]
  rw [e]
  exact used_no kind ac mkt n oi oa sd pr qt how red w h1 h2 h3 h4 h5 h6
end Go.Proofs.YthdjfhnhjiageaaGreatDoor.Tx
namespace Go.Proofs.YthdjfhnhjiageaaGreatDoor.Tx
open Go.RowKit Go.Lib

set_option maxHeartbeats 4000000 in
set_option maxRecDepth 100000 in
theorem eqO (a1 a2 a3 a4 a5 b1 b2 b3 b4 b5 : Int) (w : World) : Sem.run Tryz.prog (Op.equalIn 9999 26 (.agg #[.int .i64 a1, .int .i64 a2, .int .i64 a3, .int .i64 a4, .int .i64 a5]) (.agg #[.int .i64 b1, .int .i64 b2, .int .i64 b3, .int .i64 b4, .int .i64 b5])) w = .ok (a1 == b1 && a2 == b2 && a3 == b3 && a4 == b4 && a5 == b5) w := by
  have u3 := Tryz.underlying3
  have ag := Tryz.isAgg3
  have z3 := Tryz.sizeOf3
  have hS2 : Tryz.prog.underlying 26 = some (.struct (Tryz.prog.fieldsOf 26)) := by kernel_rfl
  have hp2 : Tryz.prog.stoodInHeld 26 = false := by kernel_rfl
  rw [show (9999 : Nat) = 9998 + 1 from rfl, run_equalIn_agg w 9998 26 _ _ hS2 hp2]
  simp only [Program.fieldsOf, Tryz.underlying26]
  clear hS2 hp2
  cases h1 : (a1 == b1)
  · go_simp
  cases h2 : (a2 == b2)
  · go_simp
  cases h3 : (a3 == b3)
  · go_simp
  cases h4 : (a4 == b4)
  · go_simp
  cases h5 : (a5 == b5)
  · go_simp
  go_simp
set_option maxHeartbeats 4000000 in
set_option maxRecDepth 100000 in
theorem eqC (x y : Cd) (w : World) : Sem.run Tryz.prog (Op.equalIn 10000 28 (cdV x) (cdV y)) w = .ok (sameC x y) w := by
  have u3 := Tryz.underlying3
  have ag := Tryz.isAgg3
  have z3 := Tryz.sizeOf3
  have u4 := Tryz.underlying4
  have ag4 := Tryz.isAgg4
  have z4 := Tryz.sizeOf4
  have ao := Tryz.isAgg26
  have zo := Tryz.sizeOf26
  have hS : Tryz.prog.underlying 28 = some (.struct (Tryz.prog.fieldsOf 28)) := by kernel_rfl
  have hp : Tryz.prog.stoodInHeld 28 = false := by kernel_rfl
  obtain ⟨a1, a2, a3, a4, a5, a6, a7, a8, a9, a10, a11⟩ := x
  obtain ⟨b1, b2, b3, b4, b5, b6, b7, b8, b9, b10, b11⟩ := y
  have eo := eqO a5 a6 a7 a8 a9 b5 b6 b7 b8 b9
  rw [show (10000 : Nat) = 9999 + 1 from rfl, run_equalIn_agg w 9999 28 _ _ hS hp]
  have es : sameC ⟨a1, a2, a3, a4, a5, a6, a7, a8, a9, a10, a11⟩ ⟨b1, b2, b3, b4, b5, b6, b7, b8, b9, b10, b11⟩ = (a1 == b1 && a2 == b2 && a3 == b3 && a4 == b4 && (a5 == b5 && a6 == b6 && a7 == b7 && a8 == b8 && a9 == b9) && a10 == b10 && a11 == b11) := by
    unfold sameC
    simp only [Bool.and_assoc]
  rw [es]
  simp only [Program.fieldsOf, Tryz.underlying28]
  clear hS hp es
  generalize (a5 == b5 && a6 == b6 && a7 == b7 && a8 == b8 && a9 == b9) = q at *
  cases h1 : (a1 == b1)
  · go_simp
  cases h2 : (a2 == b2)
  · go_simp
  cases h3 : (a3 == b3)
  · go_simp
  cases h4 : (a4 == b4)
  · go_simp
  cases q
  · go_simp
  cases h5 : (a10 == b10)
  · go_simp
  cases h6 : (a11 == b11)
  · go_simp
  go_simp
end Go.Proofs.YthdjfhnhjiageaaGreatDoor.Tx
