/-
  Package text by contracts: a command without what its kind has no use for.
-/
import Derived.Test.YthdjfhnhjiageaaDoorTxW1
namespace Go.Proofs.YthdjfhnhjiageaaDoor.Tx
open Go.RowKit Go.Lib

abbrev cdV (c : Cd) : Value := .agg #[.int .i64 c.kind, .int .i64 c.ac, .int .i64 c.mkt, .int .i64 c.n, .int .i64 c.oi, .int .i64 c.oa, .int .i64 c.sd, .int .i64 c.pr, .int .i64 c.qt, .int .i64 c.how, .bool c.red]
abbrev cdO (c : Cd) : Obj := .cells #[.int .i64 c.kind, .int .i64 c.ac, .int .i64 c.mkt, .int .i64 c.n, .int .i64 c.oi, .int .i64 c.oa, .int .i64 c.sd, .int .i64 c.pr, .int .i64 c.qt, .int .i64 c.how, .bool c.red] 25
theorem below3 (w : World) (a b c : Obj) : Below w.heap.size w (((w.alloc a).alloc b).alloc c) := (((Below.refl _ w).alloc (Nat.le_refl _) a).alloc (by simp) b).alloc (by simp; omega) c

set_option maxHeartbeats 4000000 in
theorem used_1 (ac mkt n oi oa sd pr qt how : Int) (red : Bool) (w : World) : Calls Tryd.prog 25 #[cdV ⟨1, ac, mkt, n, oi, oa, sd, pr, qt, how, red⟩] w fun e w' => e = .returned (cdV ⟨1, ac, 0, n, 0, 0, 0, 0, 0, 0, false⟩) ∧ Below w.heap.size w w' := by
  go_enter Tryd.func25, Tryd.ntmps25
  go_wp2
  go_region
  go_wp2
  refine bodyPost_ret (v := cdV ⟨1, ac, 0, n, 0, 0, 0, 0, 0, 0, false⟩) (by simp [results, Tryd.results25, go_sem]) rfl ?_
  exact ⟨rfl, by first | exact (below3 w _ _ _).drew | exact below3 w _ _ _⟩
set_option maxHeartbeats 4000000 in
theorem used_2 (ac mkt n oi oa sd pr qt how : Int) (red : Bool) (w : World) : Calls Tryd.prog 25 #[cdV ⟨2, ac, mkt, n, oi, oa, sd, pr, qt, how, red⟩] w fun e w' => e = .returned (cdV ⟨2, ac, 0, n, 0, 0, 0, 0, 0, 0, false⟩) ∧ Below w.heap.size w w' := by
  go_enter Tryd.func25, Tryd.ntmps25
  go_wp2
  go_region
  go_wp2
  refine bodyPost_ret (v := cdV ⟨2, ac, 0, n, 0, 0, 0, 0, 0, 0, false⟩) (by simp [results, Tryd.results25, go_sem]) rfl ?_
  exact ⟨rfl, by first | exact (below3 w _ _ _).drew | exact below3 w _ _ _⟩
set_option maxHeartbeats 4000000 in
theorem used_3 (ac mkt n oi oa sd pr qt how : Int) (red : Bool) (w : World) : Calls Tryd.prog 25 #[cdV ⟨3, ac, mkt, n, oi, oa, sd, pr, qt, how, red⟩] w fun e w' => e = .returned (cdV ⟨3, ac, mkt, 0, 0, 0, sd, pr, qt, how, red⟩) ∧ Below w.heap.size w w' := by
  go_enter Tryd.func25, Tryd.ntmps25
  go_wp2
  go_region
  go_wp2
  refine bodyPost_ret (v := cdV ⟨3, ac, mkt, 0, 0, 0, sd, pr, qt, how, red⟩) (by simp [results, Tryd.results25, go_sem]) rfl ?_
  exact ⟨rfl, by first | exact (below3 w _ _ _).drew | exact below3 w _ _ _⟩
set_option maxHeartbeats 4000000 in
theorem used_4 (ac mkt n oi oa sd pr qt how : Int) (red : Bool) (w : World) : Calls Tryd.prog 25 #[cdV ⟨4, ac, mkt, n, oi, oa, sd, pr, qt, how, red⟩] w fun e w' => e = .returned (cdV ⟨4, ac, 0, n, 0, 0, 0, 0, 0, 0, false⟩) ∧ Below w.heap.size w w' := by
  go_enter Tryd.func25, Tryd.ntmps25
  go_wp2
  go_region
  go_wp2
  refine bodyPost_ret (v := cdV ⟨4, ac, 0, n, 0, 0, 0, 0, 0, 0, false⟩) (by simp [results, Tryd.results25, go_sem]) rfl ?_
  exact ⟨rfl, by first | exact (below3 w _ _ _).drew | exact below3 w _ _ _⟩
set_option maxHeartbeats 4000000 in
theorem used_5 (ac mkt n oi oa sd pr qt how : Int) (red : Bool) (w : World) : Calls Tryd.prog 25 #[cdV ⟨5, ac, mkt, n, oi, oa, sd, pr, qt, how, red⟩] w fun e w' => e = .returned (cdV ⟨5, 0, mkt, n, 0, 0, 0, 0, 0, 0, false⟩) ∧ Below w.heap.size w w' := by
  go_enter Tryd.func25, Tryd.ntmps25
  go_wp2
  go_region
  go_wp2
  refine bodyPost_ret (v := cdV ⟨5, 0, mkt, n, 0, 0, 0, 0, 0, 0, false⟩) (by simp [results, Tryd.results25, go_sem]) rfl ?_
  exact ⟨rfl, by first | exact (below3 w _ _ _).drew | exact below3 w _ _ _⟩
set_option maxHeartbeats 4000000 in
theorem used_6 (ac mkt n oi oa sd pr qt how : Int) (red : Bool) (w : World) : Calls Tryd.prog 25 #[cdV ⟨6, ac, mkt, n, oi, oa, sd, pr, qt, how, red⟩] w fun e w' => e = .returned (cdV ⟨6, 0, mkt, n, 0, 0, 0, 0, 0, 0, false⟩) ∧ Below w.heap.size w w' := by
  go_enter Tryd.func25, Tryd.ntmps25
  go_wp2
  go_region
  go_wp2
  refine bodyPost_ret (v := cdV ⟨6, 0, mkt, n, 0, 0, 0, 0, 0, 0, false⟩) (by simp [results, Tryd.results25, go_sem]) rfl ?_
  exact ⟨rfl, by first | exact (below3 w _ _ _).drew | exact below3 w _ _ _⟩
set_option maxHeartbeats 4000000 in
theorem used_no (k ac mkt n oi oa sd pr qt how : Int) (red : Bool) (w : World) (h1 : ¬ k = 1) (h2 : ¬ k = 2) (h3 : ¬ k = 3) (h4 : ¬ k = 4) (h5 : ¬ k = 5) (h6 : ¬ k = 6) : Calls Tryd.prog 25 #[cdV ⟨k, ac, mkt, n, oi, oa, sd, pr, qt, how, red⟩] w fun e w' => e = .returned (cdV ⟨k, 0, 0, 0, 0, 0, 0, 0, 0, 0, false⟩) ∧ Below w.heap.size w w' := by
  go_enter Tryd.func25, Tryd.ntmps25
  go_wp2
  refine bodyPost_ret (v := cdV ⟨k, 0, 0, 0, 0, 0, 0, 0, 0, 0, false⟩) (by simp [results, Tryd.results25, go_sem]) rfl ?_
  exact ⟨rfl, by first | exact (below3 w _ _ _).drew | exact below3 w _ _ _⟩
theorem used_any (c : Cd) (w : World) : Calls Tryd.prog 25 #[cdV c] w fun e w' => e = .returned (cdV (usedC c)) ∧ Below w.heap.size w w' := by
  obtain ⟨kind, ac, mkt, n, oi, oa, sd, pr, qt, how, red⟩ := c
  by_cases h1 : kind = 1
  · subst h1; exact used_1 ac mkt n oi oa sd pr qt how red w
  by_cases h2 : kind = 2
  · subst h2; exact used_2 ac mkt n oi oa sd pr qt how red w
  by_cases h3 : kind = 3
  · subst h3; exact used_3 ac mkt n oi oa sd pr qt how red w
  by_cases h4 : kind = 4
  · subst h4; exact used_4 ac mkt n oi oa sd pr qt how red w
  by_cases h5 : kind = 5
  · subst h5; exact used_5 ac mkt n oi oa sd pr qt how red w
  by_cases h6 : kind = 6
  · subst h6; exact used_6 ac mkt n oi oa sd pr qt how red w
  have e : usedC ⟨kind, ac, mkt, n, oi, oa, sd, pr, qt, how, red⟩ = ⟨kind, 0, 0, 0, 0, 0, 0, 0, 0, 0, false⟩ := by
    unfold usedC
    dsimp only
    rw [if_neg (by omega), if_neg (by omega), if_neg (by omega)]
  rw [e]
  exact used_no kind ac mkt n oi oa sd pr qt how red w h1 h2 h3 h4 h5 h6
end Go.Proofs.YthdjfhnhjiageaaDoor.Tx
