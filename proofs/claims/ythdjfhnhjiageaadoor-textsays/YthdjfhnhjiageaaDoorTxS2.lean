/-
  The reference's chapter 8: CheckCommand, the rest of its ways.
-/
import Derived.Test.YthdjfhnhjiageaaDoorTxS1
namespace Go.Proofs.YthdjfhnhjiageaaDoor.Tx
open Go.RowKit Go.Lib

set_option maxHeartbeats 4000000 in
set_option maxRecDepth 100000 in
theorem ref_6a (ac mkt n oi oa sd pr qt how : Int) (red : Bool) (w : World) (h : ¬ ac = 0) : Calls Tryd.prog 7 #[cdV ⟨6, ac, mkt, n, oi, oa, sd, pr, qt, how, red⟩] w fun e w' => e = .returned (.int .i64 3) ∧ Below w.heap.size w w' := by
  go_enter Tryd.func7, Tryd.ntmps7
  go_simp
  iterate 400 (first | go_values | go_skip | go_guarded | go_step | go_upon | go_back | go_simp | dsimp only [List.append])
  go_ret
  exact ⟨rfl, below_alloc w _⟩
set_option maxHeartbeats 4000000 in
set_option maxRecDepth 100000 in
theorem ref_6h (mkt n oi oa sd pr qt how : Int) (red : Bool) (w : World) (h : ¬ how = 0) : Calls Tryd.prog 7 #[cdV ⟨6, 0, mkt, n, oi, oa, sd, pr, qt, how, red⟩] w fun e w' => e = .returned (.int .i64 3) ∧ Below w.heap.size w w' := by
  go_enter Tryd.func7, Tryd.ntmps7
  go_simp
  iterate 400 (first | go_values | go_skip | go_guarded | go_step | go_upon | go_back | go_simp | dsimp only [List.append])
  go_ret
  exact ⟨rfl, below_alloc w _⟩
set_option maxHeartbeats 4000000 in
set_option maxRecDepth 100000 in
theorem ref_6r (mkt n oi oa sd pr qt : Int) (w : World) : Calls Tryd.prog 7 #[cdV ⟨6, 0, mkt, n, oi, oa, sd, pr, qt, 0, true⟩] w fun e w' => e = .returned (.int .i64 3) ∧ Below w.heap.size w w' := by
  go_enter Tryd.func7, Tryd.ntmps7
  go_simp
  iterate 400 (first | go_values | go_skip | go_guarded | go_step | go_upon | go_back | go_simp | dsimp only [List.append])
  go_ret
  exact ⟨rfl, below_alloc w _⟩
set_option maxHeartbeats 4000000 in
set_option maxRecDepth 100000 in
theorem ref_6o (mkt n oi oa sd pr qt : Int) (w : World) (h : (oi == 0 && oa == 0 && sd == 0 && pr == 0 && qt == 0) = false) : Calls Tryd.prog 7 #[cdV ⟨6, 0, mkt, n, oi, oa, sd, pr, qt, 0, false⟩] w fun e w' => e = .returned (.int .i64 3) ∧ Below w.heap.size w w' := by
  have eq := eqO1 oi oa sd pr qt 0 0 0 0 0; rw [h] at eq
  go_enter Tryd.func7, Tryd.ntmps7
  go_simp
  iterate 400 (first | go_values | go_skip | go_guarded | go_step | go_upon | go_back | go_simp | dsimp only [List.append])
  go_ret
  exact ⟨rfl, below_alloc w _⟩
set_option maxHeartbeats 4000000 in
set_option maxRecDepth 100000 in
theorem ref_6z (mkt n : Int) (w : World) : Calls Tryd.prog 7 #[cdV ⟨6, 0, mkt, n, 0, 0, 0, 0, 0, 0, false⟩] w fun e w' => e = .returned (.int .i64 0) ∧ Below w.heap.size w w' := by
  have eq := eqO1 0 0 0 0 0 0 0 0 0 0; simp only [beq_self_eq_true, Bool.and_self] at eq
  go_enter Tryd.func7, Tryd.ntmps7
  go_simp
  iterate 400 (first | go_values | go_skip | go_guarded | go_step | go_upon | go_back | go_simp | dsimp only [List.append])
  go_ret
  exact ⟨rfl, below_alloc w _⟩
set_option maxHeartbeats 4000000 in
set_option maxRecDepth 100000 in
theorem ref_7a (ac mkt n oi oa sd pr qt how : Int) (red : Bool) (w : World) (h : ¬ ac = 0) : Calls Tryd.prog 7 #[cdV ⟨7, ac, mkt, n, oi, oa, sd, pr, qt, how, red⟩] w fun e w' => e = .returned (.int .i64 3) ∧ Below w.heap.size w w' := by
  go_enter Tryd.func7, Tryd.ntmps7
  go_simp
  iterate 400 (first | go_values | go_skip | go_guarded | go_step | go_upon | go_back | go_simp | dsimp only [List.append])
  go_ret
  exact ⟨rfl, below_alloc w _⟩
set_option maxHeartbeats 4000000 in
set_option maxRecDepth 100000 in
theorem ref_7m (mkt n oi oa sd pr qt how : Int) (red : Bool) (w : World) (h : ¬ mkt = 0) : Calls Tryd.prog 7 #[cdV ⟨7, 0, mkt, n, oi, oa, sd, pr, qt, how, red⟩] w fun e w' => e = .returned (.int .i64 3) ∧ Below w.heap.size w w' := by
  go_enter Tryd.func7, Tryd.ntmps7
  go_simp
  iterate 400 (first | go_values | go_skip | go_guarded | go_step | go_upon | go_back | go_simp | dsimp only [List.append])
  go_ret
  exact ⟨rfl, below_alloc w _⟩
set_option maxHeartbeats 4000000 in
set_option maxRecDepth 100000 in
theorem ref_7n (n oi oa sd pr qt how : Int) (red : Bool) (w : World) (h : ¬ n = 0) : Calls Tryd.prog 7 #[cdV ⟨7, 0, 0, n, oi, oa, sd, pr, qt, how, red⟩] w fun e w' => e = .returned (.int .i64 3) ∧ Below w.heap.size w w' := by
  go_enter Tryd.func7, Tryd.ntmps7
  go_simp
  iterate 400 (first | go_values | go_skip | go_guarded | go_step | go_upon | go_back | go_simp | dsimp only [List.append])
  go_ret
  exact ⟨rfl, below_alloc w _⟩
set_option maxHeartbeats 4000000 in
set_option maxRecDepth 100000 in
theorem ref_7h (oi oa sd pr qt how : Int) (red : Bool) (w : World) (h : ¬ how = 0) : Calls Tryd.prog 7 #[cdV ⟨7, 0, 0, 0, oi, oa, sd, pr, qt, how, red⟩] w fun e w' => e = .returned (.int .i64 3) ∧ Below w.heap.size w w' := by
  go_enter Tryd.func7, Tryd.ntmps7
  go_simp
  iterate 400 (first | go_values | go_skip | go_guarded | go_step | go_upon | go_back | go_simp | dsimp only [List.append])
  go_ret
  exact ⟨rfl, below_alloc w _⟩
set_option maxHeartbeats 4000000 in
set_option maxRecDepth 100000 in
theorem ref_7r (oi oa sd pr qt : Int) (w : World) : Calls Tryd.prog 7 #[cdV ⟨7, 0, 0, 0, oi, oa, sd, pr, qt, 0, true⟩] w fun e w' => e = .returned (.int .i64 3) ∧ Below w.heap.size w w' := by
  go_enter Tryd.func7, Tryd.ntmps7
  go_simp
  iterate 400 (first | go_values | go_skip | go_guarded | go_step | go_upon | go_back | go_simp | dsimp only [List.append])
  go_ret
  exact ⟨rfl, below_alloc w _⟩
set_option maxHeartbeats 4000000 in
set_option maxRecDepth 100000 in
theorem ref_7o (oi oa sd pr qt : Int) (w : World) (h : (oi == 0 && oa == 0 && sd == 0 && pr == 0 && qt == 0) = false) : Calls Tryd.prog 7 #[cdV ⟨7, 0, 0, 0, oi, oa, sd, pr, qt, 0, false⟩] w fun e w' => e = .returned (.int .i64 3) ∧ Below w.heap.size w w' := by
  have eq := eqO1 oi oa sd pr qt 0 0 0 0 0; rw [h] at eq
  go_enter Tryd.func7, Tryd.ntmps7
  go_simp
  iterate 400 (first | go_values | go_skip | go_guarded | go_step | go_upon | go_back | go_simp | dsimp only [List.append])
  go_ret
  exact ⟨rfl, below_alloc w _⟩
set_option maxHeartbeats 4000000 in
set_option maxRecDepth 100000 in
theorem ref_7z (w : World) : Calls Tryd.prog 7 #[cdV ⟨7, 0, 0, 0, 0, 0, 0, 0, 0, 0, false⟩] w fun e w' => e = .returned (.int .i64 0) ∧ Below w.heap.size w w' := by
  have eq := eqO1 0 0 0 0 0 0 0 0 0 0; simp only [beq_self_eq_true, Bool.and_self] at eq
  go_enter Tryd.func7, Tryd.ntmps7
  go_simp
  iterate 400 (first | go_values | go_skip | go_guarded | go_step | go_upon | go_back | go_simp | dsimp only [List.append])
  go_ret
  exact ⟨rfl, below_alloc w _⟩
set_option maxHeartbeats 4000000 in
set_option maxRecDepth 100000 in
theorem ref_3l (ac mkt n oi oa sd pr qt how : Int) (red : Bool) (w : World) (h : how < 1) : Calls Tryd.prog 7 #[cdV ⟨3, ac, mkt, n, oi, oa, sd, pr, qt, how, red⟩] w fun e w' => e = .returned (.int .i64 4) ∧ Below w.heap.size w w' := by
  go_enter Tryd.func7, Tryd.ntmps7
  go_simp
  iterate 400 (first | go_values | go_skip | go_guarded | go_step | go_upon | go_back | go_simp | dsimp only [List.append])
  go_ret
  exact ⟨rfl, below_alloc w _⟩
set_option maxHeartbeats 4000000 in
set_option maxRecDepth 100000 in
theorem ref_3g (ac mkt n oi oa sd pr qt how : Int) (red : Bool) (w : World) (h : ¬ how < 1) (h1 : how > 4) : Calls Tryd.prog 7 #[cdV ⟨3, ac, mkt, n, oi, oa, sd, pr, qt, how, red⟩] w fun e w' => e = .returned (.int .i64 4) ∧ Below w.heap.size w w' := by
  go_enter Tryd.func7, Tryd.ntmps7
  go_simp
  iterate 400 (first | go_values | go_skip | go_guarded | go_step | go_upon | go_back | go_simp | dsimp only [List.append])
  go_ret
  exact ⟨rfl, below_alloc w _⟩
set_option maxHeartbeats 4000000 in
set_option maxRecDepth 100000 in
theorem ref_3s (ac mkt n oi oa sd pr qt how : Int) (red : Bool) (w : World) (h : ¬ how < 1) (h1 : ¬ how > 4) (h2 : ¬ sd = 1) (h3 : ¬ sd = -1) : Calls Tryd.prog 7 #[cdV ⟨3, ac, mkt, n, oi, oa, sd, pr, qt, how, red⟩] w fun e w' => e = .returned (.int .i64 4) ∧ Below w.heap.size w w' := by
  have h4 : (sd == 1) = false := by simpa using h2
  have h5 : (sd == -1) = false := by simpa using h3
  have h6 : (sd != 1) = true := by simp [h2]
  have h7 : (sd != -1) = true := by simp [h3]
  go_enter Tryd.func7, Tryd.ntmps7
  go_simp
  iterate 400 (first | go_values | go_skip | go_guarded | go_step | go_upon | go_back | go_simp | dsimp only [List.append])
  go_ret
  exact ⟨rfl, below_alloc w _⟩
set_option maxHeartbeats 4000000 in
set_option maxRecDepth 100000 in
theorem ref_3bn (ac mkt n oi oa pr qt how : Int) (red : Bool) (w : World) (h : ¬ how < 1) (h1 : ¬ how > 4) (h2 : ¬ n = 0) : Calls Tryd.prog 7 #[cdV ⟨3, ac, mkt, n, oi, oa, 1, pr, qt, how, red⟩] w fun e w' => e = .returned (.int .i64 3) ∧ Below w.heap.size w w' := by
  go_enter Tryd.func7, Tryd.ntmps7
  go_simp
  iterate 400 (first | go_values | go_skip | go_guarded | go_step | go_upon | go_back | go_simp | dsimp only [List.append])
  go_ret
  exact ⟨rfl, below_alloc w _⟩
set_option maxHeartbeats 4000000 in
set_option maxRecDepth 100000 in
theorem ref_3bi (ac mkt oi oa pr qt how : Int) (red : Bool) (w : World) (h : ¬ how < 1) (h1 : ¬ how > 4) (h2 : ¬ oi = 0) : Calls Tryd.prog 7 #[cdV ⟨3, ac, mkt, 0, oi, oa, 1, pr, qt, how, red⟩] w fun e w' => e = .returned (.int .i64 3) ∧ Below w.heap.size w w' := by
  go_enter Tryd.func7, Tryd.ntmps7
  go_simp
  iterate 400 (first | go_values | go_skip | go_guarded | go_step | go_upon | go_back | go_simp | dsimp only [List.append])
  go_ret
  exact ⟨rfl, below_alloc w _⟩
set_option maxHeartbeats 4000000 in
set_option maxRecDepth 100000 in
theorem ref_3ba (ac mkt oa pr qt how : Int) (red : Bool) (w : World) (h : ¬ how < 1) (h1 : ¬ how > 4) (h2 : ¬ oa = 0) : Calls Tryd.prog 7 #[cdV ⟨3, ac, mkt, 0, 0, oa, 1, pr, qt, how, red⟩] w fun e w' => e = .returned (.int .i64 3) ∧ Below w.heap.size w w' := by
  go_enter Tryd.func7, Tryd.ntmps7
  go_simp
  iterate 400 (first | go_values | go_skip | go_guarded | go_step | go_upon | go_back | go_simp | dsimp only [List.append])
  go_ret
  exact ⟨rfl, below_alloc w _⟩
set_option maxHeartbeats 4000000 in
set_option maxRecDepth 100000 in
theorem ref_3bz (ac mkt pr qt how : Int) (red : Bool) (w : World) (h : ¬ how < 1) (h1 : ¬ how > 4) : Calls Tryd.prog 7 #[cdV ⟨3, ac, mkt, 0, 0, 0, 1, pr, qt, how, red⟩] w fun e w' => e = .returned (.int .i64 0) ∧ Below w.heap.size w w' := by
  go_enter Tryd.func7, Tryd.ntmps7
  go_simp
  iterate 400 (first | go_values | go_skip | go_guarded | go_step | go_upon | go_back | go_simp | dsimp only [List.append])
  go_ret
  exact ⟨rfl, below_alloc w _⟩
set_option maxHeartbeats 4000000 in
set_option maxRecDepth 100000 in
theorem ref_3sn (ac mkt n oi oa pr qt how : Int) (red : Bool) (w : World) (h : ¬ how < 1) (h1 : ¬ how > 4) (h2 : ¬ n = 0) : Calls Tryd.prog 7 #[cdV ⟨3, ac, mkt, n, oi, oa, (-1), pr, qt, how, red⟩] w fun e w' => e = .returned (.int .i64 3) ∧ Below w.heap.size w w' := by
  go_enter Tryd.func7, Tryd.ntmps7
  go_simp
  iterate 400 (first | go_values | go_skip | go_guarded | go_step | go_upon | go_back | go_simp | dsimp only [List.append])
  go_ret
  exact ⟨rfl, below_alloc w _⟩
set_option maxHeartbeats 4000000 in
set_option maxRecDepth 100000 in
theorem ref_3si (ac mkt oi oa pr qt how : Int) (red : Bool) (w : World) (h : ¬ how < 1) (h1 : ¬ how > 4) (h2 : ¬ oi = 0) : Calls Tryd.prog 7 #[cdV ⟨3, ac, mkt, 0, oi, oa, (-1), pr, qt, how, red⟩] w fun e w' => e = .returned (.int .i64 3) ∧ Below w.heap.size w w' := by
  go_enter Tryd.func7, Tryd.ntmps7
  go_simp
  iterate 400 (first | go_values | go_skip | go_guarded | go_step | go_upon | go_back | go_simp | dsimp only [List.append])
  go_ret
  exact ⟨rfl, below_alloc w _⟩
set_option maxHeartbeats 4000000 in
set_option maxRecDepth 100000 in
theorem ref_3sa (ac mkt oa pr qt how : Int) (red : Bool) (w : World) (h : ¬ how < 1) (h1 : ¬ how > 4) (h2 : ¬ oa = 0) : Calls Tryd.prog 7 #[cdV ⟨3, ac, mkt, 0, 0, oa, (-1), pr, qt, how, red⟩] w fun e w' => e = .returned (.int .i64 3) ∧ Below w.heap.size w w' := by
  go_enter Tryd.func7, Tryd.ntmps7
  go_simp
  iterate 400 (first | go_values | go_skip | go_guarded | go_step | go_upon | go_back | go_simp | dsimp only [List.append])
  go_ret
  exact ⟨rfl, below_alloc w _⟩
set_option maxHeartbeats 4000000 in
set_option maxRecDepth 100000 in
theorem ref_3sz (ac mkt pr qt how : Int) (red : Bool) (w : World) (h : ¬ how < 1) (h1 : ¬ how > 4) : Calls Tryd.prog 7 #[cdV ⟨3, ac, mkt, 0, 0, 0, (-1), pr, qt, how, red⟩] w fun e w' => e = .returned (.int .i64 0) ∧ Below w.heap.size w w' := by
  go_enter Tryd.func7, Tryd.ntmps7
  go_simp
  iterate 400 (first | go_values | go_skip | go_guarded | go_step | go_upon | go_back | go_simp | dsimp only [List.append])
  go_ret
  exact ⟨rfl, below_alloc w _⟩
end Go.Proofs.YthdjfhnhjiageaaDoor.Tx
