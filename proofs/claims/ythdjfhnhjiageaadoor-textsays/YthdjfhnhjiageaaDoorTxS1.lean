/-
  The reference's chapter 8: CheckCommand.
-/
import Derived.Test.YthdjfhnhjiageaaDoorTxW4
namespace Go.Proofs.YthdjfhnhjiageaaDoor.Tx
open Go.RowKit Go.Lib

set_option maxHeartbeats 4000000 in
set_option maxRecDepth 100000 in
theorem eqO1 (a1 a2 a3 a4 a5 b1 b2 b3 b4 b5 : Int) (w : World) : Sem.run Tryd.prog (Op.equalIn 10000 23 (.agg #[.int .i64 a1, .int .i64 a2, .int .i64 a3, .int .i64 a4, .int .i64 a5]) (.agg #[.int .i64 b1, .int .i64 b2, .int .i64 b3, .int .i64 b4, .int .i64 b5])) w = .ok (a1 == b1 && a2 == b2 && a3 == b3 && a4 == b4 && a5 == b5) w := by
  have u3 := Tryd.underlying3
  have ag := Tryd.isAgg3
  have z3 := Tryd.sizeOf3
  have hS2 : Tryd.prog.underlying 23 = some (.struct (Tryd.prog.fieldsOf 23)) := by kernel_rfl
  have hp2 : Tryd.prog.stoodInHeld 23 = false := by kernel_rfl
  rw [show (10000 : Nat) = 9999 + 1 from rfl, run_equalIn_agg w 9999 23 _ _ hS2 hp2]
  simp only [Program.fieldsOf, Tryd.underlying23]
  clear hS2 hp2
  cases h1 : (a1 == b1)
  · go_simp
  cases h2 : (a2 == b2)
  · go_simp
  cases h3 : (a3 == b3)
  · go_simp
  cases h4 : (a4 == b4)
  · go_simp
  cases h5 : (a5 == b5)
  · go_simp
  go_simp
set_option maxHeartbeats 4000000 in
set_option maxRecDepth 100000 in
theorem ref_low (kind ac mkt n oi oa sd pr qt how : Int) (red : Bool) (w : World) (h : kind < 1) : Calls Tryd.prog 7 #[cdV ⟨kind, ac, mkt, n, oi, oa, sd, pr, qt, how, red⟩] w fun e w' => e = .returned (.int .i64 4) ∧ Below w.heap.size w w' := by
  go_enter Tryd.func7, Tryd.ntmps7
  go_simp
  iterate 400 (first | go_values | go_skip | go_guarded | go_step | go_upon | go_back | go_simp | dsimp only [List.append])
  go_ret
  exact ⟨rfl, below_alloc w _⟩
set_option maxHeartbeats 4000000 in
set_option maxRecDepth 100000 in
theorem ref_high (kind ac mkt n oi oa sd pr qt how : Int) (red : Bool) (w : World) (h : ¬ kind < 1) (h1 : kind > 7) : Calls Tryd.prog 7 #[cdV ⟨kind, ac, mkt, n, oi, oa, sd, pr, qt, how, red⟩] w fun e w' => e = .returned (.int .i64 4) ∧ Below w.heap.size w w' := by
  go_enter Tryd.func7, Tryd.ntmps7
  go_simp
  iterate 400 (first | go_values | go_skip | go_guarded | go_step | go_upon | go_back | go_simp | dsimp only [List.append])
  go_ret
  exact ⟨rfl, below_alloc w _⟩
set_option maxHeartbeats 4000000 in
set_option maxRecDepth 100000 in
theorem ref_1m (ac mkt n oi oa sd pr qt how : Int) (red : Bool) (w : World) (h : ¬ mkt = 0) : Calls Tryd.prog 7 #[cdV ⟨1, ac, mkt, n, oi, oa, sd, pr, qt, how, red⟩] w fun e w' => e = .returned (.int .i64 3) ∧ Below w.heap.size w w' := by
  go_enter Tryd.func7, Tryd.ntmps7
  go_simp
  iterate 400 (first | go_values | go_skip | go_guarded | go_step | go_upon | go_back | go_simp | dsimp only [List.append])
  go_ret
  exact ⟨rfl, below_alloc w _⟩
set_option maxHeartbeats 4000000 in
set_option maxRecDepth 100000 in
theorem ref_1h (ac n oi oa sd pr qt how : Int) (red : Bool) (w : World) (h : ¬ how = 0) : Calls Tryd.prog 7 #[cdV ⟨1, ac, 0, n, oi, oa, sd, pr, qt, how, red⟩] w fun e w' => e = .returned (.int .i64 3) ∧ Below w.heap.size w w' := by
  go_enter Tryd.func7, Tryd.ntmps7
  go_simp
  iterate 400 (first | go_values | go_skip | go_guarded | go_step | go_upon | go_back | go_simp | dsimp only [List.append])
  go_ret
  exact ⟨rfl, below_alloc w _⟩
set_option maxHeartbeats 4000000 in
set_option maxRecDepth 100000 in
theorem ref_1r (ac n oi oa sd pr qt : Int) (w : World) : Calls Tryd.prog 7 #[cdV ⟨1, ac, 0, n, oi, oa, sd, pr, qt, 0, true⟩] w fun e w' => e = .returned (.int .i64 3) ∧ Below w.heap.size w w' := by
  go_enter Tryd.func7, Tryd.ntmps7
  go_simp
  iterate 400 (first | go_values | go_skip | go_guarded | go_step | go_upon | go_back | go_simp | dsimp only [List.append])
  go_ret
  exact ⟨rfl, below_alloc w _⟩
set_option maxHeartbeats 4000000 in
set_option maxRecDepth 100000 in
theorem ref_1o (ac n oi oa sd pr qt : Int) (w : World) (h : (oi == 0 && oa == 0 && sd == 0 && pr == 0 && qt == 0) = false) : Calls Tryd.prog 7 #[cdV ⟨1, ac, 0, n, oi, oa, sd, pr, qt, 0, false⟩] w fun e w' => e = .returned (.int .i64 3) ∧ Below w.heap.size w w' := by
  have eq := eqO1 oi oa sd pr qt 0 0 0 0 0; rw [h] at eq
  go_enter Tryd.func7, Tryd.ntmps7
  go_simp
  iterate 400 (first | go_values | go_skip | go_guarded | go_step | go_upon | go_back | go_simp | dsimp only [List.append])
  go_ret
  exact ⟨rfl, below_alloc w _⟩
set_option maxHeartbeats 4000000 in
set_option maxRecDepth 100000 in
theorem ref_1z (ac n : Int) (w : World) : Calls Tryd.prog 7 #[cdV ⟨1, ac, 0, n, 0, 0, 0, 0, 0, 0, false⟩] w fun e w' => e = .returned (.int .i64 0) ∧ Below w.heap.size w w' := by
  have eq := eqO1 0 0 0 0 0 0 0 0 0 0; simp only [beq_self_eq_true, Bool.and_self] at eq
  go_enter Tryd.func7, Tryd.ntmps7
  go_simp
  iterate 400 (first | go_values | go_skip | go_guarded | go_step | go_upon | go_back | go_simp | dsimp only [List.append])
  go_ret
  exact ⟨rfl, below_alloc w _⟩
set_option maxHeartbeats 4000000 in
set_option maxRecDepth 100000 in
theorem ref_2m (ac mkt n oi oa sd pr qt how : Int) (red : Bool) (w : World) (h : ¬ mkt = 0) : Calls Tryd.prog 7 #[cdV ⟨2, ac, mkt, n, oi, oa, sd, pr, qt, how, red⟩] w fun e w' => e = .returned (.int .i64 3) ∧ Below w.heap.size w w' := by
  go_enter Tryd.func7, Tryd.ntmps7
  go_simp
  iterate 400 (first | go_values | go_skip | go_guarded | go_step | go_upon | go_back | go_simp | dsimp only [List.append])
  go_ret
  exact ⟨rfl, below_alloc w _⟩
set_option maxHeartbeats 4000000 in
set_option maxRecDepth 100000 in
theorem ref_2h (ac n oi oa sd pr qt how : Int) (red : Bool) (w : World) (h : ¬ how = 0) : Calls Tryd.prog 7 #[cdV ⟨2, ac, 0, n, oi, oa, sd, pr, qt, how, red⟩] w fun e w' => e = .returned (.int .i64 3) ∧ Below w.heap.size w w' := by
  go_enter Tryd.func7, Tryd.ntmps7
  go_simp
  iterate 400 (first | go_values | go_skip | go_guarded | go_step | go_upon | go_back | go_simp | dsimp only [List.append])
  go_ret
  exact ⟨rfl, below_alloc w _⟩
set_option maxHeartbeats 4000000 in
set_option maxRecDepth 100000 in
theorem ref_2r (ac n oi oa sd pr qt : Int) (w : World) : Calls Tryd.prog 7 #[cdV ⟨2, ac, 0, n, oi, oa, sd, pr, qt, 0, true⟩] w fun e w' => e = .returned (.int .i64 3) ∧ Below w.heap.size w w' := by
  go_enter Tryd.func7, Tryd.ntmps7
  go_simp
  iterate 400 (first | go_values | go_skip | go_guarded | go_step | go_upon | go_back | go_simp | dsimp only [List.append])
  go_ret
  exact ⟨rfl, below_alloc w _⟩
set_option maxHeartbeats 4000000 in
set_option maxRecDepth 100000 in
theorem ref_2o (ac n oi oa sd pr qt : Int) (w : World) (h : (oi == 0 && oa == 0 && sd == 0 && pr == 0 && qt == 0) = false) : Calls Tryd.prog 7 #[cdV ⟨2, ac, 0, n, oi, oa, sd, pr, qt, 0, false⟩] w fun e w' => e = .returned (.int .i64 3) ∧ Below w.heap.size w w' := by
  have eq := eqO1 oi oa sd pr qt 0 0 0 0 0; rw [h] at eq
  go_enter Tryd.func7, Tryd.ntmps7
  go_simp
  iterate 400 (first | go_values | go_skip | go_guarded | go_step | go_upon | go_back | go_simp | dsimp only [List.append])
  go_ret
  exact ⟨rfl, below_alloc w _⟩
set_option maxHeartbeats 4000000 in
set_option maxRecDepth 100000 in
theorem ref_2z (ac n : Int) (w : World) : Calls Tryd.prog 7 #[cdV ⟨2, ac, 0, n, 0, 0, 0, 0, 0, 0, false⟩] w fun e w' => e = .returned (.int .i64 0) ∧ Below w.heap.size w w' := by
  have eq := eqO1 0 0 0 0 0 0 0 0 0 0; simp only [beq_self_eq_true, Bool.and_self] at eq
  go_enter Tryd.func7, Tryd.ntmps7
  go_simp
  iterate 400 (first | go_values | go_skip | go_guarded | go_step | go_upon | go_back | go_simp | dsimp only [List.append])
  go_ret
  exact ⟨rfl, below_alloc w _⟩
set_option maxHeartbeats 4000000 in
set_option maxRecDepth 100000 in
theorem ref_4m (ac mkt n oi oa sd pr qt how : Int) (red : Bool) (w : World) (h : ¬ mkt = 0) : Calls Tryd.prog 7 #[cdV ⟨4, ac, mkt, n, oi, oa, sd, pr, qt, how, red⟩] w fun e w' => e = .returned (.int .i64 3) ∧ Below w.heap.size w w' := by
  go_enter Tryd.func7, Tryd.ntmps7
  go_simp
  iterate 400 (first | go_values | go_skip | go_guarded | go_step | go_upon | go_back | go_simp | dsimp only [List.append])
  go_ret
  exact ⟨rfl, below_alloc w _⟩
set_option maxHeartbeats 4000000 in
set_option maxRecDepth 100000 in
theorem ref_4h (ac n oi oa sd pr qt how : Int) (red : Bool) (w : World) (h : ¬ how = 0) : Calls Tryd.prog 7 #[cdV ⟨4, ac, 0, n, oi, oa, sd, pr, qt, how, red⟩] w fun e w' => e = .returned (.int .i64 3) ∧ Below w.heap.size w w' := by
  go_enter Tryd.func7, Tryd.ntmps7
  go_simp
  iterate 400 (first | go_values | go_skip | go_guarded | go_step | go_upon | go_back | go_simp | dsimp only [List.append])
  go_ret
  exact ⟨rfl, below_alloc w _⟩
set_option maxHeartbeats 4000000 in
set_option maxRecDepth 100000 in
theorem ref_4r (ac n oi oa sd pr qt : Int) (w : World) : Calls Tryd.prog 7 #[cdV ⟨4, ac, 0, n, oi, oa, sd, pr, qt, 0, true⟩] w fun e w' => e = .returned (.int .i64 3) ∧ Below w.heap.size w w' := by
  go_enter Tryd.func7, Tryd.ntmps7
  go_simp
  iterate 400 (first | go_values | go_skip | go_guarded | go_step | go_upon | go_back | go_simp | dsimp only [List.append])
  go_ret
  exact ⟨rfl, below_alloc w _⟩
set_option maxHeartbeats 4000000 in
set_option maxRecDepth 100000 in
theorem ref_4o (ac n oi oa sd pr qt : Int) (w : World) (h : (oi == 0 && oa == 0 && sd == 0 && pr == 0 && qt == 0) = false) : Calls Tryd.prog 7 #[cdV ⟨4, ac, 0, n, oi, oa, sd, pr, qt, 0, false⟩] w fun e w' => e = .returned (.int .i64 3) ∧ Below w.heap.size w w' := by
  have eq := eqO1 oi oa sd pr qt 0 0 0 0 0; rw [h] at eq
  go_enter Tryd.func7, Tryd.ntmps7
  go_simp
  iterate 400 (first | go_values | go_skip | go_guarded | go_step | go_upon | go_back | go_simp | dsimp only [List.append])
  go_ret
  exact ⟨rfl, below_alloc w _⟩
set_option maxHeartbeats 4000000 in
set_option maxRecDepth 100000 in
theorem ref_4z (ac n : Int) (w : World) : Calls Tryd.prog 7 #[cdV ⟨4, ac, 0, n, 0, 0, 0, 0, 0, 0, false⟩] w fun e w' => e = .returned (.int .i64 0) ∧ Below w.heap.size w w' := by
  have eq := eqO1 0 0 0 0 0 0 0 0 0 0; simp only [beq_self_eq_true, Bool.and_self] at eq
  go_enter Tryd.func7, Tryd.ntmps7
  go_simp
  iterate 400 (first | go_values | go_skip | go_guarded | go_step | go_upon | go_back | go_simp | dsimp only [List.append])
  go_ret
  exact ⟨rfl, below_alloc w _⟩
set_option maxHeartbeats 4000000 in
set_option maxRecDepth 100000 in
theorem ref_5a (ac mkt n oi oa sd pr qt how : Int) (red : Bool) (w : World) (h : ¬ ac = 0) : Calls Tryd.prog 7 #[cdV ⟨5, ac, mkt, n, oi, oa, sd, pr, qt, how, red⟩] w fun e w' => e = .returned (.int .i64 3) ∧ Below w.heap.size w w' := by
  go_enter Tryd.func7, Tryd.ntmps7
  go_simp
  iterate 400 (first | go_values | go_skip | go_guarded | go_step | go_upon | go_back | go_simp | dsimp only [List.append])
  go_ret
  exact ⟨rfl, below_alloc w _⟩
set_option maxHeartbeats 4000000 in
set_option maxRecDepth 100000 in
theorem ref_5h (mkt n oi oa sd pr qt how : Int) (red : Bool) (w : World) (h : ¬ how = 0) : Calls Tryd.prog 7 #[cdV ⟨5, 0, mkt, n, oi, oa, sd, pr, qt, how, red⟩] w fun e w' => e = .returned (.int .i64 3) ∧ Below w.heap.size w w' := by
  go_enter Tryd.func7, Tryd.ntmps7
  go_simp
  iterate 400 (first | go_values | go_skip | go_guarded | go_step | go_upon | go_back | go_simp | dsimp only [List.append])
  go_ret
  exact ⟨rfl, below_alloc w _⟩
set_option maxHeartbeats 4000000 in
set_option maxRecDepth 100000 in
theorem ref_5r (mkt n oi oa sd pr qt : Int) (w : World) : Calls Tryd.prog 7 #[cdV ⟨5, 0, mkt, n, oi, oa, sd, pr, qt, 0, true⟩] w fun e w' => e = .returned (.int .i64 3) ∧ Below w.heap.size w w' := by
  go_enter Tryd.func7, Tryd.ntmps7
  go_simp
  iterate 400 (first | go_values | go_skip | go_guarded | go_step | go_upon | go_back | go_simp | dsimp only [List.append])
  go_ret
  exact ⟨rfl, below_alloc w _⟩
set_option maxHeartbeats 4000000 in
set_option maxRecDepth 100000 in
theorem ref_5o (mkt n oi oa sd pr qt : Int) (w : World) (h : (oi == 0 && oa == 0 && sd == 0 && pr == 0 && qt == 0) = false) : Calls Tryd.prog 7 #[cdV ⟨5, 0, mkt, n, oi, oa, sd, pr, qt, 0, false⟩] w fun e w' => e = .returned (.int .i64 3) ∧ Below w.heap.size w w' := by
  have eq := eqO1 oi oa sd pr qt 0 0 0 0 0; rw [h] at eq
  go_enter Tryd.func7, Tryd.ntmps7
  go_simp
  iterate 400 (first | go_values | go_skip | go_guarded | go_step | go_upon | go_back | go_simp | dsimp only [List.append])
  go_ret
  exact ⟨rfl, below_alloc w _⟩
set_option maxHeartbeats 4000000 in
set_option maxRecDepth 100000 in
theorem ref_5z (mkt n : Int) (w : World) : Calls Tryd.prog 7 #[cdV ⟨5, 0, mkt, n, 0, 0, 0, 0, 0, 0, false⟩] w fun e w' => e = .returned (.int .i64 0) ∧ Below w.heap.size w w' := by
  have eq := eqO1 0 0 0 0 0 0 0 0 0 0; simp only [beq_self_eq_true, Bool.and_self] at eq
  go_enter Tryd.func7, Tryd.ntmps7
  go_simp
  iterate 400 (first | go_values | go_skip | go_guarded | go_step | go_upon | go_back | go_simp | dsimp only [List.append])
  go_ret
  exact ⟨rfl, below_alloc w _⟩
end Go.Proofs.YthdjfhnhjiageaaDoor.Tx
