/-
  The reference's chapter 8: CheckCommand.
-/
import Derived.Test.YthdjfhnhjiageaaGreatDoorTxW4
namespace Go.Proofs.YthdjfhnhjiageaaGreatDoor.Tx
open Go.RowKit Go.Lib

set_option maxHeartbeats 4000000 in
set_option maxRecDepth 100000 in
theorem eqO1 (a1 a2 a3 a4 a5 b1 b2 b3 b4 b5 : Int) (w : World) : Sem.run Tryz.prog (Op.equalIn 10000 26 (.agg #[.int .i64 a1, .int .i64 a2, .int .i64 a3, .int .i64 a4, .int .i64 a5]) (.agg #[.int .i64 b1, .int .i64 b2, .int .i64 b3, .int .i64 b4, .int .i64 b5])) w = .ok (a1 == b1 && a2 == b2 && a3 == b3 && a4 == b4 && a5 == b5) w := by
  have u3 := Tryz.underlying3
  have ag := Tryz.isAgg3
  have z3 := Tryz.sizeOf3
  have hS2 : Tryz.prog.underlying 26 = some (.struct (Tryz.prog.fieldsOf 26)) := by kernel_rfl
  have hp2 : Tryz.prog.stoodInHeld 26 = false := by kernel_rfl
  rw [show (10000 : Nat) = 9999 + 1 from rfl, run_equalIn_agg w 9999 26 _ _ hS2 hp2]
  simp only [Program.fieldsOf, Tryz.underlying26]
  clear hS2 hp2
  cases h1 : (a1 == b1)
  · go_simp
  cases h2 : (a2 == b2)
  · go_simp
  cases h3 : (a3 == b3)
  · go_simp
  cases h4 : (a4 == b4)
  · go_simp
  cases h5 : (a5 == b5)
  · go_simp
  go_simp
set_option maxHeartbeats 4000000 in
set_option maxRecDepth 100000 in
theorem ref_low (kind ac mkt n oi oa sd pr qt how : Int) (red : Bool) (w : World) (h : kind < 1) : Calls Tryz.prog 13 #[cdV ⟨kind, ac, mkt, n, oi, oa, sd, pr, qt, how, red⟩] w fun e w' => e = .returned (.int .i64 4) ∧ Below w.heap.size w w' := by
  go_enter Tryz.func13, Tryz.ntmps13
  go_simp
  iterate 400 (first | go_values | go_skip | go_guarded | go_step | go_upon | go_back | go_simp | dsimp only [List.append])
  go_ret
  exact ⟨rfl, below_alloc w _⟩
set_option maxHeartbeats 4000000 in
set_option maxRecDepth 100000 in
theorem ref_high (kind ac mkt n oi oa sd pr qt how : Int) (red : Bool) (w : World) (h : ¬ kind < 1) (h1 : kind > 7) : Calls Tryz.prog 13 #[cdV ⟨kind, ac, mkt, n, oi, oa, sd, pr, qt, how, red⟩] w fun e w' => e = .returned (.int .i64 4) ∧ Below w.heap.size w w' := by
  go_enter Tryz.func13, Tryz.ntmps13
  go_simp
  iterate 400 (first | go_values | go_skip | go_guarded | go_step | go_upon | go_back | go_simp | dsimp only [List.append])
  go_ret
  exact ⟨rfl, below_alloc w _⟩
set_option maxHeartbeats 4000000 in
set_option maxRecDepth 100000 in
theorem ref_1m (ac mkt n oi oa sd pr qt how : Int) (red : Bool) (w : World) (h : ¬ mkt = 0) : Calls Tryz.prog 13 #[cdV ⟨1, ac, mkt, n, oi, oa, sd, pr, qt, how, red⟩] w fun e w' => e = .returned (.int .i64 3) ∧ Below w.heap.size w w' := by
  go_enter Tryz.func13, Tryz.ntmps13
  go_simp
  iterate 400 (first | go_values | go_skip | go_guarded | go_step | go_upon | go_back | go_simp | dsimp only [List.append])
  go_ret
  exact ⟨rfl, below_alloc w _⟩
set_option maxHeartbeats 4000000 in
set_option maxRecDepth 100000 in
theorem ref_1h (ac n oi oa sd pr qt how : Int) (red : Bool) (w : World) (h : ¬ how = 0) : Calls Tryz.prog 13 #[cdV ⟨1, ac, 0, n, oi, oa, sd, pr, qt, how, red⟩] w fun e w' => e = .returned (.int .i64 3) ∧ Below w.heap.size w w' := by
  go_enter Tryz.func13, Tryz.ntmps13
  go_simp
  iterate 400 (first | go_values | go_skip | go_guarded | go_step | go_upon | go_back | go_simp | dsimp only [List.append])
  go_ret
  exact ⟨rfl, below_alloc w _⟩
set_option maxHeartbeats 4000000 in
set_option maxRecDepth 100000 in
theorem ref_1r (ac n oi oa sd pr qt : Int) (w : World) : Calls Tryz.prog 13 #[cdV ⟨1, ac, 0, n, oi, oa, sd, pr, qt, 0, true⟩] w fun e w' => e = .returned (.int .i64 3) ∧ Below w.heap.size w w' := by
  go_enter Tryz.func13, Tryz.ntmps13
  go_simp
  iterate 400 (first | go_values | go_skip | go_guarded | go_step | go_upon | go_back | go_simp | dsimp only [List.append])
  go_ret
  exact ⟨rfl, below_alloc w _⟩
set_option maxHeartbeats 4000000 in
set_option maxRecDepth 100000 in
theorem ref_1o (ac n oi oa sd pr qt : Int) (w : World) (h : (oi == 0 && oa == 0 && sd == 0 && pr == 0 && qt == 0) = false) : Calls Tryz.prog 13 #[cdV ⟨1, ac, 0, n, oi, oa, sd, pr, qt, 0, false⟩] w fun e w' => e = .returned (.int .i64 3) ∧ Below w.heap.size w w' := by
  have eq := eqO1 oi oa sd pr qt 0 0 0 0 0; rw [h] at eq
  go_enter Tryz.func13, Tryz.ntmps13
  go_simp
  iterate 400 (first | go_values | go_skip | go_guarded | go_step | go_upon | go_back | go_simp | dsimp only [List.append])
  go_ret
  exact ⟨rfl, below_alloc w _⟩
set_option maxHeartbeats 4000000 in
set_option maxRecDepth 100000 in
theorem ref_1z (ac n : Int) (w : World) : Calls Tryz.prog 13 #[cdV ⟨1, ac, 0, n, 0, 0, 0, 0, 0, 0, false⟩] w fun e w' => e = .returned (.int .i64 0) ∧ Below w.heap.size w w' := by
  have eq := eqO1 0 0 0 0 0 0 0 0 0 0; simp only [beq_self_eq_true, Bool.and_self] at eq
  go_enter Tryz.func13, Tryz.ntmps13
  go_simp
  iterate 400 (first | go_values | go_skip | go_guarded | go_step | go_upon | go_back | go_simp | dsimp only [List.append])
  go_ret
  exact ⟨rfl, below_alloc w _⟩
set_option maxHeartbeats 4000000 in
set_option maxRecDepth 100000 in
theorem ref_2m (ac mkt n oi oa sd pr qt how : Int) (red : Bool) (w : World) (h : ¬ mkt = 0) : Calls Tryz.prog 13 #[cdV ⟨2, ac, mkt, n, oi, oa, sd, pr, qt, how, red⟩] w fun e w' => e = .returned (.int .i64 3) ∧ Below w.heap.size w w' := by
  go_enter Tryz.func13, Tryz.ntmps13
  go_simp
  iterate 400 (first | go_values | go_skip | go_guarded | go_step | go_upon | go_back | go_simp | dsimp only [List.append])
  go_ret
  exact ⟨rfl, below_alloc w _⟩
set_option maxHeartbeats 4000000 in
set_option maxRecDepth 100000 in
theorem ref_2h (ac n oi oa sd pr qt how : Int) (red : Bool) (w : World) (h : ¬ how = 0) : Calls Tryz.prog 13 #[cdV ⟨2, ac, 0, n, oi, oa, sd, pr, qt, how, red⟩] w fun e w' => e = .returned (.int .i64 3) ∧ Below w.heap.size w w' := by
  go_enter Tryz.func13, Tryz.ntmps13
  go_simp
  iterate 400 (first | go_values | go_skip | go_guarded | go_step | go_upon | go_back | go_simp | dsimp only [List.append])
  go_ret
  exact ⟨rfl, below_alloc w _⟩
set_option maxHeartbeats 4000000 in
set_option maxRecDepth 100000 in
theorem ref_2r (ac n oi oa sd pr qt : Int) (w : World) : Calls Tryz.prog 13 #[cdV ⟨2, ac, 0, n, oi, oa, sd, pr, qt, 0, true⟩] w fun e w' => e = .returned (.int .i64 3) ∧ Below w.heap.size w w' := by
  go_enter Tryz.func13, Tryz.ntmps13
  go_simp
  iterate 400 (first | go_values | go_skip | go_guarded | go_step | go_upon | go_back | go_simp | dsimp only [List.append])
  go_ret
  exact ⟨rfl, below_alloc w _⟩
set_option maxHeartbeats 4000000 in
set_option maxRecDepth 100000 in
theorem ref_2o (ac n oi oa sd pr qt : Int) (w : World) (h : (oi == 0 && oa == 0 && sd == 0 && pr == 0 && qt == 0) = false) : Calls Tryz.prog 13 #[cdV ⟨2, ac, 0, n, oi, oa, sd, pr, qt, 0, false⟩] w fun e w' => e = .returned (.int .i64 3) ∧ Below w.heap.size w w' := by
  have eq := eqO1 oi oa sd pr qt 0 0 0 0 0; rw [h] at eq
  go_enter Tryz.func13, Tryz.ntmps13
  go_simp
  iterate 400 (first | go_values | go_skip | go_guarded | go_step | go_upon | go_back | go_simp | dsimp only [List.append])
  go_ret
  exact ⟨rfl, below_alloc w _⟩
set_option maxHeartbeats 4000000 in
set_option maxRecDepth 100000 in
theorem ref_2z (ac n : Int) (w : World) : Calls Tryz.prog 13 #[cdV ⟨2, ac, 0, n, 0, 0, 0, 0, 0, 0, false⟩] w fun e w' => e = .returned (.int .i64 0) ∧ Below w.heap.size w w' := by
  have eq := eqO1 0 0 0 0 0 0 0 0 0 0; simp only [beq_self_eq_true, Bool.and_self] at eq
  go_enter Tryz.func13, Tryz.ntmps13
  go_simp
  iterate 400 (first | go_values | go_skip | go_guarded | go_step | go_upon | go_back | go_simp | dsimp only [List.append])
  go_ret
  exact ⟨rfl, below_alloc w _⟩
set_option maxHeartbeats 4000000 in
set_option maxRecDepth 100000 in
theorem ref_4m (ac mkt n oi oa sd pr qt how : Int) (red : Bool) (w : World) (h : ¬ mkt = 0) : Calls Tryz.prog 13 #[cdV ⟨4, ac, mkt, n, oi, oa, sd, pr, qt, how, red⟩] w fun e w' => e = .returned (.int .i64 3) ∧ Below w.heap.size w w' := by
  go_enter Tryz.func13, Tryz.ntmps13
  go_simp
  iterate 400 (first | go_values | go_skip | go_guarded | go_step | go_upon | go_back | go_simp | dsimp only [List.append])
  go_ret
  exact ⟨rfl, below_alloc w _⟩
set_option maxHeartbeats 4000000 in
set_option maxRecDepth 100000 in
theorem ref_4h (ac n oi oa sd pr qt how : Int) (red : Bool) (w : World) (h : ¬ how = 0) : Calls Tryz.prog 13 #[cdV ⟨4, ac, 0, n, oi, oa, sd, pr, qt, how, red⟩] w fun e w' => e = .returned (.int .i64 3) ∧ Below w.heap.size w w' := by
  go_enter Tryz.func13, Tryz.ntmps13
  go_simp
  iterate 400 (first | go_values | go_skip | go_guarded | go_step | go_upon | go_back | go_simp | dsimp only [List.append])
  go_ret
  exact ⟨rfl, below_alloc w _⟩
set_option maxHeartbeats 4000000 in
set_option maxRecDepth 100000 in
theorem ref_4r (ac n oi oa sd pr qt : Int) (w : World) : Calls Tryz.prog 13 #[cdV ⟨4, ac, 0, n, oi, oa, sd, pr, qt, 0, true⟩] w fun e w' => e = .returned (.int .i64 3) ∧ Below w.heap.size w w' := by
  go_enter Tryz.func13, Tryz.ntmps13
  go_simp
  iterate 400 (first | go_values | go_skip | go_guarded | go_step | go_upon | go_back | go_simp | dsimp only [List.append])
  go_ret
  exact ⟨rfl, below_alloc w _⟩
set_option maxHeartbeats 4000000 in
set_option maxRecDepth 100000 in
theorem ref_4o (ac n oi oa sd pr qt : Int) (w : World) (h : (oi == 0 && oa == 0 && sd == 0 && pr == 0 && qt == 0) = false) : Calls Tryz.prog 13 #[cdV ⟨4, ac, 0, n, oi, oa, sd, pr, qt, 0, false⟩] w fun e w' => e = .returned (.int .i64 3) ∧ Below w.heap.size w w' := by
  have eq := eqO1 oi oa sd pr qt 0 0 0 0 0; rw [h] at eq
  go_enter Tryz.func13, Tryz.ntmps13
  go_simp
  iterate 400 (first | go_values | go_skip | go_guarded | go_step | go_upon | go_back | go_simp | dsimp only [List.append])
  go_ret
  exact ⟨rfl, below_alloc w _⟩
set_option maxHeartbeats 4000000 in
set_option maxRecDepth 100000 in
theorem ref_4z (ac n : Int) (w : World) : Calls Tryz.prog 13 #[cdV ⟨4, ac, 0, n, 0, 0, 0, 0, 0, 0, false⟩] w fun e w' => e = .returned (.int .i64 0) ∧ Below w.heap.size w w' := by
  have eq := eqO1 0 0 0 0 0 0 0 0 0 0; simp only [beq_self_eq_true, Bool.and_self] at eq
  go_enter Tryz.func13, Tryz.ntmps13
  go_simp
  iterate 400 (first | go_values | go_skip | go_guarded | go_step | go_upon | go_back | go_simp | dsimp only [List.append])
  go_ret
  exact ⟨rfl, below_alloc w _⟩
set_option maxHeartbeats 4000000 in
set_option maxRecDepth 100000 in
theorem ref_5a (ac mkt n oi oa sd pr qt how : Int) (red : Bool) (w : World) (h : ¬ ac = 0) : Calls Tryz.prog 13 #[cdV ⟨5, ac, mkt, n, oi, oa, sd, pr, qt, how, red⟩] w fun e w' => e = .returned (.int .i64 3) ∧ Below w.heap.size w w' := by
  go_enter Tryz.func13, Tryz.ntmps13
  go_simp
  iterate 400 (first | go_values | go_skip | go_guarded | go_step | go_upon | go_back | go_simp | dsimp only [List.append])
  go_ret
  exact ⟨rfl, below_alloc w _⟩
set_option maxHeartbeats 4000000 in
set_option maxRecDepth 100000 in
theorem ref_5h (mkt n oi oa sd pr qt how : Int) (red : Bool) (w : World) (h : ¬ how = 0) : Calls Tryz.prog 13 #[cdV ⟨5, 0, mkt, n, oi, oa, sd, pr, qt, how, red⟩] w fun e w' => e = .returned (.int .i64 3) ∧ Below w.heap.size w w' := by
  go_enter Tryz.func13, Tryz.ntmps13
  go_simp
  iterate 400 (first | go_values | go_skip | go_guarded | go_step | go_upon | go_back | go_simp | dsimp only [List.append])
  go_ret
  exact ⟨rfl, below_alloc w _⟩
set_option maxHeartbeats 4000000 in
set_option maxRecDepth 100000 in
theorem ref_5r (mkt n oi oa sd pr qt : Int) (w : World) : Calls Tryz.prog 13 #[cdV ⟨5, 0, mkt, n, oi, oa, sd, pr, qt, 0, true⟩] w fun e w' => e = .returned (.int .i64 3) ∧ Below w.heap.size w w' := by
  go_enter Tryz.func13, Tryz.ntmps13
  go_simp
  iterate 400 (first | go_values | go_skip | go_guarded | go_step | go_upon | go_back | go_simp | dsimp only [List.append])
  go_ret
  exact ⟨rfl, below_alloc w _⟩
set_option maxHeartbeats 4000000 in
set_option maxRecDepth 100000 in
theorem ref_5o (mkt n oi oa sd pr qt : Int) (w : World) (h : (oi == 0 && oa == 0 && sd == 0 && pr == 0 && qt == 0) = false) : Calls Tryz.prog 13 #[cdV ⟨5, 0, mkt, n, oi, oa, sd, pr, qt, 0, false⟩] w fun e w' => e = .returned (.int .i64 3) ∧ Below w.heap.size w w' := by
  have eq := eqO1 oi oa sd pr qt 0 0 0 0 0; rw [h] at eq
  go_enter Tryz.func13, Tryz.ntmps13
  go_simp
  iterate 400 (first | go_values | go_skip | go_guarded | go_step | go_upon | go_back | go_simp | dsimp only [List.append])
  go_ret
  exact ⟨rfl, below_alloc w _⟩
set_option maxHeartbeats 4000000 in
set_option maxRecDepth 100000 in
theorem ref_5z (mkt n : Int) (w : World) : Calls Tryz.prog 13 #[cdV ⟨5, 0, mkt, n, 0, 0, 0, 0, 0, 0, false⟩] w fun e w' => e = .returned (.int .i64 0) ∧ Below w.heap.size w w' := by
  have eq := eqO1 0 0 0 0 0 0 0 0 0 0; simp only [beq_self_eq_true, Bool.and_self] at eq
  go_enter Tryz.func13, Tryz.ntmps13
  go_simp
  iterate 400 (first | go_values | go_skip | go_guarded | go_step | go_upon | go_back | go_simp | dsimp only [List.append])
  go_ret
  exact ⟨rfl, below_alloc w _⟩
end Go.Proofs.YthdjfhnhjiageaaGreatDoor.Tx
namespace Go.Proofs.YthdjfhnhjiageaaGreatDoor.Tx
open Go.RowKit Go.Lib

set_option maxHeartbeats 4000000 in
set_option maxRecDepth 100000 in
theorem ref_6a (ac mkt n oi oa sd pr qt how : Int) (red : Bool) (w : World) (h : ¬ ac = 0) : Calls Tryz.prog 13 #[cdV ⟨6, ac, mkt, n, oi, oa, sd, pr, qt, how, red⟩] w fun e w' => e = .returned (.int .i64 3) ∧ Below w.heap.size w w' := by
  go_enter Tryz.func13, Tryz.ntmps13
  go_simp
  iterate 400 (first | go_values | go_skip | go_guarded | go_step | go_upon | go_back | go_simp | dsimp only [List.append])
  go_ret
  exact ⟨rfl, below_alloc w _⟩
set_option maxHeartbeats 4000000 in
set_option maxRecDepth 100000 in
theorem ref_6h (mkt n oi oa sd pr qt how : Int) (red : Bool) (w : World) (h : ¬ how = 0) : Calls Tryz.prog 13 #[cdV ⟨6, 0, mkt, n, oi, oa, sd, pr, qt, how, red⟩] w fun e w' => e = .returned (.int .i64 3) ∧ Below w.heap.size w w' := by
  go_enter Tryz.func13, Tryz.ntmps13
  go_simp
  iterate 400 (first | go_values | go_skip | go_guarded | go_step | go_upon | go_back | go_simp | dsimp only [List.append])
  go_ret
  exact ⟨rfl, below_alloc w _⟩
set_option maxHeartbeats 4000000 in
set_option maxRecDepth 100000 in
theorem ref_6r (mkt n oi oa sd pr qt : Int) (w : World) : Calls Tryz.prog 13 #[cdV ⟨6, 0, mkt, n, oi, oa, sd, pr, qt, 0, true⟩] w fun e w' => e = .returned (.int .i64 3) ∧ Below w.heap.size w w' := by
  go_enter Tryz.func13, Tryz.ntmps13
  go_simp
  iterate 400 (first | go_values | go_skip | go_guarded | go_step | go_upon | go_back | go_simp | dsimp only [List.append])
  go_ret
  exact ⟨rfl, below_alloc w _⟩
set_option maxHeartbeats 4000000 in
set_option maxRecDepth 100000 in
theorem ref_6o (mkt n oi oa sd pr qt : Int) (w : World) (h : (oi == 0 && oa == 0 && sd == 0 && pr == 0 && qt == 0) = false) : Calls Tryz.prog 13 #[cdV ⟨6, 0, mkt, n, oi, oa, sd, pr, qt, 0, false⟩] w fun e w' => e = .returned (.int .i64 3) ∧ Below w.heap.size w w' := by
  have eq := eqO1 oi oa sd pr qt 0 0 0 0 0; rw [h] at eq
  go_enter Tryz.func13, Tryz.ntmps13
  go_simp
  iterate 400 (first | go_values | go_skip | go_guarded | go_step | go_upon | go_back | go_simp | dsimp only [List.append])
  go_ret
  exact ⟨rfl, below_alloc w _⟩
set_option maxHeartbeats 4000000 in
set_option maxRecDepth 100000 in
theorem ref_6z (mkt n : Int) (w : World) : Calls Tryz.prog 13 #[cdV ⟨6, 0, mkt, n, 0, 0, 0, 0, 0, 0, false⟩] w fun e w' => e = .returned (.int .i64 0) ∧ Below w.heap.size w w' := by
  have eq := eqO1 0 0 0 0 0 0 0 0 0 0; simp only [beq_self_eq_true, Bool.and_self] at eq
  go_enter Tryz.func13, Tryz.ntmps13
  go_simp
  iterate 400 (first | go_values | go_skip | go_guarded | go_step | go_upon | go_back | go_simp | dsimp only [List.append])
  go_ret
  exact ⟨rfl, below_alloc w _⟩
set_option maxHeartbeats 4000000 in
set_option maxRecDepth 100000 in
theorem ref_7a (ac mkt n oi oa sd pr qt how : Int) (red : Bool) (w : World) (h : ¬ ac = 0) : Calls Tryz.prog 13 #[cdV ⟨7, ac, mkt, n, oi, oa, sd, pr, qt, how, red⟩] w fun e w' => e = .returned (.int .i64 3) ∧ Below w.heap.size w w' := by
  go_enter Tryz.func13, Tryz.ntmps13
  go_simp
  iterate 400 (first | go_values | go_skip | go_guarded | go_step | go_upon | go_back | go_simp | dsimp only [List.append])
  go_ret
  exact ⟨rfl, below_alloc w _⟩
set_option maxHeartbeats 4000000 in
set_option maxRecDepth 100000 in
theorem ref_7m (mkt n oi oa sd pr qt how : Int) (red : Bool) (w : World) (h : ¬ mkt = 0) : Calls Tryz.prog 13 #[cdV ⟨7, 0, mkt, n, oi, oa, sd, pr, qt, how, red⟩] w fun e w' => e = .returned (.int .i64 3) ∧ Below w.heap.size w w' := by
  go_enter Tryz.func13, Tryz.ntmps13
  go_simp
  iterate 400 (first | go_values | go_skip | go_guarded | go_step | go_upon | go_back | go_simp | dsimp only [List.append])
  go_ret
  exact ⟨rfl, below_alloc w _⟩
set_option maxHeartbeats 4000000 in
set_option maxRecDepth 100000 in
theorem ref_7n (n oi oa sd pr qt how : Int) (red : Bool) (w : World) (h : ¬ n = 0) : Calls Tryz.prog 13 #[cdV ⟨7, 0, 0, n, oi, oa, sd, pr, qt, how, red⟩] w fun e w' => e = .returned (.int .i64 3) ∧ Below w.heap.size w w' := by
  go_enter Tryz.func13, Tryz.ntmps13
  go_simp
  iterate 400 (first | go_values | go_skip | go_guarded | go_step | go_upon | go_back | go_simp | dsimp only [List.append])
  go_ret
  exact ⟨rfl, below_alloc w _⟩
set_option maxHeartbeats 4000000 in
set_option maxRecDepth 100000 in
theorem ref_7h (oi oa sd pr qt how : Int) (red : Bool) (w : World) (h : ¬ how = 0) : Calls Tryz.prog 13 #[cdV ⟨7, 0, 0, 0, oi, oa, sd, pr, qt, how, red⟩] w fun e w' => e = .returned (.int .i64 3) ∧ Below w.heap.size w w' := by
  go_enter Tryz.func13, Tryz.ntmps13
  go_simp
  iterate 400 (first | go_values | go_skip | go_guarded | go_step | go_upon | go_back | go_simp | dsimp only [List.append])
  go_ret
  exact ⟨rfl, below_alloc w _⟩
set_option maxHeartbeats 4000000 in
set_option maxRecDepth 100000 in
theorem ref_7r (oi oa sd pr qt : Int) (w : World) : Calls Tryz.prog 13 #[cdV ⟨7, 0, 0, 0, oi, oa, sd, pr, qt, 0, true⟩] w fun e w' => e = .returned (.int .i64 3) ∧ Below w.heap.size w w' := by
  go_enter Tryz.func13, Tryz.ntmps13
  go_simp
  iterate 400 (first | go_values | go_skip | go_guarded | go_step | go_upon | go_back | go_simp | dsimp only [List.append])
  go_ret
  exact ⟨rfl, below_alloc w _⟩
set_option maxHeartbeats 4000000 in
set_option maxRecDepth 100000 in
theorem ref_7o (oi oa sd pr qt : Int) (w : World) (h : (oi == 0 && oa == 0 && sd == 0 && pr == 0 && qt == 0) = false) : Calls Tryz.prog 13 #[cdV ⟨7, 0, 0, 0, oi, oa, sd, pr, qt, 0, false⟩] w fun e w' => e = .returned (.int .i64 3) ∧ Below w.heap.size w w' := by
  have eq := eqO1 oi oa sd pr qt 0 0 0 0 0; rw [h] at eq
  go_enter Tryz.func13, Tryz.ntmps13
  go_simp
  iterate 400 (first | go_values | go_skip | go_guarded | go_step | go_upon | go_back | go_simp | dsimp only [List.append])
  go_ret
  exact ⟨rfl, below_alloc w _⟩
set_option maxHeartbeats 4000000 in
set_option maxRecDepth 100000 in
theorem ref_7z (w : World) : Calls Tryz.prog 13 #[cdV ⟨7, 0, 0, 0, 0, 0, 0, 0, 0, 0, false⟩] w fun e w' => e = .returned (.int .i64 0) ∧ Below w.heap.size w w' := by
  have eq := eqO1 0 0 0 0 0 0 0 0 0 0; simp only [beq_self_eq_true, Bool.and_self] at eq
  go_enter Tryz.func13, Tryz.ntmps13
  go_simp
  iterate 400 (first | go_values | go_skip | go_guarded | go_step | go_upon | go_back | go_simp | dsimp only [List.append])
  go_ret
  exact ⟨rfl, below_alloc w _⟩
set_option maxHeartbeats 4000000 in
set_option maxRecDepth 100000 in
theorem ref_3l (ac mkt n oi oa sd pr qt how : Int) (red : Bool) (w : World) (h : how < 1) : Calls Tryz.prog 13 #[cdV ⟨3, ac, mkt, n, oi, oa, sd, pr, qt, how, red⟩] w fun e w' => e = .returned (.int .i64 4) ∧ Below w.heap.size w w' := by
  go_enter Tryz.func13, Tryz.ntmps13
  go_simp
  iterate 400 (first | go_values | go_skip | go_guarded | go_step | go_upon | go_back | go_simp | dsimp only [List.append])
  go_ret
  exact ⟨rfl, below_alloc w _⟩
set_option maxHeartbeats 4000000 in
set_option maxRecDepth 100000 in
theorem ref_3g (ac mkt n oi oa sd pr qt how : Int) (red : Bool) (w : World) (h : ¬ how < 1) (h1 : how > 4) : Calls Tryz.prog 13 #[cdV ⟨3, ac, mkt, n, oi, oa, sd, pr, qt, how, red⟩] w fun e w' => e = .returned (.int .i64 4) ∧ Below w.heap.size w w' := by
  go_enter Tryz.func13, Tryz.ntmps13
  go_simp
  iterate 400 (first | go_values | go_skip | go_guarded | go_step | go_upon | go_back | go_simp | dsimp only [List.append])
  go_ret
  exact ⟨rfl, below_alloc w _⟩
set_option maxHeartbeats 4000000 in
set_option maxRecDepth 100000 in
theorem ref_3s (ac mkt n oi oa sd pr qt how : Int) (red : Bool) (w : World) (h : ¬ how < 1) (h1 : ¬ how > 4) (h2 : ¬ sd = 1) (h3 : ¬ sd = -1) : Calls Tryz.prog 13 #[cdV ⟨3, ac, mkt, n, oi, oa, sd, pr, qt, how, red⟩] w fun e w' => e = .returned (.int .i64 4) ∧ Below w.heap.size w w' := by
  have h4 : (sd == 1) = false := by simpa using h2
  have h5 : (sd == -1) = false := by simpa using h3
  have h6 : (sd != 1) = true := by simp [h2]
  have h7 : (sd != -1) = true := by simp [h3]
  go_enter Tryz.func13, Tryz.ntmps13
  go_simp
  iterate 400 (first | go_values | go_skip | go_guarded | go_step | go_upon | go_back | go_simp | dsimp only [List.append])
  go_ret
  exact ⟨rfl, below_alloc w _⟩
set_option maxHeartbeats 4000000 in
set_option maxRecDepth 100000 in
theorem ref_3bn (ac mkt n oi oa pr qt how : Int) (red : Bool) (w : World) (h : ¬ how < 1) (h1 : ¬ how > 4) (h2 : ¬ n = 0) : Calls Tryz.prog 13 #[cdV ⟨3, ac, mkt, n, oi, oa, 1, pr, qt, how, red⟩] w fun e w' => e = .returned (.int .i64 3) ∧ Below w.heap.size w w' := by
  go_enter Tryz.func13, Tryz.ntmps13
  go_simp
  iterate 400 (first | go_values | go_skip | go_guarded | go_step | go_upon | go_back | go_simp | dsimp only [List.append])
  go_ret
  exact ⟨rfl, below_alloc w _⟩
set_option maxHeartbeats 4000000 in
set_option maxRecDepth 100000 in
theorem ref_3bi (ac mkt oi oa pr qt how : Int) (red : Bool) (w : World) (h : ¬ how < 1) (h1 : ¬ how > 4) (h2 : ¬ oi = 0) : Calls Tryz.prog 13 #[cdV ⟨3, ac, mkt, 0, oi, oa, 1, pr, qt, how, red⟩] w fun e w' => e = .returned (.int .i64 3) ∧ Below w.heap.size w w' := by
  go_enter Tryz.func13, Tryz.ntmps13
  go_simp
  iterate 400 (first | go_values | go_skip | go_guarded | go_step | go_upon | go_back | go_simp | dsimp only [List.append])
  go_ret
  exact ⟨rfl, below_alloc w _⟩
set_option maxHeartbeats 4000000 in
set_option maxRecDepth 100000 in
theorem ref_3ba (ac mkt oa pr qt how : Int) (red : Bool) (w : World) (h : ¬ how < 1) (h1 : ¬ how > 4) (h2 : ¬ oa = 0) : Calls Tryz.prog 13 #[cdV ⟨3, ac, mkt, 0, 0, oa, 1, pr, qt, how, red⟩] w fun e w' => e = .returned (.int .i64 3) ∧ Below w.heap.size w w' := by
  go_enter Tryz.func13, Tryz.ntmps13
  go_simp
  iterate 400 (first | go_values | go_skip | go_guarded | go_step | go_upon | go_back | go_simp | dsimp only [List.append])
  go_ret
  exact ⟨rfl, below_alloc w _⟩
set_option maxHeartbeats 4000000 in
set_option maxRecDepth 100000 in
theorem ref_3bz (ac mkt pr qt how : Int) (red : Bool) (w : World) (h : ¬ how < 1) (h1 : ¬ how > 4) : Calls Tryz.prog 13 #[cdV ⟨3, ac, mkt, 0, 0, 0, 1, pr, qt, how, red⟩] w fun e w' => e = .returned (.int .i64 0) ∧ Below w.heap.size w w' := by
  go_enter Tryz.func13, Tryz.ntmps13
  go_simp
  iterate 400 (first | go_values | go_skip | go_guarded | go_step | go_upon | go_back | go_simp | dsimp only [List.append])
  go_ret
  exact ⟨rfl, below_alloc w _⟩
set_option maxHeartbeats 4000000 in
set_option maxRecDepth 100000 in
theorem ref_3sn (ac mkt n oi oa pr qt how : Int) (red : Bool) (w : World) (h : ¬ how < 1) (h1 : ¬ how > 4) (h2 : ¬ n = 0) : Calls Tryz.prog 13 #[cdV ⟨3, ac, mkt, n, oi, oa, (-1), pr, qt, how, red⟩] w fun e w' => e = .returned (.int .i64 3) ∧ Below w.heap.size w w' := by
  go_enter Tryz.func13, Tryz.ntmps13
  go_simp
  iterate 400 (first | go_values | go_skip | go_guarded | go_step | go_upon | go_back | go_simp | dsimp only [List.append])
  go_ret
  exact ⟨rfl, below_alloc w _⟩
set_option maxHeartbeats 4000000 in
set_option maxRecDepth 100000 in
theorem ref_3si (ac mkt oi oa pr qt how : Int) (red : Bool) (w : World) (h : ¬ how < 1) (h1 : ¬ how > 4) (h2 : ¬ oi = 0) : Calls Tryz.prog 13 #[cdV ⟨3, ac, mkt, 0, oi, oa, (-1), pr, qt, how, red⟩] w fun e w' => e = .returned (.int .i64 3) ∧ Below w.heap.size w w' := by
  go_enter Tryz.func13, Tryz.ntmps13
  go_simp
  iterate 400 (first | go_values | go_skip | go_guarded | go_step | go_upon | go_back | go_simp | dsimp only [List.append])
  go_ret
  exact ⟨rfl, below_alloc w _⟩
set_option maxHeartbeats 4000000 in
set_option maxRecDepth 100000 in
theorem ref_3sa (ac mkt oa pr qt how : Int) (red : Bool) (w : World) (h : ¬ how < 1) (h1 : ¬ how > 4) (h2 : ¬ oa = 0) : Calls Tryz.prog 13 #[cdV ⟨3, ac, mkt, 0, 0, oa, (-1), pr, qt, how, red⟩] w fun e w' => e = .returned (.int .i64 3) ∧ Below w.heap.size w w' := by
  go_enter Tryz.func13, Tryz.ntmps13
  go_simp
  iterate 400 (first | go_values | go_skip | go_guarded | go_step | go_upon | go_back | go_simp | dsimp only [List.append])
  go_ret
  exact ⟨rfl, below_alloc w _⟩
set_option maxHeartbeats 4000000 in
set_option maxRecDepth 100000 in
theorem ref_3sz (ac mkt pr qt how : Int) (red : Bool) (w : World) (h : ¬ how < 1) (h1 : ¬ how > 4) : Calls Tryz.prog 13 #[cdV ⟨3, ac, mkt, 0, 0, 0, (-1), pr, qt, how, red⟩] w fun e w' => e = .returned (.int .i64 0) ∧ Below w.heap.size w w' := by
  go_enter Tryz.func13, Tryz.ntmps13
  go_simp
  iterate 400 (first | go_values | go_skip | go_guarded | go_step | go_upon | go_back | go_simp | dsimp only [List.append])
  go_ret
  exact ⟨rfl, below_alloc w _⟩
end Go.Proofs.YthdjfhnhjiageaaGreatDoor.Tx
namespace Go.Proofs.YthdjfhnhjiageaaGreatDoor.Tx
open Go.RowKit Go.Lib

theorem o_zero {oi oa sd pr qt : Int} (h : ¬ (oi == 0 && oa == 0 && sd == 0 && pr == 0 && qt == 0) = false) : oi = 0 ∧ oa = 0 ∧ sd = 0 ∧ pr = 0 ∧ qt = 0 := by
  simpa [and_assoc] using h
theorem o_no {oi oa sd pr qt : Int} (h : (oi == 0 && oa == 0 && sd == 0 && pr == 0 && qt == 0) = false) (h1 : oi = 0) (h2 : oa = 0) (h3 : sd = 0) (h4 : pr = 0) (h5 : qt = 0) : False := by
  subst h1 h2 h3 h4 h5
  exact absurd h (by decide)
theorem says_of {c : Cd} {r : Int} {w : World} (e : checkC c = r) (h : Calls Tryz.prog 13 #[cdV c] w fun e w' => e = .returned (.int .i64 r) ∧ Below w.heap.size w w') : Calls Tryz.prog 13 #[cdV c] w fun e w' => e = .returned (.int .i64 (checkC c)) ∧ Below w.heap.size w w' := by
  rw [e]
  exact h
theorem same_no {c : Cd} (hk : atW kindsL c.kind ≠ []) (h3 : ¬ c.kind = 3) (h : ¬ c = usedC c) : checkC c = 3 := by
  unfold checkC
  rw [if_neg hk, if_neg (fun x => h3 x.1), if_neg (fun x => h (sameC_iff.1 x))]
theorem same_yes {c : Cd} (hk : atW kindsL c.kind ≠ []) (h3 : ¬ c.kind = 3) (h : c = usedC c) : checkC c = 0 := by
  unfold checkC
  rw [if_neg hk, if_neg (fun x => h3 x.1), if_pos (sameC_iff.2 h)]
theorem form_4 {ac mkt n oi oa sd pr qt how : Int} {red : Bool} (h : atW howsL how = [] ∨ atW sidesL (sd + 1) = []) : checkC ⟨3, ac, mkt, n, oi, oa, sd, pr, qt, how, red⟩ = 4 := by
  unfold checkC
  rw [if_neg (show ¬ atW kindsL 3 = [] by decide), if_pos ⟨rfl, h⟩]
theorem how_in {how : Int} (h : ¬ how < 1) (h1 : ¬ how > 4) : atW howsL how ≠ [] := by
  obtain rfl | rfl | rfl | rfl : how = 1 ∨ how = 2 ∨ how = 3 ∨ how = 4 := by omega
  all_goals decide
theorem place_3 {ac mkt n oi oa sd pr qt how : Int} {red : Bool} (h : ¬ how < 1) (h1 : ¬ how > 4) (hs : atW sidesL (sd + 1) ≠ []) (hn : ¬ (n = 0 ∧ oi = 0 ∧ oa = 0)) : checkC ⟨3, ac, mkt, n, oi, oa, sd, pr, qt, how, red⟩ = 3 := by
  unfold checkC
  rw [if_neg (show ¬ atW kindsL 3 = [] by decide), if_neg (fun x => x.2.elim (how_in h h1) hs), if_neg]
  intro x
  have e := sameC_iff.1 x
  have : usedC ⟨3, ac, mkt, n, oi, oa, sd, pr, qt, how, red⟩ = ⟨3, ac, mkt, 0, 0, 0, sd, pr, qt, how, red⟩ := rfl
  rw [this] at e
  injection e
  exact hn ⟨by assumption, by assumption, by assumption⟩
theorem place_0 {ac mkt sd pr qt how : Int} {red : Bool} (h : ¬ how < 1) (h1 : ¬ how > 4) (hs : atW sidesL (sd + 1) ≠ []) : checkC ⟨3, ac, mkt, 0, 0, 0, sd, pr, qt, how, red⟩ = 0 := by
  unfold checkC
  rw [if_neg (show ¬ atW kindsL 3 = [] by decide), if_neg (fun x => x.2.elim (how_in h h1) hs)]
  exact if_pos (sameC_iff.2 rfl)
theorem refCheck_any (c : Cd) (w : World) : Calls Tryz.prog 13 #[cdV c] w fun e w' => e = .returned (.int .i64 (checkC c)) ∧ Below w.heap.size w w' := by
  obtain ⟨kind, ac, mkt, n, oi, oa, sd, pr, qt, how, red⟩ := c
  by_cases hlo : kind < 1
  · rw [show checkC ⟨kind, ac, mkt, n, oi, oa, sd, pr, qt, how, red⟩ = 4 from if_pos (Classical.byContradiction fun x => by rcases kind_ok x with h | h | h | h | h | h | h <;> dsimp only at h <;> omega)]
    exact ref_low kind ac mkt n oi oa sd pr qt how red w hlo
  by_cases hhi : kind > 7
  · rw [show checkC ⟨kind, ac, mkt, n, oi, oa, sd, pr, qt, how, red⟩ = 4 from if_pos (Classical.byContradiction fun x => by rcases kind_ok x with h | h | h | h | h | h | h <;> dsimp only at h <;> omega)]
    exact ref_high kind ac mkt n oi oa sd pr qt how red w hlo hhi
  obtain rfl | rfl | rfl | rfl | rfl | rfl | rfl : kind = 1 ∨ kind = 2 ∨ kind = 4 ∨ kind = 5 ∨ kind = 6 ∨ kind = 7 ∨ kind = 3 := by omega
  · by_cases hm : mkt = 0
    · subst hm
      by_cases hh : how = 0
      · subst hh
        cases red
        · by_cases ho : (oi == 0 && oa == 0 && sd == 0 && pr == 0 && qt == 0) = false
          · exact says_of (same_no (by dsimp only; decide) (by dsimp only; decide) (fun e => o_no ho (congrArg Cd.oi e) (congrArg Cd.oa e) (congrArg Cd.sd e) (congrArg Cd.pr e) (congrArg Cd.qt e))) (ref_1o ac n oi oa sd pr qt w ho)
          · obtain ⟨rfl, rfl, rfl, rfl, rfl⟩ := o_zero ho
            exact says_of (same_yes (by dsimp only; decide) (by dsimp only; decide) rfl) (ref_1z ac n w)
        · exact says_of (same_no (by dsimp only; decide) (by dsimp only; decide) (fun e => Bool.noConfusion (show true = false from congrArg Cd.red e))) (ref_1r ac n oi oa sd pr qt w)
      · exact says_of (same_no (by dsimp only; decide) (by dsimp only; decide) (fun e => hh (congrArg Cd.how e))) (ref_1h ac n oi oa sd pr qt how red w hh)
    · exact says_of (same_no (by dsimp only; decide) (by dsimp only; decide) (fun e => hm (congrArg Cd.mkt e))) (ref_1m ac mkt n oi oa sd pr qt how red w hm)
  · by_cases hm : mkt = 0
    · subst hm
      by_cases hh : how = 0
      · subst hh
        cases red
        · by_cases ho : (oi == 0 && oa == 0 && sd == 0 && pr == 0 && qt == 0) = false
          · exact says_of (same_no (by dsimp only; decide) (by dsimp only; decide) (fun e => o_no ho (congrArg Cd.oi e) (congrArg Cd.oa e) (congrArg Cd.sd e) (congrArg Cd.pr e) (congrArg Cd.qt e))) (ref_2o ac n oi oa sd pr qt w ho)
          · obtain ⟨rfl, rfl, rfl, rfl, rfl⟩ := o_zero ho
            exact says_of (same_yes (by dsimp only; decide) (by dsimp only; decide) rfl) (ref_2z ac n w)
        · exact says_of (same_no (by dsimp only; decide) (by dsimp only; decide) (fun e => Bool.noConfusion (show true = false from congrArg Cd.red e))) (ref_2r ac n oi oa sd pr qt w)
      · exact says_of (same_no (by dsimp only; decide) (by dsimp only; decide) (fun e => hh (congrArg Cd.how e))) (ref_2h ac n oi oa sd pr qt how red w hh)
    · exact says_of (same_no (by dsimp only; decide) (by dsimp only; decide) (fun e => hm (congrArg Cd.mkt e))) (ref_2m ac mkt n oi oa sd pr qt how red w hm)
  · by_cases hm : mkt = 0
    · subst hm
      by_cases hh : how = 0
      · subst hh
        cases red
        · by_cases ho : (oi == 0 && oa == 0 && sd == 0 && pr == 0 && qt == 0) = false
          · exact says_of (same_no (by dsimp only; decide) (by dsimp only; decide) (fun e => o_no ho (congrArg Cd.oi e) (congrArg Cd.oa e) (congrArg Cd.sd e) (congrArg Cd.pr e) (congrArg Cd.qt e))) (ref_4o ac n oi oa sd pr qt w ho)
          · obtain ⟨rfl, rfl, rfl, rfl, rfl⟩ := o_zero ho
            exact says_of (same_yes (by dsimp only; decide) (by dsimp only; decide) rfl) (ref_4z ac n w)
        · exact says_of (same_no (by dsimp only; decide) (by dsimp only; decide) (fun e => Bool.noConfusion (show true = false from congrArg Cd.red e))) (ref_4r ac n oi oa sd pr qt w)
      · exact says_of (same_no (by dsimp only; decide) (by dsimp only; decide) (fun e => hh (congrArg Cd.how e))) (ref_4h ac n oi oa sd pr qt how red w hh)
    · exact says_of (same_no (by dsimp only; decide) (by dsimp only; decide) (fun e => hm (congrArg Cd.mkt e))) (ref_4m ac mkt n oi oa sd pr qt how red w hm)
  · by_cases hm : ac = 0
    · subst hm
      by_cases hh : how = 0
      · subst hh
        cases red
        · by_cases ho : (oi == 0 && oa == 0 && sd == 0 && pr == 0 && qt == 0) = false
          · exact says_of (same_no (by dsimp only; decide) (by dsimp only; decide) (fun e => o_no ho (congrArg Cd.oi e) (congrArg Cd.oa e) (congrArg Cd.sd e) (congrArg Cd.pr e) (congrArg Cd.qt e))) (ref_5o mkt n oi oa sd pr qt w ho)
          · obtain ⟨rfl, rfl, rfl, rfl, rfl⟩ := o_zero ho
            exact says_of (same_yes (by dsimp only; decide) (by dsimp only; decide) rfl) (ref_5z mkt n w)
        · exact says_of (same_no (by dsimp only; decide) (by dsimp only; decide) (fun e => Bool.noConfusion (show true = false from congrArg Cd.red e))) (ref_5r mkt n oi oa sd pr qt w)
      · exact says_of (same_no (by dsimp only; decide) (by dsimp only; decide) (fun e => hh (congrArg Cd.how e))) (ref_5h mkt n oi oa sd pr qt how red w hh)
    · exact says_of (same_no (by dsimp only; decide) (by dsimp only; decide) (fun e => hm (congrArg Cd.ac e))) (ref_5a ac mkt n oi oa sd pr qt how red w hm)
  · by_cases hm : ac = 0
    · subst hm
      by_cases hh : how = 0
      · subst hh
        cases red
        · by_cases ho : (oi == 0 && oa == 0 && sd == 0 && pr == 0 && qt == 0) = false
          · exact says_of (same_no (by dsimp only; decide) (by dsimp only; decide) (fun e => o_no ho (congrArg Cd.oi e) (congrArg Cd.oa e) (congrArg Cd.sd e) (congrArg Cd.pr e) (congrArg Cd.qt e))) (ref_6o mkt n oi oa sd pr qt w ho)
          · obtain ⟨rfl, rfl, rfl, rfl, rfl⟩ := o_zero ho
            exact says_of (same_yes (by dsimp only; decide) (by dsimp only; decide) rfl) (ref_6z mkt n w)
        · exact says_of (same_no (by dsimp only; decide) (by dsimp only; decide) (fun e => Bool.noConfusion (show true = false from congrArg Cd.red e))) (ref_6r mkt n oi oa sd pr qt w)
      · exact says_of (same_no (by dsimp only; decide) (by dsimp only; decide) (fun e => hh (congrArg Cd.how e))) (ref_6h mkt n oi oa sd pr qt how red w hh)
    · exact says_of (same_no (by dsimp only; decide) (by dsimp only; decide) (fun e => hm (congrArg Cd.ac e))) (ref_6a ac mkt n oi oa sd pr qt how red w hm)
  · by_cases ha : ac = 0
    · subst ha
      by_cases hm : mkt = 0
      · subst hm
        by_cases hn : n = 0
        · subst hn
          by_cases hh : how = 0
          · subst hh
            cases red
            · by_cases ho : (oi == 0 && oa == 0 && sd == 0 && pr == 0 && qt == 0) = false
              · exact says_of (same_no (by dsimp only; decide) (by dsimp only; decide) (fun e => o_no ho (congrArg Cd.oi e) (congrArg Cd.oa e) (congrArg Cd.sd e) (congrArg Cd.pr e) (congrArg Cd.qt e))) (ref_7o oi oa sd pr qt w ho)
              · obtain ⟨rfl, rfl, rfl, rfl, rfl⟩ := o_zero ho
                exact says_of (same_yes (by dsimp only; decide) (by dsimp only; decide) rfl) (ref_7z w)
            · exact says_of (same_no (by dsimp only; decide) (by dsimp only; decide) (fun e => Bool.noConfusion (show true = false from congrArg Cd.red e))) (ref_7r oi oa sd pr qt w)
          · exact says_of (same_no (by dsimp only; decide) (by dsimp only; decide) (fun e => hh (congrArg Cd.how e))) (ref_7h oi oa sd pr qt how red w hh)
        · exact says_of (same_no (by dsimp only; decide) (by dsimp only; decide) (fun e => hn (congrArg Cd.n e))) (ref_7n n oi oa sd pr qt how red w hn)
      · exact says_of (same_no (by dsimp only; decide) (by dsimp only; decide) (fun e => hm (congrArg Cd.mkt e))) (ref_7m mkt n oi oa sd pr qt how red w hm)
    · exact says_of (same_no (by dsimp only; decide) (by dsimp only; decide) (fun e => ha (congrArg Cd.ac e))) (ref_7a ac mkt n oi oa sd pr qt how red w ha)
  · by_cases hl : how < 1
    · exact says_of (form_4 (.inl (Classical.byContradiction fun x => by rcases how_ok x with h | h | h | h <;> omega))) (ref_3l ac mkt n oi oa sd pr qt how red w hl)
    by_cases hg : how > 4
    · exact says_of (form_4 (.inl (Classical.byContradiction fun x => by rcases how_ok x with h | h | h | h <;> omega))) (ref_3g ac mkt n oi oa sd pr qt how red w hl hg)
    by_cases hb : sd = 1
    · subst hb
      by_cases hn : n = 0
      · subst hn
        by_cases hi : oi = 0
        · subst hi
          by_cases ha : oa = 0
          · subst ha
            exact says_of (place_0 hl hg (by decide)) (ref_3bz ac mkt pr qt how red w hl hg)
          · exact says_of (place_3 hl hg (by decide) (fun x => ha x.2.2)) (ref_3ba ac mkt oa pr qt how red w hl hg ha)
        · exact says_of (place_3 hl hg (by decide) (fun x => hi x.2.1)) (ref_3bi ac mkt oi oa pr qt how red w hl hg hi)
      · exact says_of (place_3 hl hg (by decide) (fun x => hn x.1)) (ref_3bn ac mkt n oi oa pr qt how red w hl hg hn)
    by_cases hs : sd = -1
    · subst hs
      by_cases hn : n = 0
      · subst hn
        by_cases hi : oi = 0
        · subst hi
          by_cases ha : oa = 0
          · subst ha
            exact says_of (place_0 hl hg (by decide)) (ref_3sz ac mkt pr qt how red w hl hg)
          · exact says_of (place_3 hl hg (by decide) (fun x => ha x.2.2)) (ref_3sa ac mkt oa pr qt how red w hl hg ha)
        · exact says_of (place_3 hl hg (by decide) (fun x => hi x.2.1)) (ref_3si ac mkt oi oa pr qt how red w hl hg hi)
      · exact says_of (place_3 hl hg (by decide) (fun x => hn x.1)) (ref_3sn ac mkt n oi oa pr qt how red w hl hg hn)
    exact says_of (form_4 (.inr (Classical.byContradiction fun x => by rcases side_ok x with h | h <;> omega))) (ref_3s ac mkt n oi oa sd pr qt how red w hl hg hb hs)
end Go.Proofs.YthdjfhnhjiageaaGreatDoor.Tx
