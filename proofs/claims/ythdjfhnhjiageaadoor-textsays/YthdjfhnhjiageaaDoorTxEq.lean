/-
  Two commands, alike or not.
-/
import Derived.Test.YthdjfhnhjiageaaDoorTxW2
import Derived.Laws.StructEq
namespace Go.Proofs.YthdjfhnhjiageaaDoor.Tx
open Go.RowKit Go.Lib

set_option maxHeartbeats 4000000 in
set_option maxRecDepth 100000 in
theorem eqO (a1 a2 a3 a4 a5 b1 b2 b3 b4 b5 : Int) (w : World) : Sem.run Tryd.prog (Op.equalIn 9999 23 (.agg #[.int .i64 a1, .int .i64 a2, .int .i64 a3, .int .i64 a4, .int .i64 a5]) (.agg #[.int .i64 b1, .int .i64 b2, .int .i64 b3, .int .i64 b4, .int .i64 b5])) w = .ok (a1 == b1 && a2 == b2 && a3 == b3 && a4 == b4 && a5 == b5) w := by
  have u3 := Tryd.underlying3
  have ag := Tryd.isAgg3
  have z3 := Tryd.sizeOf3
  have hS2 : Tryd.prog.underlying 23 = some (.struct (Tryd.prog.fieldsOf 23)) := by kernel_rfl
  have hp2 : Tryd.prog.stoodInHeld 23 = false := by kernel_rfl
  rw [show (9999 : Nat) = 9998 + 1 from rfl, run_equalIn_agg w 9998 23 _ _ hS2 hp2]
  simp only [Program.fieldsOf, Tryd.underlying23]
  clear hS2 hp2
  cases h1 : (a1 == b1)
  · go_simp
  cases h2 : (a2 == b2)
  · go_simp
  cases h3 : (a3 == b3)
  · go_simp
  cases h4 : (a4 == b4)
  · go_simp
  cases h5 : (a5 == b5)
  · go_simp
  go_simp
set_option maxHeartbeats 4000000 in
set_option maxRecDepth 100000 in
theorem eqC (x y : Cd) (w : World) : Sem.run Tryd.prog (Op.equalIn 10000 25 (cdV x) (cdV y)) w = .ok (sameC x y) w := by
  have u3 := Tryd.underlying3
  have ag := Tryd.isAgg3
  have z3 := Tryd.sizeOf3
  have u4 := Tryd.underlying4
  have ag4 := Tryd.isAgg4
  have z4 := Tryd.sizeOf4
  have ao := Tryd.isAgg23
  have zo := Tryd.sizeOf23
  have hS : Tryd.prog.underlying 25 = some (.struct (Tryd.prog.fieldsOf 25)) := by kernel_rfl
  have hp : Tryd.prog.stoodInHeld 25 = false := by kernel_rfl
  obtain ⟨a1, a2, a3, a4, a5, a6, a7, a8, a9, a10, a11⟩ := x
  obtain ⟨b1, b2, b3, b4, b5, b6, b7, b8, b9, b10, b11⟩ := y
  have eo := eqO a5 a6 a7 a8 a9 b5 b6 b7 b8 b9
  rw [show (10000 : Nat) = 9999 + 1 from rfl, run_equalIn_agg w 9999 25 _ _ hS hp]
  have es : sameC ⟨a1, a2, a3, a4, a5, a6, a7, a8, a9, a10, a11⟩ ⟨b1, b2, b3, b4, b5, b6, b7, b8, b9, b10, b11⟩ = (a1 == b1 && a2 == b2 && a3 == b3 && a4 == b4 && (a5 == b5 && a6 == b6 && a7 == b7 && a8 == b8 && a9 == b9) && a10 == b10 && a11 == b11) := by
    unfold sameC
    simp only [Bool.and_assoc]
  rw [es]
  simp only [Program.fieldsOf, Tryd.underlying25]
  clear hS hp es
  generalize (a5 == b5 && a6 == b6 && a7 == b7 && a8 == b8 && a9 == b9) = q at *
  cases h1 : (a1 == b1)
  · go_simp
  cases h2 : (a2 == b2)
  · go_simp
  cases h3 : (a3 == b3)
  · go_simp
  cases h4 : (a4 == b4)
  · go_simp
  cases q
  · go_simp
  cases h5 : (a10 == b10)
  · go_simp
  cases h6 : (a11 == b11)
  · go_simp
  go_simp
end Go.Proofs.YthdjfhnhjiageaaDoor.Tx
