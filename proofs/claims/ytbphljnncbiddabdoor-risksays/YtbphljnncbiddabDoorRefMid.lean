/-
  The reference's MiddleOf by a contract.
-/
import Derived.Test.YtbphljnncbiddabDoorFix
import Derived.Test.YtbphljnncbiddabDoorShelf
namespace Go.Proofs.YtbphljnncbiddabDoor.Rm
open Go.RowKit Go.Proofs.YtbphljnncbiddabDoor.Num Go.Proofs.YtbphljnncbiddabDoor.Fix

theorem below_putRow {B : Nat} {a w : World} (h : Below B a w) (enc : Int → Value) (blk off : Nat) (d : Array Int) (hb : B ≤ blk) : Below B a (Sort.putRow enc w blk off d) := by
  refine h.trans ⟨rfl, rfl, rfl, ?_, ?_⟩
  · show w.heap.size ≤ (w.heap.modify blk _).size
    simp
  · intro k hk
    show (w.heap.modify blk _)[k]? = _
    rw [Array.getElem?_modify, if_neg (by omega)]
theorem below_grow {B : Nat} {a w : World} (h : Below B a w) (os : Array Obj) (hb : B ≤ w.heap.size) : Below B a (Sort.grow w os) := by
  refine h.trans ⟨rfl, rfl, rfl, ?_, fun _ hj => Sort.heap_grow_old w os (by omega)⟩
  show w.heap.size ≤ (w.heap ++ os).size
  rw [Array.size_append]; omega

theorem sort3 (a b c : Int) (w : World) :
    Calls Tryd.prog 58 #[.slice (some ⟨w.heap.size, 0, none⟩) 3 3] (w.alloc (.cells #[.int .i64 a, .int .i64 b, .int .i64 c] 3)) fun e w' =>
      e = .returned (.tuple #[]) ∧ w'.cell? ⟨w.heap.size, 1, none⟩ = some (.int .i64 (middleR a b c)) ∧ Below w.heap.size w w' := by
  have hH : Sort.Holds (Value.int .i64) (w.alloc (.cells #[.int .i64 a, .int .i64 b, .int .i64 c] 3)) w.heap.size 0 [a, b, c].toArray := by
    intro j hj
    match j, hj with
    | 0, _ => exact ⟨by simp, by simp⟩
    | 1, _ => exact ⟨by simp, by simp⟩
    | 2, _ => exact ⟨by simp, by simp⟩
  refine (Tryd.sort_Ints w.heap.size 0 3 [a, b, c] _ hH (by simp) (by simp)).mono ?_
  rintro e w' ⟨rfl, n, os, rfl⟩
  have hl : ([a, b, c].mergeSort fun x y => decide (x ≤ y)).length = 3 := by simp
  have m := mid3 a b c
  generalize ([a, b, c].mergeSort fun x y => decide (x ≤ y)) = l at *
  refine ⟨rfl, ?_, ?_⟩
  · rw [Sort.cell?_grow _ _ _ (by show _ < (Array.modify _ _ _).size; simp [Sort.ahead])]
    have hc := Sort.cell?_putRow (Value.int .i64) (Sort.ahead (w.alloc (.cells #[.int .i64 a, .int .i64 b, .int .i64 c] 3)) n) w.heap.size 0 [a, b, c].toArray l.toArray hH (by simp [hl]) 1 (by simp [hl])
    rw [show (0 : Nat) + 1 = 1 from rfl] at hc
    rw [hc]
    have : l.toArray[1]! = middleR a b c := by
      simp [m]
    rw [this]
  · refine below_grow (below_putRow ?_ _ _ _ _ (Nat.le_refl _)) _ ?_
    · exact ((Below.refl _ _).alloc (Nat.le_refl _) _).trans ⟨rfl, rfl, rfl, Nat.le_refl _, fun _ _ => rfl⟩
    · show _ ≤ (Array.modify _ _ _).size
      simp [Sort.ahead]

set_option maxHeartbeats 400000 in
theorem middleOf_any (a b c : Int) (w : World) :
    Calls Tryd.prog 40 #[.int .i64 a, .int .i64 b, .int .i64 c] w fun e w' => e = .returned (.int .i64 (middleR a b c)) ∧ Below w.heap.size w w' := by
  go_enter Tryd.func40, Tryd.ntmps40
  go_wp2_with fail
  refine (sort3 a b c w).mono ?_
  rintro e w' ⟨rfl, hc, hb⟩
  go_wp2
  go_ret
  exact ⟨rfl, hb⟩
end Go.Proofs.YtbphljnncbiddabDoor.Rm
