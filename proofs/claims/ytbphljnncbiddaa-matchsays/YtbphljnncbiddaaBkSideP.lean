/-
  Package book: a side's check, order by order: plain mathematics; the set of IDs that were seen.
-/
import Derived.Test.YtbphljnncbiddaaBkRow
import Derived.Maps.OwnSet
import Derived.Maps.OwnOps
namespace Go.Proofs.Ytbphljnncbiddaa.Bk
open Go.RowKit Go.Sort Go.Maps

def prevAt (xs : List Odr) (k : Nat) : Option Odr := if k = 0 then none else some xs[k - 1]!
/-- what a side's check has still to say behind k orders. -/
def sideAt (side : Int) (seen : List Int) (xs : List Odr) (k : Nat) : Int := sideErr side (prevAt xs k) (seen ++ (xs.take k).map oid) (xs.drop k)

theorem drop_at {xs : List Odr} {k : Nat} (h : k < xs.length) : xs.drop k = xs[k]! :: xs.drop (k + 1) := by
  rw [List.drop_eq_getElem_cons h, getElem!_pos xs k h]
theorem sideAt_zero (side : Int) (seen : List Int) (xs : List Odr) : sideAt side seen xs 0 = sideErr side none seen xs := by
  simp [sideAt, prevAt]
theorem sideAt_end (side : Int) (seen : List Int) (xs : List Odr) : sideAt side seen xs xs.length = 0 := by
  unfold sideAt; rw [List.drop_length]; rfl
theorem sideAt_bad {side : Int} {seen : List Int} {xs : List Odr} {k : Nat} (h : k < xs.length) (hb : okOrder xs[k]! ≠ 0) : sideAt side seen xs k = okOrder xs[k]! := by
  unfold sideAt; rw [drop_at h]; unfold sideErr; rw [if_pos hb]
theorem sideAt_side {side : Int} {seen : List Int} {xs : List Odr} {k : Nat} (h : k < xs.length) (hb : okOrder xs[k]! = 0) (hs : osd xs[k]! ≠ side) : sideAt side seen xs k = 4 := by
  unfold sideAt; rw [drop_at h]; unfold sideErr; rw [if_neg (fun e => e hb), if_pos (.inl hs)]
theorem sideAt_form {side : Int} {seen : List Int} {xs : List Odr} {k : Nat} (h : k < xs.length) (hb : okOrder xs[k]! = 0) (hk : 0 < k) (ha : ahead xs[k - 1]! xs[k]! = false) : sideAt side seen xs k = 4 := by
  unfold sideAt; rw [drop_at h]; unfold sideErr
  rw [if_neg (fun e => e hb), if_pos]
  right; unfold prevAt; rw [if_neg (by omega)]; show (!ahead _ _) = true; rw [ha]; rfl
theorem ahead_prev {xs : List Odr} {k : Nat} {o : Odr} (ha : k = 0 ∨ ahead xs[k - 1]! o = true) : ((prevAt xs k).elim false fun p => !ahead p o) = false := by
  unfold prevAt
  split
  · rfl
  · rcases ha with ha | ha
    · omega
    · show (!ahead _ _) = false; rw [ha]; rfl
theorem sideAt_twice {side : Int} {seen : List Int} {xs : List Odr} {k : Nat} (h : k < xs.length) (hb : okOrder xs[k]! = 0) (hs : osd xs[k]! = side) (ha : k = 0 ∨ ahead xs[k - 1]! xs[k]! = true)
    (ht : oid xs[k]! ∈ seen ++ (xs.take k).map oid) : sideAt side seen xs k = 6 := by
  unfold sideAt; rw [drop_at h]; unfold sideErr
  rw [if_neg (fun e => e hb), if_neg, if_pos ht]
  rw [ahead_prev ha]
  rintro (e | e)
  · exact e hs
  · cases e
theorem take_at {xs : List Odr} {k : Nat} (h : k < xs.length) : xs.take (k + 1) = xs.take k ++ [xs[k]!] := by
  rw [List.take_add_one, List.getElem?_eq_getElem h, getElem!_pos xs k h]; rfl
theorem ids_at {xs : List Odr} {k : Nat} (seen : List Int) (h : k < xs.length) : seen ++ (xs.take (k + 1)).map oid = (seen ++ (xs.take k).map oid) ++ [oid xs[k]!] := by
  rw [take_at h]; simp
theorem sideAt_on {side : Int} {seen : List Int} {xs : List Odr} {k : Nat} (h : k < xs.length) (hb : okOrder xs[k]! = 0) (hs : osd xs[k]! = side) (ha : k = 0 ∨ ahead xs[k - 1]! xs[k]! = true)
    (ht : ¬ oid xs[k]! ∈ seen ++ (xs.take k).map oid) : sideAt side seen xs k = sideAt side seen xs (k + 1) := by
  unfold sideAt; rw [drop_at h, ids_at seen h]
  conv => lhs; unfold sideErr
  rw [if_neg (fun e => e hb), if_neg (by rw [ahead_prev ha]; rintro (e | e); exact e hs; cases e), if_neg ht]
  rfl

/-- the IDs that were seen, as the map holds them. -/
def Sset (ids : List Int) : DataW Unit := setOf (.agg []) (ids.map (Lit.int .i64))
theorem Sset_nil : Sset [] = .map [] := rfl
theorem Sset_snoc (ids : List Int) (x : Int) : Sset (ids ++ [x]) = (Sset ids).put (.int .i64 x) (.agg []) := by
  unfold Sset; rw [List.map_append, List.map_singleton, setOf_snoc]
theorem any_key (x : Int) : ∀ l : List Int, l.any ((fun y : Lit => y.sameKey (.int .i64 x)) ∘ Lit.int .i64) = decide (x ∈ l)
  | [] => by simp
  | a :: r => by
    rw [List.any_cons, any_key x r]
    show (decide (IntKind.i64 = IntKind.i64 ∧ a = x) || decide (x ∈ r)) = _
    by_cases e : a = x
    · subst e; simp
    · have e' : ¬ x = a := fun h => e h.symm
      simp [e, e']
theorem has_Sset (ids : List Int) (x : Int) : Maps.has (Sset ids) (.int .i64 x) = decide (x ∈ ids) := by
  unfold Sset
  rw [has_setOf _ _ _ (fun y hy => by obtain ⟨_, _, rfl⟩ := List.mem_map.1 hy; trivial), List.any_map]
  exact any_key x _

theorem lawI : Keyed Try.prog 3 := int_keyed Try.underlying3
theorem zeroU (w : World) : (zeroValue 119).run Try.prog w = .ok (.agg #[]) w := by kernel_rfl
theorem keyI {x : Int} (h : 1 ≤ x ∧ x ≤ 100000) : keyOf Try.prog 3 (.int .i64 x) = some (.int .i64 x) := keyOf_int_mk Try.underlying3 (WalkArith.wf_i64 (by omega))

abbrev OwnsSet (w : World) (B m : Nat) (ids : List Int) : Prop := w.ownsMap Try.prog 3 (unitElem (H := Unit)) B m (Sset ids)
theorem ownsSet_lt {w : World} {B m : Nat} {ids : List Int} (h : OwnsSet w B m ids) : B < w.heap.size := by
  obtain ⟨es, clock, h1, _⟩ := h
  exact (Array.getElem?_eq_some_iff.1 h1).1

end Go.Proofs.Ytbphljnncbiddaa.Bk
