/-
  Package account by contracts: Trade.
-/
import Derived.Test.YtbphljnncbiddabAc
namespace Go.Proofs.Ytbphljnncbiddab.Ac
open Go.RowKit Go.Proofs.Ytbphljnncbiddab.Num Go.Proofs.Ytbphljnncbiddab.Fix Go.Proofs.Ytbphljnncbiddab.AcP

abbrev noA : Value := .agg #[.int .i64 0, .int .i64 0, .slice none 0 0]
abbrev noO : Obj := .cells #[.int .i64 0, .int .i64 0, .slice none 0 0] 30


/-- three cells that may be written, at this block. -/
def Three (x : World) (t : Nat) : Prop := ∃ u0 u1 u2, x.heap[t]? = some (.cells #[u0, u1, u2] 30 (0, 0))
theorem three_below {x y : World} {t : Nat} (h : Three x t) (hb : Below x.heap.size x y) : Three y t := by
  obtain ⟨u0, u1, u2, h⟩ := h
  exact ⟨u0, u1, u2, (hb.block t (Array.getElem?_eq_some_iff.1 h).1).trans h⟩
theorem three_facts {x : World} {t : Nat} (h : Three x t) : ∃ u0 u1 u2, x.cell? ⟨t, 0, none⟩ = some u0 ∧ x.cell? ⟨t, 1, none⟩ = some u1 ∧ x.cell? ⟨t, 2, none⟩ = some u2 ∧ x.frozen? ⟨t, 0, none⟩ = false ∧ x.frozen? ⟨t, 1, none⟩ = false ∧ x.frozen? ⟨t, 2, none⟩ = false := by
  obtain ⟨u0, u1, u2, h⟩ := h
  refine ⟨u0, u1, u2, ?_, ?_, ?_, ?_, ?_, ?_⟩ <;> simp [World.cell?, World.frozen?, h]
theorem three_made (w : World) (u0 u1 u2 : Value) : Three (w.alloc (.cells #[u0, u1, u2] 30)) w.heap.size :=
  ⟨u0, u1, u2, by have := heap_alloc_new w (.cells #[u0, u1, u2] 30); simpa using this⟩
theorem three_made2 (w : World) (o : Obj) (u0 u1 u2 : Value) : Three ((w.alloc o).alloc (.cells #[u0, u1, u2] 30)) (w.heap.size + 1) := by
  have := three_made (w.alloc o) u0 u1 u2
  simpa using this
theorem three_alloc {x : World} {t : Nat} (h : Three x t) (o : Obj) : Three (x.alloc o) t := three_below h (below_alloc x o)
theorem three_set {x : World} {t : Nat} (h : Three x t) (v0 v1 v2 : Value) : (((x.setCell ⟨t, 0, none⟩ v0).setCell ⟨t, 1, none⟩ v1).setCell ⟨t, 2, none⟩ v2).heap[t]? = some (.cells #[v0, v1, v2] 30 (0, 0)) := by
  obtain ⟨u0, u1, u2, h⟩ := h
  simp [World.setCell, Array.getElem?_modify, h]
theorem three_read {x : World} {t : Nat} {v0 v1 v2 : Value} (h : x.heap[t]? = some (.cells #[v0, v1, v2] 30 (0, 0))) : x.cell? ⟨t, 0, none⟩ = some v0 ∧ x.cell? ⟨t, 1, none⟩ = some v1 ∧ x.cell? ⟨t, 2, none⟩ = some v2 := by
  refine ⟨?_, ?_, ?_⟩ <;> simp [World.cell?, h]
theorem three_below_set {B t : Nat} {w x : World} (h : Below B w x) (ht : B ≤ t) (v0 v1 v2 : Value) : Below B w (((x.setCell ⟨t, 0, none⟩ v0).setCell ⟨t, 1, none⟩ v1).setCell ⟨t, 2, none⟩ v2) := ((h.setCell ht _).setCell ht _).setCell ht _

theorem cell_alloc {w : World} {a : Addr} {v : Value} (h : w.cell? a = some v) (o : Obj) : (w.alloc o).cell? a = some v := ((below_alloc w o).cell (World.block_lt_of_cell? _ _ h)).trans h
theorem below_alloc2 (w : World) (o o' : Obj) : Below w.heap.size w ((w.alloc o).alloc o') := ((Below.refl _ w).alloc (Nat.le_refl _) _).alloc (by simp) _

theorem below3 (w : World) (o o' o3 : Obj) : Below w.heap.size w (((w.alloc o).alloc o').alloc o3) := (below_alloc2 w o o').alloc (by simp; omega) _
theorem below4 (w : World) (o o' o3 o4 : Obj) : Below w.heap.size w ((((w.alloc o).alloc o').alloc o3).alloc o4) := (below3 w o o' o3).alloc (by simp; omega) _






end Go.Proofs.Ytbphljnncbiddab.Ac
