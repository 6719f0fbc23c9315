/-
  The reference's bookOf, by a contract: what its loop leaves.
-/
import Derived.Test.YtbphljnncbiddaaStC
import Derived.Test.YtbphljnncbiddaaBkRem
import Derived.Maps.AppendAt
namespace Go.Proofs.Ytbphljnncbiddaa.Rk
open Go.Shelf Go.RowKit Go.Lib Go.Sort Go.Maps Go.Proofs.Ytbphljnncbiddaa.Bk Go.Proofs.Ytbphljnncbiddaa.St

def keepB (x : Odr) : Bool := decide (¬ oqt x = 0) && decide (osd x = 1)
def keepA (x : Odr) : Bool := decide (¬ oqt x = 0) && !decide (osd x = 1)

/-- what bookOf's loop has: two rows of its own, their slices in one block, the result's cells. -/
structure BO (w wr : World) (v0 v1 : Value) (Bs As : List Odr) : Prop where
  below : Below w.heap.size w wr
  size : w.heap.size + 2 ≤ wr.heap.size
  bk : wr.heap[w.heap.size + 1]? = some (.cells #[v0, v1] 42 (0, 0))
  rs : Two wr w.heap.size
  o0 : wr.ownsRow (w.heap.size + 2) 44 5 v0 Bs.length (flat Bs)
  o1 : wr.ownsRow (w.heap.size + 2) 44 5 v1 As.length (flat As)
  ne : ∀ g, v0.ownBlock = some g → v1.ownBlock ≠ some g

theorem below_new (w : World) (o : Obj) : Below w.heap.size w (w.alloc o) := (Below.refl _ _).alloc (Nat.le_refl _) o
theorem bo_alloc {w wr : World} {v0 v1 : Value} {Bs As : List Odr} (h : BO w wr v0 v1 Bs As) (o : Obj) : BO w (wr.alloc o) v0 v1 Bs As :=
  ⟨h.below.trans ((below_new wr o).mono h.below.size), by have := h.size; simp; omega, ((below_new wr o).block _ (by have := h.size; omega)).trans h.bk, two_below h.rs (below_new wr o), h.o0.alloc o, h.o1.alloc o, h.ne⟩
theorem kept_of {v0 v1 : Value} (h : ∀ g, v0.ownBlock = some g → v1.ownBlock ≠ some g) : v1.ownBlock = none ∨ v1.ownBlock ≠ v0.ownBlock := by
  cases e : v1.ownBlock with
  | none => exact .inl rfl
  | some g => exact .inr fun e' => h g e'.symm e
theorem two_put {x : World} {t t' o : Nat} (h : Two x t) (ht : ¬ t' = t) (v : Value) : Two (x.setCell ⟨t', o, none⟩ v) t := by
  obtain ⟨u0, u1, h⟩ := h
  exact ⟨u0, u1, by simp [World.setCell, Array.getElem?_modify, h, ht]⟩
theorem bk_put0 {x : World} {t : Nat} {u0 u1 : Value} (h : x.heap[t]? = some (.cells #[u0, u1] 42 (0, 0))) (v : Value) : (x.setCell ⟨t, 0, none⟩ v).heap[t]? = some (.cells #[v, u1] 42 (0, 0)) := by
  simp [World.setCell, Array.getElem?_modify, h]
theorem bk_put1 {x : World} {t : Nat} {u0 u1 : Value} (h : x.heap[t]? = some (.cells #[u0, u1] 42 (0, 0))) (v : Value) : (x.setCell ⟨t, 1, none⟩ v).heap[t]? = some (.cells #[u0, v] 42 (0, 0)) := by
  simp [World.setCell, Array.getElem?_modify, h]
theorem flat_snoc (xs : List Odr) (x : Odr) : flat (xs ++ [x]) = flat xs ++ Bk.enc x := by
  rw [flat_append]; simp [flat]

/-- what an append to one of the rows leaves of the rest. -/
theorem bo_grown {w wb w1 : World} {v0 v1 : Value} {Bs As : List Odr} (h : BO w wb v0 v1 Bs As) {v : Value} {n : Nat} {fl : List Value} (hv : wb.ownsRow (w.heap.size + 2) 44 5 v n fl) (hg : wb.grownBy w1 v.ownBlock) :
    Below w.heap.size w w1 ∧ w.heap.size + 2 ≤ w1.heap.size ∧ w1.heap[w.heap.size + 1]? = some (.cells #[v0, v1] 42 (0, 0)) ∧ Two w1 w.heap.size := by
  have hb : ∀ k, k < w.heap.size + 2 → w1.heap[k]? = wb.heap[k]? := fun k hk => hg.block k (by have := h.size; omega) (fun e => by have := (hv.lt k e.symm).1; omega)
  refine ⟨h.below.grown hg h.below.size (fun j hj => by have := (hv.lt j hj).1; omega), Nat.le_trans h.size hg.size, (hb _ (by omega)).trans h.bk, ?_⟩
  obtain ⟨u0, u1, hr⟩ := h.rs
  exact ⟨u0, u1, (hb _ (by omega)).trans hr⟩

theorem bo_put0 {w wb w1 : World} {v0 v1 v' : Value} {Bs As : List Odr} {x : Odr} (h : BO w wb v0 v1 Bs As) (ho : w1.ownsRow (w.heap.size + 2) 44 5 v' (Bs.length + 1) (flat Bs ++ Bk.enc x)) (hg : wb.grownBy w1 v0.ownBlock)
    (hat : v'.ownBlock = v0.ownBlock ∨ v'.ownBlock = some wb.heap.size) : BO w (w1.setCell ⟨w.heap.size + 1, 0, none⟩ v') v' v1 (Bs ++ [x]) As := by
  obtain ⟨g1, g2, g3, g4⟩ := bo_grown h h.o0 hg
  refine ⟨g1.setCell (by simp) _, by simpa [World.setCell] using g2, bk_put0 g3 _, two_put g4 (by omega) _, ?_, ?_, ?_⟩
  · rw [flat_snoc, List.length_append]
    exact ownsRow_setCell_below ho (by simp) _
  · exact ownsRow_setCell_below (h.o1.kept hg (kept_of h.ne)) (by simp) _
  · intro g e
    rcases hat with e' | e'
    · exact h.ne g (e'.symm.trans e)
    · intro e2
      have := (h.o1.lt g e2).2
      rw [e'] at e
      cases e
      omega
theorem bo_put1 {w wb w1 : World} {v0 v1 v' : Value} {Bs As : List Odr} {x : Odr} (h : BO w wb v0 v1 Bs As) (ho : w1.ownsRow (w.heap.size + 2) 44 5 v' (As.length + 1) (flat As ++ Bk.enc x)) (hg : wb.grownBy w1 v1.ownBlock)
    (hat : v'.ownBlock = v1.ownBlock ∨ v'.ownBlock = some wb.heap.size) : BO w (w1.setCell ⟨w.heap.size + 1, 1, none⟩ v') v0 v' Bs (As ++ [x]) := by
  obtain ⟨g1, g2, g3, g4⟩ := bo_grown h h.o1 hg
  refine ⟨g1.setCell (by simp) _, by simpa [World.setCell] using g2, bk_put1 g3 _, two_put g4 (by omega) _, ?_, ?_, ?_⟩
  · exact ownsRow_setCell_below (h.o0.kept hg (kept_of (fun g e e' => h.ne g e' e))) (by simp) _
  · rw [flat_snoc, List.length_append]
    exact ownsRow_setCell_below ho (by simp) _
  · intro g e e2
    rcases hat with e' | e'
    · exact h.ne g e (e'.symm.trans e2)
    · have := (h.o0.lt g e).2
      rw [e'] at e2
      cases e2
      omega

theorem enc_cell (x : Odr) : ∀ u ∈ Bk.enc x, u.oneCell' = true := by
  intro u hu
  simp [Bk.enc] at hu
  rcases hu with rfl | rfl | rfl | rfl | rfl <;> rfl

theorem take_keep (f : Odr → Bool) {xs : List Odr} {k : Nat} (hk : k < xs.length) : (xs.take (k + 1)).filter f = (xs.take k).filter f ++ (if f xs[k]! = true then [xs[k]!] else []) := by
  rw [List.take_add_one, List.getElem?_eq_getElem hk, List.filter_append, getElem!_pos xs k hk]
  cases h : f xs[k] <;> simp [h]
end Go.Proofs.Ytbphljnncbiddaa.Rk
