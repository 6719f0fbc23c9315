/-
  Plain mathematics for package match: what an order takes. A fill is seven numbers: maker, taker, their accounts, the side, the price, the quantity.
-/
import Derived.Test.YtbphljnncbiddaaBk2
namespace Go.Proofs.Ytbphljnncbiddaa.Bk

abbrev Fil := Int × Int × Int × Int × Int × Int × Int
def fillOf (x o : Odr) (q : Int) : Fil := (oid x, oid o, oac x, oac o, osd o, opr x, q)
/-- does o trade at this price of the other side? -/
def xes (o : Odr) (pr : Int) : Bool := if osd o = 1 then decide (pr ≤ opr o) else decide (opr o ≤ pr)
def less (x : Odr) (q : Int) : Odr := (oid x, oac x, osd x, opr x, oqt x - q)

/-- what is left of a side, the fills, what is left of o, whether it met its own. -/
def takes (o : Odr) : Int → List Odr → List Odr × List Fil × Int × Bool
  | left, [] => ([], [], left, false)
  | left, x :: l =>
    if 0 < left ∧ xes o (opr x) = true then
      if oac x = oac o then (x :: l, [], left, true)
      else if oqt x ≤ left then ((takes o (left - oqt x) l).1, fillOf x o (oqt x) :: (takes o (left - oqt x) l).2.1, (takes o (left - oqt x) l).2.2.1, (takes o (left - oqt x) l).2.2.2)
      else (less x left :: l, [fillOf x o left], 0, false)
    else (x :: l, [], left, false)

theorem takes_nil (o : Odr) (left : Int) : takes o left [] = ([], [], left, false) := rfl
theorem takes_stop {o : Odr} {left : Int} {x : Odr} {l : List Odr} (h : ¬ (0 < left ∧ xes o (opr x) = true)) : takes o left (x :: l) = (x :: l, [], left, false) := by
  unfold takes; rw [if_neg h]
theorem takes_zero {o : Odr} {left : Int} (l : List Odr) (h : ¬ 0 < left) : takes o left l = (l, [], left, false) := by
  cases l with
  | nil => rfl
  | cons x l => exact takes_stop fun e => h e.1
theorem takes_own {o : Odr} {left : Int} {x : Odr} {l : List Odr} (h : 0 < left) (h1 : xes o (opr x) = true) (h2 : oac x = oac o) : takes o left (x :: l) = (x :: l, [], left, true) := by
  unfold takes; rw [if_pos ⟨h, h1⟩, if_pos h2]
theorem takes_full {o : Odr} {left : Int} {x : Odr} {l : List Odr} (h : 0 < left) (h1 : xes o (opr x) = true) (h2 : ¬ oac x = oac o) (h3 : oqt x ≤ left) :
    takes o left (x :: l) = ((takes o (left - oqt x) l).1, fillOf x o (oqt x) :: (takes o (left - oqt x) l).2.1, (takes o (left - oqt x) l).2.2.1, (takes o (left - oqt x) l).2.2.2) := by
  conv => lhs; unfold takes
  rw [if_pos ⟨h, h1⟩, if_neg h2, if_pos h3]
theorem takes_part {o : Odr} {left : Int} {x : Odr} {l : List Odr} (h : 0 < left) (h1 : xes o (opr x) = true) (h2 : ¬ oac x = oac o) (h3 : ¬ oqt x ≤ left) :
    takes o left (x :: l) = (less x left :: l, [fillOf x o left], 0, false) := by
  unfold takes; rw [if_pos ⟨h, h1⟩, if_neg h2, if_neg h3]

/-- what o has taken so far are F, this much of it is left, and Y of the side: the whole is what it takes on from there. -/
structure TInv (o : Odr) (q0 : Int) (xs : List Odr) (F : List Fil) (left : Int) (Y : List Odr) : Prop where
  all : takes o q0 xs = ((takes o left Y).1, F ++ (takes o left Y).2.1, (takes o left Y).2.2.1, (takes o left Y).2.2.2)
  pos : 0 ≤ left
  le : left ≤ q0
  qty : ∀ x, x ∈ Y → 1 ≤ oqt x ∧ oqt x ≤ 1000

theorem TInv.start {o : Odr} {q0 : Int} {xs : List Odr} (h0 : 0 ≤ q0) (h : ∀ x, x ∈ xs → 1 ≤ oqt x ∧ oqt x ≤ 1000) : TInv o q0 xs [] q0 xs := ⟨rfl, h0, Int.le_refl _, h⟩
theorem TInv.full {o : Odr} {q0 left : Int} {xs Y : List Odr} {F : List Fil} {x : Odr} (t : TInv o q0 xs F left (x :: Y)) (h : 0 < left) (h1 : xes o (opr x) = true) (h2 : ¬ oac x = oac o) (h3 : oqt x ≤ left) :
    TInv o q0 xs (F ++ [fillOf x o (oqt x)]) (left - oqt x) Y := by
  have hq := t.qty x (by simp)
  refine ⟨?_, by omega, by have := t.le; omega, fun y hy => t.qty y (by simp [hy])⟩
  rw [t.all, takes_full h h1 h2 h3]
  simp
theorem TInv.part {o : Odr} {q0 left : Int} {xs Y : List Odr} {F : List Fil} {x : Odr} (t : TInv o q0 xs F left (x :: Y)) (h : 0 < left) (h1 : xes o (opr x) = true) (h2 : ¬ oac x = oac o) (h3 : ¬ oqt x ≤ left) :
    TInv o q0 xs (F ++ [fillOf x o left]) 0 (less x left :: Y) := by
  have hq := t.qty x (by simp)
  refine ⟨?_, by omega, by have := t.le; have := t.pos; omega, ?_⟩
  · rw [t.all, takes_part h h1 h2 h3, takes_zero (left := 0) _ (by omega)]; simp
  · intro y hy
    rcases List.mem_cons.1 hy with rfl | hy
    · show 1 ≤ oqt x - left ∧ oqt x - left ≤ 1000
      omega
    · exact t.qty y (by simp [hy])
theorem TInv.stop {o : Odr} {q0 left : Int} {xs Y : List Odr} {F : List Fil} {m : Bool} (t : TInv o q0 xs F left Y) (h : takes o left Y = (Y, [], left, m)) : takes o q0 xs = (Y, F, left, m) := by
  rw [t.all, h]; simp
end Go.Proofs.Ytbphljnncbiddaa.Bk
