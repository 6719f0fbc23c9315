/-
  Package account by contracts: Equity, Fee.
-/
import Derived.Test.YtbphljnncbiddabAc3
namespace Go.Proofs.Ytbphljnncbiddab.Ac
open Go.RowKit Go.Proofs.Ytbphljnncbiddab.Num Go.Proofs.Ytbphljnncbiddab.Fix Go.Proofs.Ytbphljnncbiddab.AcP

/-- what is left to reckon: so many amounts are there, these positions and marks are left. -/
def eqFrom (L ps ms : List Int) : Int × Int :=
  match worths ps ms with
  | none => (0, 3)
  | some l => addFrom 0 (L ++ l)
theorem eqFrom_on {L ps ms : List Int} {p m : Int} (hp : betw (-1000) p 1000 = true) (hm : betw 0 m 10000 = true) : eqFrom L (p :: ps) (m :: ms) = eqFrom (L ++ [p * m]) ps ms := by
  unfold eqFrom
  simp only [worths, hp, hm, and_self, if_true]
  cases worths ps ms with
  | none => rfl
  | some l => simp
theorem eqFrom_bad {L ps ms : List Int} {p m : Int} (h : betw (-1000) p 1000 = false ∨ betw 0 m 10000 = false) : eqFrom L (p :: ps) (m :: ms) = (0, 3) := by
  unfold eqFrom
  simp only [worths]
  rcases h with h | h <;> simp [h]
theorem eqFrom_end {L ms : List Int} : eqFrom L [] ms = addFrom 0 L := by
  unfold eqFrom
  simp [worths]

theorem row_own {w : World} {B : Nat} {t : TypeId} {v : Value} {n : Nat} {xs : List Int} (h : w.ownsRow B t 1 v n (xs.map (Value.int .i64))) :
    xs.length = n ∧ ∃ a cap, v = .slice a n cap ∧ n ≤ maxLen ∧ Row w a xs := Own.row_own h

theorem cell_grown {w w' : World} {v : Value} {B : Nat} {e : TypeId} {size n : Nat} {xs : List Value} (h : w.ownsRow B e size v n xs) (hg : w.grownBy w' v.ownBlock) {a : Addr} {u : Value} (hc : w.cell? a = some u) (hB : a.block < B) : w'.cell? a = some u :=
  hg.cell hc (fun he => by have := (h.lt _ he.symm).1; omega)

theorem one_new (w : World) (n : Int) (j : Nat) (u : Value) (h : [Value.int .i64 n][j]? = some u) : (w.alloc (.cells #[.int .i64 n] 3)).cell? ((⟨w.heap.size, 0, none⟩ : Addr).add j) = some u := by
  match j, h with
  | 0, h =>
    rw [show ((⟨w.heap.size, 0, none⟩ : Addr).add 0) = ⟨w.heap.size, 0, none⟩ from rfl, World.cell?_alloc_at _ _ _ _ (by simp)]
    simpa using h
  | k + 1, h => simp at h
theorem one_cell (n : Int) : ∀ u ∈ [Value.int .i64 n], u.oneCell' = true := by
  intro u hu
  simp at hu
  subst hu
  rfl
theorem new_cell (w : World) (cs : Array Value) (t : TypeId) (i : Nat) (v : Value) (h : cs[i]? = some v) : (w.alloc (.cells cs t)).cell? ⟨w.heap.size, i, none⟩ = some v := by
  rw [World.cell?_alloc_at _ _ _ _ (by simp)]
  exact h



end Go.Proofs.Ytbphljnncbiddab.Ac
