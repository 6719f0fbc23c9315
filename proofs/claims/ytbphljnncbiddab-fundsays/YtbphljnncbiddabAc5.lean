/-
  Package account by contracts: Fee; the closed fact of chapter 4.
-/
import Derived.Test.YtbphljnncbiddabAc4
import Derived.BigQuiet
namespace Go.Proofs.Ytbphljnncbiddab.Ac
open Go.RowKit Go.Proofs.Ytbphljnncbiddab.Num Go.Proofs.Ytbphljnncbiddab.Fix Go.Proofs.Ytbphljnncbiddab.AcP

theorem fee_part {q p : Int} (hq : betw (-1000) q 1000 = true) (hp : betw 0 p 10000 = true) : partR (max (q * p) (-(q * p))) 5 10000 true = feeR q p := by
  have h1 := money_true (cost_money hq hp)
  unfold partR
  rw [if_pos ⟨money_mk (by omega), by decide, by decide⟩]
  have : money (divUp (max (q * p) (-(q * p)) * 5) 10000 true) = true := by
    apply money_mk
    unfold divUp
    rw [if_pos rfl]
    omega
  rw [if_pos this]
  unfold feeR
  rw [if_pos ⟨hq, hp⟩]


theorem own_slice {w : World} {B : Nat} {v : Value} {n : Nat} {xs : List Int} (h : w.ownsRow B 3 1 v n (xs.map (Value.int .i64))) (h0 : 0 < n) : ∃ g cap, v = .slice (some ⟨g, 0, none⟩) n cap ∧ B ≤ g ∧ g < w.heap.size := by
  rcases h.2 with ⟨rfl, h1⟩ | ⟨g, cap, cur, rfl, hb, hg, -⟩
  · omega
  · exact ⟨g, cap, rfl, hb, (Array.getElem?_eq_some_iff.1 hg).1⟩
theorem own_cell {w : World} {B g cap : Nat} {n : Nat} {xs : List Int} (h : w.ownsRow B 3 1 (.slice (some ⟨g, 0, none⟩) n cap) n (xs.map (Value.int .i64))) {k : Nat} (hk : k < n) : w.cell? ⟨g, k, none⟩ = some (.int .i64 (xs.getD k 0)) := by
  have hl : xs.length = n := by simpa using h.1
  rw [h.cellAt k (by omega), List.getElem?_map, List.getD_eq_getElem?_getD, List.getElem?_eq_getElem (by omega)]
  rfl
theorem own_row {w : World} {B g cap : Nat} {n : Nat} {xs : List Int} (h : w.ownsRow B 3 1 (.slice (some ⟨g, 0, none⟩) n cap) n (xs.map (Value.int .i64))) : Row w (some ⟨g, 0, none⟩) xs := by
  have hl : xs.length = n := by simpa using h.1
  refine .inr ⟨g, 0, rfl, fun i hi => ?_⟩
  rw [Nat.zero_add]
  exact own_cell h (by omega)

theorem new_cell2 (w : World) (o : Obj) (cs : Array Value) (t : TypeId) (i : Nat) (v : Value) (h : cs[i]? = some v) : ((w.alloc o).alloc (.cells cs t)).cell? ⟨w.heap.size + 1, i, none⟩ = some v := by
  have := new_cell (w.alloc o) cs t i v h
  simpa using this

end Go.Proofs.Ytbphljnncbiddab.Ac
