/-
  Package account by contracts: Trade, where it is done.
-/
import Derived.Test.YtbphljnncbiddabAc2
import Derived.Test.YtbphljnncbiddabOwn
namespace Go.Proofs.Ytbphljnncbiddab.Ac
open Go.RowKit Go.Proofs.Ytbphljnncbiddab.Num Go.Proofs.Ytbphljnncbiddab.Fix Go.Proofs.Ytbphljnncbiddab.AcP

theorem three_put {x : World} {t : Nat} {u0 u1 u2 : Value} (h : x.heap[t]? = some (.cells #[u0, u1, u2] 30 (0, 0))) (v : Value) : (x.setCell ⟨t, 1, none⟩ v).heap[t]? = some (.cells #[u0, v, u2] 30 (0, 0)) := by
  simp [World.setCell, Array.getElem?_modify, h]

theorem heap4 (w : World) (o o2 o3 o4 : Obj) : ((((w.alloc o).alloc o2).alloc o3).alloc o4).heap[w.heap.size]? = some o := by
  have h1 := (below_alloc (w.alloc o) o2).block w.heap.size (by simp)
  have h2 := (below_alloc ((w.alloc o).alloc o2) o3).block w.heap.size (by simp; omega)
  have h3 := (below_alloc (((w.alloc o).alloc o2).alloc o3) o4).block w.heap.size (by simp; omega)
  rw [h3, h2, h1]
  exact heap_alloc_new w o
theorem three_other {x : World} {t : Nat} (h : Three x t) {a : Addr} (ha : ¬ a.block = t) (v : Value) : Three (x.setCell a v) t := by
  obtain ⟨u0, u1, u2, h⟩ := h
  exact ⟨u0, u1, u2, by simp [World.setCell, Array.getElem?_modify, h, ha]⟩
theorem own_base {w : World} {B B' : Nat} {e : TypeId} {size : Nat} {v : Value} {n : Nat} {xs : List Value} (h : w.ownsRow B e size v n xs) (hb : B' ≤ B) : w.ownsRow B' e size v n xs := by
  refine ⟨h.1, ?_⟩
  rcases h.2 with h0 | ⟨g, cap, cur, h1, h2, h3⟩
  · exact .inl h0
  · exact .inr ⟨g, cap, cur, h1, Nat.le_trans hb h2, h3⟩


theorem neg_money {fee : Int} (h : money fee = true) : wrap64 (-fee) = -fee := by
  have := money_true h
  unfold wrap64; omega
theorem neg_not {fee : Int} (h1 : -9223372036854775808 ≤ fee) (h2 : fee ≤ 9223372036854775807) (h : money fee = false) : money (wrap64 (-fee)) = false := by
  have := money_false h
  apply money_no
  unfold wrap64; omega

theorem add3_full {bal co nf : Int} (h1 : money bal = true) (h2 : money (-co) = true) (h3 : money (bal - co) = false) : addFrom 0 [bal, -co, nf] = (0, 7) := by
  rw [addFrom_on h1 (by rw [Int.zero_add]; exact h1), Int.zero_add, addFrom_full h2 (by rw [← Int.sub_eq_add_neg]; exact h3)]
theorem add3_range {bal co nf : Int} (h1 : money bal = true) (h2 : money (-co) = true) (h3 : money (bal - co) = true) (h4 : money nf = false) : addFrom 0 [bal, -co, nf] = (0, 3) := by
  rw [addFrom_on h1 (by rw [Int.zero_add]; exact h1), Int.zero_add, addFrom_on h2 (by rw [← Int.sub_eq_add_neg]; exact h3), addFrom_range h4]
theorem add3_full2 {bal co nf : Int} (h1 : money bal = true) (h2 : money (-co) = true) (h3 : money (bal - co) = true) (h4 : money nf = true) (h5 : money (bal - co + nf) = false) : addFrom 0 [bal, -co, nf] = (0, 7) := by
  rw [addFrom_on h1 (by rw [Int.zero_add]; exact h1), Int.zero_add, addFrom_on h2 (by rw [← Int.sub_eq_add_neg]; exact h3), ← Int.sub_eq_add_neg, addFrom_full h4 h5]
theorem add3_ok {bal co nf : Int} (h1 : money bal = true) (h2 : money (-co) = true) (h3 : money (bal - co) = true) (h4 : money nf = true) (h5 : money (bal - co + nf) = true) : addFrom 0 [bal, -co, nf] = (bal - co + nf, 0) := by
  rw [addFrom_on h1 (by rw [Int.zero_add]; exact h1), Int.zero_add, addFrom_on h2 (by rw [← Int.sub_eq_add_neg]; exact h3), ← Int.sub_eq_add_neg, addFrom_on h4 h5, addFrom_nil]

theorem cost_money {q p : Int} (hq : betw (-1000) q 1000 = true) (hp : betw 0 p 10000 = true) : money (-(q * p)) = true := by
  have h1 := betw_true hq
  have h2 := betw_true hp
  have e1 : q * p ≤ 1000 * p := Int.mul_le_mul_of_nonneg_right h1.2 h2.1
  have e2 : -1000 * p ≤ q * p := Int.mul_le_mul_of_nonneg_right h1.1 h2.1
  exact money_mk (by omega)

theorem row_at {w : World} {p : Option Addr} {pos : List Int} (h : Row w p pos) {k : Nat} (hk : k < pos.length) : ∃ b off, p = some ⟨b, off, none⟩ ∧ w.cell? ⟨b, off + k, none⟩ = some (.int .i64 (pos.getD k 0)) := by
  rcases h with rfl | ⟨b, off, rfl, hc⟩
  · simp at hk
  · exact ⟨b, off, rfl, hc k hk⟩


end Go.Proofs.Ytbphljnncbiddab.Ac
