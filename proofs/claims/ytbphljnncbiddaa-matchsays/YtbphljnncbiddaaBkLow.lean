/-
  Package book by contracts: the small ones: CheckOrder, Ahead, count, firstPrice, crossesBest.
-/
import Derived.Test.YtbphljnncbiddaaProg
import Derived.Test.YtbphljnncbiddaaBk2
import Derived.WalkKit
import Derived.ProofKit
import Derived.Below
import Derived.BigQuiet
import Derived.Deep.QuietTactic
import Derived.WalkLawsBesides
import Derived.Outline
import Derived.Sort.Grow
namespace Go.Proofs.Ytbphljnncbiddaa.Bk
open Go.RowKit Go.Sort

theorem hide {p : Prop} (h : p) : Hid p := h
theorem unhide {p : Prop} (h : Hid p) : p := h

/-- an order's five cells; an order as a value. -/
def enc (o : Odr) : List Value := [.int .i64 (oid o), .int .i64 (oac o), .int .i64 (osd o), .int .i64 (opr o), .int .i64 (oqt o)]
abbrev odrV (o : Odr) : Value := .agg #[.int .i64 o.1, .int .i64 o.2.1, .int .i64 o.2.2.1, .int .i64 o.2.2.2.1, .int .i64 o.2.2.2.2]

theorem ok5 {a b c d q : Int} (h : a < 1 ∨ 100000 < a ∨ b < 0 ∨ 8 ≤ b) : okOrder (a, b, c, d, q) = 5 := by simp only [okOrder]; rw [if_pos h]
theorem ok4 {a b c d q : Int} (h : ¬ (a < 1 ∨ 100000 < a ∨ b < 0 ∨ 8 ≤ b)) (h2 : c ≠ 1 ∧ c ≠ -1) : okOrder (a, b, c, d, q) = 4 := by simp only [okOrder]; rw [if_neg h, if_pos h2]
theorem ok3 {a b c d q : Int} (h : ¬ (a < 1 ∨ 100000 < a ∨ b < 0 ∨ 8 ≤ b)) (h2 : ¬ (c ≠ 1 ∧ c ≠ -1)) (h3 : d < 1 ∨ 10000 < d ∨ q < 1 ∨ 1000 < q) : okOrder (a, b, c, d, q) = 3 := by simp only [okOrder]; rw [if_neg h, if_neg h2, if_pos h3]
theorem ok0 {a b c d q : Int} (h : ¬ (a < 1 ∨ 100000 < a ∨ b < 0 ∨ 8 ≤ b)) (h2 : ¬ (c ≠ 1 ∧ c ≠ -1)) (h3 : ¬ (d < 1 ∨ 10000 < d ∨ q < 1 ∨ 1000 < q)) : okOrder (a, b, c, d, q) = 0 := by simp only [okOrder]; rw [if_neg h, if_neg h2, if_neg h3]

set_option maxHeartbeats 1000000 in
theorem checkOrder_grow (a b c d q : Int) (w : World) :
    Calls Try.prog 37 #[.agg #[.int .i64 a, .int .i64 b, .int .i64 c, .int .i64 d, .int .i64 q]] w fun e w' => e = .returned (.int .i64 (okOrder (a, b, c, d, q))) ∧ ∃ k os, w' = grow (w.drewN k) os := by
  by_cases h : a < 1 ∨ 100000 < a ∨ b < 0 ∨ 8 ≤ b
  · rw [ok5 h]
    go_enter Try.func37, Try.ntmps37
    go_wp2
    all_goals first | (exfalso; omega) | go_ret
    all_goals exact ⟨rfl, 0, #[_], alloc_eq_grow w _⟩
  · by_cases h2 : c ≠ 1 ∧ c ≠ -1
    · rw [ok4 h h2]
      have ⟨h3, h4⟩ := h2
      have h5 : (c != 1) = true := by simp [h3]
      have h6 : (c != -1) = true := by simp [h4]
      go_enter Try.func37, Try.ntmps37
      go_wp2
      all_goals first | (exfalso; omega) | go_ret
      all_goals exact ⟨rfl, 0, #[_], alloc_eq_grow w _⟩
    · have h5 : (c != 1) = false ∨ (c != -1) = false := by
        by_cases e : c = 1
        · left; simp [e]
        · right; have : c = -1 := by omega
          simp [this]
      have HH := hide h2
      clear h2
      have h6 : ((c != 1) && (c != -1)) = false := by rcases h5 with e | e <;> simp [e]
      clear h5
      by_cases h3 : d < 1 ∨ 10000 < d ∨ q < 1 ∨ 1000 < q
      · rw [ok3 h HH.out h3]
        clear HH
        go_enter Try.func37, Try.ntmps37
        go_wp2
        all_goals first | (exfalso; simp_all; omega) | go_ret
        all_goals exact ⟨rfl, 0, #[_], alloc_eq_grow w _⟩
      · rw [ok0 h HH.out h3]
        clear HH
        go_enter Try.func37, Try.ntmps37
        go_wp2
        all_goals first | (exfalso; simp_all; omega) | go_ret
        all_goals exact ⟨rfl, 0, #[_], alloc_eq_grow w _⟩
end Go.Proofs.Ytbphljnncbiddaa.Bk
