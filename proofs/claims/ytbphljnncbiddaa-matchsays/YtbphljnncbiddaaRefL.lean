/-
  The reference's chapter 2 by contracts: CheckOrder, SameBook, Meets.
-/
import Derived.Test.YtbphljnncbiddaaBkSame
import Derived.Test.YtbphljnncbiddaaBkSide
namespace Go.Proofs.Ytbphljnncbiddaa.Bk
open Go.RowKit Go.Sort Go.Maps

set_option maxHeartbeats 1000000 in
theorem refCheckOrder_grow (a b c d q : Int) (w : World) :
    Calls Try.prog 38 #[.agg #[.int .i64 a, .int .i64 b, .int .i64 c, .int .i64 d, .int .i64 q]] w fun e w' => e = .returned (.int .i64 (okOrder (a, b, c, d, q))) ∧ ∃ k os, w' = grow (w.drewN k) os := by
  by_cases h : a < 1 ∨ 100000 < a ∨ b < 0 ∨ 8 ≤ b
  · rw [ok5 h]
    go_enter Try.func38, Try.ntmps38
    go_wp2
    all_goals first | (exfalso; omega) | go_ret
    all_goals exact ⟨rfl, 0, #[_], alloc_eq_grow w _⟩
  · by_cases h2 : c ≠ 1 ∧ c ≠ -1
    · rw [ok4 h h2]
      have ⟨h3, h4⟩ := h2
      have h5 : (c != 1) = true := by simp [h3]
      have h6 : (c != -1) = true := by simp [h4]
      go_enter Try.func38, Try.ntmps38
      go_wp2
      all_goals first | (exfalso; omega) | go_ret
      all_goals exact ⟨rfl, 0, #[_], alloc_eq_grow w _⟩
    · have h5 : (c != 1) = false ∨ (c != -1) = false := by
        by_cases e : c = 1
        · left; simp [e]
        · right; have : c = -1 := by omega
          simp [this]
      have HH := hide h2
      clear h2
      have h6 : ((c != 1) && (c != -1)) = false := by rcases h5 with e | e <;> simp [e]
      clear h5
      by_cases h3 : d < 1 ∨ 10000 < d ∨ q < 1 ∨ 1000 < q
      · rw [ok3 h HH.out h3]
        clear HH
        go_enter Try.func38, Try.ntmps38
        go_wp2
        all_goals first | (exfalso; simp_all; omega) | go_ret
        all_goals exact ⟨rfl, 0, #[_], alloc_eq_grow w _⟩
      · rw [ok0 h HH.out h3]
        clear HH
        go_enter Try.func38, Try.ntmps38
        go_wp2
        all_goals first | (exfalso; simp_all; omega) | go_ret
        all_goals exact ⟨rfl, 0, #[_], alloc_eq_grow w _⟩
set_option maxHeartbeats 1000000 in
theorem refSame_any (p p' r r' : Option Addr) (c c' d d' : Nat) (b1 a1 b2 a2 : List Odr) (w : World) (h : ORow w p b1) (h' : ORow w p' a1) (k : ORow w r b2) (k' : ORow w r' a2)
    (n1 : b1.length ≤ 140737488351232) (n2 : a1.length ≤ 140737488351232) (n3 : b2.length ≤ 140737488351232) (n4 : a2.length ≤ 140737488351232) :
    Calls Try.prog 42 #[.agg #[.slice p b1.length c, .slice p' a1.length c'], .agg #[.slice r b2.length d, .slice r' a2.length d']] w fun e w' => e = .returned (.bool (decide (b1 = b2 ∧ a1 = a2))) ∧ Below w.heap.size w w' := by
  have hb0 : ∀ o1 o2, Below w.heap.size w ((w.alloc o1).alloc o2) := fun o1 o2 => ((Below.refl _ w).alloc (Nat.le_refl _) _).alloc (by simp) _
  have E1 := hide (fun W hW => equal_any p r c d b1 b2 W (orow_below h hW) (orow_below k hW) n1 n3)
  have E2 := hide (fun W hW => equal_any p' r' c' d' a1 a2 W (orow_below h' hW) (orow_below k' hW) n2 n4)
  clear h h' k k'
  generalize b1.length = l1 at E1 n1 ⊢
  generalize a1.length = l2 at E2 n2 ⊢
  generalize b2.length = l3 at E1 n3 ⊢
  generalize a2.length = l4 at E2 n4 ⊢
  by_cases hb : b1 = b2
  · rw [decide_eq_true hb] at E1
    rw [show decide (b1 = b2 ∧ a1 = a2) = decide (a1 = a2) by simp [hb]]
    generalize decide (a1 = a2) = t at E2 ⊢
    go_enter Try.func42, Try.ntmps42
    go_wp2_with fail
    refine (E1.out _ (hb0 _ _)).mono ?_
    rintro e w1 ⟨rfl, k1, rfl⟩
    go_wp2_with fail
    refine (E2.out _ ?_).mono ?_
    · exact (hb0 _ _).trans ⟨rfl, rfl, rfl, Nat.le_refl _, fun _ _ => rfl⟩
    rintro e w2 ⟨rfl, k2, rfl⟩
    go_wp2
    go_ret
    exact ⟨rfl, (hb0 _ _).trans ⟨rfl, rfl, rfl, Nat.le_refl _, fun _ _ => rfl⟩⟩
  · rw [decide_eq_false hb] at E1
    rw [decide_eq_false (fun e => hb e.1)]
    go_enter Try.func42, Try.ntmps42
    go_wp2_with fail
    refine (E1.out _ (hb0 _ _)).mono ?_
    rintro e w1 ⟨rfl, k1, rfl⟩
    go_wp2
    go_ret
    exact ⟨rfl, (hb0 _ _).trans ⟨rfl, rfl, rfl, Nat.le_refl _, fun _ _ => rfl⟩⟩

/-- does o's price meet this one? -/
def meets (o : Odr) (pr : Int) : Bool := decide ((pr - opr o) * osd o ≤ 0)
set_option maxHeartbeats 1000000 in
theorem meets_any (a ac sd pr q p : Int) (w : World) (hs : sd = 1 ∨ sd = -1) (h1 : 1 ≤ pr) (h2 : pr ≤ 10000) (h3 : 1 ≤ p) (h4 : p ≤ 10000) :
    Calls Try.prog 86 #[.agg #[.int .i64 a, .int .i64 ac, .int .i64 sd, .int .i64 pr, .int .i64 q], .int .i64 p] w fun e w' => e = .returned (.bool (meets (a, ac, sd, pr, q) p)) ∧ w' = w.alloc (.cells #[.int .i64 a, .int .i64 ac, .int .i64 sd, .int .i64 pr, .int .i64 q] 44) := by
  rcases hs with rfl | rfl
  · unfold meets
    dsimp only [opr, osd]
    go_enter Try.func86, Try.ntmps86
    go_wp2
    go_ret
    exact ⟨by simp, rfl⟩
  · unfold meets
    dsimp only [opr, osd]
    go_enter Try.func86, Try.ntmps86
    go_wp2
    go_ret
    exact ⟨by simp, rfl⟩
end Go.Proofs.Ytbphljnncbiddaa.Bk
