/-
  Plain mathematics for MatchParts: what an order takes in two parts is what it takes at once.
-/
import Derived.Test.YtkjgkmndpbbagaaMtFairP
namespace Go.Proofs.Ytkjgkmndpbbagaa.Bk

/-- how much of one maker's. -/
def qof (id : Int) : List Fil → Int
  | [] => 0
  | f :: F => (if f.1 = id then fqt f else 0) + qof id F
theorem qof_append (id : Int) : ∀ F G : List Fil, qof id (F ++ G) = qof id F + qof id G
  | [], G => by simp [qof]
  | f :: F, G => by rw [List.cons_append, qof, qof, qof_append id F G]; omega
theorem qof_none {id : Int} : ∀ {F : List Fil}, (∀ f, f ∈ F → ¬ f.1 = id) → qof id F = 0
  | [], _ => rfl
  | f :: F, h => by rw [qof, if_neg (h f (by simp)), qof_none (fun g hg => h g (by simp [hg]))]; rfl
theorem qof_bd {id : Int} : ∀ {F : List Fil}, (∀ f, f ∈ F → 0 ≤ fqt f ∧ fqt f ≤ 1000) → 0 ≤ qof id F ∧ qof id F ≤ 1000 * (F.length : Int)
  | [], _ => by simp [qof]
  | f :: F, h => by
    have h1 := h f (by simp)
    have h2 := qof_bd (id := id) (F := F) (fun g hg => h g (by simp [hg]))
    rw [qof, List.length_cons]
    split <;> omega
theorem qof_take {id : Int} {F : List Fil} {k : Nat} (hk : k < F.length) : qof id (F.take (k + 1)) = qof id (F.take k) + (if (F[k]!).1 = id then fqt F[k]! else 0) := by
  rw [List.take_add_one, List.getElem?_eq_getElem hk, getElem!_pos F k hk, qof_append]
  simp [qof]

theorem takes_any {a ac sd pr q1 q2 : Int} : ∀ (xs : List Odr) (left : Int), takes (a, ac, sd, pr, q1) left xs = takes (a, ac, sd, pr, q2) left xs
  | [], _ => rfl
  | x :: l, left => by
    have hx : xes (a, ac, sd, pr, q1) (opr x) = xes (a, ac, sd, pr, q2) (opr x) := rfl
    unfold takes
    rw [hx, takes_any (q1 := q1) (q2 := q2) l]
    rfl

theorem takes_fills (o : Odr) : ∀ (xs : List Odr) (left : Int), 0 ≤ left → (∀ x, x ∈ xs → 1 ≤ oqt x ∧ oqt x ≤ 1000) → ∀ f, f ∈ (takes o left xs).2.1 → f.1 ∈ xs.map oid ∧ 1 ≤ fqt f ∧ fqt f ≤ 1000
  | [], _, _, _, f, hf => by simp [takes] at hf
  | x :: l, left, h0, hx, f, hf => by
    have hq := hx x (by simp)
    unfold takes at hf
    split at hf
    · rename_i hc
      split at hf
      · simp at hf
      · split at hf
        · rcases List.mem_cons.1 hf with rfl | hf
          · exact ⟨by simp [fillOf], hq⟩
          · obtain ⟨h1, h2⟩ := takes_fills o l (left - oqt x) (by omega) (fun y hy => hx y (by simp [hy])) f hf
            exact ⟨by rw [List.map_cons]; exact List.mem_cons_of_mem _ h1, h2⟩
        · rw [List.mem_singleton] at hf
          subst hf
          refine ⟨by simp [fillOf], ?_⟩
          show 1 ≤ left ∧ left ≤ 1000
          omega
    · simp at hf

theorem takes_left' (o : Odr) : ∀ (xs : List Odr) (left : Int), 0 ≤ left → (∀ x, x ∈ xs → 1 ≤ oqt x) → 0 ≤ (takes o left xs).2.2.1 ∧ (takes o left xs).2.2.1 ≤ left
  | [], left, h, _ => ⟨h, Int.le_refl _⟩
  | x :: l, left, h, hx => by
    unfold takes
    split
    · split
      · exact ⟨h, Int.le_refl _⟩
      · split
        · have := takes_left' o l (left - oqt x) (by omega) (fun y hy => hx y (by simp [hy]))
          have := hx x (by simp)
          dsimp only
          omega
        · exact ⟨Int.le_refl _, h⟩
    · exact ⟨h, Int.le_refl _⟩

theorem less_less (x : Odr) (m n : Int) : less (less x m) n = less x (m + n) := by
  unfold less
  simp only [oid, oac, osd, opr, oqt]
  congr 4
  omega

theorem takes_two (o : Odr) : ∀ (xs : List Odr) (q n : Int), 0 ≤ n → n < q → (∀ x, x ∈ xs → 1 ≤ oqt x) →
    (takes o q xs).1 = (takes o (q - n) (takes o n xs).1).1 ∧ (takes o q xs).2.2.1 = (takes o (q - n) (takes o n xs).1).2.2.1 + (takes o n xs).2.2.1 ∧
    (0 < (takes o q xs).2.2.1 → (takes o q xs).2.2.2 = (takes o (q - n) (takes o n xs).1).2.2.2) ∧ ∀ id, qof id (takes o q xs).2.1 = qof id ((takes o n xs).2.1 ++ (takes o (q - n) (takes o n xs).1).2.1)
  | [], q, n, _, _, _ => by
    simp only [takes_nil]
    refine ⟨trivial, by omega, fun _ => trivial, fun id => rfl⟩
  | x :: l, q, n, h0, hn, hx => by
    have hqx := hx x (by simp)
    by_cases hz : 0 < n
    · by_cases hc : xes o (opr x) = true
      · by_cases ha : oac x = oac o
        · rw [takes_own (by omega) hc ha, takes_own hz hc ha]
          dsimp only
          rw [takes_own (by omega) hc ha]
          exact ⟨rfl, by dsimp only; omega, fun _ => rfl, fun id => rfl⟩
        · by_cases hf : oqt x ≤ n
          · have ih := takes_two o l (q - oqt x) (n - oqt x) (by omega) (by omega) (fun y hy => hx y (by simp [hy]))
            rw [show q - oqt x - (n - oqt x) = q - n by omega] at ih
            rw [takes_full (by omega) hc ha (show oqt x ≤ q by omega), takes_full hz hc ha hf]
            dsimp only
            refine ⟨ih.1, ih.2.1, ih.2.2.1, fun id => ?_⟩
            rw [List.cons_append, qof, qof, ih.2.2.2 id]
          · rw [takes_part hz hc ha hf]
            dsimp only
            by_cases hg : oqt x ≤ q
            · rw [takes_full (by omega) hc ha hg, takes_full (x := less x n) (by omega) hc ha (show oqt x - n ≤ q - n by omega)]
              rw [show q - n - oqt (less x n) = q - oqt x by show q - n - (oqt x - n) = q - oqt x; omega]
              refine ⟨rfl, by dsimp only; omega, fun _ => rfl, fun id => ?_⟩
              dsimp only
              rw [List.cons_append, List.nil_append, qof, qof, qof]
              show (if oid x = id then oqt x else 0) + _ = (if oid x = id then n else 0) + ((if oid x = id then oqt x - n else 0) + _)
              split <;> omega
            · rw [takes_part (by omega) hc ha hg, takes_part (x := less x n) (by omega) hc ha (show ¬ oqt x - n ≤ q - n by omega)]
              refine ⟨?_, by dsimp only; omega, fun _ => rfl, fun id => ?_⟩
              · dsimp only
                rw [less_less, show n + (q - n) = q by omega]
              · dsimp only
                rw [List.cons_append, List.nil_append, qof, qof, qof, qof]
                show (if oid x = id then q else 0) + 0 = (if oid x = id then n else 0) + ((if oid x = id then q - n else 0) + 0)
                split <;> omega
      · rw [takes_stop (fun e => hc e.2), takes_stop (fun e => hc e.2)]
        dsimp only
        rw [takes_stop (fun e => hc e.2)]
        exact ⟨rfl, by dsimp only; omega, fun _ => rfl, fun id => rfl⟩
    · have hn0 : n = 0 := by omega
      subst hn0
      rw [takes_zero (left := 0) _ (by omega), Int.sub_zero]
      exact ⟨rfl, by dsimp only; omega, fun _ => rfl, fun id => rfl⟩
end Go.Proofs.Ytkjgkmndpbbagaa.Bk
