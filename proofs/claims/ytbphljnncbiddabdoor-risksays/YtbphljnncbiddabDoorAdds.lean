/-
  Plain mathematics for FixAdds: no program in sight.
-/
import Derived.Test.YtbphljnncbiddabDoorNum
namespace Go.Proofs.YtbphljnncbiddabDoor.Adds
open Go.Proofs.YtbphljnncbiddabDoor.Num

theorem addFrom_money {s t : Int} {l : List Int} (hs : money s = true) (h : addFrom s l = (t, 0)) : money t = true := by
  induction l generalizing s with
  | nil => simp [addFrom] at h; rw [← h]; exact hs
  | cons n l ih =>
    unfold addFrom at h
    split at h
    · split at h
      · rename_i g
        exact ih g h
      · simp at h
    · simp at h

theorem addFrom_sum {s t : Int} {l : List Int} (h : addFrom s l = (t, 0)) : t = s + l.sum ∧ ∀ n ∈ l, money n = true := by
  induction l generalizing s with
  | nil => simp [addFrom] at h; simp [h]
  | cons n l ih =>
    unfold addFrom at h
    split at h
    · rename_i m
      split at h
      · obtain ⟨e, a⟩ := ih h
        refine ⟨by simp [e]; omega, ?_⟩
        intro x hx
        rcases List.mem_cons.1 hx with rfl | hx
        · exact m
        · exact a x hx
      · simp at h
    · simp at h

theorem addFrom_all {s : Int} {l : List Int} (h : ∀ n ∈ l, money n = true) : addFrom s l = (0, 7) ∨ addFrom s l = (s + l.sum, 0) := by
  induction l generalizing s with
  | nil => right; simp [addFrom]
  | cons n l ih =>
    unfold addFrom
    rw [if_pos (h n List.mem_cons_self)]
    split
    · rcases ih (s := s + n) (fun x hx => h x (List.mem_cons_of_mem _ hx)) with e | e
      · exact .inl e
      · right; rw [e]; simp; omega
    · exact .inl rfl

theorem addFrom_append {s t : Int} {l r : List Int} (h : addFrom s l = (t, 0)) : addFrom s (l ++ r) = addFrom t r := by
  induction l generalizing s with
  | nil => simp [addFrom] at h; simp [h]
  | cons n l ih =>
    unfold addFrom at h
    split at h
    · rename_i m
      split at h
      · rename_i g
        rw [List.cons_append, addFrom_on m g]
        exact ih h
      · simp at h
    · simp at h

theorem addFrom_front {s t : Int} {l r : List Int} (h : addFrom s (l ++ r) = (t, 0)) : ∃ q, addFrom s l = (q, 0) := by
  induction l generalizing s with
  | nil => exact ⟨s, rfl⟩
  | cons n l ih =>
    rw [List.cons_append] at h
    unfold addFrom at h
    split at h
    · rename_i m
      split at h
      · rename_i g
        obtain ⟨q, hq⟩ := ih h
        exact ⟨q, by rw [addFrom_on m g]; exact hq⟩
      · simp at h
    · simp at h

/-- in two parts. -/
theorem two_parts {s : Int} {l : List Int} (k : Nat) (h : addFrom 0 l = (s, 0)) : ∃ q, addFrom 0 (l.take k) = (q, 0) ∧ addFrom 0 (q :: l.drop k) = (s, 0) := by
  obtain ⟨q, hq⟩ := addFrom_front (l := l.take k) (r := l.drop k) (by rw [List.take_append_drop]; exact h)
  have e := addFrom_append (r := l.drop k) hq
  rw [List.take_append_drop, h] at e
  have m := addFrom_money (by decide) hq
  refine ⟨q, hq, ?_⟩
  rw [addFrom_on m (by rw [Int.zero_add]; exact m), Int.zero_add]
  exact e.symm

/-- the other way round. -/
theorem turned {s : Int} {l : List Int} (h : addFrom 0 l = (s, 0)) : addFrom 0 l.reverse = (0, 7) ∨ addFrom 0 l.reverse = (s, 0) := by
  obtain ⟨e, a⟩ := addFrom_sum h
  rcases addFrom_all (s := 0) (l := l.reverse) (fun n hn => a n (List.mem_reverse.1 hn)) with r | r
  · exact .inl r
  · right; rw [r, e, List.sum_reverse]

theorem add_cases (l : List Int) : (∃ q, addFrom 0 l = (q, 0)) ∨ addFrom 0 l = (0, 3) ∨ addFrom 0 l = (0, 7) := by
  have : ∀ (l : List Int) (s : Int), (∃ q, addFrom s l = (q, 0)) ∨ addFrom s l = (0, 3) ∨ addFrom s l = (0, 7) := by
    intro l
    induction l with
    | nil => exact fun s => .inl ⟨s, rfl⟩
    | cons n l ih =>
      intro s
      unfold addFrom
      split
      · split
        · exact ih _
        · exact .inr (.inr rfl)
      · exact .inr (.inl rfl)
  exact this l 0
end Go.Proofs.YtbphljnncbiddabDoor.Adds
