/-
  No command's text ends with another's, unless it is it. No program in sight.
-/
import Derived.Test.YthdjfhnhjiageaaDoorJnP
namespace Go.Proofs.YthdjfhnhjiageaaDoor.Tx
open Go.Lib

theorem cut_at {l : Bs} (h : (32 : UInt8) ∈ l) : ∃ a b, l = a ++ 32 :: b ∧ (32 : UInt8) ∉ a := List.eq_append_cons_of_mem h
/-- the words of two texts, one behind the other. -/
theorem glue_words {s w : Bs} {rest : List Bs} (hs : splitW s = w :: rest) : ∀ (n : Nat) (t : Bs), t.length ≤ n → ∃ pre u, splitW (t ++ s) = pre ++ (u ++ w) :: rest ∧ (pre = [] → u = t)
  | n, t, hn => by
    by_cases ht : (32 : UInt8) ∈ t
    · obtain ⟨a, b, rfl, ha⟩ := cut_at ht
      simp only [List.length_append, List.length_cons] at hn
      obtain ⟨m, rfl⟩ : ∃ m, n = m + 1 := ⟨n - 1, by omega⟩
      obtain ⟨pre, u, h1, h2⟩ := glue_words hs m b (by omega)
      refine ⟨a :: pre, u, ?_, fun e => by cases e⟩
      rw [List.append_assoc, List.cons_append, split_cons _ ha, h1]
      rfl
    · refine ⟨[], t, ?_, fun _ => rfl⟩
      by_cases hb : (32 : UInt8) ∈ s
      · obtain ⟨a, b, rfl, ha⟩ := cut_at hb
        rw [split_cons _ ha] at hs
        obtain ⟨rfl, rfl⟩ := List.cons.inj hs
        rw [← List.append_assoc, split_cons _ (by simp [ht, ha])]
        rfl
      · rw [split_no hb] at hs
        obtain ⟨rfl, rfl⟩ := List.cons.inj hs
        rw [split_no (by simp [ht, hb])]
        rfl
/-- does x end with w? -/
def endsW (x w : Bs) : Bool := w.isSuffixOf x
theorem ends_of {u w : Bs} : endsW (u ++ w) w = true := by
  unfold endsW
  rw [List.isSuffixOf_iff_suffix]
  exact ⟨u, rfl⟩
theorem ends_last {x w : Bs} {z : UInt8} (h : endsW x (w ++ [z]) = true) : z ∈ x := by
  unfold endsW at h
  rw [List.isSuffixOf_iff_suffix] at h
  obtain ⟨u, hu⟩ := h
  rw [← hu]
  simp
theorem kind_word {k : Int} (h : atW kindsL k ≠ []) : ∃ p z, atW kindsL k = p ++ [z] ∧ 97 ≤ z.toNat := by
  rcases kind_ok h with rfl | rfl | rfl | rfl | rfl | rfl | rfl
  · exact ⟨[100, 101, 112, 111, 115, 105], 116, by decide, by decide⟩
  · exact ⟨[119, 105, 116, 104, 100, 114, 97], 119, by decide, by decide⟩
  · exact ⟨[112, 108, 97, 99], 101, by decide, by decide⟩
  · exact ⟨[99, 97, 110, 99, 101], 108, by decide, by decide⟩
  · exact ⟨[105, 110, 100, 101], 120, by decide, by decide⟩
  · exact ⟨[102, 117, 110], 100, by decide, by decide⟩
  · exact ⟨[115, 119, 101, 101], 112, by decide, by decide⟩
theorem itoa_ends {k n : Int} (h : atW kindsL k ≠ []) : endsW (itoa n) (atW kindsL k) = false := by
  obtain ⟨p, z, e, hz⟩ := kind_word h
  cases he : endsW (itoa n) (atW kindsL k)
  · rfl
  · rw [e] at he
    rcases itoa_mem n z (ends_last he) with h | h
    · rw [h] at hz; revert hz; decide
    · omega
/-- no word but the first ends with a kind's word. -/
theorem tail_ends {c : Cd} (h : checkC c = 0) {k : Int} (hk : atW kindsL k ≠ []) : ∀ x, x ∈ (wordsC c).tail → endsW x (atW kindsL k) = false := by
  obtain ⟨h1, h2, -⟩ := check_ok h
  obtain ⟨kind, ac, mkt, n, oi, oa, sd, pr, qt, how, red⟩ := c
  dsimp only at h1 h2
  intro x hw
  unfold wordsC at hw
  dsimp only at hw
  split at hw
  · simp only [List.tail_cons, List.mem_cons, List.not_mem_nil, or_false] at hw
    rcases hw with rfl | rfl <;> exact itoa_ends hk
  · split at hw
    · simp only [List.tail_cons, List.mem_cons, List.not_mem_nil, or_false] at hw
      rcases hw with rfl | rfl <;> exact itoa_ends hk
    · split at hw
      · rename_i h3
        obtain ⟨g1, g2⟩ := h2 h3
        have hh : endsW (atW howsL how) (atW kindsL k) = false := by rcases how_ok g1 with rfl | rfl | rfl | rfl <;> rcases kind_ok hk with rfl | rfl | rfl | rfl | rfl | rfl | rfl <;> decide
        have hs : endsW (atW sidesL (sd + 1)) (atW kindsL k) = false := by rcases side_ok g2 with rfl | rfl <;> rcases kind_ok hk with rfl | rfl | rfl | rfl | rfl | rfl | rfl <;> decide
        have hr : endsW wReduce (atW kindsL k) = false := by rcases kind_ok hk with rfl | rfl | rfl | rfl | rfl | rfl | rfl <;> decide
        simp only [List.cons_append, List.nil_append, List.tail_cons, List.mem_cons] at hw
        rcases hw with rfl | rfl | rfl | rfl | rfl | rfl | hw
        · exact itoa_ends hk
        · exact itoa_ends hk
        · exact hs
        · exact itoa_ends hk
        · exact itoa_ends hk
        · exact hh
        · unfold tailW at hw
          split at hw
          · rw [List.mem_singleton.1 hw]; exact hr
          · cases hw
      · simp at hw
theorem words_head {c : Cd} : ∃ r, wordsC c = atW kindsL c.kind :: r := by
  unfold wordsC
  split
  · exact ⟨_, rfl⟩
  · split
    · exact ⟨_, rfl⟩
    · split
      · exact ⟨_, rfl⟩
      · exact ⟨_, rfl⟩
theorem kind_glue {j k : Int} (hj : atW kindsL j ≠ []) (hk : atW kindsL k ≠ []) (h : endsW (atW kindsL j) (atW kindsL k) = true) : atW kindsL j = atW kindsL k := by
  rcases kind_ok hj with rfl | rfl | rfl | rfl | rfl | rfl | rfl <;> rcases kind_ok hk with rfl | rfl | rfl | rfl | rfl | rfl | rfl <;> revert h <;> decide
/-- a command's text ends with no other one's. -/
theorem glue {t : Bs} {c d : Cd} (hc : checkC c = 0) (hd : checkC d = 0) (h : t ++ printC c = printC d) : t = [] := by
  obtain ⟨r, hr⟩ := @words_head c
  obtain ⟨r', hr'⟩ := @words_head d
  have kc := (check_ok hc).1
  have kd := (check_ok hd).1
  have sc : splitW (printC c) = atW kindsL c.kind :: r := by rw [← hr]; exact split_join _ (words_ne c) (words_no hc (.inl rfl))
  have sd : splitW (printC d) = wordsC d := split_join _ (words_ne d) (words_no hd (.inl rfl))
  obtain ⟨pre, u, g1, g2⟩ := glue_words sc t.length t (Nat.le_refl _)
  rw [h, sd] at g1
  cases pre with
  | nil =>
    rw [g2 rfl, hr'] at g1
    have e := (List.cons.inj g1).1
    have he := kind_glue kd kc (by rw [e]; exact ends_of)
    rw [he] at e
    have := congrArg List.length e
    simp only [List.length_append] at this
    exact List.length_eq_zero_iff.1 (by omega)
  | cons p pre =>
    have hm : (u ++ atW kindsL c.kind) ∈ (wordsC d).tail := by rw [g1]; simp
    have := tail_ends hd kc _ hm
    rw [ends_of] at this
    cases this
end Go.Proofs.YthdjfhnhjiageaaDoor.Tx
