/-
  Lines of right commands: JournalHolds' mathematics. No program in sight.
-/
import Derived.Test.YthdjfhnhjiageaaDoorJnR
namespace Go.Proofs.YthdjfhnhjiageaaDoor.Tx
open Go.Lib

def linesL : List Cd → Bs
  | [] => []
  | c :: l => lineC c ++ linesL l
def Right (l : List Cd) : Prop := ∀ c, c ∈ l → checkC c = 0 ∧ c.fits
theorem lines_app : ∀ a b : List Cd, linesL (a ++ b) = linesL a ++ linesL b
  | [], _ => rfl
  | c :: a, b => by rw [List.cons_append, linesL, linesL, lines_app a b, ← List.append_assoc]
theorem lines_one (c : Cd) : linesL [c] = lineC c := by rw [linesL, linesL, List.append_nil]
theorem lines_len : ∀ {l : List Cd}, Right l → (linesL l).length ≤ 201 * l.length
  | [], _ => by simp [linesL]
  | c :: l, h => by
    have h1 := lines_len (l := l) (fun x hx => h x (List.mem_cons_of_mem _ hx))
    have h2 := print_len (h c (List.mem_cons_self ..)).2
    rw [linesL]
    simp only [List.length_append, List.length_cons, List.length_nil]
    omega
theorem Right.cons {c : Cd} {l : List Cd} (h : Right (c :: l)) : (checkC c = 0 ∧ c.fits) ∧ Right l := ⟨h c (List.mem_cons_self ..), fun x hx => h x (List.mem_cons_of_mem _ hx)⟩
theorem Right.app {a b : List Cd} (h : Right (a ++ b)) : Right a ∧ Right b := ⟨fun x hx => h x (List.mem_append_left _ hx), fun x hx => h x (List.mem_append_right _ hx)⟩
theorem Right.join {a b : List Cd} (h1 : Right a) (h2 : Right b) : Right (a ++ b) := fun x hx => (List.mem_append.1 hx).elim (h1 x) (h2 x)
theorem Right.one {c : Cd} (h : checkC c = 0) (hf : c.fits) : Right [c] := fun x hx => by rw [List.mem_singleton.1 hx]; exact ⟨h, hf⟩
theorem Right.take {l : List Cd} (h : Right l) (n : Nat) : Right (l.take n) := fun x hx => h x (List.mem_of_mem_take hx)
theorem Right.drop {l : List Cd} (h : Right l) (n : Nat) : Right (l.drop n) := fun x hx => h x (List.mem_of_mem_drop hx)
theorem no_lf_take {l : Bs} (h : (10 : UInt8) ∉ l) (n : Nat) : (10 : UInt8) ∉ l.take n := fun hx => h (List.mem_of_mem_take hx)
theorem cut_no : ∀ {b : Bs}, (10 : UInt8) ∉ b → cutL b = none
  | [], _ => rfl
  | x :: l, h => by
    simp only [List.mem_cons, not_or] at h
    rw [cutL, if_neg (fun e => h.1 e.symm), cut_no h.2]
    rfl
/-- a beginning of lines of right commands is read as a beginning of the commands. -/
theorem read_take : ∀ (xs : List Cd), Right xs → ∀ (k n g : Nat), k + xs.length ≤ 60 → ((linesL xs).take n).length ≤ g → ∃ j e, j ≤ xs.length ∧ readF g k ((linesL xs).take n) = (xs.take j, (linesL (xs.take j)).length, e) ∧ (linesL xs).take (linesL (xs.take j)).length = linesL (xs.take j) ∧ (linesL (xs.take j)).length ≤ ((linesL xs).take n).length
  | [], _, k, n, g, _, _ => ⟨0, 0, Nat.le_refl _, by rw [linesL, List.take_nil, read_nil]; rfl, rfl, by simp [linesL]⟩
  | c :: xs, h, k, n, g, hk, hg => by
    obtain ⟨⟨hc, hf⟩, hr⟩ := h.cons
    simp only [List.length_cons] at hk
    by_cases hn : n < (lineC c).length
    · have e : (linesL (c :: xs)).take n = (printC c).take n := by
        rw [linesL, List.take_append_of_le_length (by omega)]
        rw [List.take_append_of_le_length (by simp only [List.length_append, List.length_cons, List.length_nil] at hn; omega)]
      rw [e] at hg ⊢
      by_cases hz : (printC c).take n = []
      · rw [hz, read_nil]
        exact ⟨0, 0, Nat.zero_le _, rfl, rfl, Nat.zero_le _⟩
      · obtain ⟨g', rfl⟩ : ∃ g', g = g' + 1 := ⟨g - 1, by have := List.length_pos_iff.2 hz; omega⟩
        rw [read_torn hz (cut_no (no_lf_take (print_lf hc) n))]
        exact ⟨0, 13, Nat.zero_le _, rfl, rfl, Nat.zero_le _⟩
    · have e : (linesL (c :: xs)).take n = printC c ++ 10 :: (linesL xs).take (n - (lineC c).length) := by
        rw [linesL, List.take_append, List.take_of_length_le (by omega), List.append_assoc]
        rfl
      rw [e] at hg ⊢
      have ih := fun g' hx => read_take xs hr (k + 1) (n - (lineC c).length) g' (by omega) hx
      generalize (linesL xs).take (n - (lineC c).length) = R at hg ih ⊢
      simp only [List.length_append, List.length_cons] at hg
      obtain ⟨g', rfl⟩ : ∃ g', g = g' + 1 := ⟨g - 1, by omega⟩
      obtain ⟨j, e', h1, h2, h3, h4⟩ := ih g' (by omega)
      refine ⟨j + 1, e', by simp only [List.length_cons]; omega, ?_, ?_, ?_⟩
      · rw [read_cut (cut_line _ (print_lf hc)), parse_print hc hf, if_neg (fun h => h rfl), if_neg (by omega), h2]
        simp only [List.take_succ_cons, linesL, List.length_append, List.length_cons, List.length_nil]
      · rw [List.take_succ_cons, linesL, linesL, List.length_append, List.take_append, Nat.add_sub_cancel_left, h3, List.take_of_length_le (by omega)]
      · rw [List.take_succ_cons, linesL]
        simp only [List.length_append, List.length_cons, List.length_nil]
        omega
theorem read_lines : ∀ (xs : List Cd), Right xs → ∀ (k g : Nat), k + xs.length ≤ 60 → (linesL xs).length ≤ g → readF g k (linesL xs) = (xs, (linesL xs).length, 0)
  | [], _, k, g, _, _ => by rw [linesL, read_nil]; rfl
  | c :: xs, h, k, g, hk, hg => by
    obtain ⟨⟨hc, hf⟩, hr⟩ := h.cons
    simp only [List.length_cons] at hk
    have e : linesL (c :: xs) = printC c ++ 10 :: linesL xs := by rw [linesL, List.append_assoc]; rfl
    rw [e] at hg ⊢
    simp only [List.length_append, List.length_cons] at hg
    obtain ⟨g', rfl⟩ : ∃ g', g = g' + 1 := ⟨g - 1, by omega⟩
    rw [read_cut (cut_line _ (print_lf hc)), parse_print hc hf, if_neg (fun h => h rfl), if_neg (by omega), read_lines xs hr (k + 1) g' (by omega) (by omega)]
    simp only [List.length_append, List.length_cons]
    refine Prod.ext rfl (Prod.ext ?_ rfl)
    dsimp only
    omega
theorem readL_lines {xs : List Cd} (h : Right xs) (hn : xs.length ≤ 60) : readL (linesL xs) = (xs, (linesL xs).length, 0) := read_lines xs h 0 _ (by omega) (Nat.le_refl _)
theorem check_lines {a : List Cd} {w : Bs} (ha : Right a) (hn : a.length ≤ 60) (hl : (linesL a).length + w.length ≤ 20000) : checkD ⟨linesL a, w⟩ = 0 := check_of hl (by rw [readL_lines ha hn])
theorem check_cases (c : Cd) : checkC c = 0 ∨ checkC c = 3 ∨ checkC c = 4 := by
  unfold checkC
  split
  · exact .inr (.inr rfl)
  · split
    · exact .inr (.inr rfl)
    · split
      · exact .inl rfl
      · exact .inr (.inl rfl)
theorem put_lines {a b : List Cd} (ha : Right a) (hb : Right b) (hn : a.length + b.length ≤ 30) {c : Cd} (hc : checkC c = 0) (hf : c.fits) : putD ⟨linesL a, linesL b⟩ c = (⟨linesL a, linesL (b ++ [c])⟩, 0) := by
  have l1 := lines_len ha
  have l2 := lines_len hb
  have l3 := print_len hf
  rw [put_is (check_lines ha (by omega) (by omega)) hc (by simp only [List.length_append, List.length_cons, List.length_nil]; omega), lines_app, lines_one]
theorem put_wrong {a b : List Cd} (ha : Right a) (hb : Right b) (hn : a.length + b.length ≤ 30) {c : Cd} (hc : ¬ checkC c = 0) : putD ⟨linesL a, linesL b⟩ c = (noDk, checkC c) := by
  have l1 := lines_len ha
  have l2 := lines_len hb
  unfold putD
  rw [if_neg (fun h => h (check_lines ha (by omega) (by omega))), if_pos hc]
theorem sync_lines {a b : List Cd} (ha : Right a) (hb : Right b) (hn : a.length + b.length ≤ 30) : syncD ⟨linesL a, linesL b⟩ = (⟨linesL (a ++ b), []⟩, 0) := by
  have l1 := lines_len ha
  have l2 := lines_len hb
  rw [sync_is (check_lines ha (by omega) (by omega)) (by dsimp only; rw [← lines_app, readL_lines (ha.join hb) (by simp; omega)]), lines_app]
theorem rec_lines {a : List Cd} (ha : Right a) (hn : a.length ≤ 30) : recD ⟨linesL a, []⟩ = (⟨linesL a, []⟩, a, 0) := by
  have l1 := lines_len ha
  unfold recD
  rw [if_neg (fun h => h (check_lines ha (by omega) (by simp; omega)))]
  dsimp only
  rw [List.append_nil, readL_lines ha (by omega)]
  dsimp only
  rw [List.take_length]
/-- JournalHolds: what is recovered. -/
theorem rec_take {a b : List Cd} (ha : Right a) (hb : Right b) (hn : a.length + b.length ≤ 30) (n : Nat) : ∃ j, j ≤ b.length ∧ recD ⟨linesL a, (linesL b).take n⟩ = (⟨linesL (a ++ b.take j), []⟩, a ++ b.take j, 0) := by
  have l1 := lines_len ha
  have l2 := lines_len hb
  have hz : (readL (linesL a)).2.2 = 0 := by rw [readL_lines ha (by omega)]
  obtain ⟨-, e⟩ := readL_app (B := (linesL b).take n) hz
  obtain ⟨j, e', h1, h2, h3, h4⟩ := read_take b hb a.length n (linesL a ++ (linesL b).take n).length (by omega) (by simp)
  rw [readL_lines ha (by omega)] at e
  dsimp only at e
  rw [h2] at e
  dsimp only at e
  refine ⟨j, h1, ?_⟩
  unfold recD
  rw [if_neg (fun h => h (check_lines ha (by omega) (by rw [List.length_take]; omega)))]
  dsimp only
  rw [e]
  dsimp only
  rw [List.take_append, Nat.add_sub_cancel_left, List.take_of_length_le (by omega), List.take_take, Nat.min_eq_left (by rw [List.length_take] at h4; omega), h3, lines_app]
theorem crash_is {a b : List Cd} (ha : Right a) (hb : Right b) (hn : a.length + b.length ≤ 30) {n : Int} (h0 : 0 ≤ n) (h1 : n ≤ ((linesL b).length : Int)) : crashD ⟨linesL a, linesL b⟩ n = (⟨linesL a, (linesL b).take n.toNat⟩, 0) := by
  have l1 := lines_len ha
  have l2 := lines_len hb
  unfold crashD
  rw [if_neg (fun h => h (check_lines ha (by omega) (by omega))), if_neg (by dsimp only; omega)]
end Go.Proofs.YthdjfhnhjiageaaDoor.Tx
