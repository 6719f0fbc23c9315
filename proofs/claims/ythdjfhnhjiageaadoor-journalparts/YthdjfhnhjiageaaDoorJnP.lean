/-
  Lines of commands, plainly. No program in sight.
-/
import Derived.Test.YthdjfhnhjiageaaDoorTxP
namespace Go.Proofs.YthdjfhnhjiageaaDoor.Tx
open Go.Lib

/-- a text up to its first line feed, and what is behind it. -/
def cutL : Bs → Option (Bs × Bs)
  | [] => none
  | x :: l => if x = 10 then some ([], l) else (cutL l).map fun p => (x :: p.1, p.2)
theorem cut_is : ∀ {b : Bs} {p : Bs × Bs}, cutL b = some p → b = p.1 ++ 10 :: p.2 ∧ (10 : UInt8) ∉ p.1
  | [], _, h => by cases h
  | x :: l, p, h => by
    unfold cutL at h
    split at h
    · rename_i hx
      cases h
      exact ⟨by rw [hx]; rfl, by simp⟩
    · rename_i hx
      cases hc : cutL l with
      | none => rw [hc] at h; cases h
      | some q =>
        rw [hc] at h
        cases h
        obtain ⟨h1, h2⟩ := cut_is hc
        refine ⟨by rw [h1]; rfl, ?_⟩
        simp only [List.mem_cons, not_or]
        exact ⟨fun e => hx e.symm, h2⟩
theorem cut_line : ∀ {l : Bs} (r : Bs), (10 : UInt8) ∉ l → cutL (l ++ 10 :: r) = some (l, r)
  | [], r, _ => by simp [cutL]
  | x :: l, r, h => by
    simp only [List.mem_cons, not_or] at h
    rw [List.cons_append, cutL, if_neg (fun e => h.1 e.symm), cut_line r h.2]
    rfl
theorem cut_none : ∀ {b : Bs}, cutL b = none → (10 : UInt8) ∉ b
  | [], _ => by simp
  | x :: l, h => by
    unfold cutL at h
    split at h
    · cases h
    · rename_i hx
      cases hc : cutL l with
      | some q => rw [hc] at h; cases h
      | none =>
        simp only [List.mem_cons, not_or]
        exact ⟨fun e => hx e.symm, cut_none hc⟩
/-- the commands of the lines that a text begins with, of which so many are read already; how many bytes they have; what is wrong with the next one. -/
def readF : Nat → Nat → Bs → List Cd × Nat × Int
  | 0, _, _ => ([], 0, 0)
  | f + 1, k, b =>
    if b = [] then ([], 0, 0) else
    match cutL b with
    | none => ([], 0, 13)
    | some (line, rest) =>
      if (parseC line).2 ≠ 0 then ([], 0, (parseC line).2)
      else if k = 60 then ([], 0, 2)
      else ((parseC line).1 :: (readF f (k + 1) rest).1, line.length + 1 + (readF f (k + 1) rest).2.1, (readF f (k + 1) rest).2.2)
def readL (b : Bs) : List Cd × Nat × Int := readF b.length 0 b
theorem cut_len {b : Bs} {line rest : Bs} (h : cutL b = some (line, rest)) : b.length = line.length + 1 + rest.length := by
  have := (cut_is h).1
  rw [this]
  simp
  omega
theorem read_nil (f k : Nat) : readF f k [] = ([], 0, 0) := by
  cases f with
  | zero => rfl
  | succ f => simp [readF]
theorem read_cut {f k : Nat} {b line rest : Bs} (h : cutL b = some (line, rest)) : readF (f + 1) k b = if (parseC line).2 ≠ 0 then ([], 0, (parseC line).2) else if k = 60 then ([], 0, 2) else ((parseC line).1 :: (readF f (k + 1) rest).1, line.length + 1 + (readF f (k + 1) rest).2.1, (readF f (k + 1) rest).2.2) := by
  have hb : b ≠ [] := fun e => by rw [e] at h; cases h
  rw [readF, if_neg hb, h]
theorem read_torn {f k : Nat} {b : Bs} (hb : b ≠ []) (h : cutL b = none) : readF (f + 1) k b = ([], 0, 13) := by
  rw [readF, if_neg hb, h]
theorem read_fuel : ∀ (f g k : Nat) (b : Bs), b.length ≤ f → b.length ≤ g → readF f k b = readF g k b
  | 0, g, k, b, h, _ => by
    obtain rfl : b = [] := List.length_eq_zero_iff.1 (by omega)
    rw [read_nil, read_nil]
  | f + 1, 0, k, b, _, h => by
    obtain rfl : b = [] := List.length_eq_zero_iff.1 (by omega)
    rw [read_nil, read_nil]
  | f + 1, g + 1, k, b, hf, hg => by
    cases hc : cutL b with
    | none =>
      by_cases hb : b = []
      · rw [hb, read_nil, read_nil]
      · rw [read_torn hb hc, read_torn hb hc]
    | some q =>
      obtain ⟨line, rest⟩ := q
      have := cut_len hc
      rw [read_cut hc, read_cut hc, read_fuel f g (k + 1) rest (by omega) (by omega)]
/-- what is read to its end is read so with more behind it. -/
theorem read_app : ∀ (f k : Nat) (A : Bs) (l : List Cd) (n : Nat), A.length ≤ f → readF f k A = (l, n, 0) → n = A.length ∧ ∀ (g : Nat) (B : Bs), (A ++ B).length ≤ g → readF g k (A ++ B) = (l ++ (readF g (k + l.length) B).1, A.length + (readF g (k + l.length) B).2.1, (readF g (k + l.length) B).2.2)
  | 0, k, A, l, n, hf, h => by
    obtain rfl : A = [] := List.length_eq_zero_iff.1 (by omega)
    rw [read_nil] at h
    cases h
    exact ⟨rfl, fun g B _ => by simp⟩
  | f + 1, k, A, l, n, hf, h => by
    cases hc : cutL A with
    | none =>
      by_cases hA : A = []
      · subst hA
        rw [read_nil] at h
        cases h
        exact ⟨rfl, fun g B _ => by simp⟩
      · rw [read_torn hA hc] at h
        cases h
    | some q =>
      obtain ⟨line, rest⟩ := q
      have hl := cut_len hc
      rw [read_cut hc] at h
      split at h
      · rename_i hp
        exact absurd (Prod.mk.inj (Prod.mk.inj h).2).2 hp
      · rename_i hp
        split at h
        · cases h
        · rename_i hk
          obtain ⟨e1, e2⟩ := Prod.mk.inj h
          obtain ⟨e2, e3⟩ := Prod.mk.inj e2
          obtain ⟨i1, i2⟩ := read_app f (k + 1) rest _ _ (by omega) (Prod.ext rfl (Prod.ext rfl e3) : readF f (k + 1) rest = ((readF f (k + 1) rest).1, (readF f (k + 1) rest).2.1, 0))
          refine ⟨by omega, fun g B hg => ?_⟩
          obtain ⟨hA, hno⟩ := cut_is hc
          have hc2 : cutL (A ++ B) = some (line, rest ++ B) := by
            rw [hA, List.append_assoc, List.cons_append]
            exact cut_line _ hno
          simp only [List.length_append] at hg
          obtain ⟨g, rfl⟩ : ∃ g', g = g' + 1 := ⟨g - 1, by omega⟩
          rw [read_cut hc2, if_neg hp, if_neg hk, i2 g B (by simp; omega), ← e1]
          have hx : k + 1 + (readF f (k + 1) rest).1.length = k + ((parseC line).1 :: (readF f (k + 1) rest).1).length := by simp; omega
          rw [hx, read_fuel g (g + 1) _ B (by omega) (by omega)]
          refine Prod.ext rfl (Prod.ext ?_ rfl)
          dsimp only
          omega
/-- where the whole is read to its end, what ends with a line feed within it is. -/
theorem read_pre : ∀ (f k : Nat) (A B : Bs) (l : List Cd) (n : Nat), (A ++ 10 :: B).length ≤ f → readF f k (A ++ 10 :: B) = (l, n, 0) → ∃ l', readF f k (A ++ [10]) = (l', A.length + 1, 0)
  | 0, k, A, B, l, n, hf, _ => by simp at hf
  | f + 1, k, A, B, l, n, hf, h => by
    simp only [List.length_append, List.length_cons] at hf
    cases hc : cutL A with
    | none =>
      have hno := cut_none hc
      rw [read_cut (cut_line B hno)] at h
      rw [read_cut (cut_line [] hno)]
      split at h
      · rename_i hp
        exact absurd (Prod.mk.inj (Prod.mk.inj h).2).2 hp
      · rename_i hp
        split at h
        · cases h
        · rename_i hk
          rw [if_neg hp, if_neg hk, read_nil]
          exact ⟨_, rfl⟩
    | some q =>
      obtain ⟨line, rest⟩ := q
      have hl := cut_len hc
      obtain ⟨hA, hno⟩ := cut_is hc
      have c1 : cutL (A ++ 10 :: B) = some (line, rest ++ 10 :: B) := by rw [hA, List.append_assoc, List.cons_append]; exact cut_line _ hno
      have c2 : cutL (A ++ [10]) = some (line, rest ++ [10]) := by rw [hA, List.append_assoc, List.cons_append]; exact cut_line _ hno
      rw [read_cut c1] at h
      rw [read_cut c2]
      split at h
      · rename_i hp
        exact absurd (Prod.mk.inj (Prod.mk.inj h).2).2 hp
      · rename_i hp
        split at h
        · cases h
        · rename_i hk
          obtain ⟨-, e2⟩ := Prod.mk.inj h
          obtain ⟨-, e3⟩ := Prod.mk.inj e2
          obtain ⟨l', i⟩ := read_pre f (k + 1) rest B _ _ (by simp; omega) (Prod.ext rfl (Prod.ext rfl e3) : readF f (k + 1) (rest ++ 10 :: B) = ((readF f (k + 1) (rest ++ 10 :: B)).1, (readF f (k + 1) (rest ++ 10 :: B)).2.1, 0))
          rw [if_neg hp, if_neg hk, i]
          refine ⟨_, Prod.ext rfl (Prod.ext ?_ rfl)⟩
          dsimp only
          omega
end Go.Proofs.YthdjfhnhjiageaaDoor.Tx
