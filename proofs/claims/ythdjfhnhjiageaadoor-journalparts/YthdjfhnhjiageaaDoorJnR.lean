/-
  A journal, plainly: what is safe, what waits; JournalParts' mathematics. No program in sight.
-/
import Derived.Test.YthdjfhnhjiageaaDoorJnQ
namespace Go.Proofs.YthdjfhnhjiageaaDoor.Tx
open Go.Lib

structure Dk where
  safe : Bs
  wait : Bs
abbrev noDk : Dk := ⟨[], []⟩
abbrev lineC (c : Cd) : Bs := printC c ++ [10]
def checkD (d : Dk) : Int := if 20000 < d.safe.length + d.wait.length then 2 else (readL d.safe).2.2
def putD (d : Dk) (c : Cd) : Dk × Int :=
  if checkD d ≠ 0 then (noDk, checkD d) else if checkC c ≠ 0 then (noDk, checkC c)
  else if 20000 < d.safe.length + d.wait.length + (lineC c).length then (noDk, 7) else (⟨d.safe, d.wait ++ lineC c⟩, 0)
def syncD (d : Dk) : Dk × Int :=
  if checkD d ≠ 0 then (noDk, checkD d) else if checkD ⟨d.safe ++ d.wait, []⟩ ≠ 0 then (noDk, checkD ⟨d.safe ++ d.wait, []⟩) else (⟨d.safe ++ d.wait, []⟩, 0)
def crashD (d : Dk) (n : Int) : Dk × Int :=
  if checkD d ≠ 0 then (noDk, checkD d) else if n < 0 ∨ (d.wait.length : Int) < n then (noDk, 3) else (⟨d.safe, d.wait.take n.toNat⟩, 0)
def recD (d : Dk) : Dk × List Cd × Int :=
  if checkD d ≠ 0 then (noDk, [], checkD d) else (⟨(d.safe ++ d.wait).take (readL (d.safe ++ d.wait)).2.1, []⟩, (readL (d.safe ++ d.wait)).1, 0)

theorem parse_err (s : Bs) : (parseC s).2 = 0 ∨ (parseC s).2 = 1 ∨ (parseC s).2 = 2 := by
  unfold parseC
  split
  · exact .inr (.inr rfl)
  · split
    · exact .inl rfl
    · exact .inr (.inl rfl)
theorem read_err : ∀ (f k : Nat) (b : Bs), (readF f k b).2.2 = 0 ∨ (readF f k b).2.2 = 1 ∨ (readF f k b).2.2 = 2 ∨ (readF f k b).2.2 = 13
  | 0, _, _ => .inl rfl
  | f + 1, k, b => by
    by_cases hb : b = []
    · rw [hb, read_nil]; exact .inl rfl
    · cases hc : cutL b with
      | none => rw [read_torn hb hc]; exact .inr (.inr (.inr rfl))
      | some q =>
        obtain ⟨line, rest⟩ := q
        rw [read_cut hc]
        split
        · rcases parse_err line with h | h | h
          · exact .inl h
          · exact .inr (.inl h)
          · exact .inr (.inr (.inl h))
        · split
          · exact .inr (.inr (.inl rfl))
          · exact read_err f (k + 1) rest
theorem read_num : ∀ (f k : Nat) (b : Bs), k ≤ 60 → (readF f k b).1.length + k ≤ 60 ∧ (readF f k b).2.1 ≤ b.length
  | 0, _, _, h => ⟨by simpa [readF] using h, by simp [readF]⟩
  | f + 1, k, b, h => by
    by_cases hb : b = []
    · rw [hb, read_nil]; exact ⟨by simpa using h, Nat.le_refl _⟩
    · cases hc : cutL b with
      | none => rw [read_torn hb hc]; exact ⟨by simpa using h, Nat.zero_le _⟩
      | some q =>
        obtain ⟨line, rest⟩ := q
        have hl := cut_len hc
        rw [read_cut hc]
        split
        · exact ⟨by simpa using h, Nat.zero_le _⟩
        · split
          · exact ⟨by simpa using h, Nat.zero_le _⟩
          · obtain ⟨i1, i2⟩ := read_num f (k + 1) rest (by omega)
            exact ⟨by simp only [List.length_cons]; omega, by dsimp only; omega⟩
theorem check_err (d : Dk) : checkD d = 0 ∨ checkD d = 1 ∨ checkD d = 2 ∨ checkD d = 13 := by
  unfold checkD
  split
  · exact .inr (.inr (.inl rfl))
  · exact read_err _ _ _
theorem check_zero {d : Dk} (h : checkD d = 0) : d.safe.length + d.wait.length ≤ 20000 ∧ (readL d.safe).2.2 = 0 := by
  unfold checkD at h
  split at h
  · cases h
  · exact ⟨by omega, h⟩
theorem check_of {d : Dk} (h1 : d.safe.length + d.wait.length ≤ 20000) (h2 : (readL d.safe).2.2 = 0) : checkD d = 0 := by
  unfold checkD
  rw [if_neg (by omega)]
  exact h2
/-- one line alone. -/
theorem read_line {f k : Nat} {c : Cd} (hc : checkC c = 0) (hf : c.fits) (hk : k < 60) : readF (f + 1) k (lineC c) = ([c], (lineC c).length, 0) := by
  have h := cut_line [] (print_lf hc)
  rw [read_cut h, parse_print hc hf, if_neg (fun h => h rfl), if_neg (by omega), read_nil]
  simp
theorem read_line_room {f k : Nat} {c : Cd} (hc : checkC c = 0) (hf : c.fits) (h : (readF (f + 1) k (lineC c)).2.2 = 0) : ¬ k = 60 := fun e => by
  rw [read_cut (cut_line [] (print_lf hc)), parse_print hc hf, if_neg (fun h => h rfl), if_pos e] at h
  cases h
theorem triple {α β : Type} {x : α × β × Int} (h : x.2.2 = 0) : x = (x.1, x.2.1, 0) := Prod.ext rfl (Prod.ext rfl h)
/-- what is read to its end is read so with more behind it. -/
theorem readL_app {A B : Bs} (h : (readL A).2.2 = 0) : (readL A).2.1 = A.length ∧ readL (A ++ B) = ((readL A).1 ++ (readF (A ++ B).length (readL A).1.length B).1, A.length + (readF (A ++ B).length (readL A).1.length B).2.1, (readF (A ++ B).length (readL A).1.length B).2.2) := by
  obtain ⟨h1, h2⟩ := read_app A.length 0 A _ _ (Nat.le_refl _) (triple h)
  refine ⟨h1, ?_⟩
  have := h2 (A ++ B).length B (Nat.le_refl _)
  rw [Nat.zero_add] at this
  exact this
theorem readL_pre {A B : Bs} (h : (readL (A ++ 10 :: B)).2.2 = 0) : (readL (A ++ [10])).2.2 = 0 := by
  obtain ⟨l', hl⟩ := read_pre _ 0 A B _ _ (Nat.le_refl _) (triple h)
  unfold readL
  have := read_fuel (A ++ [10]).length (A ++ 10 :: B).length 0 (A ++ [10]) (Nat.le_refl _) (by simp)
  rw [hl] at this
  exact congrArg (fun x => x.2.2) this
/-- a text parted behind its last line feed. -/
theorem last_lf : ∀ T : Bs, ∃ A t, T = A ++ t ∧ (10 : UInt8) ∉ t ∧ (A = [] ∨ ∃ A', A = A' ++ [10])
  | [] => ⟨[], [], rfl, by simp, .inl rfl⟩
  | x :: T => by
    obtain ⟨A, t, h1, h2, h3⟩ := last_lf T
    rcases h3 with rfl | ⟨A', rfl⟩
    · by_cases hx : x = 10
      · exact ⟨[x], t, by rw [h1]; rfl, h2, .inr ⟨[], by rw [hx]; rfl⟩⟩
      · refine ⟨[], x :: t, by rw [h1]; rfl, ?_, .inl rfl⟩
        simp only [List.mem_cons, not_or]
        exact ⟨fun e => hx e.symm, h2⟩
    · exact ⟨x :: (A' ++ [10]), t, by rw [h1]; rfl, h2, .inr ⟨x :: A', rfl⟩⟩
/-- what ends with a command's line, and is read to its end, ends with that command. -/
theorem read_ends {T : Bs} {c : Cd} (hc : checkC c = 0) (hf : c.fits) (h : (readL (T ++ lineC c)).2.2 = 0) : ∃ l, (readL (T ++ lineC c)).1 = l ++ [c] := by
  obtain ⟨A, t, rfl, ht, hA⟩ := last_lf T
  have hA0 : (readL A).2.2 = 0 := by
    rcases hA with rfl | ⟨A', rfl⟩
    · rfl
    · refine readL_pre (B := t ++ lineC c) ?_
      rw [← h]
      simp only [List.append_assoc, List.cons_append, List.nil_append]
  obtain ⟨-, e⟩ := readL_app (B := t ++ lineC c) hA0
  rw [← List.append_assoc] at e
  rw [e] at h ⊢
  dsimp only at h ⊢
  have hno : (10 : UInt8) ∉ t ++ printC c := by simp [ht, print_lf hc]
  have hcut : cutL (t ++ lineC c) = some (t ++ printC c, []) := by
    rw [← List.append_assoc]
    exact cut_line [] hno
  obtain ⟨g, hg⟩ : ∃ g, (A ++ t ++ lineC c).length = g + 1 := ⟨(A ++ t ++ lineC c).length - 1, by simp; omega⟩
  rw [hg, read_cut hcut] at h ⊢
  split at h
  · rename_i hp
    exact absurd h hp
  · rename_i hp
    have hp0 : (parseC (t ++ printC c)).2 = 0 := Classical.byContradiction hp
    split at h
    · cases h
    · rename_i hk
      rw [if_neg hp, if_neg hk, read_nil]
      have hpc : parseC (t ++ printC c) = ((parseC (t ++ printC c)).1, 0) := Prod.ext rfl hp0
      obtain ⟨g1, g2⟩ := print_parse hpc
      have ht0 := glue hc g1 g2.symm
      subst ht0
      rw [List.nil_append, parse_print hc hf]
      exact ⟨_, rfl⟩
theorem put_ok {d x : Dk} {c : Cd} (h : putD d c = (x, 0)) : checkD d = 0 ∧ checkC c = 0 ∧ d.safe.length + d.wait.length + (lineC c).length ≤ 20000 ∧ x = ⟨d.safe, d.wait ++ lineC c⟩ := by
  unfold putD at h
  split at h
  · rename_i hd
    exact absurd (Prod.mk.inj h).2 hd
  · rename_i hd
    split at h
    · rename_i hc
      exact absurd (Prod.mk.inj h).2 hc
    · rename_i hc
      split at h
      · cases (Prod.mk.inj h).2
      · exact ⟨Classical.byContradiction hd, Classical.byContradiction hc, by omega, (Prod.mk.inj h).1.symm⟩
theorem put_is {d : Dk} {c : Cd} (h1 : checkD d = 0) (h2 : checkC c = 0) (h3 : d.safe.length + d.wait.length + (lineC c).length ≤ 20000) : putD d c = (⟨d.safe, d.wait ++ lineC c⟩, 0) := by
  unfold putD
  rw [if_neg (fun h => h h1), if_neg (fun h => h h2), if_neg (by omega)]
theorem sync_ok {d x : Dk} (h : syncD d = (x, 0)) : checkD d = 0 ∧ (readL (d.safe ++ d.wait)).2.2 = 0 ∧ x = ⟨d.safe ++ d.wait, []⟩ := by
  unfold syncD at h
  split at h
  · rename_i hd
    exact absurd (Prod.mk.inj h).2 hd
  · rename_i hd
    split at h
    · rename_i hc
      exact absurd (Prod.mk.inj h).2 hc
    · rename_i hc
      exact ⟨Classical.byContradiction hd, (check_zero (Classical.byContradiction hc)).2, (Prod.mk.inj h).1.symm⟩
theorem sync_is {d : Dk} (h1 : checkD d = 0) (h2 : (readL (d.safe ++ d.wait)).2.2 = 0) : syncD d = (⟨d.safe ++ d.wait, []⟩, 0) := by
  have h := (check_zero h1).1
  have h3 : checkD ⟨d.safe ++ d.wait, []⟩ = 0 := check_of (by simpa using h) h2
  unfold syncD
  rw [if_neg (fun h => h h1), if_neg (fun h => h h3)]
theorem sync_err (d : Dk) : (syncD d).2 = 0 ∨ (syncD d).2 = 1 ∨ (syncD d).2 = 2 ∨ (syncD d).2 = 13 := by
  unfold syncD
  split
  · exact check_err d
  · split
    · exact check_err _
    · exact .inl rfl
/-- JournalParts. -/
theorem parts_plain {d x y p : Dk} {c b : Cd} (fc : c.fits) (fb : b.fits) (h1 : putD d c = (x, 0)) (h2 : putD x b = (y, 0)) (h3 : syncD y = (p, 0)) :
    ∃ q q2 l, syncD x = (q, 0) ∧ putD q b = (q2, 0) ∧ syncD q2 = (p, 0) ∧ crashD p 0 = (p, 0) ∧ recD p = (p, l ++ [c] ++ [b], 0) := by
  obtain ⟨a1, a2, a3, rfl⟩ := put_ok h1
  obtain ⟨b1, b2, b3, rfl⟩ := put_ok h2
  obtain ⟨c1, c2, rfl⟩ := sync_ok h3
  dsimp only at *
  have eT : d.safe ++ (d.wait ++ lineC c ++ lineC b) = (d.safe ++ d.wait ++ lineC c) ++ lineC b := by simp only [List.append_assoc]
  have eU : d.safe ++ (d.wait ++ lineC c) = d.safe ++ d.wait ++ lineC c := by simp only [List.append_assoc]
  have pre : (readL (d.safe ++ d.wait ++ lineC c)).2.2 = 0 := by
    have : (readL ((d.safe ++ d.wait ++ printC c) ++ [10])).2.2 = 0 := by
      refine readL_pre (B := lineC b) ?_
      rw [← c2]
      simp only [List.append_assoc, List.cons_append, List.nil_append]
    rw [← this]
    simp only [List.append_assoc]
  have lens : d.safe.length + d.wait.length + (printC c).length + 1 + (printC b).length + 1 ≤ 20000 := by simp only [List.length_append, List.length_cons, List.length_nil] at b3; omega
  have hq := sync_is (d := ⟨d.safe, d.wait ++ lineC c⟩) b1 (by rw [eU]; exact pre)
  dsimp only at hq
  rw [eU] at hq
  have kq : checkD ⟨d.safe ++ d.wait ++ lineC c, []⟩ = 0 := check_of (by simp only [List.length_append, List.length_cons, List.length_nil]; omega) pre
  have hq2 := put_is (d := ⟨d.safe ++ d.wait ++ lineC c, []⟩) kq b2 (by simp only [List.length_append, List.length_cons, List.length_nil]; omega)
  rw [List.nil_append] at hq2
  rw [eT] at c2
  have hq3 := sync_is (d := ⟨d.safe ++ d.wait ++ lineC c, lineC b⟩) (check_of (by simp only [List.length_append, List.length_cons, List.length_nil]; omega) pre) c2
  have kp : checkD ⟨d.safe ++ d.wait ++ lineC c ++ lineC b, []⟩ = 0 := check_of (by simp only [List.length_append, List.length_cons, List.length_nil]; omega) c2
  obtain ⟨l, hl⟩ := read_ends a2 fc pre
  obtain ⟨-, e⟩ := readL_app (B := lineC b) pre
  have n1 := (readL_app (B := ([] : Bs)) c2).1
  obtain ⟨g, hg⟩ : ∃ g, (d.safe ++ d.wait ++ lineC c ++ lineC b).length = g + 1 := ⟨(d.safe ++ d.wait ++ lineC c ++ lineC b).length - 1, by simp; omega⟩
  have hk : ¬ (readL (d.safe ++ d.wait ++ lineC c)).1.length = 60 := by
    refine read_line_room (f := g) b2 fb ?_
    rw [← hg]
    rw [e] at c2
    exact c2
  have hk2 : (readL (d.safe ++ d.wait ++ lineC c)).1.length < 60 := by
    have := (read_num (d.safe ++ d.wait ++ lineC c).length 0 (d.safe ++ d.wait ++ lineC c) (by omega)).1
    unfold readL at hk ⊢
    omega
  refine ⟨_, _, l, hq, hq2, by rw [eT]; exact hq3, ?_, ?_⟩
  · unfold crashD
    rw [eT, if_neg (fun h => h kp), if_neg (by simp)]
    rfl
  · unfold recD
    rw [eT, if_neg (fun h => h kp)]
    dsimp only
    rw [List.append_nil, n1, List.take_length, e, hg, read_line b2 fb hk2, hl]
end Go.Proofs.YthdjfhnhjiageaaDoor.Tx
