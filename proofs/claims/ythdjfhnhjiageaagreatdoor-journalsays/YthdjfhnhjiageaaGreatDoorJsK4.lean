/-
  JournalSays: all ways.
-/
import Derived.Test.YthdjfhnhjiageaaGreatDoorJsK2
import Derived.Test.YthdjfhnhjiageaaGreatDoorJsK3
import Derived.Test.YthdjfhnhjiageaaGreatDoorMgS
namespace Go.Proofs.YthdjfhnhjiageaaGreatDoor.Tx
open Go.RowKit Go.Lib Go.Sort
theorem sync_two {d : Dk} (he : checkD d = 0) : ((syncD d).1 = noDk ∧ checkD ⟨d.safe ++ d.wait, []⟩ = (syncD d).2 ∧ ¬ (syncD d).2 = 0) ∨ ((syncD d).1 = ⟨d.safe ++ d.wait, []⟩ ∧ checkD ⟨d.safe ++ d.wait, []⟩ = 0 ∧ (syncD d).2 = 0) := by
  unfold syncD
  rw [if_neg (fun x => x he)]
  by_cases h : checkD ⟨d.safe ++ d.wait, []⟩ = 0
  · rw [if_neg (fun x => x h)]; exact .inr ⟨rfl, h, rfl⟩
  · rw [if_pos h]; exact .inl ⟨rfl, rfl, h⟩
theorem crash_three {d : Dk} {n' : Nat} (k : Int) (he : checkD d = 0) (hl : d.wait.length = n') : (k < 0 ∧ (crashD d k).1 = noDk ∧ (crashD d k).2 = 3) ∨ (¬ k < 0 ∧ (n' : Int) < k ∧ (crashD d k).1 = noDk ∧ (crashD d k).2 = 3) ∨ (∃ j : Nat, k = j ∧ j ≤ n' ∧ (crashD d k).1 = ⟨d.safe, d.wait.take j⟩ ∧ (crashD d k).2 = 0) := by
  unfold crashD
  rw [if_neg (fun x => x he)]
  by_cases h1 : k < 0
  · rw [if_pos (.inl h1)]; exact .inl ⟨h1, rfl, rfl⟩
  · by_cases h2 : (d.wait.length : Int) < k
    · rw [if_pos (.inr h2)]; exact .inr (.inl ⟨h1, by rw [← hl]; exact h2, rfl, rfl⟩)
    · rw [if_neg (fun x => x.elim h1 h2)]
      exact .inr (.inr ⟨k.toNat, by omega, by omega, rfl, rfl⟩)
theorem rec_few {d : Dk} (he : checkD d = 0) : ∃ r L, recD d = (r, L, 0) ∧ (r.safe.length ≤ 100000 ∧ r.wait.length ≤ 100000) ∧ L.length ≤ 1000 := by
  have hz := (check_zero he).1
  have hn := (read_num (d.safe ++ d.wait).length 0 (d.safe ++ d.wait) (by omega)).1
  refine ⟨_, _, by unfold recD; rw [if_neg (fun x => x he)], ⟨?_, Nat.zero_le _⟩, ?_⟩
  · rw [List.length_take, List.length_append]; omega
  · unfold readL; omega
theorem journalSays_any (p : Option Addr) (n c : Nat) (p' : Option Addr) (n' c' : Nat) (d : Dk) (cm : Cd) (k : Int) (w : World) (h : Bt w p n c d.safe) (h' : Bt w p' n' c' d.wait) (hn : n ≤ 140737488351232) (hn' : n' ≤ 140737488351232) (f : cm.fits) (E : EnvS w) :
    Calls Tryz.prog 3 #[dkV p n c p' n' c', cdV cm, .int .i64 k] w fun e w' => e = .returned (.bool true) ∧ Below w.heap.size w w' := by
  by_cases he : checkD d = 0
  · obtain ⟨r, L, hr, HR, HR2⟩ := rec_few he
    have CK := hide (fun W (_ : Below w.heap.size w W) => refCheck_any cm W)
    have hS := sync_two he
    have hX := crash_three k he h'.len
    by_cases hpc : checkC cm = 0
    · have TK := hide (fun W (bW : Below w.heap.size w W) => text_any cm hpc f W (E.below bW))
      have hsl := print_len f
      by_cases hful : 20000 < d.safe.length + d.wait.length + (lineC cm).length
      · have ha : putD d cm = (noDk, 7) := by unfold putD; rw [if_neg (fun x => x he), if_neg (fun x => x hpc), if_pos hful]
        exact says_2 p n c p' n' c' d cm k w h h' hn hn' f E he CK hpc (printC cm) TK (by rw [List.length_append, h.len, h'.len] at hful; simpa using hful) hsl _ _ r _ _ L ha rfl rfl hr HR HR2 hS hX
      · have ha : putD d cm = (⟨d.safe, d.wait ++ (printC cm ++ [10])⟩, 0) := by unfold putD; rw [if_neg (fun x => x he), if_neg (fun x => x hpc), if_neg hful]
        exact says_3 p n c p' n' c' d cm k w h h' hn hn' f E he CK hpc (printC cm) TK (by rw [List.length_append, h.len, h'.len] at hful; simpa using hful) hsl _ _ r _ _ L ha rfl rfl hr HR HR2 hS hX
    · have ha : putD d cm = (noDk, checkC cm) := by unfold putD; rw [if_neg (fun x => x he), if_pos hpc]
      exact says_1 p n c p' n' c' d cm k w h h' hn hn' f E he CK _ rfl hpc _ _ r _ _ L ha rfl rfl hr HR HR2 hS hX
  · exact says_bad p n c p' n' c' d cm k w h h' hn hn' f E _ rfl he (by unfold putD; rw [if_pos he]) (by unfold syncD; rw [if_pos he]) (by unfold crashD; rw [if_pos he]) (by unfold recD; rw [if_pos he])
end Go.Proofs.YthdjfhnhjiageaaGreatDoor.Tx
