/-
  The reference's chapter 8: ReadCommand answers readR.
-/
import Derived.Test.YthdjfhnhjiageaaGreatDoorTxN3
import Derived.Test.YthdjfhnhjiageaaGreatDoorTxN3b
import Derived.Test.YthdjfhnhjiageaaGreatDoorTxN3c
import Derived.Test.YthdjfhnhjiageaaGreatDoorTxN4
import Derived.Test.YthdjfhnhjiageaaGreatDoorTxN5
import Derived.Test.YthdjfhnhjiageaaGreatDoorTxN6
namespace Go.Proofs.YthdjfhnhjiageaaGreatDoor.Tx
open Go.RowKit Go.Lib Go.Sort

theorem refRead_any (s : Bs) (hs : s.length ≤ 20000) (w : World) (E : EnvS w) : Calls Tryz.prog 54 #[sV s] w fun e w' => e = .returned (.tuple #[cdV (readR s).1, .int .i64 (readR s).2]) ∧ Below w.heap.size w w' := by
  have SP0 := split_sp s hs w
  have hne := (split_ne s.length s (Nat.le_refl _)).1
  have sh : ∀ i, ((splitW s).getD i []).length ≤ 100000 := fun i => by have := word_short s i; omega
  unfold readR
  generalize splitW s = ws at *
  have hN : 0 < ws.length := List.length_pos_iff.2 hne
  have hNz : (0 : Int) < (ws.length : Int) := by omega
  have get : ∀ i, i < ws.length → ws[i]? = some (ws.getD i []) := fun i hi => by rw [List.getD_eq_getElem?_getD, List.getElem?_eq_getElem hi]; rfl
  obtain ⟨kd, hkd⟩ : ∃ kd, idxW verbsR (ws.getD 0 []) = kd := ⟨_, rfl⟩
  have vb := verb_is kd hkd
  unfold wordsR
  rw [hkd]
  by_cases h1 : kd < 1
  · rw [if_pos h1]
    exact rd_no s ws _ kd w E (get 0 hN) hkd hNz h1 SP0
  rw [if_neg h1]
  by_cases h7 : kd = 7
  · subst h7
    rw [if_pos rfl]
    by_cases hl : ws.length = 1
    · rw [if_pos hl]
      exact rd_7 s ws _ 7 w E (get 0 hN) hkd hNz h1 rfl (by omega) SP0
    · rw [if_neg hl]
      exact rd_7n s ws _ 7 w E (get 0 hN) hkd hNz h1 rfl (by omega) SP0
  rw [if_neg h7]
  have b7 : (kd == 7) = false := beq_false_of_ne h7
  by_cases h56 : kd = 5 ∨ kd = 6
  · rw [if_pos h56]
    unfold twoR
    by_cases h5 : kd = 5
    · have b5 : (kd == 5) = true := by rw [h5]; rfl
      by_cases hl : ws.length = 3
      · cases o1 : okN (ws.getD 1 [])
        · rw [if_neg (fun h => by cases h.2.1)]
          exact rd_b51 s ws _ kd w E (get 0 hN) hkd hNz h1 _ b7 b5 (by omega) (get 1 (by omega)) (sh 1) o1 SP0
        · cases o2 : okN (ws.getD 2 [])
          · rw [if_neg (fun h => by cases h.2.2)]
            exact rd_b52 s ws _ kd w E (get 0 hN) hkd hNz h1 _ _ b7 b5 (by omega) (get 1 (by omega)) (sh 1) o1 (get 2 (by omega)) (sh 2) o2 SP0
          · rw [if_pos ⟨hl, rfl, rfl⟩]
            exact rd_b53 s ws _ kd w E (get 0 hN) hkd hNz h1 _ _ b7 b5 (by omega) (get 1 (by omega)) (sh 1) o1 (get 2 (by omega)) (sh 2) o2 SP0
      · rw [if_neg (fun h => hl h.1)]
        exact rd_b50 s ws _ kd w E (get 0 hN) hkd hNz h1 b7 b5 (by omega) SP0
    · have h6 : kd = 6 := h56.resolve_left h5
      have b5 : (kd == 5) = false := beq_false_of_ne h5
      have b6 : (kd == 6) = true := by rw [h6]; rfl
      by_cases hl : ws.length = 3
      · cases o1 : okN (ws.getD 1 [])
        · rw [if_neg (fun h => by cases h.2.1)]
          exact rd_b61 s ws _ kd w E (get 0 hN) hkd hNz h1 _ b7 b5 b6 (by omega) (get 1 (by omega)) (sh 1) o1 SP0
        · cases o2 : okN (ws.getD 2 [])
          · rw [if_neg (fun h => by cases h.2.2)]
            exact rd_b62 s ws _ kd w E (get 0 hN) hkd hNz h1 _ _ b7 b5 b6 (by omega) (get 1 (by omega)) (sh 1) o1 (get 2 (by omega)) (sh 2) o2 SP0
          · rw [if_pos ⟨hl, rfl, rfl⟩]
            exact rd_b63 s ws _ kd w E (get 0 hN) hkd hNz h1 _ _ b7 b5 b6 (by omega) (get 1 (by omega)) (sh 1) o1 (get 2 (by omega)) (sh 2) o2 SP0
      · rw [if_neg (fun h => hl h.1)]
        exact rd_b60 s ws _ kd w E (get 0 hN) hkd hNz h1 b7 b5 b6 (by omega) SP0
  rw [if_neg h56]
  have b5 : (kd == 5) = false := beq_false_of_ne (fun e => h56 (.inl e))
  have b6 : (kd == 6) = false := beq_false_of_ne (fun e => h56 (.inr e))
  by_cases h3 : kd = 3
  · rw [if_pos h3]
    have b3 : (kd == 3) = true := by rw [h3]; rfl
    have ib := idxFrom_bd (ws.getD 6 []) sortsR 0
    have ib2 : -1 ≤ idxW sortsR (ws.getD 6 []) ∧ idxW sortsR (ws.getD 6 []) ≤ 5 := by unfold idxW; exact ⟨ib.1, by have := ib.2; simp only [sortsR, List.length_cons, List.length_nil] at this; exact this⟩
    by_cases hl8 : ws.length = 8
    · by_cases hr : ws.getD 7 [] = wReduce
      · have hrd : redR ws = true := decide_eq_true ⟨hl8, hr⟩
        exact rd_pr s ws _ _ _ _ _ _ _ kd _ _ _ rfl w E (get 0 hN) hkd hNz h1 b7 b5 b6 b3 (by omega) (by rw [← hr]; exact get 7 (by omega)) h3 ⟨.inl hrd, hrd⟩ (get 1 (by omega)) (sh 1) (get 2 (by omega)) (sh 2) (get 4 (by omega)) (sh 4) (get 5 (by omega)) (sh 5) (get 3 (by omega)) (get 6 (by omega)) rfl ib2 SP0
      · have hrd : redR ws = false := decide_eq_false (fun h => hr h.2)
        rw [place_not (fun h => by rcases h.1 with h | h; rw [hrd] at h; cases h; omega)]
        exact rd_pm s ws _ kd w E (get 0 hN) hkd hNz h1 b7 b5 b6 b3 _ (by omega) (get 7 (by omega)) (beq_false_of_ne hr) SP0
    · have hrd : redR ws = false := decide_eq_false (fun h => hl8 h.1)
      by_cases hl7 : ws.length = 7
      · exact rd_pn s ws _ _ _ _ _ _ _ kd _ _ _ rfl w E (get 0 hN) hkd hNz h1 b7 b5 b6 b3 (by omega) h3 ⟨.inr hl7, hrd⟩ (get 1 (by omega)) (sh 1) (get 2 (by omega)) (sh 2) (get 4 (by omega)) (sh 4) (get 5 (by omega)) (sh 5) (get 3 (by omega)) (get 6 (by omega)) rfl ib2 SP0
      · rw [place_not (fun h => by rcases h.1 with h | h; rw [hrd] at h; cases h; exact hl7 h)]
        exact rd_pl s ws _ kd w E (get 0 hN) hkd hNz h1 b7 b5 b6 b3 (beq_false_of_ne (by omega)) (beq_false_of_ne (by omega)) SP0
  rw [if_neg h3]
  have b3 : (kd == 3) = false := beq_false_of_ne h3
  unfold twoR
  by_cases hl : ws.length = 3
  · cases o1 : okN (ws.getD 1 [])
    · rw [if_neg (fun h => by cases h.2.1)]
      exact rd_a1 s ws _ kd w E (get 0 hN) hkd hNz h1 _ b7 b5 b6 b3 (by omega) (get 1 (by omega)) (sh 1) o1 SP0
    · cases o2 : okN (ws.getD 2 [])
      · rw [if_neg (fun h => by cases h.2.2)]
        exact rd_a2 s ws _ kd w E (get 0 hN) hkd hNz h1 _ _ b7 b5 b6 b3 (by omega) (get 1 (by omega)) (sh 1) o1 (get 2 (by omega)) (sh 2) o2 SP0
      · rw [if_pos ⟨hl, rfl, rfl⟩]
        exact rd_a3 s ws _ kd w E (get 0 hN) hkd hNz h1 _ _ b7 b5 b6 b3 (by omega) (get 1 (by omega)) (sh 1) o1 (get 2 (by omega)) (sh 2) o2 SP0
  · rw [if_neg (fun h => hl h.1)]
    exact rd_a0 s ws _ kd w E (get 0 hN) hkd hNz h1 b7 b5 b6 b3 (by omega) SP0
/-- what the reference reads is what Parse reads. -/
theorem refRead_is (s : Bs) (hs : s.length ≤ 20000) (w : World) (E : EnvS w) : Calls Tryz.prog 54 #[sV s] w fun e w' => e = .returned (.tuple #[cdV (parseC s).1, .int .i64 (parseC s).2]) ∧ Below w.heap.size w w' := by
  rw [← readR_is hs (guessW_fits _)]
  exact refRead_any s hs w E
end Go.Proofs.YthdjfhnhjiageaaGreatDoor.Tx
