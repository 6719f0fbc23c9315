/-
  Plain mathematics for FixParts and FixSays: no program in sight.
-/
import Derived.Test.YtlielpgekhaicaaNum
namespace Go.Proofs.Ytlielpgekhaicaa.Parts
open Go.Proofs.Ytlielpgekhaicaa.Num

theorem part_cases (n a b : Int) (up : Bool) : (∃ q, partR n a b up = (q, 0)) ∨ partR n a b up = (0, 3) ∨ partR n a b up = (0, 7) := by
  unfold partR
  split
  · split
    · exact .inl ⟨_, rfl⟩
    · exact .inr (.inr rfl)
  · exact .inr (.inl rfl)

theorem part_ok {n a b q : Int} {up : Bool} (h : partR n a b up = (q, 0)) :
    money n = true ∧ betw (-10000) a 10000 = true ∧ betw 1 b 10000 = true ∧ q = divUp (n * a) b up ∧ money q = true := by
  unfold partR at h
  split at h
  · rename_i g
    split at h
    · rename_i m
      simp only [Prod.mk.injEq, and_true] at h
      subst h
      exact ⟨g.1, g.2.1, g.2.2, rfl, m⟩
    · simp at h
  · simp at h

theorem up_down {m b : Int} (hb : 1 ≤ b) : divUp m b false ≤ divUp m b true ∧ divUp m b true - divUp m b false ≤ 1 ∧
    divUp m b false * b ≤ m ∧ m ≤ divUp m b true * b ∧ ((divUp m b true == divUp m b false) == (m.tmod b == 0)) = true := by
  unfold divUp
  simp only [if_true, Bool.false_eq_true, if_false]
  have h1 := ediv_lo (n := m) (b := b) (by omega)
  have h2 := ediv_lo (n := -m) (b := b) (by omega)
  have e3 : -((-m) / b) * b = -(b * ((-m) / b)) := by rw [Int.neg_mul, Int.mul_comm]
  have e4 : m / b * b = b * (m / b) := Int.mul_comm _ _
  -- u = d, or u = d + 1
  have key : b * (m / b) = m ∧ (-m) / b = -(m / b) ∨ b * (m / b) < m ∧ (-m) / b = -(m / b) - 1 := by
    by_cases z : b * (m / b) = m
    · exact .inl ⟨z, ediv_of (by omega) (by rw [Int.mul_neg]; omega) (by rw [Int.mul_neg]; omega)⟩
    · refine .inr ⟨by omega, ediv_of (by omega) ?_ ?_⟩ <;> rw [Int.mul_sub, Int.mul_neg] <;> omega
  have t := Int.mul_tdiv_add_tmod m b
  have tm : m.tmod b = 0 ↔ b * (m / b) = m := by
    constructor
    · intro z
      have : m = b * m.tdiv b := by omega
      rw [this, Int.mul_ediv_cancel_left _ (by omega)]
    · intro z
      rw [← z]
      exact Int.mul_tmod_right _ _
  refine ⟨by omega, by omega, by omega, by omega, ?_⟩
  rcases key with ⟨z, k⟩ | ⟨z, k⟩
  · have : m.tmod b = 0 := tm.2 z
    rw [this, k]
    simp
  · have : ¬ m.tmod b = 0 := fun x => by have := tm.1 x; omega
    have g : ¬ (-((-m) / b) = m / b) := by omega
    rw [beq_eq_false_iff_ne.2 g, beq_eq_false_iff_ne.2 this]
    rfl

theorem part_back {n a b u : Int} (hu : partR n a b true = (u, 0)) :
    partR (-n) a b false = (-u, 0) := by
  obtain ⟨m, ha, hb, rfl, mu⟩ := part_ok hu
  have e : divUp (-n * a) b false = -divUp (n * a) b true := by
    unfold divUp
    simp only [if_true, Bool.false_eq_true, if_false]
    rw [Int.neg_mul]; omega
  unfold partR
  have mn := money_true m
  have mq := money_true mu
  rw [if_pos ⟨money_mk (by omega), ha, hb⟩, e, if_pos (money_mk (by omega))]

theorem middle_turn (a b c : Int) : middleR a b c = middleR c a b := by unfold middleR; omega
theorem middle_swap (a b c : Int) : middleR a b c = middleR b a c := by unfold middleR; omega
end Go.Proofs.Ytlielpgekhaicaa.Parts
