/-
  Plain mathematics for package risk: no program in sight.
-/
import Derived.Test.YtbphljnncbiddabDoorAcP
namespace Go.Proofs.YtbphljnncbiddabDoor.RkP
open Go.Proofs.YtbphljnncbiddabDoor.Num Go.Proofs.YtbphljnncbiddabDoor.AcP

/-- the tiers: above, to begin, to go on. -/
def tierR (w : Int) : Int × Int × Int := if 1000000 < w then (1000000, 50, 25) else if 100000 < w then (100000, 20, 10) else (0, 10, 5)
/-- so many of a hundred, rounded up. -/
def ofH (w n : Int) : Int := divUp (w * n) 100 true
def beg (w : Int) : Int := ofH w (tierR w).2.1
def goO (w : Int) : Int := ofH w (tierR w).2.2
/-- what the positions that are left want. -/
def marFrom (x y : Int) : List Int → List Int → Int × Int × Int
  | p :: ps, m :: ms => if betw 0 m 10000 = true then marFrom (x + beg (max p (-p) * m)) (y + goO (max p (-p) * m)) ps ms else (0, 0, 3)
  | _, _ => (x, y, 0)
def marginsR (id bal : Int) (pos marks : List Int) : Int × Int × Int :=
  if accErr id bal pos marks.length = 0 then marFrom 0 0 pos marks else (0, 0, accErr id bal pos marks.length)
def soundR (id bal : Int) (pos marks : List Int) : Bool × Bool × Int :=
  if (marginsR id bal pos marks).2.2 = 0 then
    (if (equityR id bal pos marks).2 = 0 then (decide ((marginsR id bal pos marks).1 ≤ (equityR id bal pos marks).1), decide ((marginsR id bal pos marks).2.1 ≤ (equityR id bal pos marks).1), 0)
     else (false, false, (equityR id bal pos marks).2))
  else (false, false, (marginsR id bal pos marks).2.2)

theorem tier_bd (w : Int) : 0 ≤ (tierR w).2.1 ∧ (tierR w).2.1 ≤ 100 ∧ 0 ≤ (tierR w).2.2 ∧ (tierR w).2.2 ≤ (tierR w).2.1 := by
  unfold tierR
  split
  · decide
  · split <;> decide
theorem ofH_bd {w n : Int} (h : 0 ≤ w) (hn : 0 ≤ n) (hn2 : n ≤ 100) : 0 ≤ ofH w n ∧ ofH w n ≤ w := by
  have h1 : 0 ≤ w * n := Int.mul_nonneg h hn
  have h2 : w * n ≤ w * 100 := Int.mul_le_mul_of_nonneg_left hn2 h
  unfold ofH divUp
  rw [if_pos rfl]
  omega
theorem ofH_mono {w n m : Int} (h : 0 ≤ w) (hn : n ≤ m) : ofH w n ≤ ofH w m := by
  have h2 : w * n ≤ w * m := Int.mul_le_mul_of_nonneg_left hn h
  unfold ofH divUp
  rw [if_pos rfl, if_pos rfl]
  omega
theorem beg_bd {w : Int} (h : 0 ≤ w) : 0 ≤ beg w ∧ beg w ≤ w := ofH_bd h (tier_bd w).1 (tier_bd w).2.1
theorem goO_bd {w : Int} (h : 0 ≤ w) : 0 ≤ goO w ∧ goO w ≤ w := ofH_bd h (tier_bd w).2.2.1 (by have := tier_bd w; omega)
theorem goO_beg {w : Int} (h : 0 ≤ w) : goO w ≤ beg w := ofH_mono h (tier_bd w).2.2.2
theorem part_ofH {w n : Int} (h : 0 ≤ w) (h2 : w ≤ 10000000) (hn : 0 ≤ n) (hn2 : n ≤ 100) : partR w n 100 true = (ofH w n, 0) := by
  have b := ofH_bd h hn hn2
  unfold partR
  rw [if_pos ⟨money_mk (by omega), betw_mk (by omega), by decide⟩]
  have : divUp (w * n) 100 true = ofH w n := rfl
  rw [this, if_pos (money_mk (by omega))]
theorem worth_bd {p m : Int} (hp : betw (-1000) p 1000 = true) (hm : betw 0 m 10000 = true) : 0 ≤ max p (-p) * m ∧ max p (-p) * m ≤ 10000000 := by
  have h1 := betw_true hp
  have h2 := betw_true hm
  have h3 : 0 ≤ max p (-p) := by omega
  refine ⟨Int.mul_nonneg h3 h2.1, ?_⟩
  exact Int.le_trans (Int.mul_le_mul_of_nonneg_left h2.2 h3) (by omega)
theorem marFrom_on {x y p m : Int} {ps ms : List Int} (hm : betw 0 m 10000 = true) : marFrom x y (p :: ps) (m :: ms) = marFrom (x + beg (max p (-p) * m)) (y + goO (max p (-p) * m)) ps ms := by
  simp only [marFrom, hm, if_true]
theorem marFrom_bad {x y p m : Int} {ps ms : List Int} (hm : betw 0 m 10000 = false) : marFrom x y (p :: ps) (m :: ms) = (0, 0, 3) := by
  simp only [marFrom, hm]
  rfl
theorem marFrom_end {x y : Int} {ms : List Int} : marFrom x y [] ms = (x, y, 0) := by simp [marFrom]
end Go.Proofs.YtbphljnncbiddabDoor.RkP
