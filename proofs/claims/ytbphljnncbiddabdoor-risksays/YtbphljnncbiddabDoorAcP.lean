/-
  Accounts, plainly: what is wrong with one, what a trade makes of it, what it is worth.
-/
import Derived.Test.YtbphljnncbiddabDoorNum
import Derived.Test.YtbphljnncbiddabDoorAdds
namespace Go.Proofs.YtbphljnncbiddabDoor.AcP
open Go.Proofs.YtbphljnncbiddabDoor.Num Go.Proofs.YtbphljnncbiddabDoor.Adds

/-- a position that may be. -/
def pos1 (x : Int) : Bool := betw (-1000) x 1000

/-- what is wrong with an account. -/
def accErr (id bal : Int) (pos : List Int) (m : Int) : Int :=
  if betw 0 id 7 = true then
    if betw 1 m 2 = true ∧ (pos.length : Int) = m then
      if money bal = true ∧ pos.all pos1 = true then 0 else 3
    else 4
  else 5

theorem accErr_ok {id bal : Int} {pos : List Int} {m : Int} (h : accErr id bal pos m = 0) :
    betw 0 id 7 = true ∧ betw 1 m 2 = true ∧ (pos.length : Int) = m ∧ money bal = true ∧ pos.all pos1 = true := by
  unfold accErr at h
  by_cases h1 : betw 0 id 7 = true
  · rw [if_pos h1] at h
    by_cases h2 : betw 1 m 2 = true ∧ (pos.length : Int) = m
    · rw [if_pos h2] at h
      by_cases h3 : money bal = true ∧ pos.all pos1 = true
      · exact ⟨h1, h2.1, h2.2, h3.1, h3.2⟩
      · rw [if_neg h3] at h; exact absurd h (by decide)
    · rw [if_neg h2] at h; exact absurd h (by decide)
  · rw [if_neg h1] at h; exact absurd h (by decide)
theorem accErr_mk {id bal : Int} {pos : List Int} {m : Int} (h1 : betw 0 id 7 = true) (h2 : betw 1 m 2 = true) (h3 : (pos.length : Int) = m) (h4 : money bal = true) (h5 : pos.all pos1 = true) : accErr id bal pos m = 0 := by
  unfold accErr; rw [if_pos h1, if_pos ⟨h2, h3⟩, if_pos ⟨h4, h5⟩]
theorem accErr_ways (id bal : Int) (pos : List Int) (m : Int) : accErr id bal pos m = 0 ∨ accErr id bal pos m = 3 ∨ accErr id bal pos m = 4 ∨ accErr id bal pos m = 5 := by
  unfold accErr; repeat' split
  all_goals simp
theorem few {id bal : Int} {pos : List Int} {m : Int} (h : accErr id bal pos m = 0) : (∃ x, pos = [x] ∧ m = 1) ∨ ∃ x y, pos = [x, y] ∧ m = 2 := by
  obtain ⟨_, h2, h3, _, _⟩ := accErr_ok h
  have := betw_true h2
  match pos, h3 with
  | [], h3 => simp at h3; omega
  | [x], h3 => exact .inl ⟨x, rfl, by simp at h3; omega⟩
  | [x, y], h3 => exact .inr ⟨x, y, rfl, by simp at h3; omega⟩
  | x :: y :: z :: l, h3 => simp at h3; omega

/-- what a trade answers: the error. -/
def tradeErr (id bal : Int) (pos : List Int) (mk q p fee : Int) : Int :=
  if accErr id bal pos pos.length = 0 then
    if 0 ≤ mk ∧ mk < pos.length then
      if betw (-1000) q 1000 = true ∧ betw 0 p 10000 = true then
        if money (bal - q * p) = true then
          if money fee = true then
            if money (bal - q * p - fee) = true then
              if pos1 (pos.getD mk.toNat 0 + q) = true then 0 else 7
            else 7
          else 3
        else 7
      else 3
    else 5
  else accErr id bal pos pos.length

theorem tradeErr_ok {id bal : Int} {pos : List Int} {mk q p fee : Int} (h : tradeErr id bal pos mk q p fee = 0) :
    accErr id bal pos pos.length = 0 ∧ (0 ≤ mk ∧ mk < pos.length) ∧ betw (-1000) q 1000 = true ∧ betw 0 p 10000 = true ∧ money (bal - q * p) = true ∧ money fee = true ∧ money (bal - q * p - fee) = true ∧ pos1 (pos.getD mk.toNat 0 + q) = true := by
  unfold tradeErr at h
  split at h
  next h1 =>
    split at h
    next h2 =>
      split at h
      next h3 =>
        split at h
        next h4 =>
          split at h
          next h5 =>
            split at h
            next h6 =>
              split at h
              next h7 => exact ⟨h1, h2, h3.1, h3.2, h4, h5, h6, h7⟩
              next => exact absurd h (by decide)
            next => exact absurd h (by decide)
          next => exact absurd h (by decide)
        next => exact absurd h (by decide)
      next => exact absurd h (by decide)
    next => exact absurd h (by decide)
  next h1 => exact absurd h h1

/-- what the positions are worth at the marks; none: one of them can't be told. -/
def worths : List Int → List Int → Option (List Int)
  | p :: ps, m :: ms => if betw (-1000) p 1000 = true ∧ betw 0 m 10000 = true then (worths ps ms).map (fun l => p * m :: l) else none
  | _, _ => some []

/-- what an account is worth. -/
def equityR (id bal : Int) (pos marks : List Int) : Int × Int :=
  if accErr id bal pos marks.length = 0 then
    match worths pos marks with
    | none => (0, 3)
    | some l => addFrom 0 (bal :: l)
  else (0, accErr id bal pos marks.length)

/-- what is paid for trading. -/
def feeR (q p : Int) : Int × Int := if betw (-1000) q 1000 = true ∧ betw 0 p 10000 = true then (divUp (max (q * p) (-(q * p)) * 5) 10000 true, 0) else (0, 3)

theorem equity_ok {id bal : Int} {pos marks : List Int} {n : Int} (h : equityR id bal pos marks = (n, 0)) :
    accErr id bal pos marks.length = 0 ∧ ((∃ x m, pos = [x] ∧ marks = [m] ∧ n = bal + x * m) ∨ ∃ x y m k, pos = [x, y] ∧ marks = [m, k] ∧ n = bal + x * m + y * k) := by
  unfold equityR at h
  by_cases h1 : accErr id bal pos marks.length = 0
  · rw [if_pos h1] at h
    refine ⟨h1, ?_⟩
    rcases few h1 with ⟨x, rfl, hm⟩ | ⟨x, y, rfl, hm⟩
    · match marks, hm with
      | [m], _ =>
        refine .inl ⟨x, m, rfl, rfl, ?_⟩
        simp only [worths] at h
        split at h
        next => cases h
        next l hl =>
          split at hl
          · simp at hl
            subst hl
            have := (addFrom_sum h).1
            simp at this
            omega
          · cases hl
      | [], hm => simp at hm
      | _ :: _ :: _, hm => simp at hm; omega
    · match marks, hm with
      | [m, k], _ =>
        refine .inr ⟨x, y, m, k, rfl, rfl, ?_⟩
        simp only [worths] at h
        split at h
        next => cases h
        next l hl =>
          split at hl
          · split at hl
            · simp at hl
              subst hl
              have := (addFrom_sum h).1
              simp at this
              omega
            · cases hl
          · cases hl
      | [], hm => simp at hm
      | [_], hm => simp at hm
      | _ :: _ :: _ :: _, hm => simp at hm; omega
  · rw [if_neg h1] at h
    exact absurd (Prod.mk.inj h).2 h1

/-- who trades at the mark has the same equity, less the fee. -/
theorem even1 {id bal : Int} {pos marks : List Int} {mk q p fee n m : Int} (ht : tradeErr id bal pos mk q p fee = 0) (hn : equityR id bal pos marks = (n, 0))
    (hm : equityR id (bal - q * p - fee) (pos.set mk.toNat (pos.getD mk.toNat 0 + q)) marks = (m, 0)) : m = n - fee + q * (marks.getD mk.toNat 0 - p) ∧ mk < marks.length := by
  obtain ⟨h1, ⟨h2, h3⟩, -⟩ := tradeErr_ok ht
  obtain ⟨-, hn⟩ := equity_ok hn
  obtain ⟨-, hm⟩ := equity_ok hm
  rcases hn with ⟨x, a, rfl, rfl, rfl⟩ | ⟨x, y, a, b, rfl, rfl, rfl⟩
  · have : mk = 0 := by simp at h3; omega
    subst this
    rcases hm with ⟨x', a', hx, ha, rfl⟩ | ⟨x', y', a', b', hx, ha, rfl⟩
    · simp at hx ha
      subst hx ha
      simp
      rw [Int.mul_sub, Int.add_mul]
      omega
    · simp at ha
  · have : mk = 0 ∨ mk = 1 := by simp at h3; omega
    rcases this with rfl | rfl
    · rcases hm with ⟨x', a', hx, ha, rfl⟩ | ⟨x', y', a', b', hx, ha, rfl⟩
      · simp at ha
      · simp at hx ha
        obtain ⟨rfl, rfl⟩ := hx
        obtain ⟨rfl, rfl⟩ := ha
        simp
        rw [Int.mul_sub, Int.add_mul]
        omega
    · rcases hm with ⟨x', a', hx, ha, rfl⟩ | ⟨x', y', a', b', hx, ha, rfl⟩
      · simp at ha
      · simp at hx ha
        obtain ⟨rfl, rfl⟩ := hx
        obtain ⟨rfl, rfl⟩ := ha
        simp
        rw [Int.mul_sub, Int.add_mul]
        omega

theorem all_set {pos : List Int} {k : Nat} {v : Int} (h : pos.all pos1 = true) (hv : pos1 v = true) : (pos.set k v).all pos1 = true := by
  rw [List.all_eq_true] at h ⊢
  intro x hx
  rcases List.mem_or_eq_of_mem_set hx with hx | rfl
  · exact h x hx
  · exact hv
theorem all_get {pos : List Int} {k : Nat} (h : pos.all pos1 = true) (hk : k < pos.length) : pos1 (pos.getD k 0) = true := by
  rw [List.all_eq_true] at h
  rw [List.getD_eq_getElem?_getD, List.getElem?_eq_getElem hk]
  exact h _ (List.getElem_mem hk)

/-- who trades back: full, or as ahead, less the fee. -/
theorem even2 {id bal : Int} {pos : List Int} {mk q p fee : Int} (ht : tradeErr id bal pos mk q p fee = 0) :
    (tradeErr id (bal - q * p - fee) (pos.set mk.toNat (pos.getD mk.toNat 0 + q)) mk (-q) p 0 = 7 ∨ tradeErr id (bal - q * p - fee) (pos.set mk.toNat (pos.getD mk.toNat 0 + q)) mk (-q) p 0 = 0) ∧
    bal - q * p - fee - -q * p - 0 = bal - fee ∧
    (pos.set mk.toNat (pos.getD mk.toNat 0 + q)).set mk.toNat ((pos.set mk.toNat (pos.getD mk.toNat 0 + q)).getD mk.toNat 0 + -q) = pos := by
  obtain ⟨h1, ⟨h2, h3⟩, h4, h5, h6, h7, h8, h9⟩ := tradeErr_ok ht
  have hk : mk.toNat < pos.length := by omega
  obtain ⟨a1, a2, a3, a4, a5⟩ := accErr_ok h1
  have hget : (pos.set mk.toNat (pos.getD mk.toNat 0 + q)).getD mk.toNat 0 = pos.getD mk.toNat 0 + q := by simp [List.getD_eq_getElem?_getD, hk]
  have hset : (pos.set mk.toNat (pos.getD mk.toNat 0 + q)).set mk.toNat ((pos.set mk.toNat (pos.getD mk.toNat 0 + q)).getD mk.toNat 0 + -q) = pos := by
    rw [hget, List.set_set, show pos.getD mk.toNat 0 + q + -q = pos.getD mk.toNat 0 by omega]
    apply List.ext_getElem
    · simp
    · intro i h1 h2
      rw [List.getElem_set]
      split
      next h => subst h; simp [List.getD_eq_getElem?_getD, hk]
      next => rfl
  have he : bal - q * p - fee - -q * p - 0 = bal - fee := by rw [Int.neg_mul]; omega
  refine ⟨?_, he, hset⟩
  unfold tradeErr
  rw [if_pos (accErr_mk a1 (by simpa using a2) (by simp) h8 (all_set a5 h9)), if_pos ⟨h2, by simpa using h3⟩,
    if_pos ⟨betw_mk (by have := betw_true h4; omega), h5⟩]
  have h0 : money 0 = true := by decide
  rw [if_pos h0, hget, show pos.getD mk.toNat 0 + q + -q = pos.getD mk.toNat 0 by omega, if_pos (all_get a5 hk)]
  repeat' split
  all_goals simp
end Go.Proofs.YtbphljnncbiddabDoor.AcP
