/-
  Payments, plainly: what an account pays, what all of them pay together.
-/
import Derived.Test.YtbphljnncbiddabAcP
namespace Go.Proofs.Ytbphljnncbiddab.FuP
open Go.Proofs.Ytbphljnncbiddab.Num Go.Proofs.Ytbphljnncbiddab.AcP

/-- an account: its id, its balance, its positions. -/
abbrev Acc := Int × Int × List Int

/-- what an account pays, and the error. -/
def paysR (id bal : Int) (pos : List Int) (mk mark rate : Int) : Int × Int :=
  if accErr id bal pos pos.length = 0 then
    if 0 ≤ mk ∧ mk < pos.length then
      if betw (-100) rate 100 = true then
        if betw 0 mark 10000 = true then (divUp (pos.getD mk.toNat 0 * mark * rate) 10000 true, 0) else (0, 3)
      else (0, 3)
    else (0, 5)
  else (0, accErr id bal pos pos.length)

theorem paysR_acc {id bal : Int} {pos : List Int} {mk mark rate : Int} (h : ¬ accErr id bal pos pos.length = 0) : paysR id bal pos mk mark rate = (0, accErr id bal pos pos.length) := by
  unfold paysR; rw [if_neg h]
theorem paysR_who {id bal : Int} {pos : List Int} {mk mark rate : Int} (h : accErr id bal pos pos.length = 0) (h2 : ¬ (0 ≤ mk ∧ mk < pos.length)) : paysR id bal pos mk mark rate = (0, 5) := by
  unfold paysR; rw [if_pos h, if_neg h2]
theorem paysR_rate {id bal : Int} {pos : List Int} {mk mark rate : Int} (h : accErr id bal pos pos.length = 0) (h2 : 0 ≤ mk ∧ mk < pos.length) (h3 : ¬ betw (-100) rate 100 = true) : paysR id bal pos mk mark rate = (0, 3) := by
  unfold paysR; rw [if_pos h, if_pos h2, if_neg h3]
theorem paysR_mark {id bal : Int} {pos : List Int} {mk mark rate : Int} (h : accErr id bal pos pos.length = 0) (h2 : 0 ≤ mk ∧ mk < pos.length) (h3 : betw (-100) rate 100 = true) (h4 : ¬ betw 0 mark 10000 = true) : paysR id bal pos mk mark rate = (0, 3) := by
  unfold paysR; rw [if_pos h, if_pos h2, if_pos h3, if_neg h4]
theorem paysR_ok {id bal : Int} {pos : List Int} {mk mark rate : Int} (h : accErr id bal pos pos.length = 0) (h2 : 0 ≤ mk ∧ mk < pos.length) (h3 : betw (-100) rate 100 = true) (h4 : betw 0 mark 10000 = true) : paysR id bal pos mk mark rate = (divUp (pos.getD mk.toNat 0 * mark * rate) 10000 true, 0) := by
  unfold paysR; rw [if_pos h, if_pos h2, if_pos h3, if_pos h4]
theorem paysR_zero {id bal : Int} {pos : List Int} {mk mark rate : Int} (h : (paysR id bal pos mk mark rate).2 = 0) :
    accErr id bal pos pos.length = 0 ∧ (0 ≤ mk ∧ mk < pos.length) ∧ betw (-100) rate 100 = true ∧ betw 0 mark 10000 = true := by
  by_cases h1 : accErr id bal pos pos.length = 0
  · by_cases h2 : 0 ≤ mk ∧ mk < pos.length
    · by_cases h3 : betw (-100) rate 100 = true
      · by_cases h4 : betw 0 mark 10000 = true
        · exact ⟨h1, h2, h3, h4⟩
        · rw [paysR_mark h1 h2 h3 h4] at h; exact absurd h (by decide)
      · rw [paysR_rate h1 h2 h3] at h; exact absurd h (by decide)
    · rw [paysR_who h1 h2] at h; exact absurd h (by decide)
  · rw [paysR_acc h1] at h; exact absurd h h1

theorem up_bd (x : Int) : x ≤ 10000 * divUp x 10000 true ∧ 10000 * divUp x 10000 true ≤ x + 9999 := by
  unfold divUp
  rw [if_pos rfl]
  omega
theorem up_zero : divUp 0 10000 true = 0 := by decide

theorem worth_bd {x m : Int} (hx : pos1 x = true) (hm : betw 0 m 10000 = true) : -10000000 ≤ x * m ∧ x * m ≤ 10000000 := by
  have h1 := betw_true hx
  have h2 := betw_true hm
  have e1 : x * m ≤ 1000 * m := Int.mul_le_mul_of_nonneg_right h1.2 h2.1
  have e2 : -1000 * m ≤ x * m := Int.mul_le_mul_of_nonneg_right h1.1 h2.1
  omega
theorem due_bd {c r : Int} (hc : -10000000 ≤ c ∧ c ≤ 10000000) (hr : betw (-100) r 100 = true) : -1000000000 ≤ c * r ∧ c * r ≤ 1000000000 := by
  have h2 := betw_true hr
  have h1 : c.natAbs ≤ 10000000 := by omega
  have h3 : r.natAbs ≤ 100 := by omega
  have h4 : (c * r).natAbs ≤ 10000000 * 100 := by rw [Int.natAbs_mul]; exact Nat.mul_le_mul h1 h3
  omega
theorem pays_bd {id bal : Int} {pos : List Int} {mk mark rate : Int} : -100000 ≤ (paysR id bal pos mk mark rate).1 ∧ (paysR id bal pos mk mark rate).1 ≤ 100000 := by
  by_cases h1 : accErr id bal pos pos.length = 0
  · by_cases h2 : 0 ≤ mk ∧ mk < pos.length
    · by_cases h3 : betw (-100) rate 100 = true
      · by_cases h4 : betw 0 mark 10000 = true
        · rw [paysR_ok h1 h2 h3 h4]
          have hp := all_get (accErr_ok h1).2.2.2.2 (k := mk.toNat) (by omega)
          have := due_bd (worth_bd hp h4) h3
          have := up_bd (pos.getD mk.toNat 0 * mark * rate)
          dsimp only
          omega
        · rw [paysR_mark h1 h2 h3 h4]; decide
      · rw [paysR_rate h1 h2 h3]; decide
    · rw [paysR_who h1 h2]; decide
  · rw [paysR_acc h1]; dsimp only; omega

/-- what it pays at the rate 0, and at the other rate. -/
theorem none_all {id bal : Int} {pos : List Int} {mk mark rate : Int} (h : (paysR id bal pos mk mark rate).2 = 0) :
    ∃ p q, paysR id bal pos mk mark rate = (p, 0) ∧ paysR id bal pos mk mark (-rate) = (q, 0) ∧ paysR id bal pos mk mark 0 = (0, 0) ∧ 0 ≤ p + q ∧ p + q ≤ 1 ∧ (-100000 ≤ p ∧ p ≤ 100000) ∧ (-100000 ≤ q ∧ q ≤ 100000) := by
  obtain ⟨h1, h2, h3, h4⟩ := paysR_zero h
  have h3' : betw (-100) (-rate) 100 = true := betw_mk (by have := betw_true h3; omega)
  have b1 := pays_bd (id := id) (bal := bal) (pos := pos) (mk := mk) (mark := mark) (rate := rate)
  have b2 := pays_bd (id := id) (bal := bal) (pos := pos) (mk := mk) (mark := mark) (rate := -rate)
  rw [paysR_ok h1 h2 h3 h4] at b1 ⊢
  rw [paysR_ok h1 h2 h3' h4] at b2 ⊢
  rw [paysR_ok h1 h2 (by decide) h4]
  refine ⟨_, _, rfl, rfl, by rw [Int.mul_zero, up_zero], ?_, ?_, b1, b2⟩
  · have e1 := up_bd (pos.getD mk.toNat 0 * mark * rate)
    have e2 := up_bd (pos.getD mk.toNat 0 * mark * -rate)
    rw [Int.mul_neg] at e2
    rw [Int.mul_neg]
    omega
  · have e1 := up_bd (pos.getD mk.toNat 0 * mark * rate)
    have e2 := up_bd (pos.getD mk.toNat 0 * mark * -rate)
    rw [Int.mul_neg] at e2
    rw [Int.mul_neg]
    omega

/-- what one of them pays. -/
def payA (mk mark rate : Int) (a : Acc) : Int × Int := paysR a.1 a.2.1 a.2.2 mk mark rate
/-- one that has paid. -/
def setA (mk mark rate : Int) (a : Acc) : Acc := (a.1, a.2.1 - (payA mk mark rate a).1, a.2.2)
/-- the first error. -/
def setE (mk mark rate : Int) : List Acc → Int
  | [] => 0
  | a :: l => if (payA mk mark rate a).2 = 0 then (if money (a.2.1 - (payA mk mark rate a).1) = true then setE mk mark rate l else 7) else (payA mk mark rate a).2
/-- what all of them pay. -/
def setL (mk mark rate : Int) : List Acc → Int
  | [] => 0
  | a :: l => (payA mk mark rate a).1 + setL mk mark rate l

theorem setE_pay {mk mark rate : Int} {a : Acc} {l : List Acc} (h : ¬ (payA mk mark rate a).2 = 0) : setE mk mark rate (a :: l) = (payA mk mark rate a).2 := by
  simp [setE, h]
theorem setE_full {mk mark rate : Int} {a : Acc} {l : List Acc} (h : (payA mk mark rate a).2 = 0) (h2 : money (a.2.1 - (payA mk mark rate a).1) = false) : setE mk mark rate (a :: l) = 7 := by
  simp [setE, h, h2]
theorem setE_on {mk mark rate : Int} {a : Acc} {l : List Acc} (h : (payA mk mark rate a).2 = 0) (h2 : money (a.2.1 - (payA mk mark rate a).1) = true) : setE mk mark rate (a :: l) = setE mk mark rate l := by
  simp [setE, h, h2]
theorem setE_zero {mk mark rate : Int} : ∀ {l : List Acc}, setE mk mark rate l = 0 → ∀ a, a ∈ l → (payA mk mark rate a).2 = 0 ∧ money (a.2.1 - (payA mk mark rate a).1) = true
  | [], _, a, ha => by cases ha
  | b :: l, h, a, ha => by
    by_cases h1 : (payA mk mark rate b).2 = 0
    · cases h2 : money (b.2.1 - (payA mk mark rate b).1)
      · rw [setE_full h1 h2] at h; exact absurd h (by decide)
      · rw [setE_on h1 h2] at h
        rcases List.mem_cons.1 ha with rfl | ha
        · exact ⟨h1, h2⟩
        · exact setE_zero h a ha
    · rw [setE_pay h1] at h; exact absurd h h1
theorem setL_bd {mk mark rate : Int} : ∀ (l : List Acc), -100000 * (l.length : Int) ≤ setL mk mark rate l ∧ setL mk mark rate l ≤ 100000 * (l.length : Int)
  | [] => by simp [setL]
  | a :: l => by
    have h1 := setL_bd (mk := mk) (mark := mark) (rate := rate) l
    have h2 : -100000 ≤ (payA mk mark rate a).1 ∧ (payA mk mark rate a).1 ≤ 100000 := pays_bd
    have h3 : (((a :: l).length : Nat) : Int) = (l.length : Int) + 1 := by simp
    rw [h3]
    show _ ≤ (payA mk mark rate a).1 + setL mk mark rate l ∧ (payA mk mark rate a).1 + setL mk mark rate l ≤ _
    omega
theorem setL_snoc {mk mark rate : Int} : ∀ (l : List Acc) (a : Acc), setL mk mark rate (l ++ [a]) = setL mk mark rate l + (payA mk mark rate a).1
  | [], a => by simp [setL]
  | b :: l, a => by
    have := setL_snoc (mk := mk) (mark := mark) (rate := rate) l a
    simp only [List.cons_append, setL, this]
    omega

/-- all positions in this market. -/
def posS (k : Nat) : List Acc → Int
  | [] => 0
  | a :: l => a.2.2.getD k 0 + posS k l
/-- all balances. -/
def balS : List Acc → Int
  | [] => 0
  | a :: l => a.2.1 + balS l

theorem left_bd {mk mark rate : Int} : ∀ {l : List Acc}, setE mk mark rate l = 0 →
    posS mk.toNat l * (mark * rate) ≤ 10000 * setL mk mark rate l ∧ 10000 * setL mk mark rate l ≤ posS mk.toNat l * (mark * rate) + 9999 * (l.length : Int)
  | [], _ => by simp [posS, setL]
  | a :: l, h => by
    have hz := setE_zero h
    have h0 := hz a (by simp)
    have hl : setE mk mark rate l = 0 := by rw [setE_on h0.1 h0.2] at h; exact h
    have ih := left_bd hl
    obtain ⟨e1, e2, e3, e4⟩ := paysR_zero h0.1
    have hp : (payA mk mark rate a).1 = divUp (a.2.2.getD mk.toNat 0 * mark * rate) 10000 true := by unfold payA; rw [paysR_ok e1 e2 e3 e4]
    have hu := up_bd (a.2.2.getD mk.toNat 0 * mark * rate)
    rw [← hp, Int.mul_assoc] at hu
    have h3 : (((a :: l).length : Nat) : Int) = (l.length : Int) + 1 := by simp
    rw [h3]
    show (a.2.2.getD mk.toNat 0 + posS mk.toNat l) * (mark * rate) ≤ 10000 * ((payA mk mark rate a).1 + setL mk mark rate l) ∧ 10000 * ((payA mk mark rate a).1 + setL mk mark rate l) ≤ (a.2.2.getD mk.toNat 0 + posS mk.toNat l) * (mark * rate) + 9999 * ((l.length : Int) + 1)
    rw [Int.add_mul]
    omega
/-- what is left, where all positions together are none. -/
theorem left_even {mk mark rate : Int} {l : List Acc} (h : setE mk mark rate l = 0) (h0 : posS mk.toNat l = 0) : 0 ≤ setL mk mark rate l ∧ (setL mk mark rate l = 0 ∨ setL mk mark rate l < l.length) := by
  have := left_bd h
  rw [h0, Int.zero_mul] at this
  omega
theorem no_money {mk mark rate : Int} : ∀ (l : List Acc), balS l = balS (l.map (setA mk mark rate)) + setL mk mark rate l
  | [] => by simp [balS, setL]
  | a :: l => by
    have := no_money (mk := mk) (mark := mark) (rate := rate) l
    simp only [List.map_cons, balS, setL, setA]
    omega
theorem flat_pays {mk mark rate : Int} {a : Acc} (h : (payA mk mark rate a).2 = 0) (h0 : a.2.2.getD mk.toNat 0 = 0) : (payA mk mark rate a).1 = 0 := by
  obtain ⟨e1, e2, e3, e4⟩ := paysR_zero h
  unfold payA
  rw [paysR_ok e1 e2 e3 e4, h0, Int.zero_mul, Int.zero_mul]
  decide
theorem balS_take {l : List Acc} {k : Nat} (h : k < l.length) : balS (l.take (k + 1)) = balS (l.take k) + (l[k]'h).2.1 := by
  induction l generalizing k with
  | nil => simp at h
  | cons a l ih =>
    cases k with
    | zero => simp [balS]
    | succ k =>
      have := ih (k := k) (by simpa using h)
      simp only [List.take_succ_cons, balS, List.getElem_cons_succ, this]
      omega
theorem posS_take {j : Nat} {l : List Acc} {k : Nat} (h : k < l.length) : posS j (l.take (k + 1)) = posS j (l.take k) + (l[k]'h).2.2.getD j 0 := by
  induction l generalizing k with
  | nil => simp at h
  | cons a l ih =>
    cases k with
    | zero => simp [posS]
    | succ k =>
      have := ih (k := k) (by simpa using h)
      simp only [List.take_succ_cons, posS, List.getElem_cons_succ, this]
      omega
theorem balS_bd : ∀ (l : List Acc), (∀ a, a ∈ l → money a.2.1 = true) → -1000000000000 * (l.length : Int) ≤ balS l ∧ balS l ≤ 1000000000000 * (l.length : Int)
  | [], _ => by simp [balS]
  | a :: l, h => by
    have h1 := balS_bd l (fun x hx => h x (by simp [hx]))
    have h2 := money_true (h a (by simp))
    have h3 : (((a :: l).length : Nat) : Int) = (l.length : Int) + 1 := by simp
    rw [h3]
    show _ ≤ a.2.1 + balS l ∧ a.2.1 + balS l ≤ _
    omega
theorem posS_bd {j : Nat} : ∀ (l : List Acc), (∀ a, a ∈ l → pos1 (a.2.2.getD j 0) = true) → -1000 * (l.length : Int) ≤ posS j l ∧ posS j l ≤ 1000 * (l.length : Int)
  | [], _ => by simp [posS]
  | a :: l, h => by
    have h1 := posS_bd l (fun x hx => h x (by simp [hx]))
    have h2 := betw_true (h a (by simp))
    have h3 : (((a :: l).length : Nat) : Int) = (l.length : Int) + 1 := by simp
    rw [h3]
    show _ ≤ a.2.2.getD j 0 + posS j l ∧ a.2.2.getD j 0 + posS j l ≤ _
    omega
theorem pay_facts {mk mark rate : Int} {a : Acc} (h : (payA mk mark rate a).2 = 0) : money a.2.1 = true ∧ pos1 (a.2.2.getD mk.toNat 0) = true ∧ 0 ≤ mk ∧ mk < a.2.2.length ∧ a.2.2.length ≤ 2 := by
  obtain ⟨e1, e2, e3, e4⟩ := paysR_zero h
  obtain ⟨a1, a2, a3, a4, a5⟩ := accErr_ok e1
  have := betw_true a2
  exact ⟨a4, all_get a5 (by omega), e2.1, e2.2, by omega⟩
end Go.Proofs.Ytbphljnncbiddab.FuP
