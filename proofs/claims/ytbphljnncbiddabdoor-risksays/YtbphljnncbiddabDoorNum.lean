/-
  Plain mathematics for package fix: no program in sight.
-/
import Derived.WalkKit
namespace Go.Proofs.YtbphljnncbiddabDoor.Num

/-- is it within these bounds? -/
def betw (lo n hi : Int) : Bool := decide (lo ≤ n ∧ n ≤ hi)
theorem betw_true {lo n hi : Int} (h : betw lo n hi = true) : lo ≤ n ∧ n ≤ hi := by simpa [betw] using h
theorem betw_mk {lo n hi : Int} (h : lo ≤ n ∧ n ≤ hi) : betw lo n hi = true := by simpa [betw] using h
theorem betw_false {lo n hi : Int} (h : betw lo n hi = false) : n < lo ∨ hi < n := by
  simp [betw] at h; omega
theorem betw_no {lo n hi : Int} (h : n < lo ∨ hi < n) : betw lo n hi = false := by
  simp [betw]; omega

def money (n : Int) : Bool := betw (-1000000000000) n 1000000000000
theorem money_true {n : Int} (h : money n = true) : -1000000000000 ≤ n ∧ n ≤ 1000000000000 := betw_true h
theorem money_mk {n : Int} (h : -1000000000000 ≤ n ∧ n ≤ 1000000000000) : money n = true := betw_mk h
theorem money_false {n : Int} (h : money n = false) : n < -1000000000000 ∨ 1000000000000 < n := betw_false h
theorem money_no {n : Int} (h : n < -1000000000000 ∨ 1000000000000 < n) : money n = false := betw_no h

/-- the sum and the error of adding 'l' to 's', one by one. -/
def addFrom (s : Int) : List Int → Int × Int
  | [] => (s, 0)
  | n :: l => if money n = true then (if money (s + n) = true then addFrom (s + n) l else (0, 7)) else (0, 3)
theorem addFrom_nil (s : Int) : addFrom s [] = (s, 0) := rfl
theorem addFrom_range {s n : Int} {l : List Int} (h : money n = false) : addFrom s (n :: l) = (0, 3) := by
  simp [addFrom, h]
theorem addFrom_full {s n : Int} {l : List Int} (h : money n = true) (g : money (s + n) = false) : addFrom s (n :: l) = (0, 7) := by
  simp [addFrom, h, g]
theorem addFrom_on {s n : Int} {l : List Int} (h : money n = true) (g : money (s + n) = true) : addFrom s (n :: l) = addFrom (s + n) l := by
  simp [addFrom, h, g]

/-- n divided by b, rounded up or down. -/
def divUp (n b : Int) (up : Bool) : Int := if up = true then -((-n) / b) else n / b

/-- chapter 1's Part: the answer and the error. -/
def partR (n a b : Int) (up : Bool) : Int × Int :=
  if money n = true ∧ betw (-10000) a 10000 = true ∧ betw 1 b 10000 = true then
    (if money (divUp (n * a) b up) = true then (divUp (n * a) b up, 0) else (0, 7))
  else (0, 3)

def worthR (q p : Int) : Int × Int :=
  if betw (-1000) q 1000 = true ∧ betw 0 p 10000 = true then (q * p, 0) else (0, 3)

def middleR (a b c : Int) : Int := max (min a b) (min (max a b) c)

theorem ediv_of {n b q : Int} (hb : 0 < b) (h1 : b * q ≤ n) (h2 : n < b * q + b) : n / b = q :=
  ((Int.ediv_emod_unique (a := n) (b := b) (r := n - b * q) (q := q) hb).2 ⟨by omega, by omega, by omega⟩).1
theorem ediv_lo {n b : Int} (hb : 0 < b) : b * (n / b) ≤ n ∧ n < b * (n / b) + b := by
  have e := Int.mul_ediv_add_emod n b
  have l := Int.emod_lt_of_pos n hb
  have p := Int.emod_nonneg n (b := b) (by omega)
  omega

/-- the ways of a division that cuts towards 0. -/
theorem tdiv_up_left {n b : Int} (hb : 1 ≤ b) (h : 0 < n.tmod b) : n.tdiv b + 1 = divUp n b true := by
  have e := Int.mul_tdiv_add_tmod n b
  have l := Int.tmod_lt_of_pos n (b := b) (by omega)
  have k : (-n) / b = -(n.tdiv b + 1) := by
    have x : b * (-(n.tdiv b + 1)) = -(b * n.tdiv b) - b := by rw [Int.mul_neg, Int.mul_add]; omega
    apply ediv_of (by omega) <;> rw [x] <;> omega
  simp only [divUp, if_true]; omega
theorem tdiv_up_none {n b : Int} (hb : 1 ≤ b) (h : ¬ 0 < n.tmod b) : n.tdiv b = divUp n b true := by
  have e := Int.mul_tdiv_add_tmod n b
  have l := Int.lt_tmod_of_pos n (b := b) (by omega)
  have k : (-n) / b = -(n.tdiv b) := by
    have x : b * (-(n.tdiv b)) = -(b * n.tdiv b) := by rw [Int.mul_neg]
    apply ediv_of (by omega) <;> rw [x] <;> omega
  simp only [divUp, if_true]; omega
theorem tdiv_down_left {n b : Int} (hb : 1 ≤ b) (h : n.tmod b < 0) : n.tdiv b - 1 = divUp n b false := by
  have e := Int.mul_tdiv_add_tmod n b
  have l := Int.lt_tmod_of_pos n (b := b) (by omega)
  have k : n / b = n.tdiv b - 1 := by
    have x : b * (n.tdiv b - 1) = b * n.tdiv b - b := by rw [Int.mul_sub]; omega
    apply ediv_of (by omega) <;> rw [x] <;> omega
  simp only [divUp]; exact k.symm
theorem tdiv_down_none {n b : Int} (hb : 1 ≤ b) (h : ¬ n.tmod b < 0) : n.tdiv b = divUp n b false := by
  have e := Int.mul_tdiv_add_tmod n b
  have l := Int.tmod_lt_of_pos n (b := b) (by omega)
  have k : n / b = n.tdiv b := by
    apply ediv_of (by omega) <;> omega
  simp only [divUp]; exact k.symm

/-- bounds of a product and of a quotient, for the walk's wraps. -/
theorem mul_bd {n a : Int} (h : -1000000000000 ≤ n ∧ n ≤ 1000000000000) (g : -10000 ≤ a ∧ a ≤ 10000) :
    -10000000000000000 ≤ n * a ∧ n * a ≤ 10000000000000000 := by
  have h1 : n.natAbs ≤ 1000000000000 := by omega
  have h2 : a.natAbs ≤ 10000 := by omega
  have h3 : (n * a).natAbs ≤ 1000000000000 * 10000 := by rw [Int.natAbs_mul]; exact Nat.mul_le_mul h1 h2
  omega
theorem tdiv_bd {n b : Int} (h : -10000000000000000 ≤ n ∧ n ≤ 10000000000000000) :
    -10000000000000000 ≤ n.tdiv b ∧ n.tdiv b ≤ 10000000000000000 := by
  have h1 : n.natAbs ≤ 10000000000000000 := by omega
  have h3 : (n.tdiv b).natAbs ≤ n.natAbs := by rw [Int.natAbs_tdiv]; exact Nat.div_le_self _ _
  omega

/-- three numbers, sorted. -/
theorem ms_of (a b c x y z : Int) (p : [x, y, z].Perm [a, b, c]) (h1 : x ≤ y) (h2 : y ≤ z) : ([a, b, c].mergeSort fun x y => decide (x ≤ y)) = [x, y, z] := by
  refine List.Perm.eq_of_pairwise (le := fun x y : Int => x ≤ y) (fun a b _ _ => Int.le_antisymm) ?_ ?_ ((List.mergeSort_perm _ _).trans p.symm)
  · have := List.pairwise_mergeSort (le := fun x y : Int => decide (x ≤ y)) (by intro a b c; simp; omega) (by intro a b; simp; omega) [a, b, c]
    simpa using this
  · simp; omega
theorem mid3 (a b c : Int) : ([a, b, c].mergeSort fun x y => decide (x ≤ y))[1]? = some (middleR a b c) := by
  have s1 : ∀ x y z : Int, [x, y, z].Perm [y, x, z] := fun x y z => .swap _ _ _
  have s2 : ∀ x y z : Int, [x, y, z].Perm [x, z, y] := fun x y z => .cons _ (.swap _ _ _)
  by_cases h1 : a ≤ b
  · by_cases h2 : b ≤ c
    · rw [ms_of a b c a b c (.refl _) h1 h2]; simp [middleR]; omega
    · by_cases h3 : a ≤ c
      · rw [ms_of a b c a c b (s2 _ _ _) h3 (by omega)]; simp [middleR]; omega
      · rw [ms_of a b c c a b ((s1 _ _ _).trans (s2 _ _ _)) (by omega) h1]; simp [middleR]; omega
  · by_cases h3 : a ≤ c
    · rw [ms_of a b c b a c (s1 _ _ _) (by omega) h3]; simp [middleR]; omega
    · by_cases h2 : b ≤ c
      · rw [ms_of a b c b c a ((s2 _ _ _).trans (s1 _ _ _)) h2 (by omega)]; simp [middleR]; omega
      · rw [ms_of a b c c b a ((s1 _ _ _).trans ((s2 _ _ _).trans (s1 _ _ _))) (by omega) (by omega)]; simp [middleR]; omega
end Go.Proofs.YtbphljnncbiddabDoor.Num
