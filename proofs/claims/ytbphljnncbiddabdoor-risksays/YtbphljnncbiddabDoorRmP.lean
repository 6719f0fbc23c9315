/-
  Plain mathematics for markets and the price of bankruptcy: no program in sight.
-/
import Derived.Test.YtbphljnncbiddabDoorRkP
import Derived.Test.YtbphljnncbiddabDoorBk
namespace Go.Proofs.YtbphljnncbiddabDoor.Rm
open Go.Proofs.YtbphljnncbiddabDoor.Num Go.Proofs.YtbphljnncbiddabDoor.AcP Go.Proofs.YtbphljnncbiddabDoor.RkP Go.Proofs.YtbphljnncbiddabDoor.Bk

def marketErr (bids asks : List Odr) (idx last : Int) : Int :=
  if bookErr bids asks = 0 then (if betw 1 idx 10000 = true ∧ betw 0 last 10000 = true then 0 else 3) else bookErr bids asks
def halfR (fb fa idx : Int) : Int := if fb = 0 ∨ fa = 0 then idx else (fb + fa).tdiv 2
def lastR (last idx : Int) : Int := if last = 0 then idx else last
def markOf (fb fa idx last : Int) : Int := middleR (idx - idx.tdiv 20) (middleR idx (halfR fb fa idx) (lastR last idx)) (idx + idx.tdiv 20)
def markR (bids asks : List Odr) (idx last : Int) : Int × Int :=
  if marketErr bids asks idx last = 0 then (markOf (firstPrice bids) (firstPrice asks) idx last, 0) else (0, marketErr bids asks idx last)

theorem marketErr_ok {bids asks : List Odr} {idx last : Int} (h : marketErr bids asks idx last = 0) : bookErr bids asks = 0 ∧ betw 1 idx 10000 = true ∧ betw 0 last 10000 = true := by
  unfold marketErr at h
  split at h
  · rename_i h0
    split at h
    · rename_i h1
      exact ⟨h0, h1⟩
    · cases h
  · rename_i h0
    exact absurd h h0
theorem first_bd {s : Int} {l : List Odr} (h : Side s l) : 0 ≤ firstPrice l ∧ firstPrice l ≤ 10000 := by
  cases l with
  | nil => simp [firstPrice]
  | cons o l =>
    have h1 := h.ok o (by simp)
    unfold okOrder at h1
    simp only [firstPrice]
    split at h1
    · cases h1
    · split at h1
      · cases h1
      · split at h1
        · cases h1
        · rename_i h3
          omega
theorem mark_bd (fb fa : Int) {idx last : Int} (h : betw 1 idx 10000 = true) : 1 ≤ markOf fb fa idx last ∧ idx - idx.tdiv 20 ≤ markOf fb fa idx last ∧ markOf fb fa idx last ≤ idx + idx.tdiv 20 := by
  have h1 := betw_true h
  have h2 : idx.tdiv 20 = idx / 20 := Int.tdiv_eq_ediv_of_nonneg (by omega)
  unfold markOf middleR
  rw [h2]
  omega

/-- the price at which a position is closed. -/
def evenR (rest q : Int) : Int := if 0 < q then divUp (-(middleR (-1000000000000) rest 1000000000000)) q true else divUp (middleR (-1000000000000) rest 1000000000000) (-q) false
def bankR (id bal : Int) (pos marks : List Int) (mk : Int) : Int × Int :=
  if (equityR id bal pos marks).2 = 0 then
    (if betw 0 mk (pos.length - 1) = true then
      (if pos.getD mk.toNat 0 = 0 then (0, 12)
       else (middleR 1 (evenR ((equityR id bal pos marks).1 - pos.getD mk.toNat 0 * marks.getD mk.toNat 0) (pos.getD mk.toNat 0)) 10000, 0))
     else (0, 5))
  else (0, (equityR id bal pos marks).2)

theorem mid_money (r : Int) : money (middleR (-1000000000000) r 1000000000000) = true := money_mk (by unfold middleR; omega)
theorem part_up {r q : Int} (hr : money r = true) (h1 : 0 < q) (h2 : q ≤ 1000) : partR (-r) 1 q true = (divUp (-r) q true, 0) := by
  have hr' := money_true hr
  unfold partR
  rw [if_pos ⟨money_mk (by omega), by decide, betw_mk (by omega)⟩, Int.mul_one]
  have e : money (divUp (-r) q true) = true := by
    unfold divUp
    rw [if_pos rfl, Int.neg_neg]
    have := tdiv_bd (n := r) (b := q) (by omega)
    apply money_mk
    have h3 := ediv_lo (n := r) (b := q) h1
    by_cases h0 : 0 ≤ r
    · have : 0 ≤ r / q := Int.ediv_nonneg h0 (by omega)
      have : r / q ≤ r := Int.ediv_le_self _ h0
      omega
    · have : r / q ≤ 0 := Int.le_of_lt (Int.ediv_neg_of_neg_of_pos (by omega) h1)
      have : r ≤ r / q := by
        rw [Int.le_ediv_iff_mul_le h1]
        have : r * q ≤ r * 1 := Int.mul_le_mul_of_nonpos_left (by omega) (by omega)
        omega
      omega
  rw [if_pos e]
theorem part_down {r q : Int} (hr : money r = true) (h1 : 0 < q) (h2 : q ≤ 1000) : partR r 1 q false = (divUp r q false, 0) := by
  have hr' := money_true hr
  unfold partR
  rw [if_pos ⟨hr, by decide, betw_mk (by omega)⟩, Int.mul_one]
  have e : money (divUp r q false) = true := by
    unfold divUp
    rw [if_neg (by decide)]
    apply money_mk
    by_cases h0 : 0 ≤ r
    · have : 0 ≤ r / q := Int.ediv_nonneg h0 (by omega)
      have : r / q ≤ r := Int.ediv_le_self _ h0
      omega
    · have : r / q ≤ 0 := Int.le_of_lt (Int.ediv_neg_of_neg_of_pos (by omega) h1)
      have : r ≤ r / q := by
        rw [Int.le_ediv_iff_mul_le h1]
        have : r * q ≤ r * 1 := Int.mul_le_mul_of_nonpos_left (by omega) (by omega)
        omega
      omega
  rw [if_pos e]
theorem even_up {rest q : Int} (h1 : 0 < q) (h2 : q ≤ 1000) : partR (-(middleR (-1000000000000) rest 1000000000000)) 1 q true = (evenR rest q, 0) := by
  rw [part_up (mid_money rest) h1 h2]
  unfold evenR
  rw [if_pos h1]
theorem even_down {rest q : Int} (h1 : q < 0) (h2 : -1000 ≤ q) : partR (middleR (-1000000000000) rest 1000000000000) 1 (-q) false = (evenR rest q, 0) := by
  rw [part_down (mid_money rest) (by omega) (by omega)]
  unfold evenR
  rw [if_neg (by omega)]
end Go.Proofs.YtbphljnncbiddabDoor.Rm
