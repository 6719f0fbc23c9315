/-
  A text without a line feed, its bytes looked through; the closed fact.
-/
import Derived.Test.YthdjfhnhjiageaaDoorTxW9
import Derived.Lib.ConvBytes
namespace Go.Proofs.YthdjfhnhjiageaaDoor.Tx
open Go.RowKit Go.Lib Go.Sort Go.Proofs.YthdjfhnhjiageaaDoor.Mix

theorem itoa_1 {n : Nat} (h : n < 10) : itoa (n : Int) = [UInt8.ofNat (48 + n)] := by rw [itoa_nonneg, decDigits_one h]
theorem itoa_2 {n : Nat} (h1 : ¬ n < 10) (h2 : n < 100) : itoa (n : Int) = [UInt8.ofNat (48 + n / 10), UInt8.ofNat (48 + n % 10)] := by rw [itoa_nonneg, decDigits_two h1 h2]
abbrev cA : Cd := ⟨3, 3, 1, 0, 0, 0, -1, 7, 2, 2, true⟩
abbrev cB : Cd := ⟨5, 0, 1, 50, 0, 0, 0, 0, 0, 0, false⟩
abbrev tA : Bs := [112, 108, 97, 99, 101, 32, 51, 32, 49, 32, 115, 101, 108, 108, 32, 50, 32, 55, 32, 110, 111, 119, 32, 114, 101, 100, 117, 99, 101]
abbrev tB : Bs := [105, 110, 100, 101, 120, 32, 49, 32, 53, 48]
theorem print_A : printC cA = tA := by
  have i1 : itoa 3 = [51] := itoa_1 (n := 3) (by decide)
  have i2 : itoa 1 = [49] := itoa_1 (n := 1) (by decide)
  have i3 : itoa 2 = [50] := itoa_1 (n := 2) (by decide)
  have i4 : itoa 7 = [55] := itoa_1 (n := 7) (by decide)
  show joinW [wPlace, itoa 3, itoa 1, wSell, itoa 2, itoa 7, wNow, wReduce] = _
  rw [i1, i2, i3, i4]
  rfl
theorem print_B : printC cB = tB := by
  have i2 : itoa 1 = [49] := itoa_1 (n := 1) (by decide)
  have i3 : itoa 50 = [53, 48] := itoa_2 (n := 50) (by decide) (by decide)
  show joinW [wIndex, itoa 1, itoa 50] = _
  rw [i2, i3]
  rfl
theorem fits_A : cA.fits := by constructor <;> (unfold i64; decide)
theorem fits_B : cB.fits := by constructor <;> (unfold i64; decide)
theorem check_A : checkC cA = 0 := by rfl
theorem check_B : checkC cB = 0 := by rfl
theorem parse_B : parseC tB = (cB, 0) := by rw [← print_B]; exact parse_print check_B fits_B
set_option maxHeartbeats 1000000 in
set_option maxRecDepth 100000 in
theorem spelt_any (w : World) (E : Env w) : Calls Tryd.prog 8 #[] w fun e w' => e = .returned (.bool true) ∧ Below w.heap.size w w' := by
  have PA := print_any cA w fits_A E
  unfold printS at PA
  rw [if_pos check_A, check_A, print_A] at PA
  have PB := fun w' (hb : Below w.heap.size w w') => parse_any tB w' (E.below hb)
  simp only [parse_B] at PB
  have eq := eqC cB cB
  have es : sameC cB cB = true := rfl
  rw [es] at eq
  have PA' := hide PA
  have PB' := hide PB
  clear PA PB es E
  go_enter Tryd.func8, Tryd.ntmps8
  go_wp2_with fail
  refine PA'.out.mono ?_
  rintro e w1 ⟨rfl, hb⟩
  have B1 := hide hb
  have P1 := hide (PB'.out w1 hb)
  clear hb PA' PB'
  go_wp2_with fail
  refine P1.out.mono ?_
  rintro e w2 ⟨rfl, hb⟩
  have B2 := hide (onward B1.out hb)
  clear hb P1
  go_wp2
  go_ret
  exact ⟨rfl, onward B2.out (below_alloc _ _)⟩
end Go.Proofs.YthdjfhnhjiageaaDoor.Tx
