/-
  A text without a line feed, its bytes looked through; the closed fact.
-/
import Derived.Test.YtioapcbgjoflcaaDoorTxW9
import Derived.Lib.ConvBytes
namespace Go.Proofs.YtioapcbgjoflcaaDoor.Tx
open Go.RowKit Go.Lib Go.Sort Go.Proofs.YtioapcbgjoflcaaDoor.Mix

set_option maxHeartbeats 1000000 in
theorem index_lf (b n c : Nat) (t : Bs) (w : World) (hn : t.length = n) (hz : n ≤ 100000) (hc : ∀ j, j < n → w.cell? ⟨b, j, none⟩ = some (.int .u8 (t.getD j 0).toNat)) (hno : (10 : UInt8) ∉ t) :
    Calls Tryd.prog 29 #[.slice (some ⟨b, 0, none⟩) n c, .int .u8 10] w fun e w' => e = .returned (.int .i64 (-1)) ∧ w' = w := by
  have HC := hide hc
  have HN := hide hn
  have HO := hide hno
  clear hc hn hno
  go_enter Tryd.func29, Tryd.ntmps29
  go_wp2
  go_loopw [8] (fun i wr => ∃ k : Nat, k ≤ n ∧ i = .int .i64 k ∧ wr = w) (fun i _ => n - (RowKit.intOf i).toNat)
  case atStart => exact ⟨0, Nat.zero_le _, rfl, rfl⟩
  case round =>
    obtain ⟨k, hk, rfl, hwr⟩ := hrel
    subst hwr
    by_cases hlt : k < n
    · have hltz : (k : Int) < (n : Int) := by omega
      have hcell := HC.out k hlt
      have hne : ¬ t.getD k 0 = 10 := fun e => HO.out (by
        rw [List.getD_eq_getElem?_getD, List.getElem?_eq_getElem (by rw [HN.out]; exact hlt)] at e
        simp only [Option.getD_some] at e
        rw [← e]
        exact List.getElem_mem _)
      have hne2 : ¬ (10 : Int) = ((t.getD k 0).toNat : Int) := fun e => hne (by
        apply UInt8.toNat_inj.1
        have : (10 : UInt8).toNat = 10 := rfl
        omega)
      generalize (t.getD k 0).toNat = x at *
      go_wp2
      go_roundw
      case rel => exact ⟨k + 1, hlt, by go_num, by first | rfl | trivial⟩
      case measure => simp [RowKit.intOf]; omega
    · have hkn : k = n := by omega
      subst hkn
      go_wp2
      go_ret
      exact ⟨rfl, rfl⟩
theorem contains_lf (b n c : Nat) (t : Bs) (w : World) (hn : t.length = n) (hz : n ≤ 100000) (hc : ∀ j, j < n → w.cell? ⟨b, j, none⟩ = some (.int .u8 (t.getD j 0).toNat)) (hno : (10 : UInt8) ∉ t) :
    Calls Tryd.prog 12 #[.slice (some ⟨b, 0, none⟩) n c, .int .u8 10] w fun e w' => e = .returned (.bool false) ∧ w' = w := by
  have IX := hide (index_lf b n c t w hn hz hc hno)
  clear hc hn hno
  go_enter Tryd.func12, Tryd.ntmps12
  go_wp2_with fail
  refine IX.out.mono ?_
  rintro e w' ⟨rfl, hw'⟩
  subst hw'
  clear IX
  go_wp2
  go_ret
  exact ⟨rfl, rfl⟩
theorem itoa_1 {n : Nat} (h : n < 10) : itoa (n : Int) = [UInt8.ofNat (48 + n)] := by rw [itoa_nonneg, decDigits_one h]
theorem itoa_2 {n : Nat} (h1 : ¬ n < 10) (h2 : n < 100) : itoa (n : Int) = [UInt8.ofNat (48 + n / 10), UInt8.ofNat (48 + n % 10)] := by rw [itoa_nonneg, decDigits_two h1 h2]
abbrev cA : Cd := ⟨3, 3, 1, 0, 0, 0, -1, 7, 2, 2, true⟩
abbrev cB : Cd := ⟨5, 0, 1, 50, 0, 0, 0, 0, 0, 0, false⟩
abbrev tA : Bs := [112, 108, 97, 99, 101, 32, 51, 32, 49, 32, 115, 101, 108, 108, 32, 50, 32, 55, 32, 110, 111, 119, 32, 114, 101, 100, 117, 99, 101]
abbrev tB : Bs := [105, 110, 100, 101, 120, 32, 49, 32, 53, 48]
theorem print_A : printC cA = tA := by
  have i1 : itoa 3 = [51] := itoa_1 (n := 3) (by decide)
  have i2 : itoa 1 = [49] := itoa_1 (n := 1) (by decide)
  have i3 : itoa 2 = [50] := itoa_1 (n := 2) (by decide)
  have i4 : itoa 7 = [55] := itoa_1 (n := 7) (by decide)
  show joinW [wPlace, itoa 3, itoa 1, wSell, itoa 2, itoa 7, wNow, wReduce] = _
  rw [i1, i2, i3, i4]
  rfl
theorem print_B : printC cB = tB := by
  have i2 : itoa 1 = [49] := itoa_1 (n := 1) (by decide)
  have i3 : itoa 50 = [53, 48] := itoa_2 (n := 50) (by decide) (by decide)
  show joinW [wIndex, itoa 1, itoa 50] = _
  rw [i2, i3]
  rfl
theorem fits_A : cA.fits := by constructor <;> (unfold i64; decide)
theorem fits_B : cB.fits := by constructor <;> (unfold i64; decide)
theorem check_A : checkC cA = 0 := by rfl
theorem check_B : checkC cB = 0 := by rfl
theorem parse_B : parseC tB = (cB, 0) := by rw [← print_B]; exact parse_print check_B fits_B
set_option maxHeartbeats 1000000 in
set_option maxRecDepth 100000 in
theorem spelt_any (w : World) (E : Env w) : Calls Tryd.prog 8 #[] w fun e w' => e = .returned (.bool true) ∧ Below w.heap.size w w' := by
  have PA := print_any cA w fits_A E
  unfold printS at PA
  rw [if_pos check_A, check_A, print_A] at PA
  have PB := fun w' (hb : Below w.heap.size w w') => parse_any tB w' (E.below hb)
  simp only [parse_B] at PB
  have eq := eqC cB cB
  have es : sameC cB cB = true := rfl
  rw [es] at eq
  have PA' := hide PA
  have PB' := hide PB
  clear PA PB es E
  go_enter Tryd.func8, Tryd.ntmps8
  go_wp2_with fail
  refine PA'.out.mono ?_
  rintro e w1 ⟨rfl, hb⟩
  have B1 := hide hb
  have P1 := hide (PB'.out w1 hb)
  clear hb PA' PB'
  go_wp2_with fail
  refine P1.out.mono ?_
  rintro e w2 ⟨rfl, hb⟩
  have B2 := hide (onward B1.out hb)
  clear hb P1
  go_wp2
  go_ret
  exact ⟨rfl, onward B2.out (below_alloc _ _)⟩
end Go.Proofs.YtioapcbgjoflcaaDoor.Tx
