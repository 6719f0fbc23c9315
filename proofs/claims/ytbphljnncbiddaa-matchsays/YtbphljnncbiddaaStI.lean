/-
  sort's insertionSort_func, by a contract, at elements of k cells, where 'less' may lay blocks.
-/
import Derived.Test.YtbphljnncbiddaaStM2
namespace Go.Proofs.Ytbphljnncbiddaa.St
open Go.Shelf Go.RowKit Go.Lib Go.Sort
variable {α : Type} [Inhabited α] {enc : α → List Value} {k : Nat}

set_option maxHeartbeats 2000000 in
set_option maxRecDepth 100000 in
theorem insertion_any (hk : ∀ x, (enc x).length = k) (lt : α → α → Bool) (hO : SWO lt) (g : Nat) (lb : Array Value) (sf : Nat) (sb : Array Value) (blk off a b : Nat) (d : Array α) (w : World)
    (eg : ∀ args w, (callFunc g args).run Try.prog w = .ok (.enter g args) w) (hless : LessG g lb enc k lt blk off d.size w) (hswap : SwapSwapsK Try.prog sf sb enc k blk off d.size)
    (hH : HoldsK enc k w blk off d) (hblk : blk < w.heap.size) (hab : a ≤ b) (hb : b ≤ d.size) (hsz : d.size < 4611686018427387904) :
    Calls Try.prog 141 #[.agg #[.func (.func g) #[] lb, .func (.func sf) #[] sb], .int .i64 a, .int .i64 b] w fun e w' => e = .returned (.tuple #[]) ∧ Merged enc k lt blk off a b d w w' := by
  have hH1 : HoldsK enc k (w.alloc (lsO (.func g) #[] lb sf sb)) blk off d := by rw [alloc_eq_grow]; exact holdsK_grow enc k w _ blk off d hblk hH
  have hb1 : blk < (w.alloc (lsO (.func g) #[] lb sf sb)).heap.size := by simp; omega
  have HL := hide (hless.on ((SWK.start hH).alloc (lsO (.func g) #[] lb sf sb)) hblk rfl)
  have HS := hide hswap
  have HH := hide hH
  have HH1 := hide hH1
  have HOLD := hide (insertionSort_holds hO d a b hab hb)
  clear hless hswap hH hH1
  go_enter Try.func141, Try.ntmps141
  go_wp2
  go_loopw [6] (fun vi wr => ∃ (i : Nat) (dk : Array α), vi = .int .i64 i ∧ a < i ∧ i ≤ b + 1 ∧ Hid (dk.size = d.size) ∧ Hid (SWK enc k (w.alloc (lsO (.func g) #[] lb sf sb)) blk off dk wr) ∧ Hid (insOuter lt a b i dk = insOuter lt a b (a + 1) d)) (fun vi _ => b + 1 - (intOf vi).toNat)
  case atStart => exact ⟨a + 1, d, by go_num, by omega, by omega, rfl, SWK.start HH1.out, rfl⟩
  case round =>
    obtain ⟨i, dk, rfl, hai, hib, DS, SW, HOU⟩ := hrel
    by_cases hlt : i < b
    · have hltz : (i : Int) < b := by omega
      obtain ⟨wo, hwo⟩ : ∃ wo, wo = wr := ⟨_, rfl⟩
      subst hwo
      go_wp2
      go_loopw [7] (fun vj wr => ∃ (j : Nat) (dj : Array α), vj = .int .i64 j ∧ a ≤ j ∧ j ≤ i ∧ Hid (dj.size = d.size) ∧ Hid (SWK enc k (w.alloc (lsO (.func g) #[] lb sf sb)) blk off dj wr) ∧ Hid (insInner lt a j dj = insInner lt a i dk)) (fun vj _ => (intOf vj).toNat)
      case atStart => exact ⟨i, dk, rfl, by omega, Nat.le_refl _, DS, SW, rfl⟩
      case round =>
        obtain ⟨j, dj, rfl, haj, hji, DJ, SJ, HIN⟩ := hrel
        have c0 : wr.cell? ⟨w.heap.size, 0, none⟩ = some (.func (.func g) #[] lb) := swk_cell SJ.out (by simp) (by show w.heap.size ≠ blk; omega)
        have OUT : Hid ((j ≤ a ∨ lt dj[j]! dj[j - 1]! = false) → insOuter lt a b (i + 1) dj = insOuter lt a b (a + 1) d) := fun hs => by
          rw [← HOU.out, insOuter_go _ _ _ _ _ hlt, ← HIN.out, insInner_stop _ _ _ _ hs]
        by_cases hja : a < j
        · have hjaz : (a : Int) < j := by omega
          have hl := HL.out dj wr SJ.out DJ.out j (j - 1) (by omega) (by omega)
          rw [show (((j - 1 : Nat) : Int)) = (j : Int) - 1 by omega] at hl
          cases hlv : lt dj[j]! dj[j - 1]! with
          | true =>
            rw [hlv] at hl
            have HC := hide hl
            have HI2 := hide (insInner_go lt a j dj hja hlv)
            clear hl hlv
            go_wp2_with (go_at_fn g; refine HC.out.mono ?_; rintro e w' ⟨rfl, q, os, rfl⟩; have SQ := hide (swk_grow SJ.out q os); have c1 : (grow (wr.drewN q) os).cell? ⟨w.heap.size, 1, none⟩ = some (.func (.func sf) #[] sb) := swk_cell SQ.out (by simp) (by show w.heap.size ≠ blk; omega); have hs := HS.out (grow (wr.drewN q) os) dj (SQ.out.holds hb1 HH1.out DJ.out) DJ.out j (j - 1) (by omega) (by omega); rw [show (((j - 1 : Nat) : Int)) = (j : Int) - 1 by omega] at hs; have SN := hide (SQ.out.swap hk hb1 j (j - 1) (by rw [DJ.out]; omega) (by rw [DJ.out]; omega)))
            go_roundw
            case rel => exact ⟨j - 1, swp dj j (j - 1), by go_num, by omega, by omega, (size_swp _ _ _).trans DJ.out, SN, HI2.out.symm.trans HIN.out⟩
            case measure => simp [intOf]; omega
          | false =>
            rw [hlv] at hl
            have HC := hide hl
            have HO2 := hide (OUT.out (.inr hlv))
            clear hl hlv
            go_wp2_with (go_at_fn g; refine HC.out.mono ?_; rintro e w' ⟨rfl, q, os, rfl⟩)
            have SQ := hide (swk_grow SJ.out q os)
            go_roundw
            case rel => exact ⟨i + 1, dj, by go_num, by omega, by omega, DJ, SQ, HO2⟩
            case measure => simp [intOf]; omega
        · have hjaz : ¬ (a : Int) < j := by omega
          have HO2 := hide (OUT.out (.inl (by omega)))
          go_wp2
          go_roundw
          case rel => exact ⟨i + 1, dj, by go_num, by omega, by omega, DJ, SJ, HO2⟩
          case measure => simp [intOf]; omega
    · have hltz : ¬ (i : Int) < b := by omega
      have HE : Hid (dk = Sort.insertionSort lt d a b) := by
        show _ = _
        unfold Sort.insertionSort
        rw [← HOU.out, insOuter_stop _ _ _ _ _ hlt]
      have FS := hide (swk_base SW.out HH.out hblk DS.out)
      go_wp2
      go_end0
      refine ⟨rfl, dk, ?_, ?_, FS.out⟩
      · rw [HE.out]; exact HOLD.out.1
      · rw [HE.out]; exact HOLD.out.2
end Go.Proofs.Ytbphljnncbiddaa.St
