/-
  The law MatchParts: how much of one maker's, by contract.
-/
import Derived.Test.YtkjgkmndpbbagaaMtCat
import Derived.Test.YtkjgkmndpbbagaaMtPartP
namespace Go.Proofs.Ytkjgkmndpbbagaa.Bk
open Go.RowKit Go.Sort Go.Maps Go.Proofs.Ytkjgkmndpbbagaa.Mix

set_option maxHeartbeats 1000000 in
set_option maxRecDepth 100000 in
theorem of_any (p : Option Addr) (c : Nat) (F : List Fil) (id : Int) (w : World) (h : FV w p c F) (hn : F.length ≤ 1000) (hq : ∀ f, f ∈ F → 0 ≤ fqt f ∧ fqt f ≤ 1000) :
    Calls Try.prog 55 #[.slice p F.length c, .int .i64 id] w fun e w' => e = .returned (.int .i64 (qof id F)) ∧ Below w.heap.size w w' := by
  have H := hide h
  have HQ := hide hq
  obtain ⟨n, hFn⟩ : ∃ n, F.length = n := ⟨_, rfl⟩
  rw [hFn] at hn
  rw [hFn]
  have N := hide hFn
  obtain ⟨R, hR⟩ : ∃ R, R = qof id F := ⟨_, rfl⟩
  rw [← hR]
  have HR := hide hR
  clear h hq hFn hR
  go_enter Try.func55, Try.ntmps55
  go_wp2
  go_loopw [5, 10] (fun s i wr => ∃ (k : Nat) (v : Int), i = .int .i64 k ∧ s = .int .i64 v ∧ k ≤ n ∧ Hid (v = qof id (F.take k)) ∧ Hid (Below w.heap.size w wr)) (fun _ i _ => n - (intOf i).toNat)
  case atStart => exact ⟨0, 0, rfl, rfl, Nat.zero_le _, rfl, Below.refl _ _⟩
  case round =>
    obtain ⟨k, v, rfl, rfl, hk, HV, BW⟩ := hrel
    by_cases hlt : k < n
    · have hltz : (k : Int) < (n : Int) := by omega
      have hkF : k < F.length := by rw [N.out]; exact hlt
      have hbd := qof_bd (id := id) (F := F.take k) (fun f hf => HQ.out f (List.mem_of_mem_take hf))
      rw [← HV.out, List.length_take] at hbd
      have hb2 : 0 ≤ v ∧ v ≤ 1000000 := by
        have := hbd.2
        refine ⟨hbd.1, ?_⟩
        have h3 : ((min k F.length : Nat) : Int) ≤ 1000 := by omega
        omega
      have hfm := HQ.out F[k]! (by rw [getElem!_pos F k hkF]; exact List.getElem_mem hkF)
      have QT := hide (qof_take (id := id) hkF)
      obtain ⟨b, off, rfl, hc⟩ : ∃ b off, p = some ⟨b, off, none⟩ ∧ ∀ j u, (flatF F)[j]? = some u → w.cell? ⟨b, off + j, none⟩ = some u := by
        rcases H.out.row with e | e
        · rw [e] at hkF; simp at hkF
        · exact e
      obtain ⟨f0, f1, f2, f3, f4, f5, f6⟩ := fv_cells hc hkF
      have up := fun (x : Addr) (v : Value) (hx : w.cell? x = some v) => (BW.out.cell (World.block_lt_of_cell? _ _ hx)).trans hx
      have g0 := up _ _ f0
      have g1 := up _ _ f1
      have g2 := up _ _ f2
      have g3 := up _ _ f3
      have g4 := up _ _ f4
      have g5 := up _ _ f5
      have g6 := up _ _ f6
      rw [← HV.out] at QT
      generalize F[k]! = f at g0 g1 g2 g3 g4 g5 g6 QT hfm
      obtain ⟨a0, a1, a2, a3, a4, a5, a6⟩ := f
      dsimp only [fqt] at g0 g1 g2 g3 g4 g5 g6 QT hfm
      obtain ⟨hv0, hv1⟩ := hb2
      obtain ⟨hm0, hm1⟩ := hfm
      have BA := hide (BW.out.alloc BW.out.size (.cells #[.int .i64 a0, .int .i64 a1, .int .i64 a2, .int .i64 a3, .int .i64 a4, .int .i64 a5, .int .i64 a6] 74))
      clear up f0 f1 f2 f3 f4 f5 f6 hbd hc
      by_cases hid : a0 = id
      · have QQ : Hid (v + a6 = qof id (F.take (k + 1))) := by have := QT.out; rw [if_pos hid] at this; exact this.symm
        subst hid
        go_wp2
        go_roundw
        case rel => exact ⟨k + 1, v + a6, by go_num, rfl, by omega, QQ, BA⟩
        case measure => simp [intOf]; omega
      · have QQ : Hid (v = qof id (F.take (k + 1))) := by have := QT.out; rw [if_neg hid, Int.add_zero] at this; exact this.symm
        have hib : (a0 == id) = false := by simp [hid]
        go_wp2
        go_roundw
        case rel => exact ⟨k + 1, v, by go_num, rfl, by omega, QQ, BA⟩
        case measure => simp [intOf]; omega
    · have hke : k = n := by omega
      subst hke
      have hvr : Hid (v = R) := by rw [HR.out, HV.out, ← N.out, List.take_length]; rfl
      have hv2 := hvr.out
      subst hv2
      go_wp2
      go_ret
      exact ⟨rfl, BW.out⟩
end Go.Proofs.Ytkjgkmndpbbagaa.Bk
