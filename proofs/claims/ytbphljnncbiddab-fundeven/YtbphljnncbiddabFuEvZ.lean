/-
  FundEven, whole.
-/
import Derived.Test.YtbphljnncbiddabFuEven
namespace Go.Proofs.Ytbphljnncbiddab.Ac
open Go.RowKit Go.Proofs.Ytbphljnncbiddab.Num Go.Proofs.Ytbphljnncbiddab.Fix Go.Proofs.Ytbphljnncbiddab.AcP Go.Proofs.Ytbphljnncbiddab.FuP

set_option maxHeartbeats 2000000 in
set_option maxRecDepth 100000 in
theorem evens_nil (p : Option Addr) (c : Nat) (mk mark rate : Int) (w : World) :
    Calls Try.prog 4 #[.slice p 0 c, .int .i64 mk, .int .i64 mark, .int .i64 rate] w fun e w' => e = .returned (.bool true) ∧ Below w.heap.size w w' := by
  have SE := hide (settle_any p 0 c [] mk mark rate w rfl (al_nil _ _))
  rw [show settleR (List.map Am.acc []) mk mark rate = ([], 0, 0) from rfl] at SE
  go_enter Try.func4, Try.ntmps4
  go_wp2_with fail
  refine SE.out.mono ?_
  rintro e W1 ⟨px, cx, D, rfl, -, hD, hb1⟩
  obtain rfl : D = [] := List.map_eq_nil_iff.1 hD
  have B1 := hide hb1
  clear hb1 SE hD
  go_wp2_with fail
  refine (paid_any _).mono ?_
  rintro e W2 ⟨rfl, hb2⟩
  have B2 := hide (B1.out.trans (hb2.mono B1.out.size))
  clear hb2
  go_wp2
  refine wp_loop_rounds 1 ?_
  rw [rounds_succ]
  go_wp2
  go_ret
  exact ⟨rfl, B2.out⟩

theorem evens_any (p : Option Addr) (n c : Nat) (L : List Am) (mk mark rate : Int) (w : World) (hl : L.length = n) (h : AL w p L) :
    Calls Try.prog 4 #[.slice p n c, .int .i64 mk, .int .i64 mark, .int .i64 rate] w fun e w' => e = .returned (.bool true) ∧ Below w.heap.size w w' := by
  by_cases he : (settleR (L.map Am.acc) mk mark rate).2.2 = 0
  · have h8 : n ≤ 8 := by
      by_cases h0 : 8 < (L.map Am.acc).length
      · unfold settleR at he; rw [if_pos h0] at he; exact absurd he (by decide)
      · simp at h0; omega
    have hz : setE mk mark rate (L.map Am.acc) = 0 := by
      by_cases h0 : setE mk mark rate (L.map Am.acc) = 0
      · exact h0
      · rw [settle_err (by simp; omega) h0] at he; exact absurd he h0
    match L, hl with
    | [], hl =>
      obtain rfl : n = 0 := hl.symm
      exact evens_nil p c mk mark rate w
    | a :: L, hl =>
      have hm := pay_facts (setE_zero hz a.acc (by simp)).1
      obtain ⟨k, rfl⟩ : ∃ k : Nat, mk = k := ⟨mk.toNat, by have := hm.2.2.1; omega⟩
      exact evens_ok p n c (a :: L) k mark rate w hl h8 h hz
  · exact evens_bad p n c L mk mark rate w hl h he
end Go.Proofs.Ytbphljnncbiddab.Ac
