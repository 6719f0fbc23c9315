/-
  AccountEven, walked.
-/
import Derived.Test.YtkjgkmndpbbagaaAc5
namespace Go.Proofs.Ytkjgkmndpbbagaa.Ac
open Go.RowKit Go.Proofs.Ytkjgkmndpbbagaa.Num Go.Proofs.Ytkjgkmndpbbagaa.Fix Go.Proofs.Ytkjgkmndpbbagaa.AcP Go.Proofs.Ytkjgkmndpbbagaa.Adds

theorem equal_any (p p2 : Option Addr) (n c n2 c2 : Nat) (xs ys : List Int) (w : World) (hl : xs.length = n) (hl2 : ys.length = n2) (hn : n ≤ 140737488351232) (hn2 : n2 ≤ 140737488351232) (h : Row w p xs) (h' : Row w p2 ys) :
    Calls Try.prog 15 #[.slice p n c, .slice p2 n2 c2] w fun e w' => e = .returned (.bool (decide (xs = ys))) ∧ ∃ q, w' = w.drewN q := by
  by_cases hnn : n = n2
  · subst hnn
    rcases h with rfl | ⟨b, off, rfl, hc⟩
    · have h0 : n = 0 := by simpa using hl.symm
      subst h0
      obtain rfl : ys = [] := List.eq_nil_of_length_eq_zero hl2
      refine (Try.slices_Equal_int_empty _ _ _ _ _ _ (by omega)).mono ?_
      rintro e w' ⟨rfl, rfl⟩
      exact ⟨rfl, 0, rfl⟩
    · rcases h' with rfl | ⟨b2, off2, rfl, hc2⟩
      · have h0 : n = 0 := by simpa using hl2.symm
        subst h0
        obtain rfl : xs = [] := List.eq_nil_of_length_eq_zero hl
        refine (Try.slices_Equal_int_empty _ _ _ _ _ _ (by omega)).mono ?_
        rintro e w' ⟨rfl, rfl⟩
        exact ⟨rfl, 0, rfl⟩
      · refine (Try.slices_Equal_int b off n c b2 off2 n c2 xs ys w (by omega) (by omega) (by omega) (by omega) hc hc2).mono ?_
        rintro e w' ⟨rfl, q, rfl⟩
        refine ⟨?_, q, rfl⟩
        rw [List.take_of_length_le (by omega), List.take_of_length_le (by omega)]
        by_cases e : xs = ys
        · simp [e]
        · simp [e]
  · refine (Try.slices_Equal_int_lens _ _ _ _ _ _ _ hnn).mono ?_
    rintro e w' ⟨rfl, rfl⟩
    have : ¬ xs = ys := fun e => hnn (by rw [← hl, ← hl2, e])
    exact ⟨by simp [this], 0, rfl⟩

set_option maxHeartbeats 2000000 in
set_option maxRecDepth 100000 in
theorem even_bad (id bal : Int) (p : Option Addr) (n c : Nat) (pos : List Int) (id2 bal2 : Int) (p2 : Option Addr) (n2 c2 : Nat) (mk q pr fee : Int) (p3 : Option Addr) (n3 c3 : Nat) (w : World) (hl : pos.length = n) (hn : n ≤ 140737488351232) (h : Row w p pos)
    (f1 : -9223372036854775808 ≤ fee) (f2 : fee ≤ 9223372036854775807) (he : ¬ tradeErr id bal pos mk q pr fee = 0) :
    Calls Try.prog 14 #[accV id bal p n c, accV id2 bal2 p2 n2 c2, .int .i64 mk, .int .i64 q, .int .i64 pr, .int .i64 fee, .slice p3 n3 c3] w fun e w' => e = .returned (.bool true) ∧ Below w.heap.size w w' := by
  have TR := hide (fun W hW => trade_bad id bal p n c pos mk q pr fee W hl hn (row_below h hW) f1 f2 he)
  clear h f1 f2
  generalize tradeErr id bal pos mk q pr fee = r at he TR
  go_enter Try.func14, Try.ntmps14
  go_wp2_with fail
  refine (TR.out _ (below_alloc2 _ _ _)).mono ?_
  rintro e W ⟨rfl, hb⟩
  have B1 := hide ((below_alloc2 w _ _).trans (hb.mono (by simp; omega)))
  clear hb
  go_wp2_with fail
  refine (counted_any _).mono ?_
  rintro e W2 ⟨rfl, hb⟩
  have B2 := hide (B1.out.trans (((below_alloc W _).trans (hb.mono (by simp))).mono B1.out.size))
  clear hb
  go_wp2_with fail
  refine (counted_any _).mono ?_
  rintro e W3 ⟨rfl, hb⟩
  have B3 := hide (B2.out.trans (hb.mono B2.out.size))
  clear hb
  go_wp2
  go_ret
  exact ⟨rfl, B3.out⟩
end Go.Proofs.Ytkjgkmndpbbagaa.Ac
