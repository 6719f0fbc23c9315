/-
  FundNone, walked.
-/
import Derived.Test.YtbphljnncbiddabFuPaid
namespace Go.Proofs.Ytbphljnncbiddab.Ac
open Go.RowKit Go.Proofs.Ytbphljnncbiddab.Num Go.Proofs.Ytbphljnncbiddab.Fix Go.Proofs.Ytbphljnncbiddab.AcP Go.Proofs.Ytbphljnncbiddab.FuP

theorem nil_is (mk mark rate : Int) : settleR (List.map Am.acc []) mk mark rate = ([], 0, 0) := rfl

set_option maxHeartbeats 2000000 in
set_option maxRecDepth 100000 in
theorem none_any (id bal : Int) (p : Option Addr) (n c : Nat) (pos : List Int) (mk mark rate : Int) (w : World) (hl : pos.length = n) (hn : n ≤ 140737488351232) (h : Row w p pos) :
    Calls Try.prog 5 #[accV id bal p n c, .int .i64 mk, .int .i64 mark, .int .i64 rate] w fun e w' => e = .returned (.bool true) ∧ Below w.heap.size w w' := by
  have PA := hide (fun rt W hW => pays_any id bal p n c pos mk mark rt W hl hn (row_below h hW))
  clear h
  by_cases hr : (paysR id bal pos mk mark rate).2 = 0
  · obtain ⟨x, y, e1, e2, e3, h1, h2, ⟨x1, x2⟩, y1, y2⟩ := none_all hr
    have hz := (paysR_zero hr).2.2.1
    obtain ⟨r1, r2⟩ := betw_true hz
    have P1 := hide (fun W hW => PA.out rate W hW)
    have P2 := hide (fun W hW => PA.out (-rate) W hW)
    have P3 := hide (fun W hW => PA.out 0 W hW)
    rw [e1] at P1
    rw [e2] at P2
    rw [e3] at P3
    clear PA e1 e2 e3 hr hz
    go_enter Try.func5, Try.ntmps5
    go_wp2_with fail
    refine (P1.out _ (below_alloc _ _)).mono ?_
    rintro e W1 ⟨rfl, hb1⟩
    have B1 := hide ((below_alloc w _).trans (hb1.mono (by simp)))
    have b0 := (hb1.cell (by simp)).trans (new_cell w _ _ 0 _ rfl)
    have b1 := (hb1.cell (by simp)).trans (new_cell w _ _ 1 _ rfl)
    have b2 := (hb1.cell (by simp)).trans (new_cell w _ _ 2 _ rfl)
    clear hb1
    go_wp2_with fail
    refine (paid_any _).mono ?_
    rintro e W2 ⟨rfl, hb2⟩
    have B2 := hide (B1.out.trans (hb2.mono B1.out.size))
    have b0 := (hb2.cell (World.block_lt_of_cell? _ _ b0)).trans b0
    have b1 := (hb2.cell (World.block_lt_of_cell? _ _ b1)).trans b1
    have b2 := (hb2.cell (World.block_lt_of_cell? _ _ b2)).trans b2
    clear hb2
    go_wp2_with fail
    refine (P2.out _ B2.out).mono ?_
    rintro e W3 ⟨rfl, hb3⟩
    have B3 := hide (B2.out.trans (hb3.mono B2.out.size))
    have b0 := (hb3.cell (World.block_lt_of_cell? _ _ b0)).trans b0
    have b1 := (hb3.cell (World.block_lt_of_cell? _ _ b1)).trans b1
    have b2 := (hb3.cell (World.block_lt_of_cell? _ _ b2)).trans b2
    clear hb3
    go_wp2_with fail
    refine (P3.out _ B3.out).mono ?_
    rintro e W4 ⟨rfl, hb4⟩
    have B4 := hide (B3.out.trans (hb4.mono B3.out.size))
    clear hb4
    go_wp2_with fail
    refine (settle_any none 0 0 [] mk mark rate _ rfl (al_nil _ _)).mono ?_
    rintro e W5 ⟨px, cx, D, rfl, -, hD, hb5⟩
    rw [nil_is] at hD ⊢
    obtain rfl : D = [] := List.map_eq_nil_iff.1 hD
    have B5 := hide (B4.out.trans (hb5.mono B4.out.size))
    clear hb5 hD
    go_wp2
    go_ret
    exact ⟨rfl, B5.out⟩
  · have P1 := hide (fun W hW => PA.out rate W hW)
    generalize paysR id bal pos mk mark rate = T at P1 hr
    obtain ⟨x, r⟩ := T
    dsimp only at P1 hr
    clear PA
    go_enter Try.func5, Try.ntmps5
    go_wp2_with fail
    refine (P1.out _ (below_alloc _ _)).mono ?_
    rintro e W1 ⟨rfl, hb1⟩
    have B1 := hide ((below_alloc w _).trans (hb1.mono (by simp)))
    clear hb1
    go_wp2_with fail
    refine (paid_any _).mono ?_
    rintro e W2 ⟨rfl, hb2⟩
    have B2 := hide (B1.out.trans (hb2.mono B1.out.size))
    clear hb2
    go_wp2_with fail
    refine (paid_any _).mono ?_
    rintro e W3 ⟨rfl, hb3⟩
    have B3 := hide (B2.out.trans (hb3.mono B2.out.size))
    clear hb3
    go_wp2
    go_ret
    exact ⟨rfl, B3.out⟩
end Go.Proofs.Ytbphljnncbiddab.Ac
