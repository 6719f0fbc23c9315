/-
  Package fund by contracts: Settle of any list; the closed fact of chapter 6.
-/
import Derived.Test.YtbphljnncbiddabFuSet2
namespace Go.Proofs.Ytbphljnncbiddab.Ac
open Go.RowKit Go.Proofs.Ytbphljnncbiddab.Num Go.Proofs.Ytbphljnncbiddab.Fix Go.Proofs.Ytbphljnncbiddab.AcP Go.Proofs.Ytbphljnncbiddab.FuP

theorem settle_any (p : Option Addr) (n c : Nat) (L : List Am) (mk mark rate : Int) (w : World) (hl : L.length = n) (h : AL w p L) :
    Calls Try.prog 6 #[.slice p n c, .int .i64 mk, .int .i64 mark, .int .i64 rate] w fun e w' => ∃ px cx D, e = .returned (.tuple #[.slice px D.length cx, .int .i64 (settleR (L.map Am.acc) mk mark rate).2.1, .int .i64 (settleR (L.map Am.acc) mk mark rate).2.2]) ∧ AL w' px D ∧ D.map Am.acc = (settleR (L.map Am.acc) mk mark rate).1 ∧ Below w.heap.size w w' := by
  by_cases hn : n ≤ 8
  · exact settle_in p n c L mk mark rate w hl hn h
  · have e : settleR (L.map Am.acc) mk mark rate = ([], 0, 2) := by unfold settleR; rw [if_pos (by simp; omega)]
    refine (settle_many p n c mk mark rate w (by omega)).mono ?_
    rintro e' w' ⟨rfl, rfl⟩
    rw [e]
    exact ⟨none, 0, [], rfl, al_nil _ _, rfl, Below.refl _ _⟩

theorem paid_is : settleR [(0, 0, [7]), (1, 0, [-7])] 0 100 10 = ([(0, -1, [7]), (1, 0, [-7])], 1, 0) := by decide

set_option maxHeartbeats 2000000 in
set_option maxRecDepth 100000 in
theorem paid_any (w : World) :
    Calls Try.prog 8 #[] w fun e w' => e = .returned (.bool true) ∧ Below w.heap.size w w' := by
  have b3 := below3 w (.cells #[.int .i64 7] 3) (.cells #[.int .i64 (-7)] 3) (.cells #[.int .i64 0, .int .i64 0, .slice (some ⟨w.heap.size, 0, none⟩) 1 1, .int .i64 1, .int .i64 0, .slice (some ⟨w.heap.size + 1, 0, none⟩) 1 1] 30)
  have ST : Hid (AL (((w.alloc (.cells #[.int .i64 7] 3)).alloc (.cells #[.int .i64 (-7)] 3)).alloc (.cells #[.int .i64 0, .int .i64 0, .slice (some ⟨w.heap.size, 0, none⟩) 1 1, .int .i64 1, .int .i64 0, .slice (some ⟨w.heap.size + 1, 0, none⟩) 1 1] 30)) (some ⟨w.heap.size + 1 + 1, 0, none⟩)
      [⟨0, 0, some ⟨w.heap.size, 0, none⟩, 1, 1, [7]⟩, ⟨1, 0, some ⟨w.heap.size + 1, 0, none⟩, 1, 1, [-7]⟩]) := by
    refine ⟨.inr ⟨_, _, rfl, fun j u hu => ?_⟩, fun a ha => ?_⟩
    · have hj : j < 6 := by
        have := (List.getElem?_eq_some_iff.1 hu).1
        simpa [flatA, encA] using this
      rw [World.cell?_alloc_at _ _ _ _ (by simp), Nat.zero_add]
      match j, hj with
      | 0, _ => exact hu
      | 1, _ => exact hu
      | 2, _ => exact hu
      | 3, _ => exact hu
      | 4, _ => exact hu
      | 5, _ => exact hu
    · simp at ha
      rcases ha with rfl | rfl
      · refine ⟨rfl, (show 1 * 8 ≤ 140737488351232 by decide), (fun h => by simp at h), .inr ⟨_, _, rfl, fun i hi => ?_⟩⟩
        match i, hi with
        | 0, _ => exact cell_alloc (cell_alloc (new_cell w _ _ 0 _ rfl) _) _
      · refine ⟨rfl, (show 1 * 8 ≤ 140737488351232 by decide), (fun h => by simp at h), .inr ⟨_, _, rfl, fun i hi => ?_⟩⟩
        match i, hi with
        | 0, _ => exact cell_alloc (new_cell2 w _ _ _ 0 _ rfl) _
  have B3 := hide b3
  clear b3
  go_enter Try.func8, Try.ntmps8
  go_wp2_with fail
  refine (settle_any _ 2 2 _ 0 100 10 _ rfl ST.out).mono ?_
  rintro e W ⟨px, cx, D, rfl, al, hD, hb⟩
  have BW := hide (B3.out.trans (hb.mono (by simp; omega)))
  have e0 : settleR (List.map Am.acc [⟨0, 0, some ⟨w.heap.size, 0, none⟩, 1, 1, [7]⟩, ⟨1, 0, some ⟨w.heap.size + 1, 0, none⟩, 1, 1, [-7]⟩]) 0 100 10 = ([(0, -1, [7]), (1, 0, [-7])], 1, 0) := paid_is
  rw [e0] at hD ⊢
  obtain ⟨x, y, rfl, hx, hy⟩ : ∃ x y, D = [x, y] ∧ x.bal = -1 ∧ y.bal = 0 := by
    rcases D with _ | ⟨x, _ | ⟨y, _ | ⟨z, D⟩⟩⟩
    · simp at hD
    · simp at hD
    · simp only [List.map_cons, List.map_nil, List.cons.injEq, and_true, Am.acc, Prod.mk.injEq] at hD
      exact ⟨x, y, rfl, hD.1.2.1, hD.2.2.1⟩
    · simp at hD
  rcases al.row with h0 | ⟨b, off, rfl, hc⟩
  · cases h0
  have c1 := hc 1 _ rfl
  have c4 := hc 4 _ rfl
  rw [hx] at c1
  rw [hy] at c4
  clear hc al hb e0 hx hy hD
  go_wp2
  go_ret
  exact ⟨rfl, BW.out⟩
end Go.Proofs.Ytbphljnncbiddab.Ac
