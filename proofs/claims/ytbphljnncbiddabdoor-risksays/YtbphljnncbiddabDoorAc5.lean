/-
  Package account by contracts: Fee; the closed fact of chapter 4.
-/
import Derived.Test.YtbphljnncbiddabDoorAc4
import Derived.BigQuiet
namespace Go.Proofs.YtbphljnncbiddabDoor.Ac
open Go.RowKit Go.Proofs.YtbphljnncbiddabDoor.Num Go.Proofs.YtbphljnncbiddabDoor.Fix Go.Proofs.YtbphljnncbiddabDoor.AcP

theorem fee_part {q p : Int} (hq : betw (-1000) q 1000 = true) (hp : betw 0 p 10000 = true) : partR (max (q * p) (-(q * p))) 5 10000 true = feeR q p := by
  have h1 := money_true (cost_money hq hp)
  unfold partR
  rw [if_pos ⟨money_mk (by omega), by decide, by decide⟩]
  have : money (divUp (max (q * p) (-(q * p)) * 5) 10000 true) = true := by
    apply money_mk
    unfold divUp
    rw [if_pos rfl]
    omega
  rw [if_pos this]
  unfold feeR
  rw [if_pos ⟨hq, hp⟩]

theorem fee_any (q p : Int) (w : World) :
    Calls Tryd.prog 43 #[.int .i64 q, .int .i64 p] w fun e w' => e = .returned (.tuple #[.int .i64 (feeR q p).1, .int .i64 (feeR q p).2]) ∧ ∃ k, w' = w.drewN k := by
  by_cases h : betw (-1000) q 1000 = true ∧ betw 0 p 10000 = true
  · have FP := hide (fee_part h.1 h.2)
    have WO := hide (fun W => worth_yes q p W h.1 h.2)
    have ⟨m1, m2⟩ := mul_bd (n := q) (a := p) (by have := betw_true h.1; omega) (by have := betw_true h.2; omega)
    clear h
    generalize q * p = co at FP WO m1 m2
    generalize feeR q p = T at FP ⊢
    go_enter Tryd.func43, Tryd.ntmps43
    go_wp2_with (go_at_call 27; refine (WO.out _).mono ?_; rintro e w' ⟨rfl, rfl⟩)
    refine (part_any _ _ _ _ _).mono ?_
    rintro e w2 ⟨rfl, kk, rfl⟩
    rw [FP.out]
    go_wp2
    go_ret2
    exact ⟨rfl, _, rfl⟩
  · have hno : betw (-1000) q 1000 = false ∨ betw 0 p 10000 = false := by
      cases e1 : betw (-1000) q 1000
      · exact .inl rfl
      · cases e2 : betw 0 p 10000
        · exact .inr rfl
        · exact absurd ⟨e1, e2⟩ h
    have WO := hide (fun W => worth_no q p W hno)
    rw [show feeR q p = (0, 3) from by unfold feeR; rw [if_neg h]]
    clear h hno
    go_enter Tryd.func43, Tryd.ntmps43
    go_wp2_with (go_at_call 27; refine (WO.out _).mono ?_; rintro e w' ⟨rfl, rfl⟩)
    go_ret2
    exact ⟨rfl, 0, rfl⟩

theorem own_slice {w : World} {B : Nat} {v : Value} {n : Nat} {xs : List Int} (h : w.ownsRow B 3 1 v n (xs.map (Value.int .i64))) (h0 : 0 < n) : ∃ g cap, v = .slice (some ⟨g, 0, none⟩) n cap ∧ B ≤ g ∧ g < w.heap.size := by
  rcases h.2 with ⟨rfl, h1⟩ | ⟨g, cap, cur, rfl, hb, hg, -⟩
  · omega
  · exact ⟨g, cap, rfl, hb, (Array.getElem?_eq_some_iff.1 hg).1⟩
theorem own_cell {w : World} {B g cap : Nat} {n : Nat} {xs : List Int} (h : w.ownsRow B 3 1 (.slice (some ⟨g, 0, none⟩) n cap) n (xs.map (Value.int .i64))) {k : Nat} (hk : k < n) : w.cell? ⟨g, k, none⟩ = some (.int .i64 (xs.getD k 0)) := by
  have hl : xs.length = n := by simpa using h.1
  rw [h.cellAt k (by omega), List.getElem?_map, List.getD_eq_getElem?_getD, List.getElem?_eq_getElem (by omega)]
  rfl
theorem own_row {w : World} {B g cap : Nat} {n : Nat} {xs : List Int} (h : w.ownsRow B 3 1 (.slice (some ⟨g, 0, none⟩) n cap) n (xs.map (Value.int .i64))) : Row w (some ⟨g, 0, none⟩) xs := by
  have hl : xs.length = n := by simpa using h.1
  refine .inr ⟨g, 0, rfl, fun i hi => ?_⟩
  rw [Nat.zero_add]
  exact own_cell h (by omega)

theorem new_cell2 (w : World) (o : Obj) (cs : Array Value) (t : TypeId) (i : Nat) (v : Value) (h : cs[i]? = some v) : ((w.alloc o).alloc (.cells cs t)).cell? ⟨w.heap.size + 1, i, none⟩ = some v := by
  have := new_cell (w.alloc o) cs t i v h
  simpa using this

set_option maxHeartbeats 2000000 in
set_option maxRecDepth 100000 in
theorem counted_any (w : World) :
    Calls Tryd.prog 23 #[] w fun e w' => e = .returned (.bool true) ∧ Below w.heap.size w w' := by
  go_enter Tryd.func23, Tryd.ntmps23
  go_wp2_with fail
  refine (trade_good 2 100 (some ⟨w.heap.size, 0, none⟩) 1 1 [0] 0 10 100 3 _ rfl ?_ (by decide)).mono ?_
  · refine .inr ⟨_, _, rfl, fun i hi => ?_⟩
    match i, hi with
    | 0, _ => exact new_cell w _ _ 0 _ rfl
  rintro e W ⟨v, rfl, own, hb⟩
  obtain ⟨g, cap, rfl, hg, hg2⟩ := own_slice own (by decide)
  have RW := hide (own_row own)
  have c1 : W.cell? ⟨g, 0, none⟩ = some (.int .i64 10) := own_cell own (by decide)
  have BW := hide ((below_alloc w _).trans (hb.mono (by simp)))
  clear own hb
  rw [show (100 : Int) - 10 * 100 - 3 = -903 from by decide]
  go_wp2_with fail
  refine (equity_any 2 (-903) (some ⟨g, 0, none⟩) (some ⟨W.heap.size + 1, 0, none⟩) 1 cap 1 1 [10] [101] _ rfl rfl (by decide) (row_below RW.out (below_alloc2 _ _ _)) ?_).mono ?_
  · refine .inr ⟨_, _, rfl, fun i hi => ?_⟩
    match i, hi with
    | 0, _ => exact new_cell2 W _ _ _ 0 _ rfl
  rintro e W2 ⟨rfl, hb2⟩
  rw [show equityR 2 (-903) [10] [101] = (107, 0) by decide]
  have b1 : W2.cell? ⟨W.heap.size, 1, none⟩ = some (.int .i64 (-903)) := (hb2.cell (by simp; omega)).trans (cell_alloc (new_cell W _ _ 1 _ rfl) _)
  have b2 : W2.cell? ⟨W.heap.size, 2, none⟩ = some (.slice (some ⟨g, 0, none⟩) 1 cap) := (hb2.cell (by simp; omega)).trans (cell_alloc (new_cell W _ _ 2 _ rfl) _)
  have b3 : W2.cell? ⟨g, 0, none⟩ = some (.int .i64 10) := (hb2.cell (by simp; omega)).trans (cell_alloc (cell_alloc c1 _) _)
  have B2 := hide (BW.out.trans (((below_alloc2 W _ _).trans (hb2.mono (by simp; omega))).mono BW.out.size))
  clear hb2 c1
  go_wp2_with fail
  refine (fee_any _ _ _).mono ?_
  rintro e W3 ⟨rfl, kk, rfl⟩
  rw [show feeR (-10) 1000 = (5, 0) by decide]
  go_wp2
  go_ret
  exact ⟨rfl, below_drewN B2.out _⟩
end Go.Proofs.YtbphljnncbiddabDoor.Ac
