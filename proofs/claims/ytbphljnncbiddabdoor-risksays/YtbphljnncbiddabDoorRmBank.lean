/-
  Markets by contracts: the price of bankruptcy; the closed fact of chapter 5.
-/
import Derived.Test.YtbphljnncbiddabDoorRmMark
import Derived.Test.YtbphljnncbiddabDoorAc5
namespace Go.Proofs.YtbphljnncbiddabDoor.Rm
open Go.RowKit Go.Proofs.YtbphljnncbiddabDoor.Num Go.Proofs.YtbphljnncbiddabDoor.Fix Go.Proofs.YtbphljnncbiddabDoor.AcP Go.Proofs.YtbphljnncbiddabDoor.RkP Go.Proofs.YtbphljnncbiddabDoor.Ac Go.Proofs.YtbphljnncbiddabDoor.Rk

theorem worths_in : ∀ (ps ms l : List Int), worths ps ms = some l → ∀ i, i < ps.length → i < ms.length → betw (-1000) (ps.getD i 0) 1000 = true ∧ betw 0 (ms.getD i 0) 10000 = true
  | [], _, _, _, i, hi, _ => by simp at hi
  | _ :: _, [], _, _, i, _, hi => by simp at hi
  | p :: ps, m :: ms, l, h, i, h1, h2 => by
    simp only [worths] at h
    split at h
    · rename_i hc
      cases hw : worths ps ms with
      | none => rw [hw] at h; cases h
      | some l' =>
        cases i with
        | zero => simpa using hc
        | succ i => simpa using worths_in ps ms l' hw i (by simpa using h1) (by simpa using h2)
    · cases h
theorem addFrom_money : ∀ (l : List Int) (s n : Int), money s = true → addFrom s l = (n, 0) → money n = true
  | [], s, n, hs, h => by
    simp [addFrom] at h
    rw [← h]
    exact hs
  | x :: l, s, n, hs, h => by
    simp only [addFrom] at h
    split at h
    · split at h
      · rename_i h2
        exact addFrom_money l _ n h2 h
      · simp at h
    · simp at h
theorem equity_facts {id bal : Int} {pos marks : List Int} (h : (equityR id bal pos marks).2 = 0) :
    accErr id bal pos marks.length = 0 ∧ pos.length = marks.length ∧ money (equityR id bal pos marks).1 = true ∧ ∀ i, i < pos.length → betw (-1000) (pos.getD i 0) 1000 = true ∧ betw 0 (marks.getD i 0) 10000 = true := by
  unfold equityR at *
  by_cases he : accErr id bal pos marks.length = 0
  · rw [if_pos he] at h ⊢
    obtain ⟨a1, a2, a3, a4, a5⟩ := accErr_ok he
    have hlen : pos.length = marks.length := by omega
    cases hw : worths pos marks with
    | none => rw [hw] at h; simp at h
    | some l =>
      rw [hw] at h
      simp only [] at h ⊢
      refine ⟨he, hlen, ?_, fun i hi => worths_in pos marks l hw i hi (by omega)⟩
      exact addFrom_money (bal :: l) 0 _ (by decide) (Prod.ext rfl h)
  · rw [if_neg he] at h
    exact absurd h he

set_option maxHeartbeats 2000000 in
set_option maxRecDepth 100000 in
theorem bankrupt_any (id bal : Int) (p p2 : Option Addr) (n c n2 c2 : Nat) (pos marks : List Int) (mk : Int) (w : World) (hl : pos.length = n) (hl2 : marks.length = n2) (hn : n ≤ 140737488351232) (h : Row w p pos) (h' : Row w p2 marks) :
    Calls Tryd.prog 10 #[accV id bal p n c, .slice p2 n2 c2, .int .i64 mk] w fun e w' => e = .returned (.tuple #[.int .i64 (bankR id bal pos marks mk).1, .int .i64 (bankR id bal pos marks mk).2]) ∧ Below w.heap.size w w' := by
  have EQ := hide (fun W hW => equity_any id bal p p2 n c n2 c2 pos marks W hl hl2 hn (row_below h hW) (row_below h' hW))
  unfold bankR
  by_cases he : (equityR id bal pos marks).2 = 0
  · rw [if_pos he]
    obtain ⟨-, f1, f2, f3⟩ := equity_facts he
    obtain ⟨q1, q2⟩ := money_true f2
    clear f2
    generalize equityR id bal pos marks = E at he EQ q1 q2 ⊢
    obtain ⟨eq, r⟩ := E
    simp only [] at he EQ q1 q2 ⊢
    subst he
    by_cases hm : betw 0 mk (pos.length - 1) = true
    · rw [if_pos hm]
      obtain ⟨m1, m2⟩ := betw_true hm
      obtain ⟨k, rfl⟩ : ∃ k : Nat, mk = k := ⟨mk.toNat, by omega⟩
      have hk : k < pos.length := by omega
      obtain ⟨g1, g2⟩ := f3 k hk
      have e1 : ((k : Int)).toNat = k := by omega
      rw [e1]
      clear e1 f3
      rcases h with rfl | ⟨b, off, rfl, hc⟩
      · simp at hk
      rcases h' with rfl | ⟨bb, off2, rfl, hc2⟩
      · rw [f1] at hk; simp at hk
      have c0 := hide (hc k hk)
      have c1 := hide (hc2 k (by omega))
      clear hc hc2
      have hkn : (k : Int) < (n : Int) := by omega
      have hkn2 : (k : Int) < (n2 : Int) := by omega
      have hk0 : ¬ (k : Int) < 0 := by omega
      have hk1 : ¬ (n : Int) ≤ (k : Int) := by omega
      generalize pos.getD k 0 = q at c0 g1 ⊢
      generalize marks.getD k 0 = m at c1 g2 ⊢
      obtain ⟨g3, g4⟩ := betw_true g1
      by_cases hq : q = 0
      · rw [if_pos hq]
        subst hq
        clear hm f1 hl hl2 m1 m2 hk
        let p : Option Addr := some ⟨b, off, none⟩
        go_enter Tryd.func10, Tryd.ntmps10
        go_wp2_with fail
        refine (EQ.out _ (below_alloc w _)).mono ?_
        rintro e W1 ⟨rfl, hb1⟩
        have B1 := hide ((below_alloc w (accO id bal p n c)).trans (hb1.mono (by simp)))
        have b2 := cell_in hb1 (new_cell w _ _ 2 _ rfl) (by simp)
        clear hb1
        have c0' := (B1.out.cell (World.block_lt_of_cell? _ _ c0.out)).trans c0.out
        go_wp2
        go_ret2
        exact ⟨rfl, B1.out⟩
      · rw [if_neg hq]
        have BE := hide (fun W => breakEven_any (eq - q * m) q W hq g3 g4)
        have BT := hide (fun W => between_any 1 (evenR (eq - q * m) q) 10000 W)
        have hb := mul_bd (n := q) (a := m) (by omega) (by have := betw_true g2; omega)
        obtain ⟨z1, z2⟩ := hb
        have z3 : -10000000 ≤ q * m ∧ q * m ≤ 10000000 := by
          have := worth_bd g1 g2
          have h3 : max q (-q) * m = q * m ∨ max q (-q) * m = -(q * m) := by
            by_cases hs : 0 ≤ q
            · left; rw [show max q (-q) = q by omega]
            · right; rw [show max q (-q) = -q by omega, Int.neg_mul]
          omega
        obtain ⟨z3, z4⟩ := z3
        clear hm f1 hl hl2 m1 m2 hk g1 g2 z1 z2
        generalize evenR (eq - q * m) q = T at BE BT ⊢
        generalize middleR 1 T 10000 = T2 at BT ⊢
        let p : Option Addr := some ⟨b, off, none⟩
        go_enter Tryd.func10, Tryd.ntmps10
        go_wp2_with fail
        refine (EQ.out _ (below_alloc w _)).mono ?_
        rintro e W1 ⟨rfl, hb1⟩
        have B1 := hide ((below_alloc w (accO id bal p n c)).trans (hb1.mono (by simp)))
        have b2 := cell_in hb1 (new_cell w _ _ 2 _ rfl) (by simp)
        clear hb1
        have c0' := (B1.out.cell (World.block_lt_of_cell? _ _ c0.out)).trans c0.out
        have c1' := (B1.out.cell (World.block_lt_of_cell? _ _ c1.out)).trans c1.out
        go_wp2_with fail
        refine (BE.out _).mono ?_
        rintro e W2 ⟨rfl, k2, rfl⟩
        go_wp2_with fail
        refine (BT.out _).mono ?_
        rintro e W2 ⟨rfl, rfl⟩
        go_wp2
        go_ret2
        exact ⟨rfl, below_drewN B1.out _⟩
    · rw [if_neg hm]
      have hm' : betw 0 mk ((pos.length : Int) - 1) = false := by
        cases e : betw 0 mk ((pos.length : Int) - 1)
        · rfl
        · exact absurd e hm
      have hm2 := betw_false hm'
      clear hm hm' h h' f3
      by_cases h0 : mk < 0
      · go_enter Tryd.func10, Tryd.ntmps10
        go_wp2_with fail
        refine (EQ.out _ (below_alloc w _)).mono ?_
        rintro e W1 ⟨rfl, hb1⟩
        have B1 := hide ((below_alloc w (accO id bal p n c)).trans (hb1.mono (by simp)))
        have b2 := cell_in hb1 (new_cell w _ _ 2 _ rfl) (by simp)
        clear hb1
        go_wp2
        go_ret2
        exact ⟨rfl, B1.out⟩
      · have h1 : (n : Int) ≤ mk := by omega
        go_enter Tryd.func10, Tryd.ntmps10
        go_wp2_with fail
        refine (EQ.out _ (below_alloc w _)).mono ?_
        rintro e W1 ⟨rfl, hb1⟩
        have B1 := hide ((below_alloc w (accO id bal p n c)).trans (hb1.mono (by simp)))
        have b2 := cell_in hb1 (new_cell w _ _ 2 _ rfl) (by simp)
        clear hb1
        go_wp2
        go_ret2
        exact ⟨rfl, B1.out⟩
  · rw [if_neg he]
    generalize equityR id bal pos marks = E at he EQ ⊢
    obtain ⟨eq, r⟩ := E
    simp only [] at he EQ ⊢
    clear h h'
    go_enter Tryd.func10, Tryd.ntmps10
    go_wp2_with fail
    refine (EQ.out _ (below_alloc w _)).mono ?_
    rintro e W1 ⟨rfl, hb1⟩
    have B1 := hide ((below_alloc w (accO id bal p n c)).trans (hb1.mono (by simp)))
    have b2 := cell_in hb1 (new_cell w _ _ 2 _ rfl) (by simp)
    clear hb1
    go_wp2
    go_ret2
    exact ⟨rfl, B1.out⟩

theorem row_one (w : World) (o : Obj) (x : Int) : Row ((w.alloc (.cells #[.int .i64 x] 3)).alloc o) (some ⟨w.heap.size, 0, none⟩) [x] := by
  refine .inr ⟨_, _, rfl, fun i hi => ?_⟩
  match i, hi with
  | 0, _ => exact cell_alloc (new_cell w _ _ 0 _ rfl) _
theorem row_last (w : World) (x : Int) : Row (w.alloc (.cells #[.int .i64 x] 3)) (some ⟨w.heap.size, 0, none⟩) [x] := by
  refine .inr ⟨_, _, rfl, fun i hi => ?_⟩
  match i, hi with
  | 0, _ => exact new_cell w _ _ 0 _ rfl

set_option maxHeartbeats 2000000 in
set_option maxRecDepth 100000 in
theorem weighed_any (w : World) (hL : Laid w) :
    Calls Tryd.prog 15 #[] w fun e w' => e = .returned (.bool true) ∧ Below w.heap.size w w' := by
  have LA := hide hL
  clear hL
  go_enter Tryd.func15, Tryd.ntmps15
  go_wp2_with fail
  have R0 := hide (row_one w (accO 0 (-900) (some ⟨w.heap.size, 0, none⟩) 1 1) 10)
  have B0 := hide (below_alloc2 w (.cells #[.int .i64 10] 3) (accO 0 (-900) (some ⟨w.heap.size, 0, none⟩) 1 1))
  have b0 : ((w.alloc (.cells #[.int .i64 10] 3)).alloc (accO 0 (-900) (some ⟨w.heap.size, 0, none⟩) 1 1)).cell? ⟨w.heap.size + 1, 0, none⟩ = some (.int .i64 0) := new_cell2 w _ _ _ 0 _ rfl
  have b1 : ((w.alloc (.cells #[.int .i64 10] 3)).alloc (accO 0 (-900) (some ⟨w.heap.size, 0, none⟩) 1 1)).cell? ⟨w.heap.size + 1, 1, none⟩ = some (.int .i64 (-900)) := new_cell2 w _ _ _ 1 _ rfl
  have b2 : ((w.alloc (.cells #[.int .i64 10] 3)).alloc (accO 0 (-900) (some ⟨w.heap.size, 0, none⟩) 1 1)).cell? ⟨w.heap.size + 1, 2, none⟩ = some (.slice (some ⟨w.heap.size, 0, none⟩) 1 1) := new_cell2 w _ _ _ 2 _ rfl
  have hsz : ((w.alloc (.cells #[.int .i64 10] 3)).alloc (accO 0 (-900) (some ⟨w.heap.size, 0, none⟩) 1 1)).heap.size = w.heap.size + 1 + 1 := by simp
  generalize ((w.alloc (.cells #[.int .i64 10] 3)).alloc (accO 0 (-900) (some ⟨w.heap.size, 0, none⟩) 1 1)) = W0 at R0 B0 b0 b1 b2 hsz ⊢
  rw [← hsz]
  refine (margins_any 0 (-900) (some ⟨w.heap.size, 0, none⟩) (some ⟨W0.heap.size, 0, none⟩) 1 1 1 1 [10] [100] _ rfl rfl (by decide) (LA.out.next (B0.out.alloc B0.out.size _)) (row_below R0.out (below_alloc W0 _)) (row_last W0 100)).mono ?_
  rw [show marginsR 0 (-900) [10] [100] = (100, 50, 0) by decide]
  rintro e W1 ⟨rfl, hb1⟩
  have B1 := hide ((B0.out.alloc B0.out.size (.cells #[.int .i64 100] 3)).trans (hb1.mono (Nat.le_trans B0.out.size (by simp))))
  have R1 := hide (row_below (row_below R0.out (below_alloc W0 (.cells #[.int .i64 100] 3))) hb1)
  have b0 := cell_in hb1 (cell_alloc b0 (.cells #[.int .i64 100] 3)) (Nat.lt_of_lt_of_le (World.block_lt_of_cell? _ _ b0) (by simp))
  have b1 := cell_in hb1 (cell_alloc b1 (.cells #[.int .i64 100] 3)) (Nat.lt_of_lt_of_le (World.block_lt_of_cell? _ _ b1) (by simp))
  have b2 := cell_in hb1 (cell_alloc b2 (.cells #[.int .i64 100] 3)) (Nat.lt_of_lt_of_le (World.block_lt_of_cell? _ _ b2) (by simp))
  clear hb1
  go_wp2_with fail
  refine (sound_any 0 (-900) (some ⟨w.heap.size, 0, none⟩) (some ⟨W1.heap.size, 0, none⟩) 1 1 1 1 [10] [100] _ rfl rfl (by decide) (LA.out.next (B1.out.alloc B1.out.size _)) (row_below R1.out (below_alloc W1 _)) (row_last W1 100)).mono ?_
  rw [show soundR 0 (-900) [10] [100] = (true, true, 0) by decide]
  rintro e W2 ⟨rfl, hb2⟩
  have B2 := hide ((B1.out.alloc B1.out.size (.cells #[.int .i64 100] 3)).trans (hb2.mono (Nat.le_trans B1.out.size (by simp))))
  have R2 := hide (row_below (row_below R1.out (below_alloc W1 (.cells #[.int .i64 100] 3))) hb2)
  have b0 := cell_in hb2 (cell_alloc b0 (.cells #[.int .i64 100] 3)) (Nat.lt_of_lt_of_le (World.block_lt_of_cell? _ _ b0) (by simp))
  have b1 := cell_in hb2 (cell_alloc b1 (.cells #[.int .i64 100] 3)) (Nat.lt_of_lt_of_le (World.block_lt_of_cell? _ _ b1) (by simp))
  have b2 := cell_in hb2 (cell_alloc b2 (.cells #[.int .i64 100] 3)) (Nat.lt_of_lt_of_le (World.block_lt_of_cell? _ _ b2) (by simp))
  clear hb2
  go_wp2_with fail
  refine (bankrupt_any 0 (-900) (some ⟨w.heap.size, 0, none⟩) (some ⟨W2.heap.size, 0, none⟩) 1 1 1 1 [10] [100] 0 _ rfl rfl (by decide) (row_below R2.out (below_alloc W2 _)) (row_last W2 100)).mono ?_
  rw [show bankR 0 (-900) [10] [100] 0 = (90, 0) by decide]
  rintro e W3 ⟨rfl, hb3⟩
  have B3 := hide ((B2.out.alloc B2.out.size (.cells #[.int .i64 100] 3)).trans (hb3.mono (Nat.le_trans B2.out.size (by simp))))
  have R3 := hide (row_below (row_below R2.out (below_alloc W2 (.cells #[.int .i64 100] 3))) hb3)
  have b0 := cell_in hb3 (cell_alloc b0 (.cells #[.int .i64 100] 3)) (Nat.lt_of_lt_of_le (World.block_lt_of_cell? _ _ b0) (by simp))
  have b1 := cell_in hb3 (cell_alloc b1 (.cells #[.int .i64 100] 3)) (Nat.lt_of_lt_of_le (World.block_lt_of_cell? _ _ b1) (by simp))
  have b2 := cell_in hb3 (cell_alloc b2 (.cells #[.int .i64 100] 3)) (Nat.lt_of_lt_of_le (World.block_lt_of_cell? _ _ b2) (by simp))
  clear hb3
  clear b0 b1 b2
  go_wp2_with fail
  refine (mark_any none none 0 0 [] [] 100 200 _ (.inl rfl) (.inl rfl) (by decide) (by decide)).mono ?_
  rw [show markR [] [] 100 200 = (100, 0) by decide]
  rintro e W4 ⟨rfl, hb4⟩
  go_wp2
  go_ret
  exact ⟨rfl, B3.out.trans (hb4.mono B3.out.size)⟩
end Go.Proofs.YtbphljnncbiddabDoor.Rm
