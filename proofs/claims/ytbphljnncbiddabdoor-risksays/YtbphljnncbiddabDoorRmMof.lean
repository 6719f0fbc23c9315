/-
  The reference's MarksOf by a contract.
-/
import Derived.Test.YtbphljnncbiddabDoorRmMarks
import Derived.Test.YtbphljnncbiddabDoorRmRef
namespace Go.Proofs.YtbphljnncbiddabDoor.Rm
open Go.RowKit Go.Proofs.YtbphljnncbiddabDoor.Num Go.Proofs.YtbphljnncbiddabDoor.Fix Go.Proofs.YtbphljnncbiddabDoor.Ac Go.Proofs.YtbphljnncbiddabDoor.Rk

set_option maxHeartbeats 4000000 in
set_option maxRecDepth 100000 in
theorem refMarks_1 (b off c : Nat) (ms : List Mkt) (w : World) (hl : ms.length = 1) (h : MRow w (some ⟨b, off, none⟩) ms) :
    Calls Tryd.prog 11 #[.slice (some ⟨b, off, none⟩) 1 c] w fun e w' => ∃ v, e = .returned (.tuple #[v, .int .i64 (marksFrom [] ms).2]) ∧ w'.ownsRow w.heap.size 3 1 v (marksFrom [] ms).1.length ((marksFrom [] ms).1.map (Value.int .i64)) ∧ Below w.heap.size w w' := by
  obtain ⟨i0, hi, hz0, hz1, hz2⟩ := info_parts (show (Tryd.prog.info? 3).map (fun i => (i.zero, i.size, i.bytes)) = some (some (.int .i64 0), 1, 8) by kernel_rfl)
  generalize hT : marksFrom [] ms = T
  have T0 : Hid (marksFrom [] (ms.drop 0) = T) := hT
  have HL := hide hl
  have HC : Hid (∀ j, j < ms.length → ∀ i v, (mCells ms[j]!)[i]? = some v → w.cell? ⟨b, off + j * 4 + i, none⟩ = some v) := by
    rcases h.1 with e | ⟨b', off', e, hc⟩
    · rw [e] at hl; simp at hl
    · cases e; exact hc
  have HO := hide h.2
  clear h hT hl
  go_enter Tryd.func11, Tryd.ntmps11
  go_wp2
  go_loopw [4, 18] (fun v i wr => ∃ (k : Nat) (L : List Int), k ≤ 1 ∧ i = .int .i64 k ∧ Hid (L.length = k) ∧ Hid (wr.ownsRow w.heap.size 3 1 v k (L.map (Value.int .i64))) ∧ Hid (Below w.heap.size w wr) ∧ Hid (marksFrom L (ms.drop k) = T)) (fun _ i _ => 1 - (intOf i).toNat)
  case atStart =>
    exact ⟨0, [], Nat.zero_le _, rfl, rfl, World.ownsRow_nil _ _ _ _, Below.refl _ _, T0⟩
  case round =>
    obtain ⟨k, L, hk, rfl, LL, OW, BW, R⟩ := hrel
    by_cases hlt : k < 1
    · have hltz : (k : Int) < (1 : Int) := by omega
      have hkx : k < ms.length := by rw [HL.out]; exact hlt
      have hm := mOk_below (HO.out k hkx) BW.out
      have hc := HC.out k hkx
      have RR := R.out
      rw [drop_mkt ms k hkx] at RR
      generalize ms[k]! = m at hm hc RR
      obtain ⟨⟨p, cb, bids⟩, ⟨p', ca, asks⟩, idx, last⟩ := m
      obtain ⟨o1, o2, o3, o4⟩ := hm
      simp only [] at o1 o2 o3 o4
      have c0 := (BW.out.cell (World.block_lt_of_cell? _ _ (hc 0 _ rfl))).trans (hc 0 _ rfl)
      have c1 := (BW.out.cell (World.block_lt_of_cell? _ _ (hc 1 _ rfl))).trans (hc 1 _ rfl)
      have c2 := (BW.out.cell (World.block_lt_of_cell? _ _ (hc 2 _ rfl))).trans (hc 2 _ rfl)
      have c3 := (BW.out.cell (World.block_lt_of_cell? _ _ (hc 3 _ rfl))).trans (hc 3 _ rfl)
      simp only [mB, mA, mI, mL, Nat.add_zero] at c0 c1 c2 c3
      have CK := hide (fun W hW => refCheckMarket_any p p' cb ca bids asks idx last W (Bk.orow_below o1 hW) (Bk.orow_below o2 hW) o3 o4)
      have R' := hide RR
      have e0 : mMark ((p, cb, bids), (p', ca, asks), idx, last) = markR bids asks idx last := rfl
      simp only [marksFrom, e0] at R'
      clear e0 RR R T0 hc
      by_cases hme : marketErr bids asks idx last = 0
      · have MO := hide (fun W hW => refMarkOf_any p p' cb ca bids asks idx last W (Bk.orow_below o1 hW) (Bk.orow_below o2 hW) hme)
        have e1 : markR bids asks idx last = (markOf (Bk.firstPrice bids) (Bk.firstPrice asks) idx last, 0) := by unfold markR; rw [if_pos hme]
        rw [hme] at CK
        rw [e1, if_pos rfl] at R'
        clear o1 o2 o3 o4 hme e1
        simp only [] at R'
        generalize markOf (Bk.firstPrice bids) (Bk.firstPrice asks) idx last = mv at MO R'
        generalize bids.length = nb at CK MO c0
        generalize asks.length = na at CK MO c1
        go_wp2_with fail
        refine (CK.out _ (below_alloc wr _)).mono ?_
        rintro e W0 ⟨rfl, hb0⟩
        have B0 := hide ((below_alloc wr (mktO p p' nb cb na ca idx last)).trans (hb0.mono (by simp)))
        have q0 : W0.cell? ⟨wr.heap.size, 0, none⟩ = some (.slice p nb cb) := (hb0.cell (by simp)).trans (Ac.new_cell _ _ _ _ _ rfl)
        have q1 : W0.cell? ⟨wr.heap.size, 1, none⟩ = some (.slice p' na ca) := (hb0.cell (by simp)).trans (Ac.new_cell _ _ _ _ _ rfl)
        have q2 : W0.cell? ⟨wr.heap.size, 2, none⟩ = some (.int .i64 idx) := (hb0.cell (by simp)).trans (Ac.new_cell _ _ _ _ _ rfl)
        have q3 : W0.cell? ⟨wr.heap.size, 3, none⟩ = some (.int .i64 last) := (hb0.cell (by simp)).trans (Ac.new_cell _ _ _ _ _ rfl)
        clear hb0
        go_wp2_with fail
        refine (MO.out _ B0.out).mono ?_
        rintro e W1 ⟨rfl, hb1⟩
        have BB := hide (B0.out.trans (hb1.mono B0.out.size))
        have O1 := hide (own_under OW.out BB.out)
        have B1 := hide (BW.out.trans (BB.out.mono BW.out.size))
        have NW := hide (one_new W1 mv)
        have SZ1 : Hid (w.heap.size ≤ (W1.alloc (.cells #[.int .i64 mv] 3)).heap.size) := by
          have := B1.out.size
          show _ ≤ _
          simp
          omega
        clear hb1 q0 q1 q2 q3
        go_wp2_with (first | (at_builtin; refine wpList_append_own _ rfl (.tmp 27) (.tmp 30) 23 rfl w.heap.size 3 i0 (.int .i64 0) 1 8 Tryd.underlying23 hi hz0 hz1 hz2 rfl (by decide) u4 k (L.map (Value.int .i64)) rfl (O1.out.alloc _) ⟨W1.heap.size, 0, none⟩ 1 1 [.int .i64 mv] rfl rfl NW.out (Ac.one_cell _) (by unfold maxLen; omega) (by omega) SZ1.out ?_; intro v' w1 hown1 hgrow1 hnil1; clear hnil1))
        have B2 := ((B1.out.alloc B1.out.size (.cells #[.int .i64 mv] 3)).grown hgrow1 (by have := B1.out.size; simp; omega) (fun j hj => by have := (O1.out.lt _ hj).1; omega))
        go_roundw
        case rel =>
          refine ⟨k + 1, L ++ [mv], by omega, by go_num, ?_, ?_, B2, R'⟩
          · show _ = _
            rw [List.length_append, LL.out]
            rfl
          · show World.ownsRow _ _ _ _ _ _ _
            rw [List.map_append]
            exact hown1
        case measure => simp [intOf]; omega
      · have e1 : markR bids asks idx last = (0, marketErr bids asks idx last) := by unfold markR; rw [if_neg hme]
        rw [e1, if_neg hme] at R'
        simp only [] at R'
        clear o1 o2 o3 o4 e1
        generalize marketErr bids asks idx last = me at CK R' hme
        generalize bids.length = nb at CK c0
        generalize asks.length = na at CK c1
        go_wp2_with fail
        refine (CK.out _ (below_alloc wr _)).mono ?_
        rintro e W1 ⟨rfl, hb1⟩
        go_wp2
        refine bodyPost_ret (v := .tuple #[.slice none 0 0, .int .i64 me]) (by simp [results, Tryd.results11, go_sem]) rfl ?_
        refine ⟨_, by rw [← R'.out], by rw [← R'.out]; exact World.ownsRow_nil _ _ _ _, ?_⟩
        exact (BW.out.alloc BW.out.size _).trans (hb1.mono (Nat.le_trans BW.out.size (by simp)))
    · have hkn : k = 1 := by omega
      subst hkn
      have ON : Hid ((L, 0) = T) := by
        have := R.out
        rw [List.drop_eq_nil_of_le (by have := HL.out; omega)] at this
        exact this
      clear R T0
      go_wp2
      refine bodyPost_ret (v := .tuple #[_, .int .i64 0]) (by simp [results, Tryd.results11, go_sem]; rfl) rfl ?_
      rw [← ON.out]
      exact ⟨_, rfl, by rw [LL.out]; exact OW.out, BW.out⟩
set_option maxHeartbeats 4000000 in
set_option maxRecDepth 100000 in
theorem refMarks_2 (b off c : Nat) (ms : List Mkt) (w : World) (hl : ms.length = 2) (h : MRow w (some ⟨b, off, none⟩) ms) :
    Calls Tryd.prog 11 #[.slice (some ⟨b, off, none⟩) 2 c] w fun e w' => ∃ v, e = .returned (.tuple #[v, .int .i64 (marksFrom [] ms).2]) ∧ w'.ownsRow w.heap.size 3 1 v (marksFrom [] ms).1.length ((marksFrom [] ms).1.map (Value.int .i64)) ∧ Below w.heap.size w w' := by
  obtain ⟨i0, hi, hz0, hz1, hz2⟩ := info_parts (show (Tryd.prog.info? 3).map (fun i => (i.zero, i.size, i.bytes)) = some (some (.int .i64 0), 1, 8) by kernel_rfl)
  generalize hT : marksFrom [] ms = T
  have T0 : Hid (marksFrom [] (ms.drop 0) = T) := hT
  have HL := hide hl
  have HC : Hid (∀ j, j < ms.length → ∀ i v, (mCells ms[j]!)[i]? = some v → w.cell? ⟨b, off + j * 4 + i, none⟩ = some v) := by
    rcases h.1 with e | ⟨b', off', e, hc⟩
    · rw [e] at hl; simp at hl
    · cases e; exact hc
  have HO := hide h.2
  clear h hT hl
  go_enter Tryd.func11, Tryd.ntmps11
  go_wp2
  go_loopw [4, 18] (fun v i wr => ∃ (k : Nat) (L : List Int), k ≤ 2 ∧ i = .int .i64 k ∧ Hid (L.length = k) ∧ Hid (wr.ownsRow w.heap.size 3 1 v k (L.map (Value.int .i64))) ∧ Hid (Below w.heap.size w wr) ∧ Hid (marksFrom L (ms.drop k) = T)) (fun _ i _ => 2 - (intOf i).toNat)
  case atStart =>
    exact ⟨0, [], Nat.zero_le _, rfl, rfl, World.ownsRow_nil _ _ _ _, Below.refl _ _, T0⟩
  case round =>
    obtain ⟨k, L, hk, rfl, LL, OW, BW, R⟩ := hrel
    by_cases hlt : k < 2
    · have hltz : (k : Int) < (2 : Int) := by omega
      have hkx : k < ms.length := by rw [HL.out]; exact hlt
      have hm := mOk_below (HO.out k hkx) BW.out
      have hc := HC.out k hkx
      have RR := R.out
      rw [drop_mkt ms k hkx] at RR
      generalize ms[k]! = m at hm hc RR
      obtain ⟨⟨p, cb, bids⟩, ⟨p', ca, asks⟩, idx, last⟩ := m
      obtain ⟨o1, o2, o3, o4⟩ := hm
      simp only [] at o1 o2 o3 o4
      have c0 := (BW.out.cell (World.block_lt_of_cell? _ _ (hc 0 _ rfl))).trans (hc 0 _ rfl)
      have c1 := (BW.out.cell (World.block_lt_of_cell? _ _ (hc 1 _ rfl))).trans (hc 1 _ rfl)
      have c2 := (BW.out.cell (World.block_lt_of_cell? _ _ (hc 2 _ rfl))).trans (hc 2 _ rfl)
      have c3 := (BW.out.cell (World.block_lt_of_cell? _ _ (hc 3 _ rfl))).trans (hc 3 _ rfl)
      simp only [mB, mA, mI, mL, Nat.add_zero] at c0 c1 c2 c3
      have CK := hide (fun W hW => refCheckMarket_any p p' cb ca bids asks idx last W (Bk.orow_below o1 hW) (Bk.orow_below o2 hW) o3 o4)
      have R' := hide RR
      have e0 : mMark ((p, cb, bids), (p', ca, asks), idx, last) = markR bids asks idx last := rfl
      simp only [marksFrom, e0] at R'
      clear e0 RR R T0 hc
      by_cases hme : marketErr bids asks idx last = 0
      · have MO := hide (fun W hW => refMarkOf_any p p' cb ca bids asks idx last W (Bk.orow_below o1 hW) (Bk.orow_below o2 hW) hme)
        have e1 : markR bids asks idx last = (markOf (Bk.firstPrice bids) (Bk.firstPrice asks) idx last, 0) := by unfold markR; rw [if_pos hme]
        rw [hme] at CK
        rw [e1, if_pos rfl] at R'
        clear o1 o2 o3 o4 hme e1
        simp only [] at R'
        generalize markOf (Bk.firstPrice bids) (Bk.firstPrice asks) idx last = mv at MO R'
        generalize bids.length = nb at CK MO c0
        generalize asks.length = na at CK MO c1
        go_wp2_with fail
        refine (CK.out _ (below_alloc wr _)).mono ?_
        rintro e W0 ⟨rfl, hb0⟩
        have B0 := hide ((below_alloc wr (mktO p p' nb cb na ca idx last)).trans (hb0.mono (by simp)))
        have q0 : W0.cell? ⟨wr.heap.size, 0, none⟩ = some (.slice p nb cb) := (hb0.cell (by simp)).trans (Ac.new_cell _ _ _ _ _ rfl)
        have q1 : W0.cell? ⟨wr.heap.size, 1, none⟩ = some (.slice p' na ca) := (hb0.cell (by simp)).trans (Ac.new_cell _ _ _ _ _ rfl)
        have q2 : W0.cell? ⟨wr.heap.size, 2, none⟩ = some (.int .i64 idx) := (hb0.cell (by simp)).trans (Ac.new_cell _ _ _ _ _ rfl)
        have q3 : W0.cell? ⟨wr.heap.size, 3, none⟩ = some (.int .i64 last) := (hb0.cell (by simp)).trans (Ac.new_cell _ _ _ _ _ rfl)
        clear hb0
        go_wp2_with fail
        refine (MO.out _ B0.out).mono ?_
        rintro e W1 ⟨rfl, hb1⟩
        have BB := hide (B0.out.trans (hb1.mono B0.out.size))
        have O1 := hide (own_under OW.out BB.out)
        have B1 := hide (BW.out.trans (BB.out.mono BW.out.size))
        have NW := hide (one_new W1 mv)
        have SZ1 : Hid (w.heap.size ≤ (W1.alloc (.cells #[.int .i64 mv] 3)).heap.size) := by
          have := B1.out.size
          show _ ≤ _
          simp
          omega
        clear hb1 q0 q1 q2 q3
        go_wp2_with (first | (at_builtin; refine wpList_append_own _ rfl (.tmp 27) (.tmp 30) 23 rfl w.heap.size 3 i0 (.int .i64 0) 1 8 Tryd.underlying23 hi hz0 hz1 hz2 rfl (by decide) u4 k (L.map (Value.int .i64)) rfl (O1.out.alloc _) ⟨W1.heap.size, 0, none⟩ 1 1 [.int .i64 mv] rfl rfl NW.out (Ac.one_cell _) (by unfold maxLen; omega) (by omega) SZ1.out ?_; intro v' w1 hown1 hgrow1 hnil1; clear hnil1))
        have B2 := ((B1.out.alloc B1.out.size (.cells #[.int .i64 mv] 3)).grown hgrow1 (by have := B1.out.size; simp; omega) (fun j hj => by have := (O1.out.lt _ hj).1; omega))
        go_roundw
        case rel =>
          refine ⟨k + 1, L ++ [mv], by omega, by go_num, ?_, ?_, B2, R'⟩
          · show _ = _
            rw [List.length_append, LL.out]
            rfl
          · show World.ownsRow _ _ _ _ _ _ _
            rw [List.map_append]
            exact hown1
        case measure => simp [intOf]; omega
      · have e1 : markR bids asks idx last = (0, marketErr bids asks idx last) := by unfold markR; rw [if_neg hme]
        rw [e1, if_neg hme] at R'
        simp only [] at R'
        clear o1 o2 o3 o4 e1
        generalize marketErr bids asks idx last = me at CK R' hme
        generalize bids.length = nb at CK c0
        generalize asks.length = na at CK c1
        go_wp2_with fail
        refine (CK.out _ (below_alloc wr _)).mono ?_
        rintro e W1 ⟨rfl, hb1⟩
        go_wp2
        refine bodyPost_ret (v := .tuple #[.slice none 0 0, .int .i64 me]) (by simp [results, Tryd.results11, go_sem]) rfl ?_
        refine ⟨_, by rw [← R'.out], by rw [← R'.out]; exact World.ownsRow_nil _ _ _ _, ?_⟩
        exact (BW.out.alloc BW.out.size _).trans (hb1.mono (Nat.le_trans BW.out.size (by simp)))
    · have hkn : k = 2 := by omega
      subst hkn
      have ON : Hid ((L, 0) = T) := by
        have := R.out
        rw [List.drop_eq_nil_of_le (by have := HL.out; omega)] at this
        exact this
      clear R T0
      go_wp2
      refine bodyPost_ret (v := .tuple #[_, .int .i64 0]) (by simp [results, Tryd.results11, go_sem]; rfl) rfl ?_
      rw [← ON.out]
      exact ⟨_, rfl, by rw [LL.out]; exact OW.out, BW.out⟩

set_option maxHeartbeats 1000000 in
set_option maxRecDepth 100000 in
theorem refMarks_any (p : Option Addr) (n c : Nat) (ms : List Mkt) (w : World) (hl : ms.length = n) (h : MRow w p ms) :
    Calls Tryd.prog 11 #[.slice p n c] w fun e w' => ∃ v, e = .returned (.tuple #[v, .int .i64 (marksR ms).2]) ∧ w'.ownsRow w.heap.size 3 1 v (marksR ms).1.length ((marksR ms).1.map (Value.int .i64)) ∧ Below w.heap.size w w' := by
  unfold marksR
  by_cases hn : 1 ≤ ms.length ∧ ms.length ≤ 2
  · rw [if_pos hn]
    have h' := h
    rcases h'.1 with e | ⟨b, off, rfl, -⟩
    · rw [e] at hn; simp at hn
    · by_cases h1 : n = 1
      · subst h1
        exact refMarks_1 b off c ms w hl h
      · obtain rfl : n = 2 := by omega
        exact refMarks_2 b off c ms w hl h
  · rw [if_neg hn]
    have h1 : ¬ (n : Int) = 1 := by omega
    have h2 : ¬ (n : Int) = 2 := by omega
    have h3 : ((n : Int) != 1) = true := by simp [h1]
    have h4 : ((n : Int) != 2) = true := by simp [h2]
    clear h hl hn
    go_enter Tryd.func11, Tryd.ntmps11
    go_wp2
    refine bodyPost_ret (v := .tuple #[.slice none 0 0, .int .i64 2]) (by simp [results, Tryd.results11, go_sem]) rfl ?_
    exact ⟨_, rfl, World.ownsRow_nil _ _ _ _, Below.refl _ _⟩
end Go.Proofs.YtbphljnncbiddabDoor.Rm
