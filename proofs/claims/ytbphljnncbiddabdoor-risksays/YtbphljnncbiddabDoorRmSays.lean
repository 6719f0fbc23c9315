/-
  RiskSays, walked.
-/
import Derived.Test.YtbphljnncbiddabDoorRmMof
import Derived.Test.YtbphljnncbiddabDoorRefR2
import Derived.Test.YtbphljnncbiddabDoorAc6
namespace Go.Proofs.YtbphljnncbiddabDoor.Rm
open Go.RowKit Go.Proofs.YtbphljnncbiddabDoor.Num Go.Proofs.YtbphljnncbiddabDoor.Fix Go.Proofs.YtbphljnncbiddabDoor.AcP Go.Proofs.YtbphljnncbiddabDoor.RkP Go.Proofs.YtbphljnncbiddabDoor.Ac Go.Proofs.YtbphljnncbiddabDoor.Rk

theorem marksFrom_few : ∀ (ms : List Mkt) (L : List Int), (marksFrom L ms).1.length ≤ L.length + ms.length
  | [], L => by simp [marksFrom]
  | m :: r, L => by
    rw [marksFrom]
    split
    · have := marksFrom_few r (L ++ [(mMark m).1])
      simp at this ⊢
      omega
    · simp
theorem marks_few (ms : List Mkt) : (marksR ms).1.length ≤ 1000 := by
  unfold marksR
  split
  · rename_i h
    have := marksFrom_few ms []
    simp at this
    omega
  · simp

set_option maxHeartbeats 4000000 in
set_option maxRecDepth 100000 in
theorem says_any (p : Option Addr) (n c : Nat) (ms : List Mkt) (id bal : Int) (pp : Option Addr) (n1 c1 : Nat) (pos : List Int) (p2 : Option Addr) (n2 c2 : Nat) (marks : List Int) (mk : Int) (w : World)
    (hl : ms.length = n) (hn : n ≤ 140737488351232) (hl1 : pos.length = n1) (hn1 : n1 ≤ 140737488351232) (hl2 : marks.length = n2) (hL : Laid w) (h : MRow w p ms) (h1 : Row w pp pos) (h2 : Row w p2 marks) :
    Calls Tryd.prog 3 #[.slice p n c, accV id bal pp n1 c1, .slice p2 n2 c2, .int .i64 mk] w fun e w' => e = .returned (.bool true) ∧ Below w.heap.size w w' := by
  have MA := hide (fun W (hW : Below w.heap.size w W) => marks_any p n c ms W hl (mRow_below h hW))
  have MAR := hide (fun W (hW : Below w.heap.size w W) => margins_any id bal pp p2 n1 c1 n2 c2 pos marks W hl1 hl2 hn1 (hL.next hW) (row_below h1 hW) (row_below h2 hW))
  have SO := hide (fun W (hW : Below w.heap.size w W) => sound_any id bal pp p2 n1 c1 n2 c2 pos marks W hl1 hl2 hn1 (hL.next hW) (row_below h1 hW) (row_below h2 hW))
  have BA := hide (fun W (hW : Below w.heap.size w W) => bankrupt_any id bal pp p2 n1 c1 n2 c2 pos marks mk W hl1 hl2 hn1 (row_below h1 hW) (row_below h2 hW))
  have MO := hide (fun W (hW : Below w.heap.size w W) => refMarks_any p n c ms W hl (mRow_below h hW))
  have MARO := hide (fun W (hW : Below w.heap.size w W) => refMargins_any id bal pp p2 n1 c1 n2 c2 pos marks W hl1 hl2 (row_below h1 hW) (row_below h2 hW))
  have SOO := hide (fun W (hW : Below w.heap.size w W) => refSound_any id bal pp p2 n1 c1 n2 c2 pos marks W hl1 hl2 (row_below h1 hW) (row_below h2 hW))
  have BAO := hide (fun W (hW : Below w.heap.size w W) => refBankrupt_any id bal pp p2 n1 c1 n2 c2 pos marks mk W hl1 hl2 (row_below h1 hW) (row_below h2 hW))
  have WE := hide (fun W (hW : Below w.heap.size w W) => weighed_any W (hL.next hW))
  have few : (marksR ms).1.length ≤ 1000 := marks_few ms
  have H := hide h
  have HL := hide hl
  clear h h1 h2 hL hl hl1 hl2
  generalize marksR ms = T at MA MO few
  obtain ⟨Y, ye⟩ := T
  generalize marginsR id bal pos marks = T at MAR MARO
  obtain ⟨mx, my, me⟩ := T
  generalize soundR id bal pos marks = T at SO SOO
  obtain ⟨sx, sy, se⟩ := T
  generalize bankR id bal pos marks mk = T at BA BAO
  obtain ⟨bx, be⟩ := T
  dsimp only at MA MO MAR MARO SO SOO BA BAO few
  go_enter Tryd.func3, Tryd.ntmps3
  go_wp2_with fail
  refine (MA.out _ (below_alloc w _)).mono ?_
  rintro e W1 ⟨v, rfl, own, hb⟩
  have BW := hide ((below_alloc w (accO id bal pp n1 c1)).trans (hb.mono (by simp)))
  have OM := hide own
  have b0 : W1.cell? ⟨w.heap.size, 0, none⟩ = some (.int .i64 id) := (hb.cell (by simp)).trans (Ac.new_cell w _ _ 0 _ rfl)
  have b1 : W1.cell? ⟨w.heap.size, 1, none⟩ = some (.int .i64 bal) := (hb.cell (by simp)).trans (Ac.new_cell w _ _ 1 _ rfl)
  have b2 : W1.cell? ⟨w.heap.size, 2, none⟩ = some (.slice pp n1 c1) := (hb.cell (by simp)).trans (Ac.new_cell w _ _ 2 _ rfl)
  clear own hb
  go_wp2_with fail
  refine (MAR.out _ BW.out).mono ?_
  rintro e W2 ⟨rfl, hb⟩
  have BW := hide (BW.out.trans (hb.mono BW.out.size))
  have OM := hide (own_under OM.out hb)
  have b0 := (hb.cell (World.block_lt_of_cell? _ _ b0)).trans b0
  have b1 := (hb.cell (World.block_lt_of_cell? _ _ b1)).trans b1
  have b2 := (hb.cell (World.block_lt_of_cell? _ _ b2)).trans b2
  clear hb MAR
  go_wp2_with fail
  refine (SO.out _ BW.out).mono ?_
  rintro e W3 ⟨rfl, hb⟩
  have BW := hide (BW.out.trans (hb.mono BW.out.size))
  have OM := hide (own_under OM.out hb)
  have b0 := (hb.cell (World.block_lt_of_cell? _ _ b0)).trans b0
  have b1 := (hb.cell (World.block_lt_of_cell? _ _ b1)).trans b1
  have b2 := (hb.cell (World.block_lt_of_cell? _ _ b2)).trans b2
  clear hb SO
  go_wp2_with fail
  refine (BA.out _ BW.out).mono ?_
  rintro e W4 ⟨rfl, hb⟩
  have BW := hide (BW.out.trans (hb.mono BW.out.size))
  have OM := hide (own_under OM.out hb)
  have b0 := (hb.cell (World.block_lt_of_cell? _ _ b0)).trans b0
  have b1 := (hb.cell (World.block_lt_of_cell? _ _ b1)).trans b1
  have b2 := (hb.cell (World.block_lt_of_cell? _ _ b2)).trans b2
  clear hb BA
  go_wp2_with fail
  refine (MO.out _ BW.out).mono ?_
  rintro e W5 ⟨v', rfl, own', hb⟩
  have BW := hide (BW.out.trans (hb.mono BW.out.size))
  have OM := hide (own_under OM.out hb)
  have OX := hide own'
  have b0 := (hb.cell (World.block_lt_of_cell? _ _ b0)).trans b0
  have b1 := (hb.cell (World.block_lt_of_cell? _ _ b1)).trans b1
  have b2 := (hb.cell (World.block_lt_of_cell? _ _ b2)).trans b2
  clear own' hb MO MA
  go_wp2_with fail
  refine (MARO.out _ BW.out).mono ?_
  rintro e W6 ⟨rfl, hb⟩
  have BW := hide (BW.out.trans (hb.mono BW.out.size))
  have OM := hide (own_under OM.out hb)
  have b0 := (hb.cell (World.block_lt_of_cell? _ _ b0)).trans b0
  have b1 := (hb.cell (World.block_lt_of_cell? _ _ b1)).trans b1
  have b2 := (hb.cell (World.block_lt_of_cell? _ _ b2)).trans b2
  have OX := hide (own_under OX.out hb)
  clear hb MARO
  go_wp2_with fail
  refine (SOO.out _ BW.out).mono ?_
  rintro e W7 ⟨rfl, hb⟩
  have BW := hide (BW.out.trans (hb.mono BW.out.size))
  have OM := hide (own_under OM.out hb)
  have b0 := (hb.cell (World.block_lt_of_cell? _ _ b0)).trans b0
  have b1 := (hb.cell (World.block_lt_of_cell? _ _ b1)).trans b1
  have b2 := (hb.cell (World.block_lt_of_cell? _ _ b2)).trans b2
  have OX := hide (own_under OX.out hb)
  clear hb SOO
  go_wp2_with fail
  refine (BAO.out _ BW.out).mono ?_
  rintro e W8 ⟨rfl, hb⟩
  have BW := hide (BW.out.trans (hb.mono BW.out.size))
  have OM := hide (own_under OM.out hb)
  have b0 := (hb.cell (World.block_lt_of_cell? _ _ b0)).trans b0
  have b1 := (hb.cell (World.block_lt_of_cell? _ _ b1)).trans b1
  have b2 := (hb.cell (World.block_lt_of_cell? _ _ b2)).trans b2
  have OX := hide (own_under OX.out hb)
  clear hb BAO
  go_wp2_with fail
  refine (WE.out _ BW.out).mono ?_
  rintro e W9 ⟨rfl, hb⟩
  have BW := hide (BW.out.trans (hb.mono BW.out.size))
  have OM := hide (own_under OM.out hb)
  have b0 := (hb.cell (World.block_lt_of_cell? _ _ b0)).trans b0
  have b1 := (hb.cell (World.block_lt_of_cell? _ _ b1)).trans b1
  have b2 := (hb.cell (World.block_lt_of_cell? _ _ b2)).trans b2
  have OX := hide (own_under OX.out hb)
  clear hb WE b0 b1 b2
  obtain ⟨hly, am, cm, rfl, hmm, rm⟩ := row_own OM.out
  obtain ⟨hly', ax, cx, rfl, hmx, rx⟩ := row_own OX.out
  have EQ := hide (equal_any am ax Y.length cm Y.length cx Y Y W9 rfl rfl (by omega) (by omega) rm rx)
  rw [decide_eq_true rfl] at EQ
  clear OM OX hly hly' hmm hmx rm rx
  generalize Y.length = ny at EQ
  go_wp2_with fail
  refine EQ.out.mono ?_
  rintro e W10 ⟨rfl, qq, rfl⟩
  have BX := hide (below_drewN BW.out qq)
  clear EQ
  go_wp2
  go_loopw [141] (fun i wr => ∃ (k : Nat), k ≤ n ∧ i = .int .i64 k ∧ Hid (Below w.heap.size w wr)) (fun i _ => n - (intOf i).toNat)
  case atStart => exact ⟨0, Nat.zero_le _, rfl, BX⟩
  case round =>
    obtain ⟨k, hk, rfl, BR⟩ := hrel
    by_cases hlt : k < n
    · have hltz : (k : Int) < (n : Int) := by omega
      have hkx : k < ms.length := by rw [HL.out]; exact hlt
      have hR := mRow_below H.out BR.out
      have hm := hR.2 k hkx
      obtain ⟨b, off, rfl, hc⟩ : ∃ b off, p = some ⟨b, off, none⟩ ∧ ∀ j, j < ms.length → ∀ i v, (mCells ms[j]!)[i]? = some v → wr.cell? ⟨b, off + j * 4 + i, none⟩ = some v := by
        rcases hR.1 with e | e
        · rw [e] at hkx; simp at hkx
        · exact e
      have hck := hc k hkx
      generalize ms[k]! = m at hm hck
      obtain ⟨⟨q, cb, bids⟩, ⟨q', ca, asks⟩, idx, last⟩ := m
      obtain ⟨o1, o2, o3, o4⟩ := hm
      simp only [] at o1 o2 o3 o4
      have c0 := hck 0 _ rfl
      have c1 := hck 1 _ rfl
      have c2 := hck 2 _ rfl
      have c3 := hck 3 _ rfl
      simp only [mB, mA, mI, mL, Nat.add_zero] at c0 c1 c2 c3
      have CO := hide (fun W (hW : Below wr.heap.size wr W) => refCheckMarket_any q q' cb ca bids asks idx last W (Bk.orow_below o1 hW) (Bk.orow_below o2 hW) o3 o4)
      have MK := hide (fun W (hW : Below wr.heap.size wr W) => mark_any q q' cb ca bids asks idx last W (Bk.orow_below o1 hW) (Bk.orow_below o2 hW) o3 o4)
      have CM := hide (fun W (hW : Below wr.heap.size wr W) => checkMarket_any q q' cb ca bids asks idx last W (Bk.orow_below o1 hW) (Bk.orow_below o2 hW) o3 o4)
      have MF := hide (fun (he : marketErr bids asks idx last = 0) W (hW : Below wr.heap.size wr W) => refMarkOf_any q q' cb ca bids asks idx last W (Bk.orow_below o1 hW) (Bk.orow_below o2 hW) he)
      clear hR hc hck o1 o2 o3 o4
      by_cases hme : marketErr bids asks idx last = 0
      · have MF' := hide (MF.out hme)
        rw [show markR bids asks idx last = (markOf (Bk.firstPrice bids) (Bk.firstPrice asks) idx last, 0) from by unfold markR; rw [if_pos hme]] at MK
        rw [hme] at CO CM
        dsimp only at MK
        clear hme MF
        generalize markOf (Bk.firstPrice bids) (Bk.firstPrice asks) idx last = mv at MK MF'
        generalize bids.length = nb at CO MK CM MF' c0
        generalize asks.length = na at CO MK CM MF' c1
        go_wp2_with fail
        refine (CO.out _ (below_alloc wr _)).mono ?_
        rintro e V1 ⟨rfl, hb⟩
        have BV := hide ((below_alloc wr (mktO q q' nb cb na ca idx last)).trans (hb.mono (by simp)))
        have q0 : V1.cell? ⟨wr.heap.size, 0, none⟩ = some (.slice q nb cb) := (hb.cell (by simp)).trans (Ac.new_cell _ _ _ _ _ rfl)
        have q1 : V1.cell? ⟨wr.heap.size, 1, none⟩ = some (.slice q' na ca) := (hb.cell (by simp)).trans (Ac.new_cell _ _ _ _ _ rfl)
        have q2 : V1.cell? ⟨wr.heap.size, 2, none⟩ = some (.int .i64 idx) := (hb.cell (by simp)).trans (Ac.new_cell _ _ _ _ _ rfl)
        have q3 : V1.cell? ⟨wr.heap.size, 3, none⟩ = some (.int .i64 last) := (hb.cell (by simp)).trans (Ac.new_cell _ _ _ _ _ rfl)
        clear hb
        go_wp2_with fail
        refine (MK.out _ BV.out).mono ?_
        rintro e V2 ⟨rfl, hb⟩
        have BV := hide (BV.out.trans (hb.mono BV.out.size))
        have q0 := (hb.cell (World.block_lt_of_cell? _ _ q0)).trans q0
        have q1 := (hb.cell (World.block_lt_of_cell? _ _ q1)).trans q1
        have q2 := (hb.cell (World.block_lt_of_cell? _ _ q2)).trans q2
        have q3 := (hb.cell (World.block_lt_of_cell? _ _ q3)).trans q3
        clear hb
        go_wp2_with fail
        refine (CM.out _ BV.out).mono ?_
        rintro e V3 ⟨rfl, hb⟩
        have BV := hide (BV.out.trans (hb.mono BV.out.size))
        have q0 := (hb.cell (World.block_lt_of_cell? _ _ q0)).trans q0
        have q1 := (hb.cell (World.block_lt_of_cell? _ _ q1)).trans q1
        have q2 := (hb.cell (World.block_lt_of_cell? _ _ q2)).trans q2
        have q3 := (hb.cell (World.block_lt_of_cell? _ _ q3)).trans q3
        clear hb
        go_wp2_with fail
        refine (MF'.out _ BV.out).mono ?_
        rintro e V4 ⟨rfl, hb⟩
        have BV := hide (BV.out.trans (hb.mono BV.out.size))
        have q0 := (hb.cell (World.block_lt_of_cell? _ _ q0)).trans q0
        have q1 := (hb.cell (World.block_lt_of_cell? _ _ q1)).trans q1
        have q2 := (hb.cell (World.block_lt_of_cell? _ _ q2)).trans q2
        have q3 := (hb.cell (World.block_lt_of_cell? _ _ q3)).trans q3
        clear hb
        have BE := hide (BR.out.trans (BV.out.mono BR.out.size))
        clear q0 q1 q2 q3
        go_wp2
        go_roundw
        case rel => exact ⟨k + 1, by omega, by go_num, BE⟩
        case measure => simp [intOf]; omega
      · rw [show markR bids asks idx last = (0, marketErr bids asks idx last) from by unfold markR; rw [if_neg hme]] at MK
        dsimp only at MK
        clear MF
        generalize marketErr bids asks idx last = er at CO MK CM hme
        have hmz : (er == 0) = false := by simp [hme]
        generalize bids.length = nb at CO MK CM c0
        generalize asks.length = na at CO MK CM c1
        go_wp2_with fail
        refine (CO.out _ (below_alloc wr _)).mono ?_
        rintro e V1 ⟨rfl, hb⟩
        have BV := hide ((below_alloc wr (mktO q q' nb cb na ca idx last)).trans (hb.mono (by simp)))
        have q0 : V1.cell? ⟨wr.heap.size, 0, none⟩ = some (.slice q nb cb) := (hb.cell (by simp)).trans (Ac.new_cell _ _ _ _ _ rfl)
        have q1 : V1.cell? ⟨wr.heap.size, 1, none⟩ = some (.slice q' na ca) := (hb.cell (by simp)).trans (Ac.new_cell _ _ _ _ _ rfl)
        have q2 : V1.cell? ⟨wr.heap.size, 2, none⟩ = some (.int .i64 idx) := (hb.cell (by simp)).trans (Ac.new_cell _ _ _ _ _ rfl)
        have q3 : V1.cell? ⟨wr.heap.size, 3, none⟩ = some (.int .i64 last) := (hb.cell (by simp)).trans (Ac.new_cell _ _ _ _ _ rfl)
        clear hb
        go_wp2_with fail
        refine (MK.out _ BV.out).mono ?_
        rintro e V2 ⟨rfl, hb⟩
        have BV := hide (BV.out.trans (hb.mono BV.out.size))
        have q0 := (hb.cell (World.block_lt_of_cell? _ _ q0)).trans q0
        have q1 := (hb.cell (World.block_lt_of_cell? _ _ q1)).trans q1
        have q2 := (hb.cell (World.block_lt_of_cell? _ _ q2)).trans q2
        have q3 := (hb.cell (World.block_lt_of_cell? _ _ q3)).trans q3
        clear hb
        go_wp2_with fail
        refine (CM.out _ BV.out).mono ?_
        rintro e V3 ⟨rfl, hb⟩
        have BV := hide (BV.out.trans (hb.mono BV.out.size))
        have q0 := (hb.cell (World.block_lt_of_cell? _ _ q0)).trans q0
        have q1 := (hb.cell (World.block_lt_of_cell? _ _ q1)).trans q1
        have q2 := (hb.cell (World.block_lt_of_cell? _ _ q2)).trans q2
        have q3 := (hb.cell (World.block_lt_of_cell? _ _ q3)).trans q3
        clear hb
        have BE := hide (BR.out.trans (BV.out.mono BR.out.size))
        clear q0 q1 q2 q3
        go_wp2
        go_roundw
        case rel => exact ⟨k + 1, by omega, by go_num, BE⟩
        case measure => simp [intOf]; omega
    · go_wp2
      go_ret
      exact ⟨rfl, BR.out⟩
end Go.Proofs.YtbphljnncbiddabDoor.Rm
