/-
  Lists of markets: risk.Marks by a contract.
-/
import Derived.Test.YtbphljnncbiddabDoorRmMark
import Derived.Test.YtbphljnncbiddabDoorAc5
namespace Go.Proofs.YtbphljnncbiddabDoor.Rm
open Go.RowKit Go.Proofs.YtbphljnncbiddabDoor.Num Go.Proofs.YtbphljnncbiddabDoor.Fix Go.Proofs.YtbphljnncbiddabDoor.Ac Go.Proofs.YtbphljnncbiddabDoor.Rk

/-- a market: its two sides (where they lie, their capacity, the orders), the index, the last price. -/
abbrev Mkt := (Option Addr × Nat × List Bk.Odr) × (Option Addr × Nat × List Bk.Odr) × Int × Int
abbrev mB (m : Mkt) : List Bk.Odr := m.1.2.2
abbrev mA (m : Mkt) : List Bk.Odr := m.2.1.2.2
abbrev mI (m : Mkt) : Int := m.2.2.1
abbrev mL (m : Mkt) : Int := m.2.2.2
def mCells (m : Mkt) : List Value := [.slice m.1.1 (mB m).length m.1.2.1, .slice m.2.1.1 (mA m).length m.2.1.2.1, .int .i64 (mI m), .int .i64 (mL m)]
def mOk (w : World) (m : Mkt) : Prop := Bk.ORow w m.1.1 (mB m) ∧ Bk.ORow w m.2.1.1 (mA m) ∧ (mB m).length ≤ 140737488351232 ∧ (mA m).length ≤ 140737488351232
/-- a slice of markets, as it lies. -/
def MRow (w : World) (p : Option Addr) (ms : List Mkt) : Prop :=
  (ms = [] ∨ ∃ b off, p = some ⟨b, off, none⟩ ∧ ∀ j, j < ms.length → ∀ i v, (mCells ms[j]!)[i]? = some v → w.cell? ⟨b, off + j * 4 + i, none⟩ = some v) ∧ ∀ j, j < ms.length → mOk w ms[j]!
theorem mOk_below {w w' : World} {m : Mkt} (h : mOk w m) (hb : Below w.heap.size w w') : mOk w' m := ⟨Bk.orow_below h.1 hb, Bk.orow_below h.2.1 hb, h.2.2⟩
theorem mRow_below {w w' : World} {p : Option Addr} {ms : List Mkt} (h : MRow w p ms) (hb : Below w.heap.size w w') : MRow w' p ms := by
  refine ⟨?_, fun j hj => mOk_below (h.2 j hj) hb⟩
  rcases h.1 with e | ⟨b, off, e, hc⟩
  · exact .inl e
  · exact .inr ⟨b, off, e, fun j hj i v hv => (hb.cell (World.block_lt_of_cell? _ _ (hc j hj i v hv))).trans (hc j hj i v hv)⟩

def mMark (m : Mkt) : Int × Int := markR (mB m) (mA m) (mI m) (mL m)
/-- the marks that are told, behind those that are there. -/
def marksFrom (L : List Int) : List Mkt → List Int × Int
  | [] => (L, 0)
  | m :: r => if (mMark m).2 = 0 then marksFrom (L ++ [(mMark m).1]) r else ([], (mMark m).2)
def marksR (ms : List Mkt) : List Int × Int := if 1 ≤ ms.length ∧ ms.length ≤ 2 then marksFrom [] ms else ([], 2)
theorem drop_mkt (ms : List Mkt) (k : Nat) (h : k < ms.length) : ms.drop k = ms[k]! :: ms.drop (k + 1) := by
  rw [List.drop_eq_getElem_cons h, getElem!_pos _ k h]
theorem own_under {w w' : World} {B n : Nat} {v : Value} {xs : List Value} (h : w.ownsRow B 3 1 v n xs) (hb : Below w.heap.size w w') : w'.ownsRow B 3 1 v n xs := by
  refine ⟨h.1, ?_⟩
  rcases h.2 with e | ⟨g, cap, cur, e, hB, hg, rest⟩
  · exact .inl e
  · exact .inr ⟨g, cap, cur, e, hB, (hb.block g (Array.getElem?_eq_some_iff.1 hg).1).trans hg, rest⟩

set_option maxHeartbeats 4000000 in
set_option maxRecDepth 100000 in
theorem marks_in (b off n c : Nat) (ms : List Mkt) (w : World) (hl : ms.length = n) (h1 : 1 ≤ n) (h2 : n ≤ 2) (h : MRow w (some ⟨b, off, none⟩) ms) :
    Calls Tryd.prog 7 #[.slice (some ⟨b, off, none⟩) n c] w fun e w' => ∃ v, e = .returned (.tuple #[v, .int .i64 (marksFrom [] ms).2]) ∧ w'.ownsRow w.heap.size 3 1 v (marksFrom [] ms).1.length ((marksFrom [] ms).1.map (Value.int .i64)) ∧ Below w.heap.size w w' := by
  obtain ⟨i0, hi, hz0, hz1, hz2⟩ := info_parts (show (Tryd.prog.info? 3).map (fun i => (i.zero, i.size, i.bytes)) = some (some (.int .i64 0), 1, 8) by kernel_rfl)
  generalize hT : marksFrom [] ms = T
  have T0 : Hid (marksFrom [] (ms.drop 0) = T) := hT
  have HL := hide hl
  have HC : Hid (∀ j, j < ms.length → ∀ i v, (mCells ms[j]!)[i]? = some v → w.cell? ⟨b, off + j * 4 + i, none⟩ = some v) := by
    rcases h.1 with e | ⟨b', off', e, hc⟩
    · rw [e] at hl; simp at hl; omega
    · cases e; exact hc
  have HO := hide h.2
  have z1 : ¬ (n : Int) < 1 := by omega
  have z2 : ¬ 2 < (n : Int) := by omega
  clear h hT hl
  go_enter Tryd.func7, Tryd.ntmps7
  go_wp2
  go_loopw [4, 19] (fun v i wr => ∃ (k : Nat) (L : List Int), k ≤ n ∧ i = .int .i64 k ∧ Hid (L.length = k) ∧ Hid (wr.ownsRow w.heap.size 3 1 v k (L.map (Value.int .i64))) ∧ Hid (Below w.heap.size w wr) ∧ Hid (marksFrom L (ms.drop k) = T)) (fun _ i _ => n - (intOf i).toNat)
  case atStart =>
    exact ⟨0, [], Nat.zero_le _, rfl, rfl, World.ownsRow_nil _ _ _ _, Below.refl _ _, T0⟩
  case round =>
    obtain ⟨k, L, hk, rfl, LL, OW, BW, R⟩ := hrel
    by_cases hlt : k < n
    · have hltz : (k : Int) < (n : Int) := by omega
      have hkx : k < ms.length := by rw [HL.out]; exact hlt
      have hm := mOk_below (HO.out k hkx) BW.out
      have hc := HC.out k hkx
      have RR := R.out
      rw [drop_mkt ms k hkx] at RR
      generalize ms[k]! = m at hm hc RR
      obtain ⟨⟨p, cb, bids⟩, ⟨p', ca, asks⟩, idx, last⟩ := m
      obtain ⟨o1, o2, o3, o4⟩ := hm
      simp only [] at o1 o2 o3 o4
      have c0 := (BW.out.cell (World.block_lt_of_cell? _ _ (hc 0 _ rfl))).trans (hc 0 _ rfl)
      have c1 := (BW.out.cell (World.block_lt_of_cell? _ _ (hc 1 _ rfl))).trans (hc 1 _ rfl)
      have c2 := (BW.out.cell (World.block_lt_of_cell? _ _ (hc 2 _ rfl))).trans (hc 2 _ rfl)
      have c3 := (BW.out.cell (World.block_lt_of_cell? _ _ (hc 3 _ rfl))).trans (hc 3 _ rfl)
      simp only [mB, mA, mI, mL, Nat.add_zero] at c0 c1 c2 c3
      have MK := hide (mark_any p p' cb ca bids asks idx last (wr.alloc (mktO p p' bids.length cb asks.length ca idx last)) (Bk.orow_below o1 (below_alloc wr _)) (Bk.orow_below o2 (below_alloc wr _)) o3 o4)
      have R' := hide RR
      clear RR R T0 hc o1 o2 o3 o4
      have e0 : mMark ((p, cb, bids), (p', ca, asks), idx, last) = markR bids asks idx last := rfl
      simp only [marksFrom, e0] at R'
      clear e0
      generalize markR bids asks idx last = M at MK R'
      generalize bids.length = nb at MK c0
      generalize asks.length = na at MK c1
      obtain ⟨mv, me⟩ := M
      simp only [] at MK R'
      by_cases hme : me = 0
      · subst hme
        rw [if_pos rfl] at R'
        go_wp2_with fail
        refine MK.out.mono ?_
        rintro e W1 ⟨rfl, hb1⟩
        have O1 := hide (own_under (own_under OW.out (below_alloc wr (mktO p p' nb cb na ca idx last))) hb1)
        have B1 := hide ((BW.out.alloc BW.out.size (mktO p p' nb cb na ca idx last)).trans (hb1.mono (Nat.le_trans BW.out.size (by simp))))
        have NW := hide (one_new W1 mv)
        have SZ1 : Hid (w.heap.size ≤ (W1.alloc (.cells #[.int .i64 mv] 3)).heap.size) := by
          have := B1.out.size
          show _ ≤ _
          simp
          omega
        clear hb1
        go_wp2_with (first | (at_builtin; refine wpList_append_own _ rfl (.tmp 31) (.tmp 33) 23 rfl w.heap.size 3 i0 (.int .i64 0) 1 8 Tryd.underlying23 hi hz0 hz1 hz2 rfl (by decide) u4 k (L.map (Value.int .i64)) rfl (O1.out.alloc _) ⟨W1.heap.size, 0, none⟩ 1 1 [.int .i64 mv] rfl rfl NW.out (Ac.one_cell _) (by unfold maxLen; omega) (by omega) SZ1.out ?_; intro v' w1 hown1 hgrow1 hnil1; clear hnil1))
        have B2 := ((B1.out.alloc B1.out.size (.cells #[.int .i64 mv] 3)).grown hgrow1 (by have := B1.out.size; simp; omega) (fun j hj => by have := (O1.out.lt _ hj).1; omega))
        go_roundw
        case rel =>
          refine ⟨k + 1, L ++ [mv], by omega, by go_num, ?_, ?_, B2, R'⟩
          · show _ = _
            rw [List.length_append, LL.out]
            rfl
          · show World.ownsRow _ _ _ _ _ _ _
            rw [List.map_append]
            exact hown1
        case measure => simp [intOf]; omega
      · rw [if_neg hme] at R'
        go_wp2_with fail
        refine MK.out.mono ?_
        rintro e W1 ⟨rfl, hb1⟩
        go_wp2
        refine bodyPost_ret (v := .tuple #[.slice none 0 0, .int .i64 me]) (by simp [results, Tryd.results7, go_sem]) rfl ?_
        refine ⟨_, by rw [← R'.out], by rw [← R'.out]; exact World.ownsRow_nil _ _ _ _, ?_⟩
        exact (BW.out.alloc BW.out.size _).trans (hb1.mono (Nat.le_trans BW.out.size (by simp)))
    · have hkn : k = n := by omega
      subst hkn
      have ON : Hid ((L, 0) = T) := by
        have := R.out
        rw [List.drop_eq_nil_of_le (by have := HL.out; omega)] at this
        exact this
      clear R T0
      go_wp2
      refine bodyPost_ret (v := .tuple #[_, .int .i64 0]) (by simp [results, Tryd.results7, go_sem]; rfl) rfl ?_
      rw [← ON.out]
      exact ⟨_, rfl, by rw [LL.out]; exact OW.out, BW.out⟩

theorem marks_any (p : Option Addr) (n c : Nat) (ms : List Mkt) (w : World) (hl : ms.length = n) (h : MRow w p ms) :
    Calls Tryd.prog 7 #[.slice p n c] w fun e w' => ∃ v, e = .returned (.tuple #[v, .int .i64 (marksR ms).2]) ∧ w'.ownsRow w.heap.size 3 1 v (marksR ms).1.length ((marksR ms).1.map (Value.int .i64)) ∧ Below w.heap.size w w' := by
  unfold marksR
  by_cases hn : 1 ≤ ms.length ∧ ms.length ≤ 2
  · rw [if_pos hn]
    have h' := h
    rcases h'.1 with e | ⟨b, off, rfl, -⟩
    · rw [e] at hn; simp at hn
    · exact marks_in b off n c ms w hl (by omega) (by omega) h
  · rw [if_neg hn]
    by_cases h1 : (n : Int) < 1
    · go_enter Tryd.func7, Tryd.ntmps7
      go_wp2
      refine bodyPost_ret (v := .tuple #[.slice none 0 0, .int .i64 2]) (by simp [results, Tryd.results7, go_sem]) rfl ?_
      exact ⟨_, rfl, World.ownsRow_nil _ _ _ _, Below.refl _ _⟩
    · have h2 : 2 < (n : Int) := by omega
      go_enter Tryd.func7, Tryd.ntmps7
      go_wp2
      refine bodyPost_ret (v := .tuple #[.slice none 0 0, .int .i64 2]) (by simp [results, Tryd.results7, go_sem]) rfl ?_
      exact ⟨_, rfl, World.ownsRow_nil _ _ _ _, Below.refl _ _⟩
end Go.Proofs.YtbphljnncbiddabDoor.Rm
