/-
  The reference's chapter 4 by contracts: EquityOf.
-/
import Derived.Test.YtbphljnncbiddabDoorRefB
namespace Go.Proofs.YtbphljnncbiddabDoor.Ac
open Go.RowKit Go.Proofs.YtbphljnncbiddabDoor.Num Go.Proofs.YtbphljnncbiddabDoor.Fix Go.Proofs.YtbphljnncbiddabDoor.AcP

theorem addAll_own (B : Nat) (t : TypeId) (v : Value) (n : Nat) (xs : List Int) (w : World) (h : w.ownsRow B t 1 v n (xs.map (Value.int .i64))) :
    Calls Tryd.prog 50 #[v] w fun e w' => e = .returned (.tuple #[.int .i64 (addFrom 0 xs).1, .int .i64 (addFrom 0 xs).2]) ∧ w' = w := by
  obtain ⟨hl, a, cap, rfl, hm, hr⟩ := row_own h
  exact RefA.addAll_any a n cap xs w hl hm hr

set_option maxHeartbeats 2000000 in
set_option maxRecDepth 100000 in
theorem equityOf_in (id bal : Int) (b off b2 off2 : Nat) (n c c2 : Nat) (pos marks : List Int) (w : World) (hl : pos.length = n) (hl2 : marks.length = n) (hn : n ≤ 2)
    (h : ∀ i, i < pos.length → w.cell? ⟨b, off + i, none⟩ = some (.int .i64 (pos.getD i 0))) (h' : ∀ i, i < marks.length → w.cell? ⟨b2, off2 + i, none⟩ = some (.int .i64 (marks.getD i 0))) (he : accErr id bal pos n = 0) :
    Calls Tryd.prog 34 #[accV id bal (some ⟨b, off, none⟩) n c, .slice (some ⟨b2, off2, none⟩) n c2] w fun e w' => e = .returned (.tuple #[.int .i64 (eqFrom [bal] pos marks).1, .int .i64 (eqFrom [bal] pos marks).2]) ∧ Below w.heap.size w w' := by
  obtain ⟨i0, hi, hz0, hz1, hz2⟩ := info_parts (show (Tryd.prog.info? 3).map (fun i => (i.zero, i.size, i.bytes)) = some (some (.int .i64 0), 1, 8) by kernel_rfl)
  have CK := hide (fun W hW => checkAccount_any id bal (some ⟨b, off, none⟩) n c pos n W hl (row_below (.inr ⟨b, off, rfl, h⟩) hW))
  rw [he] at CK
  clear he
  generalize hT : eqFrom [bal] pos marks = T
  have T0 : Hid (eqFrom [bal] (pos.drop 0) (marks.drop 0) = T) := hT
  have HC := hide h
  have HC2 := hide h'
  have HL := hide hl
  have HL2 := hide hl2
  clear h h' hT hl hl2
  go_enter Tryd.func34, Tryd.ntmps34
  go_wp2_with fail
  refine (CK.out _ (below_alloc w _)).mono ?_
  rintro e W ⟨rfl, rfl⟩
  go_wp2
  go_loopw [7, 23] (fun v i wr => ∃ (k : Nat) (L : List Int), k ≤ n ∧ i = .int .i64 k ∧ Hid (wr.ownsRow (w.heap.size + 2) 3 1 v (k + 1) (L.map (Value.int .i64))) ∧ Hid (Below w.heap.size w wr) ∧ wr.cell? ⟨w.heap.size, 2, none⟩ = some (.slice (some ⟨b, off, none⟩) n c) ∧ Hid (w.heap.size + 2 ≤ wr.heap.size) ∧ Hid (eqFrom L (pos.drop k) (marks.drop k) = T)) (fun _ i _ => n - (intOf i).toNat)
  case atStart =>
    refine ⟨0, [bal], Nat.zero_le _, rfl, ?_, below3 _ _ _ _, ?_, ?_, T0⟩
    · have := World.ownsRow_lit (base := w.heap.size + 2) (e := 3) (size := 1) ((w.alloc (accO id bal (some ⟨b, off, none⟩) n c)).alloc (accO id bal (some ⟨b, off, none⟩) n c)) #[.int .i64 bal] 1 (by simp) (by decide) rfl
      exact hide (by simpa using this)
    · exact cell_alloc (cell_alloc (new_cell w _ _ 2 _ rfl) _) _
    · show _ ≤ _
      simp
  case round =>
    obtain ⟨k, L, hk, rfl, OW, BW, hbox, SZ, R⟩ := hrel
    by_cases hlt : k < n
    · have hltz : (k : Int) < (n : Int) := by omega
      have hkx : k < pos.length := by rw [HL.out]; exact hlt
      have hky : k < marks.length := by rw [HL2.out]; exact hlt
      have c0 := (BW.out.cell (World.block_lt_of_cell? _ _ (HC.out k hkx))).trans (HC.out k hkx)
      have c1 := (BW.out.cell (World.block_lt_of_cell? _ _ (HC2.out k hky))).trans (HC2.out k hky)
      have RR := R.out
      rw [drop_get pos k hkx, drop_get marks k hky] at RR
      have R' := hide RR
      clear RR R T0
      generalize pos.getD k 0 = x at c0 R'
      generalize marks.getD k 0 = m at c1 R'
      by_cases hw : betw (-1000) x 1000 = true ∧ betw 0 m 10000 = true
      · have WO := hide (fun W => RefA.worthOf_yes x m W hw.1 hw.2)
        have ON := hide ((eqFrom_on hw.1 hw.2).symm.trans R'.out)
        clear R' hw
        go_wp2_with fail
        go_big_quiet (first | (go_at_call 33; refine Calls.quiet_of_same (WO.out _)))
        obtain ⟨wd, hwd⟩ : ∃ wd, wr.drewN nq = wd := ⟨_, rfl⟩
        rw [hwd]
        have OWd : Hid (wd.ownsRow (w.heap.size + 2) 3 1 u7 (k + 1) (L.map (Value.int .i64))) := by rw [← hwd]; exact OW.out
        have BWd : Hid (Below w.heap.size w wd) := by rw [← hwd]; exact below_drewN BW.out _
        have hbd : wd.cell? ⟨w.heap.size, 2, none⟩ = some (.slice (some ⟨b, off, none⟩) n c) := by rw [← hwd]; exact hbox
        have SZd : Hid (w.heap.size + 2 ≤ wd.heap.size) := by rw [← hwd]; exact SZ.out
        clear hwd hbox c0 c1
        have NW := hide (one_new wd (x * m))
        have SZ1 : Hid (w.heap.size + 2 ≤ (wd.alloc (.cells #[.int .i64 (x * m)] 3)).heap.size) := by
          have := SZd.out
          show _ ≤ _
          simp
          omega
        go_wp2_with (at_builtin; refine wpList_append_own _ rfl (.tmp 42) (.tmp 44) 23 rfl (w.heap.size + 2) 3 i0 (.int .i64 0) 1 8 Tryd.underlying23 hi hz0 hz1 hz2 rfl (by decide) u7 (k + 1) (L.map (Value.int .i64)) rfl (OWd.out.alloc _) ⟨wd.heap.size, 0, none⟩ 1 1 [.int .i64 (x * m)] rfl rfl NW.out (one_cell _) (by unfold maxLen; omega) (by omega) SZ1.out ?_; intro v' w1 hown1 hgrow1 hnil1; clear hnil1)
        have B1 := ((BWd.out.alloc BWd.out.size (.cells #[.int .i64 (x * m)] 3)).grown hgrow1 (by have := BWd.out.size; simp; omega) (fun j hj => by have := (OWd.out.lt _ hj).1; omega))
        have hb1 := cell_grown (OWd.out.alloc _) hgrow1 (cell_alloc hbd (.cells #[.int .i64 (x * m)] 3)) (by simp)
        go_roundw
        case rel =>
          refine ⟨k + 1, L ++ [x * m], by omega, by go_num, ?_, B1, hb1, Nat.le_trans SZ1.out hgrow1.size, ON⟩
          show World.ownsRow _ _ _ _ _ _ _
          rw [List.map_append]
          exact hown1
        case measure => simp [intOf]; omega
      · have hw' : betw (-1000) x 1000 = false ∨ betw 0 m 10000 = false := by
          cases e1 : betw (-1000) x 1000
          · exact .inl rfl
          · cases e2 : betw 0 m 10000
            · exact .inr rfl
            · exact absurd ⟨e1, e2⟩ hw
        have WO := hide (fun W => RefA.worthOf_no x m W hw')
        have ON := hide ((eqFrom_bad hw').symm.trans R'.out)
        clear R' hw hw'
        go_wp2_with fail
        go_big_quiet (first | (go_at_call 33; refine Calls.quiet_of_same (WO.out _)))
        go_wp2
        go_ret2
        rw [← ON.out]
        exact ⟨rfl, below_drewN BW.out _⟩
    · have hkn : k = n := by omega
      subst hkn
      have ON : Hid (addFrom 0 L = T) := by
        have := R.out
        rw [List.drop_eq_nil_of_le (by have := HL.out; omega), eqFrom_end] at this
        exact this
      have AD := hide (addAll_own _ _ _ _ L _ OW.out)
      clear R T0
      go_wp2_with fail
      refine AD.out.mono ?_
      rintro e w' ⟨rfl, hw'⟩
      rw [hw']
      clear hw'
      rw [ON.out]
      go_wp2
      go_ret2
      exact ⟨rfl, BW.out⟩

set_option maxHeartbeats 2000000 in
set_option maxRecDepth 100000 in
theorem equityOf_err (id bal : Int) (p p2 : Option Addr) (n c n2 c2 : Nat) (pos : List Int) (w : World) (hl : pos.length = n) (h : Row w p pos) (he : ¬ accErr id bal pos n2 = 0) :
    Calls Tryd.prog 34 #[accV id bal p n c, .slice p2 n2 c2] w fun e w' => e = .returned (.tuple #[.int .i64 0, .int .i64 (accErr id bal pos n2)]) ∧ Below w.heap.size w w' := by
  have CK := hide (fun W hW => checkAccount_any id bal p n c pos n2 W hl (row_below h hW))
  clear h
  generalize accErr id bal pos n2 = r at he CK ⊢
  go_enter Tryd.func34, Tryd.ntmps34
  go_wp2_with fail
  refine (CK.out _ (below_alloc w _)).mono ?_
  rintro e W ⟨rfl, rfl⟩
  go_wp2
  go_ret2
  exact ⟨rfl, below_alloc2 _ _ _⟩

theorem equityOf_any (id bal : Int) (p p2 : Option Addr) (n c n2 c2 : Nat) (pos marks : List Int) (w : World) (hl : pos.length = n) (hl2 : marks.length = n2) (h : Row w p pos) (h' : Row w p2 marks) :
    Calls Tryd.prog 34 #[accV id bal p n c, .slice p2 n2 c2] w fun e w' => e = .returned (.tuple #[.int .i64 (equityR id bal pos marks).1, .int .i64 (equityR id bal pos marks).2]) ∧ Below w.heap.size w w' := by
  unfold equityR
  rw [hl2]
  by_cases he : accErr id bal pos n2 = 0
  · rw [if_pos he]
    obtain ⟨a1, a2, a3, a4, a5⟩ := accErr_ok he
    have hb := betw_true a2
    have : n2 = n := by omega
    subst this
    rcases h with rfl | ⟨b, off, rfl, hc⟩
    · simp at hl; omega
    rcases h' with rfl | ⟨b2, off2, rfl, hc2⟩
    · simp at hl2; omega
    exact equityOf_in id bal b off b2 off2 n2 c c2 pos marks w hl hl2 (by omega) hc hc2 he
  · rw [if_neg he]
    exact equityOf_err id bal p p2 n c n2 c2 pos w hl h he
end Go.Proofs.YtbphljnncbiddabDoor.Ac
