/-
  The reference's CheckMarket and MarkOf by contracts.
-/
import Derived.Test.YtbphljnncbiddabDoorRefQd
import Derived.Test.YtbphljnncbiddabDoorRefMid
import Derived.Test.YtbphljnncbiddabDoorRmMark
namespace Go.Proofs.YtbphljnncbiddabDoor.Rm
open Go.RowKit Go.Sort Go.Maps Go.Proofs.YtbphljnncbiddabDoor.Num Go.Proofs.YtbphljnncbiddabDoor.Bk

set_option maxHeartbeats 2000000 in
set_option maxRecDepth 100000 in
theorem refCheckMarket_any (p p' : Option Addr) (c c' : Nat) (bids asks : List Odr) (idx last : Int) (w : World) (h : ORow w p bids) (h' : ORow w p' asks) (hn : bids.length ≤ 140737488351232) (hn' : asks.length ≤ 140737488351232) :
    Calls Tryd.prog 17 #[mktV p p' bids.length c asks.length c' idx last] w fun e w' => e = .returned (.int .i64 (marketErr bids asks idx last)) ∧ Below w.heap.size w w' := by
  have CK := hide (fun W hW => Rk.refCheckBook_any p p' c c' bids asks W (orow_below h hW) (orow_below h' hW) hn hn')
  clear h h' hn hn'
  by_cases hb : bookErr bids asks = 0
  · by_cases h1 : idx < 1
    · have e : marketErr bids asks idx last = 3 := by
        unfold marketErr
        rw [if_pos hb]
        first
          | (rw [if_pos ⟨betw_mk (by omega), betw_mk (by omega)⟩])
          | (rw [if_neg (by intro hh; have := betw_true hh.1; have := betw_true hh.2; omega)])
      rw [e]
      rw [hb] at CK
      clear e hb
      generalize bids.length = nb at CK ⊢
      generalize asks.length = na at CK ⊢
      go_enter Tryd.func17, Tryd.ntmps17
      go_wp2_with fail
      refine (CK.out _ ((Below.refl _ w).alloc (Nat.le_refl _) _)).mono ?_
      rintro e W ⟨rfl, hw⟩
      have BX := hide (((Below.refl _ w).alloc (Nat.le_refl _) (mktO p p' nb c na c' idx last)).trans (hw.mono (by simp)))
      have e2 : W.cell? ⟨w.heap.size, 2, none⟩ = some (.int .i64 idx) := (hw.cell (by simp)).trans (Ac.new_cell _ _ _ _ _ rfl)
      have e3 : W.cell? ⟨w.heap.size, 3, none⟩ = some (.int .i64 last) := (hw.cell (by simp)).trans (Ac.new_cell _ _ _ _ _ rfl)
      clear hw
      go_wp2
      go_ret
      exact ⟨rfl, BX.out⟩
    by_cases h2 : 10000 < idx
    · have e : marketErr bids asks idx last = 3 := by
        unfold marketErr
        rw [if_pos hb]
        first
          | (rw [if_pos ⟨betw_mk (by omega), betw_mk (by omega)⟩])
          | (rw [if_neg (by intro hh; have := betw_true hh.1; have := betw_true hh.2; omega)])
      rw [e]
      rw [hb] at CK
      clear e hb
      generalize bids.length = nb at CK ⊢
      generalize asks.length = na at CK ⊢
      go_enter Tryd.func17, Tryd.ntmps17
      go_wp2_with fail
      refine (CK.out _ ((Below.refl _ w).alloc (Nat.le_refl _) _)).mono ?_
      rintro e W ⟨rfl, hw⟩
      have BX := hide (((Below.refl _ w).alloc (Nat.le_refl _) (mktO p p' nb c na c' idx last)).trans (hw.mono (by simp)))
      have e2 : W.cell? ⟨w.heap.size, 2, none⟩ = some (.int .i64 idx) := (hw.cell (by simp)).trans (Ac.new_cell _ _ _ _ _ rfl)
      have e3 : W.cell? ⟨w.heap.size, 3, none⟩ = some (.int .i64 last) := (hw.cell (by simp)).trans (Ac.new_cell _ _ _ _ _ rfl)
      clear hw
      go_wp2
      go_ret
      exact ⟨rfl, BX.out⟩
    by_cases h3 : last < 0
    · have e : marketErr bids asks idx last = 3 := by
        unfold marketErr
        rw [if_pos hb]
        first
          | (rw [if_pos ⟨betw_mk (by omega), betw_mk (by omega)⟩])
          | (rw [if_neg (by intro hh; have := betw_true hh.1; have := betw_true hh.2; omega)])
      rw [e]
      rw [hb] at CK
      clear e hb
      generalize bids.length = nb at CK ⊢
      generalize asks.length = na at CK ⊢
      go_enter Tryd.func17, Tryd.ntmps17
      go_wp2_with fail
      refine (CK.out _ ((Below.refl _ w).alloc (Nat.le_refl _) _)).mono ?_
      rintro e W ⟨rfl, hw⟩
      have BX := hide (((Below.refl _ w).alloc (Nat.le_refl _) (mktO p p' nb c na c' idx last)).trans (hw.mono (by simp)))
      have e2 : W.cell? ⟨w.heap.size, 2, none⟩ = some (.int .i64 idx) := (hw.cell (by simp)).trans (Ac.new_cell _ _ _ _ _ rfl)
      have e3 : W.cell? ⟨w.heap.size, 3, none⟩ = some (.int .i64 last) := (hw.cell (by simp)).trans (Ac.new_cell _ _ _ _ _ rfl)
      clear hw
      go_wp2
      go_ret
      exact ⟨rfl, BX.out⟩
    by_cases h4 : 10000 < last
    · have e : marketErr bids asks idx last = 3 := by
        unfold marketErr
        rw [if_pos hb]
        first
          | (rw [if_pos ⟨betw_mk (by omega), betw_mk (by omega)⟩])
          | (rw [if_neg (by intro hh; have := betw_true hh.1; have := betw_true hh.2; omega)])
      rw [e]
      rw [hb] at CK
      clear e hb
      generalize bids.length = nb at CK ⊢
      generalize asks.length = na at CK ⊢
      go_enter Tryd.func17, Tryd.ntmps17
      go_wp2_with fail
      refine (CK.out _ ((Below.refl _ w).alloc (Nat.le_refl _) _)).mono ?_
      rintro e W ⟨rfl, hw⟩
      have BX := hide (((Below.refl _ w).alloc (Nat.le_refl _) (mktO p p' nb c na c' idx last)).trans (hw.mono (by simp)))
      have e2 : W.cell? ⟨w.heap.size, 2, none⟩ = some (.int .i64 idx) := (hw.cell (by simp)).trans (Ac.new_cell _ _ _ _ _ rfl)
      have e3 : W.cell? ⟨w.heap.size, 3, none⟩ = some (.int .i64 last) := (hw.cell (by simp)).trans (Ac.new_cell _ _ _ _ _ rfl)
      clear hw
      go_wp2
      go_ret
      exact ⟨rfl, BX.out⟩
    have e : marketErr bids asks idx last = 0 := by
      unfold marketErr
      rw [if_pos hb]
      first
        | (rw [if_pos ⟨betw_mk (by omega), betw_mk (by omega)⟩])
        | (rw [if_neg (by intro hh; have := betw_true hh.1; have := betw_true hh.2; omega)])
    rw [e]
    rw [hb] at CK
    clear e hb
    generalize bids.length = nb at CK ⊢
    generalize asks.length = na at CK ⊢
    go_enter Tryd.func17, Tryd.ntmps17
    go_wp2_with fail
    refine (CK.out _ ((Below.refl _ w).alloc (Nat.le_refl _) _)).mono ?_
    rintro e W ⟨rfl, hw⟩
    have BX := hide (((Below.refl _ w).alloc (Nat.le_refl _) (mktO p p' nb c na c' idx last)).trans (hw.mono (by simp)))
    have e2 : W.cell? ⟨w.heap.size, 2, none⟩ = some (.int .i64 idx) := (hw.cell (by simp)).trans (Ac.new_cell _ _ _ _ _ rfl)
    have e3 : W.cell? ⟨w.heap.size, 3, none⟩ = some (.int .i64 last) := (hw.cell (by simp)).trans (Ac.new_cell _ _ _ _ _ rfl)
    clear hw
    go_wp2
    go_ret
    exact ⟨rfl, BX.out⟩
  · rw [show marketErr bids asks idx last = bookErr bids asks from by unfold marketErr; rw [if_neg hb]]
    generalize bookErr bids asks = eb at hb CK ⊢
    generalize bids.length = nb at CK ⊢
    generalize asks.length = na at CK ⊢
    go_enter Tryd.func17, Tryd.ntmps17
    go_wp2_with fail
    refine (CK.out _ ((Below.refl _ w).alloc (Nat.le_refl _) _)).mono ?_
    rintro e W ⟨rfl, hw⟩
    have BX := hide (((Below.refl _ w).alloc (Nat.le_refl _) (mktO p p' nb c na c' idx last)).trans (hw.mono (by simp)))
    clear hw
    go_wp2
    go_ret
    exact ⟨rfl, BX.out⟩

theorem first_one {s : Int} {o : Odr} {l : List Odr} (h : Side s (o :: l)) : 1 ≤ opr o ∧ opr o ≤ 10000 := by
  have h1 := h.ok o (by simp)
  unfold okOrder at h1
  split at h1
  · cases h1
  · split at h1
    · cases h1
    · split at h1
      · cases h1
      · rename_i h3
        omega

theorem mid_def (a b c : Int) : middleR a b c = max (min a b) (min (max a b) c) := rfl
theorem mark_is {fb fa idx last mid lst : Int} (i1 : 1 ≤ idx) (hm : halfR fb fa idx = mid) (hl : lastR last idx = lst) : markOf fb fa idx last = middleR (idx - idx / 20) (middleR idx mid lst) (idx + idx / 20) := by
  unfold markOf
  rw [hm, hl, Int.tdiv_eq_ediv_of_nonneg (by omega)]
theorem half_two {fb fa idx : Int} (f1 : 1 ≤ fb) (f3 : 1 ≤ fa) : halfR fb fa idx = (fb + fa) / 2 := by
  unfold halfR
  rw [if_neg (by omega), Int.tdiv_eq_ediv_of_nonneg (by omega)]
theorem half_one {fb fa idx : Int} (h : fb = 0 ∨ fa = 0) : halfR fb fa idx = idx := by
  unfold halfR
  rw [if_pos h]
theorem last_none {last idx : Int} (h : last = 0) : lastR last idx = idx := by unfold lastR; rw [if_pos h]
theorem last_some {last idx : Int} (h : ¬ last = 0) : lastR last idx = last := by unfold lastR; rw [if_neg h]
set_option maxHeartbeats 4000000 in
set_option maxRecDepth 100000 in
theorem refMarkOf_two (b off b' off' : Nat) (c c' : Nat) (nb na : Nat) (fb fa idx last : Int) (w : World) (hnb : 0 < nb) (hna : 0 < na) (h3 : w.cell? ⟨b, off + 3, none⟩ = some (.int .i64 fb)) (h3' : w.cell? ⟨b', off' + 3, none⟩ = some (.int .i64 fa))
    (f1 : 1 ≤ fb) (f2 : fb ≤ 10000) (f3 : 1 ≤ fa) (f4 : fa ≤ 10000) (i1 : 1 ≤ idx) (i2 : idx ≤ 10000) (_l1 : 0 ≤ last) (_l2 : last ≤ 10000) :
    Calls Tryd.prog 20 #[mktV (some ⟨b, off, none⟩) (some ⟨b', off', none⟩) nb c na c' idx last] w fun e w' => e = .returned (.int .i64 (markOf fb fa idx last)) ∧ Below w.heap.size w w' := by
  have k3 := cell_alloc h3 (mktO (some ⟨b, off, none⟩) (some ⟨b', off', none⟩) nb c na c' idx last)
  have k3' := cell_alloc h3' (mktO (some ⟨b, off, none⟩) (some ⟨b', off', none⟩) nb c na c' idx last)
  have z1 : (0 : Int) < (nb : Int) := by omega
  have z2 : (0 : Int) < (na : Int) := by omega
  have z3 : ((nb : Int) != 0) = true := by simp; omega
  have z4 : ((na : Int) != 0) = true := by simp; omega
  clear h3 h3'
  have m0 : (w.alloc (mktO (some ⟨b, off, none⟩) (some ⟨b', off', none⟩) nb c na c' idx last)).cell? ⟨w.heap.size, 0, none⟩ = some (.slice (some ⟨b, off, none⟩) nb c) := Ac.new_cell _ _ _ _ _ rfl
  have m1 : (w.alloc (mktO (some ⟨b, off, none⟩) (some ⟨b', off', none⟩) nb c na c' idx last)).cell? ⟨w.heap.size, 1, none⟩ = some (.slice (some ⟨b', off', none⟩) na c') := Ac.new_cell _ _ _ _ _ rfl
  have m2 : (w.alloc (mktO (some ⟨b, off, none⟩) (some ⟨b', off', none⟩) nb c na c' idx last)).cell? ⟨w.heap.size, 2, none⟩ = some (.int .i64 idx) := Ac.new_cell _ _ _ _ _ rfl
  have m3 : (w.alloc (mktO (some ⟨b, off, none⟩) (some ⟨b', off', none⟩) nb c na c' idx last)).cell? ⟨w.heap.size, 3, none⟩ = some (.int .i64 last) := Ac.new_cell _ _ _ _ _ rfl
  have BM := hide (Ac.below_alloc w (mktO (some ⟨b, off, none⟩) (some ⟨b', off', none⟩) nb c na c' idx last))
  go_enter Tryd.func20, Tryd.ntmps20
  go_wp2
  go_quiet (fail)
  obtain ⟨W3, hW3⟩ : ∃ W', W' = (w.alloc (mktO (some ⟨b, off, none⟩) (some ⟨b', off', none⟩) nb c na c' idx last)).drewN nq := ⟨_, rfl⟩
  rw [← hW3]
  have m0 : W3.cell? ⟨w.heap.size, 0, none⟩ = some (.slice (some ⟨b, off, none⟩) nb c) := by rw [hW3]; exact m0
  have m1 : W3.cell? ⟨w.heap.size, 1, none⟩ = some (.slice (some ⟨b', off', none⟩) na c') := by rw [hW3]; exact m1
  have m2 : W3.cell? ⟨w.heap.size, 2, none⟩ = some (.int .i64 idx) := by rw [hW3]; exact m2
  have m3 : W3.cell? ⟨w.heap.size, 3, none⟩ = some (.int .i64 last) := by rw [hW3]; exact m3
  have BM : Hid (Below w.heap.size w W3) := by rw [hW3]; exact below_drewN BM.out _
  have k3 : W3.cell? ⟨b, off + 3, none⟩ = some (.int .i64 fb) := by rw [hW3]; exact k3
  have k3' : W3.cell? ⟨b', off' + 3, none⟩ = some (.int .i64 fa) := by rw [hW3]; exact k3'
  clear hW3
  go_wp2
  go_quiet (fail)
  obtain ⟨W4, hW4⟩ : ∃ W', W' = W3.drewN nq := ⟨_, rfl⟩
  rw [← hW4]
  have m0 : W4.cell? ⟨w.heap.size, 0, none⟩ = some (.slice (some ⟨b, off, none⟩) nb c) := by rw [hW4]; exact m0
  have m1 : W4.cell? ⟨w.heap.size, 1, none⟩ = some (.slice (some ⟨b', off', none⟩) na c') := by rw [hW4]; exact m1
  have m2 : W4.cell? ⟨w.heap.size, 2, none⟩ = some (.int .i64 idx) := by rw [hW4]; exact m2
  have m3 : W4.cell? ⟨w.heap.size, 3, none⟩ = some (.int .i64 last) := by rw [hW4]; exact m3
  have BM : Hid (Below w.heap.size w W4) := by rw [hW4]; exact below_drewN BM.out _
  clear hW4 k3 k3'
  by_cases hl0 : last = 0
  · have MI := hide (mark_is i1 (half_two f1 f3) (last_none hl0))
    have hlz : (last == 0) = true := by simp [hl0]
    clear hl0
    go_wp2_with fail
    refine (middleOf_any _ _ _ _).mono ?_
    rintro e W5 ⟨rfl, hb5⟩
    have m2 := (hb5.cell (World.block_lt_of_cell? _ _ m2)).trans m2
    have BE := hide (BM.out.trans (hb5.mono BM.out.size))
    clear hb5 m0 m1 m3
    go_wp2
    all_goals
      go_ret
      refine ⟨Fix.ret_int ?_, BE.out⟩
      rw [MI.out, mid_def (idx - idx / 20)]
      omega
  · have MI := hide (mark_is i1 (half_two f1 f3) (last_some hl0))
    have hlz : (last == 0) = false := by simp [hl0]
    go_wp2_with fail
    refine (middleOf_any _ _ _ _).mono ?_
    rintro e W5 ⟨rfl, hb5⟩
    have m2 := (hb5.cell (World.block_lt_of_cell? _ _ m2)).trans m2
    have BE := hide (BM.out.trans (hb5.mono BM.out.size))
    clear hb5 m0 m1 m3
    go_wp2
    all_goals
      go_ret
      refine ⟨Fix.ret_int ?_, BE.out⟩
      rw [MI.out, mid_def (idx - idx / 20)]
      omega

set_option maxHeartbeats 4000000 in
set_option maxRecDepth 100000 in
theorem refMarkOf_one (p p' : Option Addr) (c c' : Nat) (nb na : Nat) (fb fa idx last : Int) (w : World) (h : nb = 0 ∨ na = 0) (hf : fb = 0 ∨ fa = 0)
    (i1 : 1 ≤ idx) (i2 : idx ≤ 10000) (_l1 : 0 ≤ last) (_l2 : last ≤ 10000) :
    Calls Tryd.prog 20 #[mktV p p' nb c na c' idx last] w fun e w' => e = .returned (.int .i64 (markOf fb fa idx last)) ∧ Below w.heap.size w w' := by
  by_cases h0 : nb = 0
  · obtain ⟨z, hz⟩ : ∃ z : Nat, z = nb := ⟨_, rfl⟩
    have z3 : ¬ (nb : Int) != 0 := by simp [h0]
    have z4 : ((nb : Int) == 0) = true := by simp [h0]
    clear h h0 hz z
    have m0 : (w.alloc (mktO p p' nb c na c' idx last)).cell? ⟨w.heap.size, 0, none⟩ = some (.slice p nb c) := Ac.new_cell _ _ _ _ _ rfl
    have m1 : (w.alloc (mktO p p' nb c na c' idx last)).cell? ⟨w.heap.size, 1, none⟩ = some (.slice p' na c') := Ac.new_cell _ _ _ _ _ rfl
    have m2 : (w.alloc (mktO p p' nb c na c' idx last)).cell? ⟨w.heap.size, 2, none⟩ = some (.int .i64 idx) := Ac.new_cell _ _ _ _ _ rfl
    have m3 : (w.alloc (mktO p p' nb c na c' idx last)).cell? ⟨w.heap.size, 3, none⟩ = some (.int .i64 last) := Ac.new_cell _ _ _ _ _ rfl
    have BM := hide (Ac.below_alloc w (mktO p p' nb c na c' idx last))
    go_enter Tryd.func20, Tryd.ntmps20
    go_wp2
    go_quiet (fail)
    obtain ⟨W3, hW3⟩ : ∃ W', W' = (w.alloc (mktO p p' nb c na c' idx last)).drewN nq := ⟨_, rfl⟩
    rw [← hW3]
    have m0 : W3.cell? ⟨w.heap.size, 0, none⟩ = some (.slice p nb c) := by rw [hW3]; exact m0
    have m1 : W3.cell? ⟨w.heap.size, 1, none⟩ = some (.slice p' na c') := by rw [hW3]; exact m1
    have m2 : W3.cell? ⟨w.heap.size, 2, none⟩ = some (.int .i64 idx) := by rw [hW3]; exact m2
    have m3 : W3.cell? ⟨w.heap.size, 3, none⟩ = some (.int .i64 last) := by rw [hW3]; exact m3
    have BM : Hid (Below w.heap.size w W3) := by rw [hW3]; exact below_drewN BM.out _
    clear hW3
    by_cases hl0 : last = 0
    · have MI := hide (mark_is i1 (half_one hf) (last_none hl0))
      have hlz : (last == 0) = true := by simp [hl0]
      clear hl0 hf
      go_wp2_with fail
      refine (middleOf_any _ _ _ _).mono ?_
      rintro e W5 ⟨rfl, hb5⟩
      have m2 := (hb5.cell (World.block_lt_of_cell? _ _ m2)).trans m2
      have BE := hide (BM.out.trans (hb5.mono BM.out.size))
      clear hb5 m0 m1 m3
      go_wp2
      all_goals
        go_ret
        refine ⟨Fix.ret_int ?_, BE.out⟩
        rw [MI.out, mid_def (idx - idx / 20)]
        omega
    · have MI := hide (mark_is i1 (half_one hf) (last_some hl0))
      have hlz : (last == 0) = false := by simp [hl0]
      clear hf
      go_wp2_with fail
      refine (middleOf_any _ _ _ _).mono ?_
      rintro e W5 ⟨rfl, hb5⟩
      have m2 := (hb5.cell (World.block_lt_of_cell? _ _ m2)).trans m2
      have BE := hide (BM.out.trans (hb5.mono BM.out.size))
      clear hb5 m0 m1 m3
      go_wp2
      all_goals
        go_ret
        refine ⟨Fix.ret_int ?_, BE.out⟩
        rw [MI.out, mid_def (idx - idx / 20)]
        omega
  · have h1 : na = 0 := by omega
    have z3 : ((nb : Int) != 0) = true := by simp; omega
    have z4 : ¬ (nb : Int) = 0 := by omega
    have z5 : ¬ (na : Int) != 0 := by simp [h1]
    have z6 : ((na : Int) == 0) = true := by simp [h1]
    clear h h0 h1
    have m0 : (w.alloc (mktO p p' nb c na c' idx last)).cell? ⟨w.heap.size, 0, none⟩ = some (.slice p nb c) := Ac.new_cell _ _ _ _ _ rfl
    have m1 : (w.alloc (mktO p p' nb c na c' idx last)).cell? ⟨w.heap.size, 1, none⟩ = some (.slice p' na c') := Ac.new_cell _ _ _ _ _ rfl
    have m2 : (w.alloc (mktO p p' nb c na c' idx last)).cell? ⟨w.heap.size, 2, none⟩ = some (.int .i64 idx) := Ac.new_cell _ _ _ _ _ rfl
    have m3 : (w.alloc (mktO p p' nb c na c' idx last)).cell? ⟨w.heap.size, 3, none⟩ = some (.int .i64 last) := Ac.new_cell _ _ _ _ _ rfl
    have BM := hide (Ac.below_alloc w (mktO p p' nb c na c' idx last))
    go_enter Tryd.func20, Tryd.ntmps20
    go_wp2
    go_quiet (fail)
    obtain ⟨W3, hW3⟩ : ∃ W', W' = (w.alloc (mktO p p' nb c na c' idx last)).drewN nq := ⟨_, rfl⟩
    rw [← hW3]
    have m0 : W3.cell? ⟨w.heap.size, 0, none⟩ = some (.slice p nb c) := by rw [hW3]; exact m0
    have m1 : W3.cell? ⟨w.heap.size, 1, none⟩ = some (.slice p' na c') := by rw [hW3]; exact m1
    have m2 : W3.cell? ⟨w.heap.size, 2, none⟩ = some (.int .i64 idx) := by rw [hW3]; exact m2
    have m3 : W3.cell? ⟨w.heap.size, 3, none⟩ = some (.int .i64 last) := by rw [hW3]; exact m3
    have BM : Hid (Below w.heap.size w W3) := by rw [hW3]; exact below_drewN BM.out _
    clear hW3
    by_cases hl0 : last = 0
    · have MI := hide (mark_is i1 (half_one hf) (last_none hl0))
      have hlz : (last == 0) = true := by simp [hl0]
      clear hl0 hf
      go_wp2_with fail
      refine (middleOf_any _ _ _ _).mono ?_
      rintro e W5 ⟨rfl, hb5⟩
      have m2 := (hb5.cell (World.block_lt_of_cell? _ _ m2)).trans m2
      have BE := hide (BM.out.trans (hb5.mono BM.out.size))
      clear hb5 m0 m1 m3
      go_wp2
      all_goals
        go_ret
        refine ⟨Fix.ret_int ?_, BE.out⟩
        rw [MI.out, mid_def (idx - idx / 20)]
        omega
    · have MI := hide (mark_is i1 (half_one hf) (last_some hl0))
      have hlz : (last == 0) = false := by simp [hl0]
      clear hf
      go_wp2_with fail
      refine (middleOf_any _ _ _ _).mono ?_
      rintro e W5 ⟨rfl, hb5⟩
      have m2 := (hb5.cell (World.block_lt_of_cell? _ _ m2)).trans m2
      have BE := hide (BM.out.trans (hb5.mono BM.out.size))
      clear hb5 m0 m1 m3
      go_wp2
      all_goals
        go_ret
        refine ⟨Fix.ret_int ?_, BE.out⟩
        rw [MI.out, mid_def (idx - idx / 20)]
        omega

theorem refMarkOf_any (p p' : Option Addr) (c c' : Nat) (bids asks : List Odr) (idx last : Int) (w : World) (h : ORow w p bids) (h' : ORow w p' asks) (he : marketErr bids asks idx last = 0) :
    Calls Tryd.prog 20 #[mktV p p' bids.length c asks.length c' idx last] w fun e w' => e = .returned (.int .i64 (markOf (firstPrice bids) (firstPrice asks) idx last)) ∧ Below w.heap.size w w' := by
  obtain ⟨hb, hi, hl⟩ := marketErr_ok he
  have hR := bookErr_zero.1 hb
  have h1 := betw_true hi
  have h2 := betw_true hl
  cases bids with
  | nil => exact refMarkOf_one p p' c c' 0 asks.length 0 (firstPrice asks) idx last w (.inl rfl) (.inl rfl) h1.1 h1.2 h2.1 h2.2
  | cons x xs =>
    cases asks with
    | nil => exact refMarkOf_one p p' c c' (x :: xs).length 0 (firstPrice (x :: xs)) 0 idx last w (.inr rfl) (.inr rfl) h1.1 h1.2 h2.1 h2.2
    | cons y ys =>
      rcases h with e | ⟨b, off, rfl, hc⟩
      · cases e
      rcases h' with e | ⟨b', off', rfl, hc'⟩
      · cases e
      have c3 := (orow_cells hc (j := 0) (by simp)).2.2.2.1
      have c3' := (orow_cells hc' (j := 0) (by simp)).2.2.2.1
      simp only [Nat.zero_mul, Nat.add_zero] at c3 c3'
      have f := first_one hR.b
      have f' := first_one hR.a
      exact refMarkOf_two b off b' off' c c' (x :: xs).length (y :: ys).length (opr x) (opr y) idx last w (by simp) (by simp) c3 c3' f.1 f.2 f'.1 f'.2 h1.1 h1.2 h2.1 h2.2
end Go.Proofs.YtbphljnncbiddabDoor.Rm
