/-
  Markets by contracts: Best, of any book; CheckMarket.
-/
import Derived.Test.YtbphljnncbiddabDoorBkCheck
import Derived.Test.YtbphljnncbiddabDoorRmP
import Derived.Test.YtbphljnncbiddabDoorAc4
import Derived.Shelf.SlSortCmp.QuietGrown
import Derived.BigQuiet
namespace Go.Proofs.YtbphljnncbiddabDoor.Rm
open Go.RowKit Go.Sort Go.Maps Go.Proofs.YtbphljnncbiddabDoor.Num Go.Proofs.YtbphljnncbiddabDoor.Bk

theorem firstPrice_grow (p : Option Addr) (c : Nat) (xs : List Odr) (w : World) (h : ORow w p xs) :
    Calls Tryd.prog 54 #[.slice p xs.length c] w fun e w' => e = .returned (.int .i64 (firstPrice xs)) ∧ ∃ k os, w' = grow (w.drewN k) os :=
  (firstPrice_any p c xs w h).mono fun _ _ ⟨he, hw⟩ => ⟨he, 0, #[], by rw [hw, grow_empty]; rfl⟩

set_option maxHeartbeats 1000000 in
set_option maxRecDepth 100000 in
theorem best_ok (p p' : Option Addr) (c c' : Nat) (bids asks : List Odr) (w : World) (h : ORow w p bids) (h' : ORow w p' asks) (hR : Right bids asks) :
    Calls Tryd.prog 37 #[.agg #[.slice p bids.length c, .slice p' asks.length c']] w fun e w' => e = .returned (.tuple #[.int .i64 (firstPrice bids), .int .i64 (firstPrice asks), .int .i64 0]) ∧ Below w.heap.size w w' := by
  have mixed : Tryd.prog.follows .mixedOrders = true := by kernel_rfl
  have hl := hR.few
  have CK := hide (fun W hW => check_any p p' c c' bids asks W (orow_below h hW) (orow_below h' hW) (by omega) (by omega))
  rw [bookErr_zero.2 hR] at CK
  have FB := hide (fun W hW => firstPrice_grow p c bids W (orow_below h hW))
  have FA := hide (fun W hW => firstPrice_grow p' c' asks W (orow_below h' hW))
  clear h h' hR hl
  generalize firstPrice bids = fb at FB ⊢
  generalize firstPrice asks = fa at FA ⊢
  generalize bids.length = nb at CK FB ⊢
  generalize asks.length = na at CK FA ⊢
  go_enter Tryd.func37, Tryd.ntmps37
  go_wp2_with fail
  refine (CK.out _ ((Below.refl _ w).alloc (Nat.le_refl _) _)).mono ?_
  rintro e W ⟨rfl, hb⟩
  have BW := hide (((Below.refl _ w).alloc (Nat.le_refl _) (.cells #[.slice p nb c, .slice p' na c'] 39)).trans (hb.mono (by simp)))
  have e0 : W.cell? ⟨w.heap.size, 0, none⟩ = some (.slice p nb c) := (hb.cell (by simp)).trans (Ac.new_cell _ _ _ _ _ rfl)
  have e1 : W.cell? ⟨w.heap.size, 1, none⟩ = some (.slice p' na c') := (hb.cell (by simp)).trans (Ac.new_cell _ _ _ _ _ rfl)
  have g0 := fun n os => Go.cell_grown (World.block_lt_of_cell? _ _ e0) e0 n os
  have g1 := fun n os => Go.cell_grown (World.block_lt_of_cell? _ _ e1) e1 n os
  have FB' := hide (fun n os => FB.out (grow (W.drewN n) os) (BW.out.trans ((grow_below W n os).mono BW.out.size)))
  have FA' := hide (fun n os => FA.out (grow (W.drewN n) os) (BW.out.trans ((grow_below W n os).mono BW.out.size)))
  clear hb CK FB FA e0 e1
  go_wp2_with fail
  refine wp_region_quiet_grown (by assumption) (by kernel_rfl) ?_
  go_big_quiet_step (fail)
  go_big_quiet_step (fail)
  go_big_quiet_step (refine Calls.grown_of (FB'.out _ _))
  go_big_quiet_step (fail)
  go_big_quiet_step (fail)
  go_big_quiet_step (refine Calls.grown_of (FA'.out _ _))
  repeat (go_big_quiet_step (fail))
  refine wpQuiet_nil ?_
  intro _ hwq
  obtain ⟨⟨nq, osq⟩, hwq'⟩ := hwq
  subst hwq'
  go_wp2
  go_ret3
  exact ⟨rfl, BW.out.trans ((grow_below W nq osq).mono BW.out.size)⟩

def bestB (bids asks : List Odr) : Int := if bookErr bids asks = 0 then firstPrice bids else 0
def bestA (bids asks : List Odr) : Int := if bookErr bids asks = 0 then firstPrice asks else 0
set_option maxHeartbeats 1000000 in
theorem best_all (p p' : Option Addr) (c c' : Nat) (bids asks : List Odr) (w : World) (h : ORow w p bids) (h' : ORow w p' asks) (hn : bids.length ≤ 140737488351232) (hn' : asks.length ≤ 140737488351232) :
    Calls Tryd.prog 37 #[.agg #[.slice p bids.length c, .slice p' asks.length c']] w fun e w' => e = .returned (.tuple #[.int .i64 (bestB bids asks), .int .i64 (bestA bids asks), .int .i64 (bookErr bids asks)]) ∧ Below w.heap.size w w' := by
  unfold bestB bestA
  by_cases hb : bookErr bids asks = 0
  · rw [hb, if_pos rfl, if_pos rfl]
    exact best_ok p p' c c' bids asks w h h' (bookErr_zero.1 hb)
  · rw [if_neg hb, if_neg hb]
    have CK := hide (fun W hW => check_any p p' c c' bids asks W (orow_below h hW) (orow_below h' hW) hn hn')
    generalize bookErr bids asks = eb at hb CK ⊢
    generalize bids.length = nb at CK ⊢
    generalize asks.length = na at CK ⊢
    go_enter Tryd.func37, Tryd.ntmps37
    go_wp2_with fail
    refine (CK.out _ ((Below.refl _ w).alloc (Nat.le_refl _) _)).mono ?_
    rintro e W ⟨rfl, hw⟩
    have BX := hide (((Below.refl _ w).alloc (Nat.le_refl _) _).trans (hw.mono (by simp)))
    clear hw
    go_wp2
    go_ret3
    exact ⟨rfl, BX.out⟩

/-- a market, as it is handed on. -/
abbrev mktV (p p' : Option Addr) (nb c na c' : Nat) (idx last : Int) : Value := .agg #[.slice p nb c, .slice p' na c', .int .i64 idx, .int .i64 last]
abbrev mktO (p p' : Option Addr) (nb c na c' : Nat) (idx last : Int) : Obj := .cells #[.slice p nb c, .slice p' na c', .int .i64 idx, .int .i64 last] 41

set_option maxHeartbeats 2000000 in
set_option maxRecDepth 100000 in
theorem checkMarket_any (p p' : Option Addr) (c c' : Nat) (bids asks : List Odr) (idx last : Int) (w : World) (h : ORow w p bids) (h' : ORow w p' asks) (hn : bids.length ≤ 140737488351232) (hn' : asks.length ≤ 140737488351232) :
    Calls Tryd.prog 19 #[mktV p p' bids.length c asks.length c' idx last] w fun e w' => e = .returned (.int .i64 (marketErr bids asks idx last)) ∧ Below w.heap.size w w' := by
  have CK := hide (fun W hW => check_any p p' c c' bids asks W (orow_below h hW) (orow_below h' hW) hn hn')
  clear h h' hn hn'
  by_cases hb : bookErr bids asks = 0
  · by_cases h1 : idx < 1
    · have e : marketErr bids asks idx last = 3 := by
        unfold marketErr
        rw [if_pos hb]
        first
          | (rw [if_pos ⟨betw_mk (by omega), betw_mk (by omega)⟩])
          | (rw [if_neg (by intro hh; have := betw_true hh.1; have := betw_true hh.2; omega)])
      rw [e]
      rw [hb] at CK
      clear e hb
      generalize bids.length = nb at CK ⊢
      generalize asks.length = na at CK ⊢
      go_enter Tryd.func19, Tryd.ntmps19
      go_wp2_with fail
      refine (CK.out _ ((Below.refl _ w).alloc (Nat.le_refl _) _)).mono ?_
      rintro e W ⟨rfl, hw⟩
      have BX := hide (((Below.refl _ w).alloc (Nat.le_refl _) (mktO p p' nb c na c' idx last)).trans (hw.mono (by simp)))
      have e2 : W.cell? ⟨w.heap.size, 2, none⟩ = some (.int .i64 idx) := (hw.cell (by simp)).trans (Ac.new_cell _ _ _ _ _ rfl)
      have e3 : W.cell? ⟨w.heap.size, 3, none⟩ = some (.int .i64 last) := (hw.cell (by simp)).trans (Ac.new_cell _ _ _ _ _ rfl)
      clear hw
      go_wp2
      go_ret
      exact ⟨rfl, BX.out⟩
    by_cases h2 : 10000 < idx
    · have e : marketErr bids asks idx last = 3 := by
        unfold marketErr
        rw [if_pos hb]
        first
          | (rw [if_pos ⟨betw_mk (by omega), betw_mk (by omega)⟩])
          | (rw [if_neg (by intro hh; have := betw_true hh.1; have := betw_true hh.2; omega)])
      rw [e]
      rw [hb] at CK
      clear e hb
      generalize bids.length = nb at CK ⊢
      generalize asks.length = na at CK ⊢
      go_enter Tryd.func19, Tryd.ntmps19
      go_wp2_with fail
      refine (CK.out _ ((Below.refl _ w).alloc (Nat.le_refl _) _)).mono ?_
      rintro e W ⟨rfl, hw⟩
      have BX := hide (((Below.refl _ w).alloc (Nat.le_refl _) (mktO p p' nb c na c' idx last)).trans (hw.mono (by simp)))
      have e2 : W.cell? ⟨w.heap.size, 2, none⟩ = some (.int .i64 idx) := (hw.cell (by simp)).trans (Ac.new_cell _ _ _ _ _ rfl)
      have e3 : W.cell? ⟨w.heap.size, 3, none⟩ = some (.int .i64 last) := (hw.cell (by simp)).trans (Ac.new_cell _ _ _ _ _ rfl)
      clear hw
      go_wp2
      go_ret
      exact ⟨rfl, BX.out⟩
    by_cases h3 : last < 0
    · have e : marketErr bids asks idx last = 3 := by
        unfold marketErr
        rw [if_pos hb]
        first
          | (rw [if_pos ⟨betw_mk (by omega), betw_mk (by omega)⟩])
          | (rw [if_neg (by intro hh; have := betw_true hh.1; have := betw_true hh.2; omega)])
      rw [e]
      rw [hb] at CK
      clear e hb
      generalize bids.length = nb at CK ⊢
      generalize asks.length = na at CK ⊢
      go_enter Tryd.func19, Tryd.ntmps19
      go_wp2_with fail
      refine (CK.out _ ((Below.refl _ w).alloc (Nat.le_refl _) _)).mono ?_
      rintro e W ⟨rfl, hw⟩
      have BX := hide (((Below.refl _ w).alloc (Nat.le_refl _) (mktO p p' nb c na c' idx last)).trans (hw.mono (by simp)))
      have e2 : W.cell? ⟨w.heap.size, 2, none⟩ = some (.int .i64 idx) := (hw.cell (by simp)).trans (Ac.new_cell _ _ _ _ _ rfl)
      have e3 : W.cell? ⟨w.heap.size, 3, none⟩ = some (.int .i64 last) := (hw.cell (by simp)).trans (Ac.new_cell _ _ _ _ _ rfl)
      clear hw
      go_wp2
      go_ret
      exact ⟨rfl, BX.out⟩
    by_cases h4 : 10000 < last
    · have e : marketErr bids asks idx last = 3 := by
        unfold marketErr
        rw [if_pos hb]
        first
          | (rw [if_pos ⟨betw_mk (by omega), betw_mk (by omega)⟩])
          | (rw [if_neg (by intro hh; have := betw_true hh.1; have := betw_true hh.2; omega)])
      rw [e]
      rw [hb] at CK
      clear e hb
      generalize bids.length = nb at CK ⊢
      generalize asks.length = na at CK ⊢
      go_enter Tryd.func19, Tryd.ntmps19
      go_wp2_with fail
      refine (CK.out _ ((Below.refl _ w).alloc (Nat.le_refl _) _)).mono ?_
      rintro e W ⟨rfl, hw⟩
      have BX := hide (((Below.refl _ w).alloc (Nat.le_refl _) (mktO p p' nb c na c' idx last)).trans (hw.mono (by simp)))
      have e2 : W.cell? ⟨w.heap.size, 2, none⟩ = some (.int .i64 idx) := (hw.cell (by simp)).trans (Ac.new_cell _ _ _ _ _ rfl)
      have e3 : W.cell? ⟨w.heap.size, 3, none⟩ = some (.int .i64 last) := (hw.cell (by simp)).trans (Ac.new_cell _ _ _ _ _ rfl)
      clear hw
      go_wp2
      go_ret
      exact ⟨rfl, BX.out⟩
    have e : marketErr bids asks idx last = 0 := by
      unfold marketErr
      rw [if_pos hb]
      first
        | (rw [if_pos ⟨betw_mk (by omega), betw_mk (by omega)⟩])
        | (rw [if_neg (by intro hh; have := betw_true hh.1; have := betw_true hh.2; omega)])
    rw [e]
    rw [hb] at CK
    clear e hb
    generalize bids.length = nb at CK ⊢
    generalize asks.length = na at CK ⊢
    go_enter Tryd.func19, Tryd.ntmps19
    go_wp2_with fail
    refine (CK.out _ ((Below.refl _ w).alloc (Nat.le_refl _) _)).mono ?_
    rintro e W ⟨rfl, hw⟩
    have BX := hide (((Below.refl _ w).alloc (Nat.le_refl _) (mktO p p' nb c na c' idx last)).trans (hw.mono (by simp)))
    have e2 : W.cell? ⟨w.heap.size, 2, none⟩ = some (.int .i64 idx) := (hw.cell (by simp)).trans (Ac.new_cell _ _ _ _ _ rfl)
    have e3 : W.cell? ⟨w.heap.size, 3, none⟩ = some (.int .i64 last) := (hw.cell (by simp)).trans (Ac.new_cell _ _ _ _ _ rfl)
    clear hw
    go_wp2
    go_ret
    exact ⟨rfl, BX.out⟩
  · rw [show marketErr bids asks idx last = bookErr bids asks from by unfold marketErr; rw [if_neg hb]]
    generalize bookErr bids asks = eb at hb CK ⊢
    generalize bids.length = nb at CK ⊢
    generalize asks.length = na at CK ⊢
    go_enter Tryd.func19, Tryd.ntmps19
    go_wp2_with fail
    refine (CK.out _ ((Below.refl _ w).alloc (Nat.le_refl _) _)).mono ?_
    rintro e W ⟨rfl, hw⟩
    have BX := hide (((Below.refl _ w).alloc (Nat.le_refl _) (mktO p p' nb c na c' idx last)).trans (hw.mono (by simp)))
    clear hw
    go_wp2
    go_ret
    exact ⟨rfl, BX.out⟩
end Go.Proofs.YtbphljnncbiddabDoor.Rm
