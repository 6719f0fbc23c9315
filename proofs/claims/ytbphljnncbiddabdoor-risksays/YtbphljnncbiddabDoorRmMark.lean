/-
  Markets by contracts: Mark; the price of bankruptcy.
-/
import Derived.Test.YtbphljnncbiddabDoorRmBest
import Derived.Test.YtbphljnncbiddabDoorRk2
namespace Go.Proofs.YtbphljnncbiddabDoor.Rm
open Go.RowKit Go.Sort Go.Maps Go.Proofs.YtbphljnncbiddabDoor.Num Go.Proofs.YtbphljnncbiddabDoor.Bk

theorem between_any (a b c : Int) (w : World) :
    Calls Tryd.prog 31 #[.int .i64 a, .int .i64 b, .int .i64 c] w fun e w' => e = .returned (.int .i64 (middleR a b c)) ∧ w' = w := by
  go_enter Tryd.func31, Tryd.ntmps31
  go_wp2_with fail
  refine (Fix.middle_any _ _ _ _).mono ?_
  rintro e w' ⟨rfl, rfl⟩
  go_wp2
  go_ret
  exact ⟨rfl, rfl⟩

theorem tdiv_two {fb fa : Int} (h1 : 0 ≤ fb) (h2 : fb ≤ 10000) (h3 : 0 ≤ fa) (h4 : fa ≤ 10000) : 0 ≤ (fb + fa).tdiv 2 ∧ (fb + fa).tdiv 2 ≤ 10000 := by
  rw [Int.tdiv_eq_ediv_of_nonneg (by omega)]
  omega

set_option maxHeartbeats 2000000 in
set_option maxRecDepth 100000 in
theorem mark_any (p p' : Option Addr) (c c' : Nat) (bids asks : List Odr) (idx last : Int) (w : World) (h : ORow w p bids) (h' : ORow w p' asks) (hn : bids.length ≤ 140737488351232) (hn' : asks.length ≤ 140737488351232) :
    Calls Tryd.prog 18 #[mktV p p' bids.length c asks.length c' idx last] w fun e w' => e = .returned (.tuple #[.int .i64 (markR bids asks idx last).1, .int .i64 (markR bids asks idx last).2]) ∧ Below w.heap.size w w' := by
  have CK := hide (fun W hW => checkMarket_any p p' c c' bids asks idx last W (orow_below h hW) (orow_below h' hW) hn hn')
  have BE := hide (fun W hW => best_all p p' c c' bids asks W (orow_below h hW) (orow_below h' hW) hn hn')
  clear h h' hn hn'
  unfold markR
  by_cases hm : marketErr bids asks idx last = 0
  · rw [if_pos hm]
    obtain ⟨hb, hi, hl⟩ := marketErr_ok hm
    have hR := bookErr_zero.1 hb
    have f1 := first_bd hR.b
    have f2 := first_bd hR.a
    rw [hm] at CK
    unfold bestB bestA at BE
    rw [hb, if_pos rfl, if_pos rfl] at BE
    obtain ⟨i1, i2⟩ := betw_true hi
    obtain ⟨l1, l2⟩ := betw_true hl
    clear hm hR hi hl hb
    generalize firstPrice bids = fb at BE f1 ⊢
    generalize firstPrice asks = fa at BE f2 ⊢
    generalize bids.length = nb at CK BE ⊢
    generalize asks.length = na at CK BE ⊢
    obtain ⟨a1, a2⟩ := f1
    obtain ⟨a3, a4⟩ := f2
    obtain ⟨t1, t2⟩ := tdiv_two a1 a2 a3 a4
    have t3 : 0 ≤ idx.tdiv 20 ∧ idx.tdiv 20 ≤ 10000 := by rw [Int.tdiv_eq_ediv_of_nonneg (by omega)]; omega
    obtain ⟨t3, t4⟩ := t3
    generalize hM : markOf fb fa idx last = M
    by_cases x1 : fb = 0
    · by_cases x3 : last = 0
      · have ON : Hid (middleR (idx - idx.tdiv 20) (middleR idx idx idx) (idx + idx.tdiv 20) = M) := by
          rw [← hM]; unfold markOf halfR lastR; rw [if_pos (.inl x1), (if_pos x3)]; exact rfl
        clear hM
        subst x1 x3
        go_enter Tryd.func18, Tryd.ntmps18
        go_wp2_with fail
        refine (CK.out _ ((Below.refl _ w).alloc (Nat.le_refl _) _)).mono ?_
        rintro e W ⟨rfl, hw⟩
        have B1 := hide (((Below.refl _ w).alloc (Nat.le_refl _) (mktO p p' nb c na c' idx 0)).trans (hw.mono (by simp)))
        have e0 : W.cell? ⟨w.heap.size, 0, none⟩ = some (.slice p nb c) := (hw.cell (by simp)).trans (Ac.new_cell _ _ _ _ _ rfl)
        have e1 : W.cell? ⟨w.heap.size, 1, none⟩ = some (.slice p' na c') := (hw.cell (by simp)).trans (Ac.new_cell _ _ _ _ _ rfl)
        have e2 : W.cell? ⟨w.heap.size, 2, none⟩ = some (.int .i64 idx) := (hw.cell (by simp)).trans (Ac.new_cell _ _ _ _ _ rfl)
        have e3 : W.cell? ⟨w.heap.size, 3, none⟩ = some (.int .i64 0) := (hw.cell (by simp)).trans (Ac.new_cell _ _ _ _ _ rfl)
        clear hw
        go_wp2_with fail
        refine (BE.out _ B1.out).mono ?_
        rintro e W2 ⟨rfl, hw⟩
        have B2 := hide (B1.out.trans (hw.mono B1.out.size))
        have e2 := (hw.cell (World.block_lt_of_cell? _ _ e2)).trans e2
        have e3 := (hw.cell (World.block_lt_of_cell? _ _ e3)).trans e3
        clear hw e0 e1
        go_wp2
        go_quiet (fail)
        obtain ⟨W3, hW3⟩ : ∃ W3, W3 = W2.drewN nq := ⟨_, rfl⟩
        rw [← hW3]
        have e2 : W3.cell? ⟨w.heap.size, 2, none⟩ = some (.int .i64 idx) := by rw [hW3]; exact e2
        have e3 : W3.cell? ⟨w.heap.size, 3, none⟩ = some (.int .i64 0) := by rw [hW3]; exact e3
        have B3 : Hid (Below w.heap.size w W3) := by rw [hW3]; exact below_drewN B2.out _
        clear hW3 B2
        go_wp2
        go_quiet (first | (go_at_call 38; refine Calls.quiet_of_same (Fix.middle_any _ _ _ _)) | (go_at_call 31; refine Calls.quiet_of_same (between_any _ _ _ _)))
        go_wp2
        go_ret2
        rw [← ON.out]
        exact ⟨rfl, below_drewN B3.out _⟩
      · have ON : Hid (middleR (idx - idx.tdiv 20) (middleR idx idx last) (idx + idx.tdiv 20) = M) := by
          rw [← hM]; unfold markOf halfR lastR; rw [if_pos (.inl x1), (if_neg x3)]; exact rfl
        clear hM
        subst x1
        go_enter Tryd.func18, Tryd.ntmps18
        go_wp2_with fail
        refine (CK.out _ ((Below.refl _ w).alloc (Nat.le_refl _) _)).mono ?_
        rintro e W ⟨rfl, hw⟩
        have B1 := hide (((Below.refl _ w).alloc (Nat.le_refl _) (mktO p p' nb c na c' idx last)).trans (hw.mono (by simp)))
        have e0 : W.cell? ⟨w.heap.size, 0, none⟩ = some (.slice p nb c) := (hw.cell (by simp)).trans (Ac.new_cell _ _ _ _ _ rfl)
        have e1 : W.cell? ⟨w.heap.size, 1, none⟩ = some (.slice p' na c') := (hw.cell (by simp)).trans (Ac.new_cell _ _ _ _ _ rfl)
        have e2 : W.cell? ⟨w.heap.size, 2, none⟩ = some (.int .i64 idx) := (hw.cell (by simp)).trans (Ac.new_cell _ _ _ _ _ rfl)
        have e3 : W.cell? ⟨w.heap.size, 3, none⟩ = some (.int .i64 last) := (hw.cell (by simp)).trans (Ac.new_cell _ _ _ _ _ rfl)
        clear hw
        go_wp2_with fail
        refine (BE.out _ B1.out).mono ?_
        rintro e W2 ⟨rfl, hw⟩
        have B2 := hide (B1.out.trans (hw.mono B1.out.size))
        have e2 := (hw.cell (World.block_lt_of_cell? _ _ e2)).trans e2
        have e3 := (hw.cell (World.block_lt_of_cell? _ _ e3)).trans e3
        clear hw e0 e1
        go_wp2
        go_quiet (fail)
        obtain ⟨W3, hW3⟩ : ∃ W3, W3 = W2.drewN nq := ⟨_, rfl⟩
        rw [← hW3]
        have e2 : W3.cell? ⟨w.heap.size, 2, none⟩ = some (.int .i64 idx) := by rw [hW3]; exact e2
        have e3 : W3.cell? ⟨w.heap.size, 3, none⟩ = some (.int .i64 last) := by rw [hW3]; exact e3
        have B3 : Hid (Below w.heap.size w W3) := by rw [hW3]; exact below_drewN B2.out _
        clear hW3 B2
        go_wp2
        go_quiet (first | (go_at_call 38; refine Calls.quiet_of_same (Fix.middle_any _ _ _ _)) | (go_at_call 31; refine Calls.quiet_of_same (between_any _ _ _ _)))
        go_wp2
        go_ret2
        rw [← ON.out]
        exact ⟨rfl, below_drewN B3.out _⟩
    · by_cases x2 : fa = 0
      · by_cases x3 : last = 0
        · have ON : Hid (middleR (idx - idx.tdiv 20) (middleR idx idx idx) (idx + idx.tdiv 20) = M) := by
            rw [← hM]; unfold markOf halfR lastR; rw [if_pos (.inr x2), (if_pos x3)]; exact rfl
          clear hM
          subst x2 x3
          go_enter Tryd.func18, Tryd.ntmps18
          go_wp2_with fail
          refine (CK.out _ ((Below.refl _ w).alloc (Nat.le_refl _) _)).mono ?_
          rintro e W ⟨rfl, hw⟩
          have B1 := hide (((Below.refl _ w).alloc (Nat.le_refl _) (mktO p p' nb c na c' idx 0)).trans (hw.mono (by simp)))
          have e0 : W.cell? ⟨w.heap.size, 0, none⟩ = some (.slice p nb c) := (hw.cell (by simp)).trans (Ac.new_cell _ _ _ _ _ rfl)
          have e1 : W.cell? ⟨w.heap.size, 1, none⟩ = some (.slice p' na c') := (hw.cell (by simp)).trans (Ac.new_cell _ _ _ _ _ rfl)
          have e2 : W.cell? ⟨w.heap.size, 2, none⟩ = some (.int .i64 idx) := (hw.cell (by simp)).trans (Ac.new_cell _ _ _ _ _ rfl)
          have e3 : W.cell? ⟨w.heap.size, 3, none⟩ = some (.int .i64 0) := (hw.cell (by simp)).trans (Ac.new_cell _ _ _ _ _ rfl)
          clear hw
          go_wp2_with fail
          refine (BE.out _ B1.out).mono ?_
          rintro e W2 ⟨rfl, hw⟩
          have B2 := hide (B1.out.trans (hw.mono B1.out.size))
          have e2 := (hw.cell (World.block_lt_of_cell? _ _ e2)).trans e2
          have e3 := (hw.cell (World.block_lt_of_cell? _ _ e3)).trans e3
          clear hw e0 e1
          go_wp2
          go_quiet (fail)
          obtain ⟨W3, hW3⟩ : ∃ W3, W3 = W2.drewN nq := ⟨_, rfl⟩
          rw [← hW3]
          have e2 : W3.cell? ⟨w.heap.size, 2, none⟩ = some (.int .i64 idx) := by rw [hW3]; exact e2
          have e3 : W3.cell? ⟨w.heap.size, 3, none⟩ = some (.int .i64 0) := by rw [hW3]; exact e3
          have B3 : Hid (Below w.heap.size w W3) := by rw [hW3]; exact below_drewN B2.out _
          clear hW3 B2
          go_wp2
          go_quiet (first | (go_at_call 38; refine Calls.quiet_of_same (Fix.middle_any _ _ _ _)) | (go_at_call 31; refine Calls.quiet_of_same (between_any _ _ _ _)))
          go_wp2
          go_ret2
          rw [← ON.out]
          exact ⟨rfl, below_drewN B3.out _⟩
        · have ON : Hid (middleR (idx - idx.tdiv 20) (middleR idx idx last) (idx + idx.tdiv 20) = M) := by
            rw [← hM]; unfold markOf halfR lastR; rw [if_pos (.inr x2), (if_neg x3)]; exact rfl
          clear hM
          subst x2
          go_enter Tryd.func18, Tryd.ntmps18
          go_wp2_with fail
          refine (CK.out _ ((Below.refl _ w).alloc (Nat.le_refl _) _)).mono ?_
          rintro e W ⟨rfl, hw⟩
          have B1 := hide (((Below.refl _ w).alloc (Nat.le_refl _) (mktO p p' nb c na c' idx last)).trans (hw.mono (by simp)))
          have e0 : W.cell? ⟨w.heap.size, 0, none⟩ = some (.slice p nb c) := (hw.cell (by simp)).trans (Ac.new_cell _ _ _ _ _ rfl)
          have e1 : W.cell? ⟨w.heap.size, 1, none⟩ = some (.slice p' na c') := (hw.cell (by simp)).trans (Ac.new_cell _ _ _ _ _ rfl)
          have e2 : W.cell? ⟨w.heap.size, 2, none⟩ = some (.int .i64 idx) := (hw.cell (by simp)).trans (Ac.new_cell _ _ _ _ _ rfl)
          have e3 : W.cell? ⟨w.heap.size, 3, none⟩ = some (.int .i64 last) := (hw.cell (by simp)).trans (Ac.new_cell _ _ _ _ _ rfl)
          clear hw
          go_wp2_with fail
          refine (BE.out _ B1.out).mono ?_
          rintro e W2 ⟨rfl, hw⟩
          have B2 := hide (B1.out.trans (hw.mono B1.out.size))
          have e2 := (hw.cell (World.block_lt_of_cell? _ _ e2)).trans e2
          have e3 := (hw.cell (World.block_lt_of_cell? _ _ e3)).trans e3
          clear hw e0 e1
          go_wp2
          go_quiet (fail)
          obtain ⟨W3, hW3⟩ : ∃ W3, W3 = W2.drewN nq := ⟨_, rfl⟩
          rw [← hW3]
          have e2 : W3.cell? ⟨w.heap.size, 2, none⟩ = some (.int .i64 idx) := by rw [hW3]; exact e2
          have e3 : W3.cell? ⟨w.heap.size, 3, none⟩ = some (.int .i64 last) := by rw [hW3]; exact e3
          have B3 : Hid (Below w.heap.size w W3) := by rw [hW3]; exact below_drewN B2.out _
          clear hW3 B2
          go_wp2
          go_quiet (first | (go_at_call 38; refine Calls.quiet_of_same (Fix.middle_any _ _ _ _)) | (go_at_call 31; refine Calls.quiet_of_same (between_any _ _ _ _)))
          go_wp2
          go_ret2
          rw [← ON.out]
          exact ⟨rfl, below_drewN B3.out _⟩
      · have y1 : (fb != 0) = true := by simp [x1]
        have y2 : (fa != 0) = true := by simp [x2]
        by_cases x3 : last = 0
        · have ON : Hid (middleR (idx - idx.tdiv 20) (middleR idx ((fb + fa).tdiv 2) idx) (idx + idx.tdiv 20) = M) := by
            rw [← hM]; unfold markOf halfR lastR; rw [if_neg (fun hh => hh.elim x1 x2), (if_pos x3)]; exact rfl
          clear hM
          subst x3
          go_enter Tryd.func18, Tryd.ntmps18
          go_wp2_with fail
          refine (CK.out _ ((Below.refl _ w).alloc (Nat.le_refl _) _)).mono ?_
          rintro e W ⟨rfl, hw⟩
          have B1 := hide (((Below.refl _ w).alloc (Nat.le_refl _) (mktO p p' nb c na c' idx 0)).trans (hw.mono (by simp)))
          have e0 : W.cell? ⟨w.heap.size, 0, none⟩ = some (.slice p nb c) := (hw.cell (by simp)).trans (Ac.new_cell _ _ _ _ _ rfl)
          have e1 : W.cell? ⟨w.heap.size, 1, none⟩ = some (.slice p' na c') := (hw.cell (by simp)).trans (Ac.new_cell _ _ _ _ _ rfl)
          have e2 : W.cell? ⟨w.heap.size, 2, none⟩ = some (.int .i64 idx) := (hw.cell (by simp)).trans (Ac.new_cell _ _ _ _ _ rfl)
          have e3 : W.cell? ⟨w.heap.size, 3, none⟩ = some (.int .i64 0) := (hw.cell (by simp)).trans (Ac.new_cell _ _ _ _ _ rfl)
          clear hw
          go_wp2_with fail
          refine (BE.out _ B1.out).mono ?_
          rintro e W2 ⟨rfl, hw⟩
          have B2 := hide (B1.out.trans (hw.mono B1.out.size))
          have e2 := (hw.cell (World.block_lt_of_cell? _ _ e2)).trans e2
          have e3 := (hw.cell (World.block_lt_of_cell? _ _ e3)).trans e3
          clear hw e0 e1
          go_wp2
          go_quiet (fail)
          obtain ⟨W3, hW3⟩ : ∃ W3, W3 = W2.drewN nq := ⟨_, rfl⟩
          rw [← hW3]
          have e2 : W3.cell? ⟨w.heap.size, 2, none⟩ = some (.int .i64 idx) := by rw [hW3]; exact e2
          have e3 : W3.cell? ⟨w.heap.size, 3, none⟩ = some (.int .i64 0) := by rw [hW3]; exact e3
          have B3 : Hid (Below w.heap.size w W3) := by rw [hW3]; exact below_drewN B2.out _
          clear hW3 B2
          go_wp2
          go_quiet (first | (go_at_call 38; refine Calls.quiet_of_same (Fix.middle_any _ _ _ _)) | (go_at_call 31; refine Calls.quiet_of_same (between_any _ _ _ _)))
          go_wp2
          go_ret2
          rw [← ON.out]
          exact ⟨rfl, below_drewN B3.out _⟩
        · have ON : Hid (middleR (idx - idx.tdiv 20) (middleR idx ((fb + fa).tdiv 2) last) (idx + idx.tdiv 20) = M) := by
            rw [← hM]; unfold markOf halfR lastR; rw [if_neg (fun hh => hh.elim x1 x2), (if_neg x3)]; exact rfl
          clear hM
          go_enter Tryd.func18, Tryd.ntmps18
          go_wp2_with fail
          refine (CK.out _ ((Below.refl _ w).alloc (Nat.le_refl _) _)).mono ?_
          rintro e W ⟨rfl, hw⟩
          have B1 := hide (((Below.refl _ w).alloc (Nat.le_refl _) (mktO p p' nb c na c' idx last)).trans (hw.mono (by simp)))
          have e0 : W.cell? ⟨w.heap.size, 0, none⟩ = some (.slice p nb c) := (hw.cell (by simp)).trans (Ac.new_cell _ _ _ _ _ rfl)
          have e1 : W.cell? ⟨w.heap.size, 1, none⟩ = some (.slice p' na c') := (hw.cell (by simp)).trans (Ac.new_cell _ _ _ _ _ rfl)
          have e2 : W.cell? ⟨w.heap.size, 2, none⟩ = some (.int .i64 idx) := (hw.cell (by simp)).trans (Ac.new_cell _ _ _ _ _ rfl)
          have e3 : W.cell? ⟨w.heap.size, 3, none⟩ = some (.int .i64 last) := (hw.cell (by simp)).trans (Ac.new_cell _ _ _ _ _ rfl)
          clear hw
          go_wp2_with fail
          refine (BE.out _ B1.out).mono ?_
          rintro e W2 ⟨rfl, hw⟩
          have B2 := hide (B1.out.trans (hw.mono B1.out.size))
          have e2 := (hw.cell (World.block_lt_of_cell? _ _ e2)).trans e2
          have e3 := (hw.cell (World.block_lt_of_cell? _ _ e3)).trans e3
          clear hw e0 e1
          go_wp2
          go_quiet (fail)
          obtain ⟨W3, hW3⟩ : ∃ W3, W3 = W2.drewN nq := ⟨_, rfl⟩
          rw [← hW3]
          have e2 : W3.cell? ⟨w.heap.size, 2, none⟩ = some (.int .i64 idx) := by rw [hW3]; exact e2
          have e3 : W3.cell? ⟨w.heap.size, 3, none⟩ = some (.int .i64 last) := by rw [hW3]; exact e3
          have B3 : Hid (Below w.heap.size w W3) := by rw [hW3]; exact below_drewN B2.out _
          clear hW3 B2
          go_wp2
          go_quiet (first | (go_at_call 38; refine Calls.quiet_of_same (Fix.middle_any _ _ _ _)) | (go_at_call 31; refine Calls.quiet_of_same (between_any _ _ _ _)))
          go_wp2
          go_ret2
          rw [← ON.out]
          exact ⟨rfl, below_drewN B3.out _⟩
  · rw [if_neg hm]
    clear BE
    generalize marketErr bids asks idx last = r at hm CK ⊢
    generalize bids.length = nb at CK ⊢
    generalize asks.length = na at CK ⊢
    go_enter Tryd.func18, Tryd.ntmps18
    go_wp2_with fail
    refine (CK.out _ ((Below.refl _ w).alloc (Nat.le_refl _) _)).mono ?_
    rintro e W ⟨rfl, hw⟩
    have B1 := hide (((Below.refl _ w).alloc (Nat.le_refl _) (mktO p p' nb c na c' idx last)).trans (hw.mono (by simp)))
    clear hw
    go_wp2
    go_ret2
    exact ⟨rfl, B1.out⟩

set_option maxHeartbeats 2000000 in
set_option maxRecDepth 100000 in
theorem breakEven_any (rest q : Int) (w : World) (h0 : ¬ q = 0) (h1 : -1000 ≤ q) (h2 : q ≤ 1000) :
    Calls Tryd.prog 30 #[.int .i64 rest, .int .i64 q] w fun e w' => e = .returned (.tuple #[.int .i64 (evenR rest q), .int .i64 0]) ∧ ∃ k, w' = w.drewN k := by
  have M := money_true (mid_money rest)
  by_cases hq : 0 < q
  · have P := hide (fun W => Fix.part_any (-(middleR (-1000000000000) rest 1000000000000)) 1 q true W)
    rw [even_up hq h2] at P
    have BT := hide (fun W => between_any (-1000000000000) rest 1000000000000 W)
    generalize evenR rest q = T at P ⊢
    generalize middleR (-1000000000000) rest 1000000000000 = m at P M BT
    obtain ⟨m1, m2⟩ := M
    go_enter Tryd.func30, Tryd.ntmps30
    go_wp2_with fail
    refine (BT.out _).mono ?_
    rintro e w' ⟨rfl, rfl⟩
    go_wp2_with fail
    refine (P.out _).mono ?_
    rintro e w' ⟨rfl, k, rfl⟩
    go_wp2
    go_ret2
    exact ⟨rfl, _, rfl⟩
  · have P := hide (fun W => Fix.part_any (middleR (-1000000000000) rest 1000000000000) 1 (-q) false W)
    rw [even_down (by omega) h1] at P
    have BT := hide (fun W => between_any (-1000000000000) rest 1000000000000 W)
    generalize evenR rest q = T at P ⊢
    generalize middleR (-1000000000000) rest 1000000000000 = m at P M BT
    obtain ⟨m1, m2⟩ := M
    go_enter Tryd.func30, Tryd.ntmps30
    go_wp2_with fail
    refine (BT.out _).mono ?_
    rintro e w' ⟨rfl, rfl⟩
    go_wp2_with fail
    refine (P.out _).mono ?_
    rintro e w' ⟨rfl, k, rfl⟩
    go_wp2
    go_ret2
    exact ⟨rfl, _, rfl⟩
end Go.Proofs.YtbphljnncbiddabDoor.Rm
