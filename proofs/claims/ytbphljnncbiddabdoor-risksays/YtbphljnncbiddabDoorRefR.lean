/-
  The reference's chapter 5 by contracts: MarginsOf, SoundOf, BankruptOf.
-/
import Derived.Test.YtbphljnncbiddabDoorRefF
import Derived.Test.YtbphljnncbiddabDoorRmBank
namespace Go.Proofs.YtbphljnncbiddabDoor.Rm
open Go.RowKit Go.Proofs.YtbphljnncbiddabDoor.Num Go.Proofs.YtbphljnncbiddabDoor.Fix Go.Proofs.YtbphljnncbiddabDoor.AcP Go.Proofs.YtbphljnncbiddabDoor.RkP Go.Proofs.YtbphljnncbiddabDoor.Ac Go.Proofs.YtbphljnncbiddabDoor.Rk

theorem up_way {v n : Int} (h : 0 ≤ v * n) : (v * n + 99).tdiv 100 = ofH v n := by
  unfold ofH divUp
  rw [if_pos rfl, Int.tdiv_eq_ediv_of_nonneg (by omega)]
  omega
theorem tier_hi {v : Int} (h : 1000000 < v) : beg v = ofH v 50 ∧ goO v = ofH v 25 := by
  unfold beg goO tierR
  rw [if_pos h]
  exact ⟨rfl, rfl⟩
theorem tier_mid {v : Int} (h : ¬ 1000000 < v) (g : 100000 < v) : beg v = ofH v 20 ∧ goO v = ofH v 10 := by
  unfold beg goO tierR
  rw [if_neg h, if_pos g]
  exact ⟨rfl, rfl⟩
theorem tier_lo {v : Int} (h : ¬ 1000000 < v) (g : ¬ 100000 < v) : beg v = ofH v 10 ∧ goO v = ofH v 5 := by
  unfold beg goO tierR
  rw [if_neg h, if_neg g]
  exact ⟨rfl, rfl⟩

set_option maxHeartbeats 4000000 in
set_option maxRecDepth 100000 in
theorem refMargins_in (id bal : Int) (b off b2 off2 : Nat) (n c c2 : Nat) (pos marks : List Int) (w : World) (hl : pos.length = n) (hl2 : marks.length = n) (hn : n ≤ 2) (hp : pos.all pos1 = true)
    (h : ∀ i, i < pos.length → w.cell? ⟨b, off + i, none⟩ = some (.int .i64 (pos.getD i 0))) (h' : ∀ i, i < marks.length → w.cell? ⟨b2, off2 + i, none⟩ = some (.int .i64 (marks.getD i 0))) (he : accErr id bal pos n = 0) :
    Calls Tryd.prog 12 #[accV id bal (some ⟨b, off, none⟩) n c, .slice (some ⟨b2, off2, none⟩) n c2] w fun e w' => e = .returned (.tuple #[.int .i64 (marFrom 0 0 pos marks).1, .int .i64 (marFrom 0 0 pos marks).2.1, .int .i64 (marFrom 0 0 pos marks).2.2]) ∧ Below w.heap.size w w' := by
  have CK := hide (fun W hW => checkAccount_any id bal (some ⟨b, off, none⟩) n c pos n W hl (row_below (.inr ⟨b, off, rfl, h⟩) hW))
  rw [he] at CK
  clear he
  generalize hT : marFrom 0 0 pos marks = T
  have T0 : Hid (marFrom 0 0 (pos.drop 0) (marks.drop 0) = T) := hT
  have HC := hide h
  have HC2 := hide h'
  have HL := hide hl
  have HL2 := hide hl2
  have AL := hide (fun k hk => all_at (k := k) hp hk)
  clear h h' hT hl hl2 hp
  go_enter Tryd.func12, Tryd.ntmps12
  go_wp2_with fail
  refine (CK.out _ (below_alloc w _)).mono ?_
  rintro e W ⟨rfl, rfl⟩
  go_wp2
  go_loopw [8, 9, 26] (fun u8 u9 i wr => ∃ (k : Nat) (x y : Int), k ≤ n ∧ i = .int .i64 k ∧ u8 = .int .i64 x ∧ u9 = .int .i64 y ∧ 0 ≤ x ∧ x ≤ k * 10000000 ∧ 0 ≤ y ∧ y ≤ k * 10000000 ∧ Hid (Below w.heap.size w wr) ∧ wr.cell? ⟨w.heap.size, 2, none⟩ = some (.slice (some ⟨b, off, none⟩) n c) ∧ Hid (marFrom x y (pos.drop k) (marks.drop k) = T)) (fun _ _ i _ => n - (intOf i).toNat)
  case atStart =>
    refine ⟨0, 0, 0, Nat.zero_le _, rfl, rfl, rfl, by omega, by omega, by omega, by omega, below_alloc2 _ _ _, ?_, T0⟩
    exact cell_alloc (new_cell w _ _ 2 _ rfl) _
  case round =>
    obtain ⟨k, x, y, hk, rfl, rfl, rfl, x1, x2, y1, y2, BW, hbox, R⟩ := hrel
    by_cases hlt : k < n
    · have hltz : (k : Int) < (n : Int) := by omega
      have hkx : k < pos.length := by rw [HL.out]; exact hlt
      have hky : k < marks.length := by rw [HL2.out]; exact hlt
      have c0 := (BW.out.cell (World.block_lt_of_cell? _ _ (HC.out k hkx))).trans (HC.out k hkx)
      have c1 := (BW.out.cell (World.block_lt_of_cell? _ _ (HC2.out k hky))).trans (HC2.out k hky)
      have hin := hide (AL.out k hkx)
      have RR := R.out
      rw [drop_get pos k hkx, drop_get marks k hky] at RR
      have R' := hide RR
      clear RR R T0
      generalize pos.getD k 0 = p at c0 R' hin
      generalize marks.getD k 0 = m at c1 R'
      have hpz : -1000 ≤ p ∧ p ≤ 1000 := betw_true hin.out
      obtain ⟨p1, p2⟩ := hpz
      by_cases hw : betw 0 m 10000 = true
      · by_cases hs : p < 0
        · have WO := hide (fun W => RefA.worthOf_yes (-p) m W (betw_mk (by omega)) hw)
          have ON := hide ((marFrom_on hw).symm.trans R'.out)
          obtain ⟨q1, q2⟩ := worth_bd hin.out hw
          rw [show max p (-p) = (-p) by omega] at ON q1 q2
          clear R' hw
          generalize (-p) * m = v at WO ON q1 q2
          by_cases v1 : 1000000 < v
          · have v2 : 100000 < v := by omega
            obtain ⟨t1, t2⟩ := tier_hi v1
            rw [← up_way (v := v) (n := 50) (by omega)] at t1
            rw [← up_way (v := v) (n := 25) (by omega)] at t2
            have ON' := ON.out
            rw [t1, t2] at ON'
            have ON2 := hide ON'
            have g1 := beg_bd q1
            have g2 := goO_bd q1
            rw [t1] at g1
            rw [t2] at g2
            obtain ⟨g1, g3⟩ := g1
            obtain ⟨g2, g4⟩ := g2
            have m1 : 0 ≤ v * 50 ∧ v * 50 ≤ 1000000000 := by omega
            have m2 : 0 ≤ v * 25 ∧ v * 25 ≤ 1000000000 := by omega
            obtain ⟨m1, m3⟩ := m1
            obtain ⟨m2, m4⟩ := m2
            clear ON' ON t1 t2
            go_wp2_with (go_at_call 33; refine (WO.out _).mono ?_; rintro e w' ⟨rfl, hw'⟩; rw [hw']; clear hw')
            go_roundw
            case rel =>
              refine ⟨k + 1, _, _, by omega, by go_num, rfl, rfl, by omega, by omega, by omega, by omega, BW, hbox, ON2⟩
            case measure => simp [intOf]; omega
          · by_cases v2 : 100000 < v
            · obtain ⟨t1, t2⟩ := tier_mid v1 v2
              rw [← up_way (v := v) (n := 20) (by omega)] at t1
              rw [← up_way (v := v) (n := 10) (by omega)] at t2
              have ON' := ON.out
              rw [t1, t2] at ON'
              have ON2 := hide ON'
              have g1 := beg_bd q1
              have g2 := goO_bd q1
              rw [t1] at g1
              rw [t2] at g2
              obtain ⟨g1, g3⟩ := g1
              obtain ⟨g2, g4⟩ := g2
              have m1 : 0 ≤ v * 20 ∧ v * 20 ≤ 1000000000 := by omega
              have m2 : 0 ≤ v * 10 ∧ v * 10 ≤ 1000000000 := by omega
              obtain ⟨m1, m3⟩ := m1
              obtain ⟨m2, m4⟩ := m2
              clear ON' ON t1 t2
              go_wp2_with (go_at_call 33; refine (WO.out _).mono ?_; rintro e w' ⟨rfl, hw'⟩; rw [hw']; clear hw')
              go_roundw
              case rel =>
                refine ⟨k + 1, _, _, by omega, by go_num, rfl, rfl, by omega, by omega, by omega, by omega, BW, hbox, ON2⟩
              case measure => simp [intOf]; omega
            · obtain ⟨t1, t2⟩ := tier_lo v1 v2
              rw [← up_way (v := v) (n := 10) (by omega)] at t1
              rw [← up_way (v := v) (n := 5) (by omega)] at t2
              have ON' := ON.out
              rw [t1, t2] at ON'
              have ON2 := hide ON'
              have g1 := beg_bd q1
              have g2 := goO_bd q1
              rw [t1] at g1
              rw [t2] at g2
              obtain ⟨g1, g3⟩ := g1
              obtain ⟨g2, g4⟩ := g2
              have m1 : 0 ≤ v * 10 ∧ v * 10 ≤ 1000000000 := by omega
              have m2 : 0 ≤ v * 5 ∧ v * 5 ≤ 1000000000 := by omega
              obtain ⟨m1, m3⟩ := m1
              obtain ⟨m2, m4⟩ := m2
              clear ON' ON t1 t2
              go_wp2_with (go_at_call 33; refine (WO.out _).mono ?_; rintro e w' ⟨rfl, hw'⟩; rw [hw']; clear hw')
              go_roundw
              case rel =>
                refine ⟨k + 1, _, _, by omega, by go_num, rfl, rfl, by omega, by omega, by omega, by omega, BW, hbox, ON2⟩
              case measure => simp [intOf]; omega
        · have WO := hide (fun W => RefA.worthOf_yes p m W (betw_mk (by omega)) hw)
          have ON := hide ((marFrom_on hw).symm.trans R'.out)
          obtain ⟨q1, q2⟩ := worth_bd hin.out hw
          rw [show max p (-p) = p by omega] at ON q1 q2
          clear R' hw
          generalize p * m = v at WO ON q1 q2
          by_cases v1 : 1000000 < v
          · have v2 : 100000 < v := by omega
            obtain ⟨t1, t2⟩ := tier_hi v1
            rw [← up_way (v := v) (n := 50) (by omega)] at t1
            rw [← up_way (v := v) (n := 25) (by omega)] at t2
            have ON' := ON.out
            rw [t1, t2] at ON'
            have ON2 := hide ON'
            have g1 := beg_bd q1
            have g2 := goO_bd q1
            rw [t1] at g1
            rw [t2] at g2
            obtain ⟨g1, g3⟩ := g1
            obtain ⟨g2, g4⟩ := g2
            have m1 : 0 ≤ v * 50 ∧ v * 50 ≤ 1000000000 := by omega
            have m2 : 0 ≤ v * 25 ∧ v * 25 ≤ 1000000000 := by omega
            obtain ⟨m1, m3⟩ := m1
            obtain ⟨m2, m4⟩ := m2
            clear ON' ON t1 t2
            go_wp2_with (go_at_call 33; refine (WO.out _).mono ?_; rintro e w' ⟨rfl, hw'⟩; rw [hw']; clear hw')
            go_roundw
            case rel =>
              refine ⟨k + 1, _, _, by omega, by go_num, rfl, rfl, by omega, by omega, by omega, by omega, BW, hbox, ON2⟩
            case measure => simp [intOf]; omega
          · by_cases v2 : 100000 < v
            · obtain ⟨t1, t2⟩ := tier_mid v1 v2
              rw [← up_way (v := v) (n := 20) (by omega)] at t1
              rw [← up_way (v := v) (n := 10) (by omega)] at t2
              have ON' := ON.out
              rw [t1, t2] at ON'
              have ON2 := hide ON'
              have g1 := beg_bd q1
              have g2 := goO_bd q1
              rw [t1] at g1
              rw [t2] at g2
              obtain ⟨g1, g3⟩ := g1
              obtain ⟨g2, g4⟩ := g2
              have m1 : 0 ≤ v * 20 ∧ v * 20 ≤ 1000000000 := by omega
              have m2 : 0 ≤ v * 10 ∧ v * 10 ≤ 1000000000 := by omega
              obtain ⟨m1, m3⟩ := m1
              obtain ⟨m2, m4⟩ := m2
              clear ON' ON t1 t2
              go_wp2_with (go_at_call 33; refine (WO.out _).mono ?_; rintro e w' ⟨rfl, hw'⟩; rw [hw']; clear hw')
              go_roundw
              case rel =>
                refine ⟨k + 1, _, _, by omega, by go_num, rfl, rfl, by omega, by omega, by omega, by omega, BW, hbox, ON2⟩
              case measure => simp [intOf]; omega
            · obtain ⟨t1, t2⟩ := tier_lo v1 v2
              rw [← up_way (v := v) (n := 10) (by omega)] at t1
              rw [← up_way (v := v) (n := 5) (by omega)] at t2
              have ON' := ON.out
              rw [t1, t2] at ON'
              have ON2 := hide ON'
              have g1 := beg_bd q1
              have g2 := goO_bd q1
              rw [t1] at g1
              rw [t2] at g2
              obtain ⟨g1, g3⟩ := g1
              obtain ⟨g2, g4⟩ := g2
              have m1 : 0 ≤ v * 10 ∧ v * 10 ≤ 1000000000 := by omega
              have m2 : 0 ≤ v * 5 ∧ v * 5 ≤ 1000000000 := by omega
              obtain ⟨m1, m3⟩ := m1
              obtain ⟨m2, m4⟩ := m2
              clear ON' ON t1 t2
              go_wp2_with (go_at_call 33; refine (WO.out _).mono ?_; rintro e w' ⟨rfl, hw'⟩; rw [hw']; clear hw')
              go_roundw
              case rel =>
                refine ⟨k + 1, _, _, by omega, by go_num, rfl, rfl, by omega, by omega, by omega, by omega, BW, hbox, ON2⟩
              case measure => simp [intOf]; omega
      · have hw' : betw 0 m 10000 = false := by
          cases e : betw 0 m 10000
          · rfl
          · exact absurd e hw
        by_cases hs : p < 0
        · have WO := hide (fun W => RefA.worthOf_no (-p) m W (.inr hw'))
          have ON := hide ((marFrom_bad hw').symm.trans R'.out)
          clear R' hw hw'
          go_wp2_with (go_at_call 33; refine (WO.out _).mono ?_; rintro e w' ⟨rfl, hw'⟩; rw [hw']; clear hw')
          refine bodyPost_ret (v := .tuple #[.int .i64 0, .int .i64 0, .int .i64 3]) (by simp [results, Tryd.results12, go_sem]) rfl ?_
          rw [← ON.out]
          exact ⟨rfl, BW.out⟩
        · have WO := hide (fun W => RefA.worthOf_no p m W (.inr hw'))
          have ON := hide ((marFrom_bad hw').symm.trans R'.out)
          clear R' hw hw'
          go_wp2_with (go_at_call 33; refine (WO.out _).mono ?_; rintro e w' ⟨rfl, hw'⟩; rw [hw']; clear hw')
          refine bodyPost_ret (v := .tuple #[.int .i64 0, .int .i64 0, .int .i64 3]) (by simp [results, Tryd.results12, go_sem]) rfl ?_
          rw [← ON.out]
          exact ⟨rfl, BW.out⟩
    · have hkn : k = n := by omega
      subst hkn
      have ON : Hid ((x, y, 0) = T) := by
        have := R.out
        rw [List.drop_eq_nil_of_le (by have := HL.out; omega), marFrom_end] at this
        exact this
      clear R T0
      go_wp2
      refine bodyPost_ret (v := .tuple #[.int .i64 x, .int .i64 y, .int .i64 0]) (by simp [results, Tryd.results12, go_sem]) rfl ?_
      rw [← ON.out]
      exact ⟨rfl, BW.out⟩
end Go.Proofs.YtbphljnncbiddabDoor.Rm
