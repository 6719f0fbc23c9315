/-
  AccountEven, walked: who traded.
-/
import Derived.Test.YtkjgkmndpbbagaaAc6
namespace Go.Proofs.Ytkjgkmndpbbagaa.Ac
open Go.RowKit Go.Proofs.Ytkjgkmndpbbagaa.Num Go.Proofs.Ytkjgkmndpbbagaa.Fix Go.Proofs.Ytkjgkmndpbbagaa.AcP Go.Proofs.Ytkjgkmndpbbagaa.Adds

theorem onward {a b c : World} (h : Below a.heap.size a b) (g : Below b.heap.size b c) : Below a.heap.size a c := h.trans (g.mono h.size)
theorem box_a {w W : World} {u0 u1 u2 : Value} {t : TypeId} {o : Obj} (h : Below ((w.alloc (.cells #[u0, u1, u2] t)).alloc o).heap.size ((w.alloc (.cells #[u0, u1, u2] t)).alloc o) W) :
    W.cell? ⟨w.heap.size, 0, none⟩ = some u0 ∧ W.cell? ⟨w.heap.size, 1, none⟩ = some u1 ∧ W.cell? ⟨w.heap.size, 2, none⟩ = some u2 :=
  ⟨(h.cell (by simp; omega)).trans (cell_alloc (new_cell w _ _ 0 _ rfl) _), (h.cell (by simp; omega)).trans (cell_alloc (new_cell w _ _ 1 _ rfl) _), (h.cell (by simp; omega)).trans (cell_alloc (new_cell w _ _ 2 _ rfl) _)⟩
theorem box_b {w W : World} {u0 u1 u2 : Value} {t : TypeId} {o : Obj} (h : Below ((w.alloc o).alloc (.cells #[u0, u1, u2] t)).heap.size ((w.alloc o).alloc (.cells #[u0, u1, u2] t)) W) :
    W.cell? ⟨w.heap.size + 1, 0, none⟩ = some u0 ∧ W.cell? ⟨w.heap.size + 1, 1, none⟩ = some u1 ∧ W.cell? ⟨w.heap.size + 1, 2, none⟩ = some u2 :=
  ⟨(h.cell (by simp)).trans (new_cell2 w _ _ _ 0 _ rfl), (h.cell (by simp)).trans (new_cell2 w _ _ _ 1 _ rfl), (h.cell (by simp)).trans (new_cell2 w _ _ _ 2 _ rfl)⟩
theorem box_x {w W : World} {u0 u1 u2 : Value} {t : TypeId} (h : Below (w.alloc (.cells #[u0, u1, u2] t)).heap.size (w.alloc (.cells #[u0, u1, u2] t)) W) :
    W.cell? ⟨w.heap.size, 0, none⟩ = some u0 ∧ W.cell? ⟨w.heap.size, 1, none⟩ = some u1 ∧ W.cell? ⟨w.heap.size, 2, none⟩ = some u2 :=
  ⟨(h.cell (by simp)).trans (new_cell w _ _ 0 _ rfl), (h.cell (by simp)).trans (new_cell w _ _ 1 _ rfl), (h.cell (by simp)).trans (new_cell w _ _ 2 _ rfl)⟩

theorem row_get {w : World} {b off : Nat} {xs : List Int} {k : Nat} (h : Row w (some ⟨b, off, none⟩) xs) (hk : k < xs.length) : w.cell? ⟨b, off + k, none⟩ = some (.int .i64 (xs.getD k 0)) := by
  obtain ⟨b', off', he, hc⟩ := row_at h hk
  cases he
  exact hc

set_option maxHeartbeats 4000000 in
set_option maxRecDepth 100000 in
theorem even_1 (id bal : Int) (p : Option Addr) (n c : Nat) (pos : List Int) (id2 bal2 : Int) (p2 : Option Addr) (n2 c2 : Nat) (pos2 : List Int) (k : Nat) (q pr fee : Int) (p3 : Option Addr) (n3 c3 : Nat) (marks : List Int) (w : World) (hl : pos.length = n) (hl2 : pos2.length = n2) (hl3 : marks.length = n3) (hn : n ≤ 140737488351232) (hn2 : n2 ≤ 140737488351232) (h : Row w p pos) (h2 : Row w p2 pos2) (h3 : Row w p3 marks)
    (ht : tradeErr id bal pos k q pr fee = 0) (T1 T2 : Int × Int) (e1 : equityR id bal pos marks = T1) (e2 : equityR id (bal - q * pr - fee) (pos.set k (pos.getD k 0 + q)) marks = T2) (he : ¬ T1.2 = 0) :
    Calls Try.prog 14 #[accV id bal p n c, accV id2 bal2 p2 n2 c2, .int .i64 k, .int .i64 q, .int .i64 pr, .int .i64 fee, .slice p3 n3 c3] w fun e w' => e = .returned (.bool true) ∧ Below w.heap.size w w' := by
  obtain ⟨z1, z2, z3, z4, z5, z6, z7, z8⟩ := tradeErr_ok ht
  obtain ⟨y1, y2, y3, y4, y5⟩ := accErr_ok z1
  obtain ⟨q1, q2⟩ := betw_true z3
  obtain ⟨r1, r2⟩ := betw_true z4
  obtain ⟨fe1, fe2⟩ := money_true z6
  obtain ⟨ba1, ba2⟩ := money_true y4
  obtain ⟨xb1, xb2⟩ := money_true z7
  have hk : k < n := by omega
  have hn1 : n ≤ 2 := by have := betw_true y2; omega
  have hl' : (pos.set k (pos.getD k 0 + q)).length = n := by simpa using hl
  have TR := hide (fun W hW => trade_good id bal p n c pos k q pr fee W hl (row_below h hW) ht)
  have EQ := hide (fun W hW => equity_any id bal p _ n c n3 c3 pos marks W hl hl3 hn (row_below h hW) (row_below h3 hW))
  have EX := hide (fun g cap W hx hW => equity_any id (bal - q * pr - fee) (some ⟨g, 0, none⟩) _ n cap n3 c3 (pos.set k (pos.getD k 0 + q)) marks W hl' hl3 hn hx (row_below h3 hW))
  simp only [Int.toNat_natCast] at TR
  rw [e1] at EQ
  rw [e2] at EX
  clear e1 e2
  obtain ⟨hbk, hbal, hback⟩ := even2 ht
  simp only [Int.toNat_natCast] at hbk hback
  have RA := hide (fun W hW => row_below (w' := W) h hW)
  have HL := hide hl
  rcases hbk with hbk | hbk
  · have TB := hide (fun g cap W hx => trade_bad id (bal - q * pr - fee) (some ⟨g, 0, none⟩) n cap (pos.set k (pos.getD k 0 + q)) k (-q) pr 0 W hl' hn hx (by decide) (by decide) (by rw [hbk]; decide))
    rw [hbk] at TB
    clear h h2 h3 z1 z2 z3 z4 z5 z6 z7 z8 y1 y2 y3 y4 y5 ht hbk hbal hback hl
    generalize pos.set k (pos.getD k 0 + q) = pos' at TR EX hl' TB
    generalize bal - q * pr - fee = xb at TR EX xb1 xb2 TB
    go_enter Try.func14, Try.ntmps14
    go_wp2_with fail
    refine (TR.out _ (below_alloc2 _ _ _)).mono ?_
    rintro e W1 ⟨v, rfl, own, hb⟩
    obtain ⟨g, cap, rfl, hg, hg2⟩ := own_slice own (by omega)
    have HA1 := hide hb
    have RX1 := hide (own_row own)
    have G1 := hide hg
    have G2 := hide hg2
    clear own hb hg hg2
    go_wp2_with fail
    refine (counted_any _).mono ?_
    rintro e W2 ⟨rfl, hb⟩
    have HX2 := hide hb
    have HA2 := hide (onward HA1.out (onward (below_alloc W1 _) hb))
    clear hb
    obtain ⟨a0, a1, a2⟩ := box_a HA2.out
    go_wp2_with fail
    refine (EQ.out _ (onward (below_alloc2 _ _ _) HA2.out)).mono ?_
    rintro e W3 ⟨rfl, hb⟩
    have HX3 := hide (onward HX2.out hb)
    have HA3 := hide (onward HA2.out hb)
    clear hb a0 a1 a2
    obtain ⟨x0, x1, x2⟩ := box_x HX3.out
    go_wp2_with fail
    refine (EX.out g cap _ (row_below RX1.out (onward (below_alloc W1 _) HX3.out)) (onward (below_alloc2 _ _ _) HA3.out)).mono ?_
    rintro e W4 ⟨rfl, hb⟩
    have HX4 := hide (onward HX3.out hb)
    have HA4 := hide (onward HA3.out hb)
    clear hb x0 x1 x2
    obtain ⟨x0, x1, x2⟩ := box_x HX4.out
    skip
    go_wp2_with fail
    refine (TB.out g cap _ (row_below RX1.out (onward (below_alloc W1 _) HX4.out))).mono ?_
    rintro e W5 ⟨rfl, hb⟩
    have B5 := hide (onward (onward (below_alloc2 w _ _) HA4.out) (onward hb (below_alloc _ noO)))
    clear hb x0 x1 x2
    go_wp2
    go_ret
    exact ⟨rfl, B5.out⟩
  · have TB := hide (fun g cap W hx => trade_good id (bal - q * pr - fee) (some ⟨g, 0, none⟩) n cap (pos.set k (pos.getD k 0 + q)) k (-q) pr 0 W hl' hx hbk)
    simp only [Int.toNat_natCast, hback, hbal] at TB
    by_cases hz : tradeErr id2 bal2 pos2 k (-q) pr 0 = 0
    · obtain ⟨bb, off, rfl, -⟩ := row_at h (k := k) (by omega)
      obtain ⟨c1, c2', c3, c4, c5, c6, c7, c8⟩ := tradeErr_ok hz
      obtain ⟨d1, d2, d3, d4, d5⟩ := accErr_ok c1
      obtain ⟨bb2, off2, rfl, -⟩ := row_at h2 (k := k) (by omega)
      have TZ := hide (fun W hW => trade_good id2 bal2 (some ⟨bb2, off2, none⟩) n2 c2 pos2 k (-q) pr 0 W hl2 (row_below h2 hW) hz)
      simp only [Int.toNat_natCast] at TZ c8
      have RB := hide (fun W hW => row_below (w' := W) h2 hW)
      obtain ⟨zb1, zb2⟩ := money_true c7
      obtain ⟨bl1, bl2⟩ := money_true d4
      have hkp : k < pos.length := by omega
      have hkp2 : k < pos2.length := by omega
      have hk2 : k < n2 := by omega
      have hkp' : k < (pos.set k (pos.getD k 0 + q)).length := by simpa using hkp
      have hE : bal2 - -q * pr - 0 + (bal - q * pr - fee) + fee = bal + bal2 := by rw [Int.neg_mul]; omega
      obtain ⟨ap, hap⟩ : ∃ ap, pos.getD k 0 = ap := ⟨_, rfl⟩
      obtain ⟨bp, hbp⟩ : ∃ bp, pos2.getD k 0 = bp := ⟨_, rfl⟩
      have AP := hide hap
      have BP := hide hbp
      have XP : Hid ((pos.set k (pos.getD k 0 + q)).getD k 0 = ap + q) := by
        show _ = _
        rw [hap, List.getD_eq_getElem?_getD, List.getElem?_set]
        simp [hkp]
      have ZP : Hid ((pos2.set k (pos2.getD k 0 + -q)).getD k 0 = bp + -q) := by
        show _ = _
        rw [hbp, List.getD_eq_getElem?_getD, List.getElem?_set]
        simp [hkp2]
      obtain ⟨ap1, ap2⟩ := betw_true (all_get y5 hkp)
      obtain ⟨bp1, bp2⟩ := betw_true (all_get d5 hkp2)
      rw [hap] at ap1 ap2
      rw [hbp] at bp1 bp2
      have hP : bp + -q + (ap + q) = ap + bp := by omega
      obtain ⟨xp1, xp2⟩ : -2000 ≤ ap + q ∧ ap + q ≤ 2000 := by omega
      obtain ⟨zp1, zp2⟩ : -2000 ≤ bp + -q ∧ bp + -q ≤ 2000 := by omega
      clear h h2 h3 z1 z2 z3 z4 z5 z6 z7 z8 y1 y2 y3 y4 y5 ht hbk hbal hback hl c1 c2' c3 c4 c5 c6 c7 c8 d1 d2 d3 d4 d5 hz hap hbp
      generalize ap + q = xp at XP hP xp1 xp2
      generalize bp + -q = zp at ZP hP zp1 zp2
      generalize pos2.set k (pos2.getD k 0 + -q) = pos2' at TZ ZP
      generalize pos.set k (pos.getD k 0 + q) = pos' at TR EX hl' TB XP hkp'
      generalize bal2 - -q * pr - 0 = zb at TZ hE zb1 zb2
      generalize bal - q * pr - fee = xb at TR EX xb1 xb2 TB hE
      have hEE : (zb + xb + fee == bal + bal2) = true := by simp [hE]
      have hPP : (zp + xp == ap + bp) = true := by simp [hP]
      go_enter Try.func14, Try.ntmps14
      go_wp2_with fail
      refine (TR.out _ (below_alloc2 _ _ _)).mono ?_
      rintro e W1 ⟨v, rfl, own, hb⟩
      obtain ⟨g, cap, rfl, hg, hg2⟩ := own_slice own (by omega)
      have HA1 := hide hb
      have RX1 := hide (own_row own)
      have G1 := hide hg
      have G2 := hide hg2
      clear own hb hg hg2
      go_wp2_with fail
      refine (counted_any _).mono ?_
      rintro e W2 ⟨rfl, hb⟩
      have HX2 := hide hb
      have HA2 := hide (onward HA1.out (onward (below_alloc W1 _) hb))
      clear hb
      obtain ⟨a0, a1, a2⟩ := box_a HA2.out
      go_wp2_with fail
      refine (EQ.out _ (onward (below_alloc2 _ _ _) HA2.out)).mono ?_
      rintro e W3 ⟨rfl, hb⟩
      have HX3 := hide (onward HX2.out hb)
      have HA3 := hide (onward HA2.out hb)
      clear hb a0 a1 a2
      obtain ⟨x0, x1, x2⟩ := box_x HX3.out
      go_wp2_with fail
      refine (EX.out g cap _ (row_below RX1.out (onward (below_alloc W1 _) HX3.out)) (onward (below_alloc2 _ _ _) HA3.out)).mono ?_
      rintro e W4 ⟨rfl, hb⟩
      have HX4 := hide (onward HX3.out hb)
      have HA4 := hide (onward HA3.out hb)
      clear hb x0 x1 x2
      obtain ⟨x0, x1, x2⟩ := box_x HX4.out
      skip
      go_wp2_with fail
      refine (TB.out g cap _ (row_below RX1.out (onward (below_alloc W1 _) HX4.out))).mono ?_
      rintro e W5 ⟨v5, rfl, own5, hb⟩
      obtain ⟨g5, cap5, rfl, hg5, hg52⟩ := own_slice own5 (by omega)
      have RY5 := hide (own_row own5)
      have HA5 := hide (onward HA4.out hb)
      have HX5 := hide (onward HX4.out hb)
      clear own5 hb hg5 hg52 x0 x1 x2
      have a5 := fun o => box_a (onward HA5.out (below_alloc _ o))
      have b5 := fun o => box_b (onward HA5.out (below_alloc _ o))
      have a51 := fun o => (a5 o).2.1
      have a52 := fun o => (a5 o).2.2
      have b50 := fun o => (b5 o).1
      have b51 := fun o => (b5 o).2.1
      have b52 := fun o => (b5 o).2.2
      clear a5 b5
      go_wp2_with fail
      refine (equal_any _ _ n cap5 n c pos pos _ HL.out HL.out hn hn (row_below RY5.out (below_alloc _ _)) (RA.out _ (onward (onward (below_alloc2 w _ _) HA5.out) (below_alloc _ _)))).mono ?_
      rintro e W' ⟨rfl, qq, rfl⟩
      rw [show decide (pos = pos) = true from by simp]
      clear a51 a52
      go_wp2_with fail
      refine (TZ.out _ (onward (onward (below_alloc2 w _ _) HA5.out) (below_drewN (below_alloc _ _) _))).mono ?_
      rintro e W6 ⟨v6, rfl, own6, hb⟩
      obtain ⟨g6, cap6, rfl, hg6, hg62⟩ := own_slice own6 (by omega)
      have HA6 := hide (onward HA5.out (onward (below_drewN (below_alloc _ _) _) hb))
      have HX6 := hide (onward HX5.out (onward (below_drewN (below_alloc _ _) _) hb))
      have B6 := hide (fun o => onward (onward (below_alloc2 w _ _) HA6.out) (below_alloc _ o))
      have a61 := fun o => (box_a (onward HA6.out (below_alloc _ o))).2.1
      have a62 := fun o => (box_a (onward HA6.out (below_alloc _ o))).2.2
      have b61 := fun o => (box_b (onward HA6.out (below_alloc _ o))).2.1
      have b62 := fun o => (box_b (onward HA6.out (below_alloc _ o))).2.2
      have x61 := fun o => (box_x (onward HX6.out (below_alloc _ o))).2.1
      have x62 := fun o => (box_x (onward HX6.out (below_alloc _ o))).2.2
      have cz := fun o => cell_alloc (own_cell own6 hk2) o
      have cx := fun o => row_get (row_below RX1.out (onward (below_alloc W1 _) (onward HX6.out (below_alloc _ o)))) hkp'
      have ca := fun o => row_get (RA.out _ (B6.out o)) hkp
      have cb := fun o => row_get (RB.out _ (B6.out o)) hkp2
      simp only [Nat.zero_add] at cx
      rw [ZP.out] at cz
      rw [XP.out] at cx
      rw [AP.out] at ca
      rw [BP.out] at cb
      clear own6 hb hg6 hg62 b50 b51 b52
      go_wp2
      go_big_quiet (fail)
      go_wp2
      go_ret
      exact ⟨rfl, below_drewN (B6.out _) _⟩
    · have TZ := hide (fun W hW => trade_bad id2 bal2 p2 n2 c2 pos2 k (-q) pr 0 W hl2 hn2 (row_below h2 hW) (by decide) (by decide) hz)
      clear h h2 h3 z1 z2 z3 z4 z5 z6 z7 z8 y1 y2 y3 y4 y5 ht hbk hbal hback hl
      generalize tradeErr id2 bal2 pos2 k (-q) pr 0 = rz at hz TZ
      generalize pos.set k (pos.getD k 0 + q) = pos' at TR EX hl' TB
      generalize bal - q * pr - fee = xb at TR EX xb1 xb2 TB
      go_enter Try.func14, Try.ntmps14
      go_wp2_with fail
      refine (TR.out _ (below_alloc2 _ _ _)).mono ?_
      rintro e W1 ⟨v, rfl, own, hb⟩
      obtain ⟨g, cap, rfl, hg, hg2⟩ := own_slice own (by omega)
      have HA1 := hide hb
      have RX1 := hide (own_row own)
      have G1 := hide hg
      have G2 := hide hg2
      clear own hb hg hg2
      go_wp2_with fail
      refine (counted_any _).mono ?_
      rintro e W2 ⟨rfl, hb⟩
      have HX2 := hide hb
      have HA2 := hide (onward HA1.out (onward (below_alloc W1 _) hb))
      clear hb
      obtain ⟨a0, a1, a2⟩ := box_a HA2.out
      go_wp2_with fail
      refine (EQ.out _ (onward (below_alloc2 _ _ _) HA2.out)).mono ?_
      rintro e W3 ⟨rfl, hb⟩
      have HX3 := hide (onward HX2.out hb)
      have HA3 := hide (onward HA2.out hb)
      clear hb a0 a1 a2
      obtain ⟨x0, x1, x2⟩ := box_x HX3.out
      go_wp2_with fail
      refine (EX.out g cap _ (row_below RX1.out (onward (below_alloc W1 _) HX3.out)) (onward (below_alloc2 _ _ _) HA3.out)).mono ?_
      rintro e W4 ⟨rfl, hb⟩
      have HX4 := hide (onward HX3.out hb)
      have HA4 := hide (onward HA3.out hb)
      clear hb x0 x1 x2
      obtain ⟨x0, x1, x2⟩ := box_x HX4.out
      skip
      go_wp2_with fail
      refine (TB.out g cap _ (row_below RX1.out (onward (below_alloc W1 _) HX4.out))).mono ?_
      rintro e W5 ⟨v5, rfl, own5, hb⟩
      obtain ⟨g5, cap5, rfl, hg5, hg52⟩ := own_slice own5 (by omega)
      have RY5 := hide (own_row own5)
      have HA5 := hide (onward HA4.out hb)
      have HX5 := hide (onward HX4.out hb)
      clear own5 hb hg5 hg52 x0 x1 x2
      have a5 := fun o => box_a (onward HA5.out (below_alloc _ o))
      have b5 := fun o => box_b (onward HA5.out (below_alloc _ o))
      have a51 := fun o => (a5 o).2.1
      have a52 := fun o => (a5 o).2.2
      have b50 := fun o => (b5 o).1
      have b51 := fun o => (b5 o).2.1
      have b52 := fun o => (b5 o).2.2
      clear a5 b5
      go_wp2_with fail
      refine (equal_any _ _ n cap5 n c pos pos _ HL.out HL.out hn hn (row_below RY5.out (below_alloc _ _)) (RA.out _ (onward (onward (below_alloc2 w _ _) HA5.out) (below_alloc _ _)))).mono ?_
      rintro e W' ⟨rfl, qq, rfl⟩
      rw [show decide (pos = pos) = true from by simp]
      clear a51 a52
      go_wp2_with fail
      refine (TZ.out _ (onward (onward (below_alloc2 w _ _) HA5.out) (below_drewN (below_alloc _ _) _))).mono ?_
      rintro e W6 ⟨rfl, hb⟩
      have B6 := hide (onward (onward (onward (below_alloc2 w _ _) HA5.out) (below_drewN (below_alloc _ _) _)) (onward hb (below_alloc _ noO)))
      clear hb b50 b51 b52
      have hzz : (rz != 0) = true := by simp [hz]
      go_wp2
      go_big_quiet (fail)
      go_wp2
      go_ret
      exact ⟨rfl, below_drewN B6.out _⟩

set_option maxHeartbeats 4000000 in
set_option maxRecDepth 100000 in
theorem even_2 (id bal : Int) (p : Option Addr) (n c : Nat) (pos : List Int) (id2 bal2 : Int) (p2 : Option Addr) (n2 c2 : Nat) (pos2 : List Int) (k : Nat) (q pr fee : Int) (p3 : Option Addr) (n3 c3 : Nat) (marks : List Int) (w : World) (hl : pos.length = n) (hl2 : pos2.length = n2) (hl3 : marks.length = n3) (hn : n ≤ 140737488351232) (hn2 : n2 ≤ 140737488351232) (h : Row w p pos) (h2 : Row w p2 pos2) (h3 : Row w p3 marks)
    (ht : tradeErr id bal pos k q pr fee = 0) (t1 : Int) (T2 : Int × Int) (e1 : equityR id bal pos marks = (t1, 0)) (e2 : equityR id (bal - q * pr - fee) (pos.set k (pos.getD k 0 + q)) marks = T2) (he : ¬ T2.2 = 0) :
    Calls Try.prog 14 #[accV id bal p n c, accV id2 bal2 p2 n2 c2, .int .i64 k, .int .i64 q, .int .i64 pr, .int .i64 fee, .slice p3 n3 c3] w fun e w' => e = .returned (.bool true) ∧ Below w.heap.size w w' := by
  obtain ⟨z1, z2, z3, z4, z5, z6, z7, z8⟩ := tradeErr_ok ht
  obtain ⟨y1, y2, y3, y4, y5⟩ := accErr_ok z1
  obtain ⟨q1, q2⟩ := betw_true z3
  obtain ⟨r1, r2⟩ := betw_true z4
  obtain ⟨fe1, fe2⟩ := money_true z6
  obtain ⟨ba1, ba2⟩ := money_true y4
  obtain ⟨xb1, xb2⟩ := money_true z7
  have hk : k < n := by omega
  have hn1 : n ≤ 2 := by have := betw_true y2; omega
  have hl' : (pos.set k (pos.getD k 0 + q)).length = n := by simpa using hl
  have TR := hide (fun W hW => trade_good id bal p n c pos k q pr fee W hl (row_below h hW) ht)
  have EQ := hide (fun W hW => equity_any id bal p _ n c n3 c3 pos marks W hl hl3 hn (row_below h hW) (row_below h3 hW))
  have EX := hide (fun g cap W hx hW => equity_any id (bal - q * pr - fee) (some ⟨g, 0, none⟩) _ n cap n3 c3 (pos.set k (pos.getD k 0 + q)) marks W hl' hl3 hn hx (row_below h3 hW))
  simp only [Int.toNat_natCast] at TR
  rw [e1] at EQ
  rw [e2] at EX
  clear e1 e2
  obtain ⟨hbk, hbal, hback⟩ := even2 ht
  simp only [Int.toNat_natCast] at hbk hback
  have RA := hide (fun W hW => row_below (w' := W) h hW)
  have HL := hide hl
  rcases hbk with hbk | hbk
  · have TB := hide (fun g cap W hx => trade_bad id (bal - q * pr - fee) (some ⟨g, 0, none⟩) n cap (pos.set k (pos.getD k 0 + q)) k (-q) pr 0 W hl' hn hx (by decide) (by decide) (by rw [hbk]; decide))
    rw [hbk] at TB
    clear h h2 h3 z1 z2 z3 z4 z5 z6 z7 z8 y1 y2 y3 y4 y5 ht hbk hbal hback hl
    generalize pos.set k (pos.getD k 0 + q) = pos' at TR EX hl' TB
    generalize bal - q * pr - fee = xb at TR EX xb1 xb2 TB
    go_enter Try.func14, Try.ntmps14
    go_wp2_with fail
    refine (TR.out _ (below_alloc2 _ _ _)).mono ?_
    rintro e W1 ⟨v, rfl, own, hb⟩
    obtain ⟨g, cap, rfl, hg, hg2⟩ := own_slice own (by omega)
    have HA1 := hide hb
    have RX1 := hide (own_row own)
    have G1 := hide hg
    have G2 := hide hg2
    clear own hb hg hg2
    go_wp2_with fail
    refine (counted_any _).mono ?_
    rintro e W2 ⟨rfl, hb⟩
    have HX2 := hide hb
    have HA2 := hide (onward HA1.out (onward (below_alloc W1 _) hb))
    clear hb
    obtain ⟨a0, a1, a2⟩ := box_a HA2.out
    go_wp2_with fail
    refine (EQ.out _ (onward (below_alloc2 _ _ _) HA2.out)).mono ?_
    rintro e W3 ⟨rfl, hb⟩
    have HX3 := hide (onward HX2.out hb)
    have HA3 := hide (onward HA2.out hb)
    clear hb a0 a1 a2
    obtain ⟨x0, x1, x2⟩ := box_x HX3.out
    go_wp2_with fail
    refine (EX.out g cap _ (row_below RX1.out (onward (below_alloc W1 _) HX3.out)) (onward (below_alloc2 _ _ _) HA3.out)).mono ?_
    rintro e W4 ⟨rfl, hb⟩
    have HX4 := hide (onward HX3.out hb)
    have HA4 := hide (onward HA3.out hb)
    clear hb x0 x1 x2
    obtain ⟨x0, x1, x2⟩ := box_x HX4.out
    skip
    go_wp2_with fail
    refine (TB.out g cap _ (row_below RX1.out (onward (below_alloc W1 _) HX4.out))).mono ?_
    rintro e W5 ⟨rfl, hb⟩
    have B5 := hide (onward (onward (below_alloc2 w _ _) HA4.out) (onward hb (below_alloc _ noO)))
    clear hb x0 x1 x2
    go_wp2
    go_ret
    exact ⟨rfl, B5.out⟩
  · have TB := hide (fun g cap W hx => trade_good id (bal - q * pr - fee) (some ⟨g, 0, none⟩) n cap (pos.set k (pos.getD k 0 + q)) k (-q) pr 0 W hl' hx hbk)
    simp only [Int.toNat_natCast, hback, hbal] at TB
    by_cases hz : tradeErr id2 bal2 pos2 k (-q) pr 0 = 0
    · obtain ⟨bb, off, rfl, -⟩ := row_at h (k := k) (by omega)
      obtain ⟨c1, c2', c3, c4, c5, c6, c7, c8⟩ := tradeErr_ok hz
      obtain ⟨d1, d2, d3, d4, d5⟩ := accErr_ok c1
      obtain ⟨bb2, off2, rfl, -⟩ := row_at h2 (k := k) (by omega)
      have TZ := hide (fun W hW => trade_good id2 bal2 (some ⟨bb2, off2, none⟩) n2 c2 pos2 k (-q) pr 0 W hl2 (row_below h2 hW) hz)
      simp only [Int.toNat_natCast] at TZ c8
      have RB := hide (fun W hW => row_below (w' := W) h2 hW)
      obtain ⟨zb1, zb2⟩ := money_true c7
      obtain ⟨bl1, bl2⟩ := money_true d4
      have hkp : k < pos.length := by omega
      have hkp2 : k < pos2.length := by omega
      have hk2 : k < n2 := by omega
      have hkp' : k < (pos.set k (pos.getD k 0 + q)).length := by simpa using hkp
      have hE : bal2 - -q * pr - 0 + (bal - q * pr - fee) + fee = bal + bal2 := by rw [Int.neg_mul]; omega
      obtain ⟨ap, hap⟩ : ∃ ap, pos.getD k 0 = ap := ⟨_, rfl⟩
      obtain ⟨bp, hbp⟩ : ∃ bp, pos2.getD k 0 = bp := ⟨_, rfl⟩
      have AP := hide hap
      have BP := hide hbp
      have XP : Hid ((pos.set k (pos.getD k 0 + q)).getD k 0 = ap + q) := by
        show _ = _
        rw [hap, List.getD_eq_getElem?_getD, List.getElem?_set]
        simp [hkp]
      have ZP : Hid ((pos2.set k (pos2.getD k 0 + -q)).getD k 0 = bp + -q) := by
        show _ = _
        rw [hbp, List.getD_eq_getElem?_getD, List.getElem?_set]
        simp [hkp2]
      obtain ⟨ap1, ap2⟩ := betw_true (all_get y5 hkp)
      obtain ⟨bp1, bp2⟩ := betw_true (all_get d5 hkp2)
      rw [hap] at ap1 ap2
      rw [hbp] at bp1 bp2
      have hP : bp + -q + (ap + q) = ap + bp := by omega
      obtain ⟨xp1, xp2⟩ : -2000 ≤ ap + q ∧ ap + q ≤ 2000 := by omega
      obtain ⟨zp1, zp2⟩ : -2000 ≤ bp + -q ∧ bp + -q ≤ 2000 := by omega
      clear h h2 h3 z1 z2 z3 z4 z5 z6 z7 z8 y1 y2 y3 y4 y5 ht hbk hbal hback hl c1 c2' c3 c4 c5 c6 c7 c8 d1 d2 d3 d4 d5 hz hap hbp
      generalize ap + q = xp at XP hP xp1 xp2
      generalize bp + -q = zp at ZP hP zp1 zp2
      generalize pos2.set k (pos2.getD k 0 + -q) = pos2' at TZ ZP
      generalize pos.set k (pos.getD k 0 + q) = pos' at TR EX hl' TB XP hkp'
      generalize bal2 - -q * pr - 0 = zb at TZ hE zb1 zb2
      generalize bal - q * pr - fee = xb at TR EX xb1 xb2 TB hE
      have hEE : (zb + xb + fee == bal + bal2) = true := by simp [hE]
      have hPP : (zp + xp == ap + bp) = true := by simp [hP]
      go_enter Try.func14, Try.ntmps14
      go_wp2_with fail
      refine (TR.out _ (below_alloc2 _ _ _)).mono ?_
      rintro e W1 ⟨v, rfl, own, hb⟩
      obtain ⟨g, cap, rfl, hg, hg2⟩ := own_slice own (by omega)
      have HA1 := hide hb
      have RX1 := hide (own_row own)
      have G1 := hide hg
      have G2 := hide hg2
      clear own hb hg hg2
      go_wp2_with fail
      refine (counted_any _).mono ?_
      rintro e W2 ⟨rfl, hb⟩
      have HX2 := hide hb
      have HA2 := hide (onward HA1.out (onward (below_alloc W1 _) hb))
      clear hb
      obtain ⟨a0, a1, a2⟩ := box_a HA2.out
      go_wp2_with fail
      refine (EQ.out _ (onward (below_alloc2 _ _ _) HA2.out)).mono ?_
      rintro e W3 ⟨rfl, hb⟩
      have HX3 := hide (onward HX2.out hb)
      have HA3 := hide (onward HA2.out hb)
      clear hb a0 a1 a2
      obtain ⟨x0, x1, x2⟩ := box_x HX3.out
      go_wp2_with fail
      refine (EX.out g cap _ (row_below RX1.out (onward (below_alloc W1 _) HX3.out)) (onward (below_alloc2 _ _ _) HA3.out)).mono ?_
      rintro e W4 ⟨rfl, hb⟩
      have HX4 := hide (onward HX3.out hb)
      have HA4 := hide (onward HA3.out hb)
      clear hb x0 x1 x2
      obtain ⟨x0, x1, x2⟩ := box_x HX4.out
      skip
      go_wp2_with fail
      refine (TB.out g cap _ (row_below RX1.out (onward (below_alloc W1 _) HX4.out))).mono ?_
      rintro e W5 ⟨v5, rfl, own5, hb⟩
      obtain ⟨g5, cap5, rfl, hg5, hg52⟩ := own_slice own5 (by omega)
      have RY5 := hide (own_row own5)
      have HA5 := hide (onward HA4.out hb)
      have HX5 := hide (onward HX4.out hb)
      clear own5 hb hg5 hg52 x0 x1 x2
      have a5 := fun o => box_a (onward HA5.out (below_alloc _ o))
      have b5 := fun o => box_b (onward HA5.out (below_alloc _ o))
      have a51 := fun o => (a5 o).2.1
      have a52 := fun o => (a5 o).2.2
      have b50 := fun o => (b5 o).1
      have b51 := fun o => (b5 o).2.1
      have b52 := fun o => (b5 o).2.2
      clear a5 b5
      go_wp2_with fail
      refine (equal_any _ _ n cap5 n c pos pos _ HL.out HL.out hn hn (row_below RY5.out (below_alloc _ _)) (RA.out _ (onward (onward (below_alloc2 w _ _) HA5.out) (below_alloc _ _)))).mono ?_
      rintro e W' ⟨rfl, qq, rfl⟩
      rw [show decide (pos = pos) = true from by simp]
      clear a51 a52
      go_wp2_with fail
      refine (TZ.out _ (onward (onward (below_alloc2 w _ _) HA5.out) (below_drewN (below_alloc _ _) _))).mono ?_
      rintro e W6 ⟨v6, rfl, own6, hb⟩
      obtain ⟨g6, cap6, rfl, hg6, hg62⟩ := own_slice own6 (by omega)
      have HA6 := hide (onward HA5.out (onward (below_drewN (below_alloc _ _) _) hb))
      have HX6 := hide (onward HX5.out (onward (below_drewN (below_alloc _ _) _) hb))
      have B6 := hide (fun o => onward (onward (below_alloc2 w _ _) HA6.out) (below_alloc _ o))
      have a61 := fun o => (box_a (onward HA6.out (below_alloc _ o))).2.1
      have a62 := fun o => (box_a (onward HA6.out (below_alloc _ o))).2.2
      have b61 := fun o => (box_b (onward HA6.out (below_alloc _ o))).2.1
      have b62 := fun o => (box_b (onward HA6.out (below_alloc _ o))).2.2
      have x61 := fun o => (box_x (onward HX6.out (below_alloc _ o))).2.1
      have x62 := fun o => (box_x (onward HX6.out (below_alloc _ o))).2.2
      have cz := fun o => cell_alloc (own_cell own6 hk2) o
      have cx := fun o => row_get (row_below RX1.out (onward (below_alloc W1 _) (onward HX6.out (below_alloc _ o)))) hkp'
      have ca := fun o => row_get (RA.out _ (B6.out o)) hkp
      have cb := fun o => row_get (RB.out _ (B6.out o)) hkp2
      simp only [Nat.zero_add] at cx
      rw [ZP.out] at cz
      rw [XP.out] at cx
      rw [AP.out] at ca
      rw [BP.out] at cb
      clear own6 hb hg6 hg62 b50 b51 b52
      go_wp2
      go_big_quiet (fail)
      go_wp2
      go_ret
      exact ⟨rfl, below_drewN (B6.out _) _⟩
    · have TZ := hide (fun W hW => trade_bad id2 bal2 p2 n2 c2 pos2 k (-q) pr 0 W hl2 hn2 (row_below h2 hW) (by decide) (by decide) hz)
      clear h h2 h3 z1 z2 z3 z4 z5 z6 z7 z8 y1 y2 y3 y4 y5 ht hbk hbal hback hl
      generalize tradeErr id2 bal2 pos2 k (-q) pr 0 = rz at hz TZ
      generalize pos.set k (pos.getD k 0 + q) = pos' at TR EX hl' TB
      generalize bal - q * pr - fee = xb at TR EX xb1 xb2 TB
      go_enter Try.func14, Try.ntmps14
      go_wp2_with fail
      refine (TR.out _ (below_alloc2 _ _ _)).mono ?_
      rintro e W1 ⟨v, rfl, own, hb⟩
      obtain ⟨g, cap, rfl, hg, hg2⟩ := own_slice own (by omega)
      have HA1 := hide hb
      have RX1 := hide (own_row own)
      have G1 := hide hg
      have G2 := hide hg2
      clear own hb hg hg2
      go_wp2_with fail
      refine (counted_any _).mono ?_
      rintro e W2 ⟨rfl, hb⟩
      have HX2 := hide hb
      have HA2 := hide (onward HA1.out (onward (below_alloc W1 _) hb))
      clear hb
      obtain ⟨a0, a1, a2⟩ := box_a HA2.out
      go_wp2_with fail
      refine (EQ.out _ (onward (below_alloc2 _ _ _) HA2.out)).mono ?_
      rintro e W3 ⟨rfl, hb⟩
      have HX3 := hide (onward HX2.out hb)
      have HA3 := hide (onward HA2.out hb)
      clear hb a0 a1 a2
      obtain ⟨x0, x1, x2⟩ := box_x HX3.out
      go_wp2_with fail
      refine (EX.out g cap _ (row_below RX1.out (onward (below_alloc W1 _) HX3.out)) (onward (below_alloc2 _ _ _) HA3.out)).mono ?_
      rintro e W4 ⟨rfl, hb⟩
      have HX4 := hide (onward HX3.out hb)
      have HA4 := hide (onward HA3.out hb)
      clear hb x0 x1 x2
      obtain ⟨x0, x1, x2⟩ := box_x HX4.out
      skip
      go_wp2_with fail
      refine (TB.out g cap _ (row_below RX1.out (onward (below_alloc W1 _) HX4.out))).mono ?_
      rintro e W5 ⟨v5, rfl, own5, hb⟩
      obtain ⟨g5, cap5, rfl, hg5, hg52⟩ := own_slice own5 (by omega)
      have RY5 := hide (own_row own5)
      have HA5 := hide (onward HA4.out hb)
      have HX5 := hide (onward HX4.out hb)
      clear own5 hb hg5 hg52 x0 x1 x2
      have a5 := fun o => box_a (onward HA5.out (below_alloc _ o))
      have b5 := fun o => box_b (onward HA5.out (below_alloc _ o))
      have a51 := fun o => (a5 o).2.1
      have a52 := fun o => (a5 o).2.2
      have b50 := fun o => (b5 o).1
      have b51 := fun o => (b5 o).2.1
      have b52 := fun o => (b5 o).2.2
      clear a5 b5
      go_wp2_with fail
      refine (equal_any _ _ n cap5 n c pos pos _ HL.out HL.out hn hn (row_below RY5.out (below_alloc _ _)) (RA.out _ (onward (onward (below_alloc2 w _ _) HA5.out) (below_alloc _ _)))).mono ?_
      rintro e W' ⟨rfl, qq, rfl⟩
      rw [show decide (pos = pos) = true from by simp]
      clear a51 a52
      go_wp2_with fail
      refine (TZ.out _ (onward (onward (below_alloc2 w _ _) HA5.out) (below_drewN (below_alloc _ _) _))).mono ?_
      rintro e W6 ⟨rfl, hb⟩
      have B6 := hide (onward (onward (onward (below_alloc2 w _ _) HA5.out) (below_drewN (below_alloc _ _) _)) (onward hb (below_alloc _ noO)))
      clear hb b50 b51 b52
      have hzz : (rz != 0) = true := by simp [hz]
      go_wp2
      go_big_quiet (fail)
      go_wp2
      go_ret
      exact ⟨rfl, below_drewN B6.out _⟩
end Go.Proofs.Ytkjgkmndpbbagaa.Ac
