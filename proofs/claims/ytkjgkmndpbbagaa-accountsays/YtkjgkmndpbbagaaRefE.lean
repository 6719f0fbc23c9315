/-
  The reference's chapter 4 by contracts: Traded, behind its copy.
-/
import Derived.Test.YtkjgkmndpbbagaaRefD
namespace Go.Proofs.Ytkjgkmndpbbagaa.Ac
open Go.RowKit Go.Proofs.Ytkjgkmndpbbagaa.Num Go.Proofs.Ytkjgkmndpbbagaa.Fix Go.Proofs.Ytkjgkmndpbbagaa.AcP
theorem heap3 (w : World) (o o2 o3 : Obj) : (((w.alloc o).alloc o2).alloc o3).heap[w.heap.size]? = some o := by
  have h1 := (below_alloc (w.alloc o) o2).block w.heap.size (by simp)
  have h2 := (below_alloc ((w.alloc o).alloc o2) o3).block w.heap.size (by simp; omega)
  rw [h2, h1]
  exact heap_alloc_new w o

theorem onward3 {a b c : World} (h : Below a.heap.size a b) (g : Below b.heap.size b c) : Below a.heap.size a c := h.trans (g.mono h.size)

set_option maxHeartbeats 1000000 in
set_option maxRecDepth 100000 in
theorem traded_ok (id bal : Int) (b off : Nat) (n c : Nat) (pos : List Int) (k : Nat) (q pr fee : Int) (w : World) (hl : pos.length = n) (hn : n ≤ 2) (h : Row w (some ⟨b, off, none⟩) pos) (he : accErr id bal pos n = 0) (hm2 : k < n) (hq : betw (-1000) q 1000 = true) (hp : betw 0 pr 10000 = true)
    (m1 : money (bal - q * pr) = true) (m2 : money fee = true) (m3 : money (bal - q * pr - fee) = true) (x : Int) (hx : pos.getD k 0 = x) (g1 : -1000 ≤ x + q) (g2 : x + q ≤ 1000) :
    Calls Try.prog 61 #[accV id bal (some ⟨b, off, none⟩) n c, .int .i64 k, .int .i64 q, .int .i64 pr, .int .i64 fee] w fun e w' => ∃ v, e = .returned (.tuple #[.agg #[.int .i64 id, .int .i64 (bal - q * pr - fee), v], .int .i64 0]) ∧ w'.ownsRow w.heap.size 3 1 v n ((pos.set k (x + q)).map (Value.int .i64)) ∧ Below w.heap.size w w' := by
  have CK := hide (fun W hW => checkAccount_any id bal (some ⟨b, off, none⟩) n c pos n W hl (row_below h hW))
  have OA := hide (fun W hW => ownAccount_any id bal (some ⟨b, off, none⟩) n c pos W hl (by omega) (by simp) (row_below h hW))
  rw [he] at CK
  have WO := hide (fun W => RefA.worthOf_yes q pr W hq hp)
  have hco := money_true (cost_money hq hp)
  obtain ⟨ba1, ba2⟩ := money_true (accErr_ok he).2.2.2.1
  obtain ⟨q1, q2⟩ := betw_true hq
  obtain ⟨f1, f2⟩ := money_true m2
  generalize q * pr = co at WO hco m1 m3 ⊢
  obtain ⟨co1, co2⟩ := hco
  have HX := hide hx
  have HL := hide hl
  have hkz : (k : Int) < n := by omega
  clear h he hq hp hx hl
  go_enter Try.func61, Try.ntmps61
  go_wp2_with fail
  refine (CK.out _ (below_alloc2 _ _ _)).mono ?_
  rintro e W ⟨rfl, rfl⟩
  go_wp2_with (first | (go_at_call 21; refine (WO.out _).mono ?_; rintro e w' ⟨rfl, hw'⟩; rw [hw']; clear hw') | (go_at_call 24; refine (RefA.isMoney_any _ _).mono ?_; rintro e w' ⟨rfl, hw'⟩; rw [hw']; clear hw'))
  refine (OA.out _ (below3 _ _ _ _)).mono ?_
  rintro e W ⟨v, rfl, own, hb⟩
  have BW := hide (onward3 (below3 w _ _ _) hb)
  have TA := hide ((hb.block w.heap.size (by simp; omega)).trans (heap3 w _ _ _))
  have TR := hide (three_below (three_alloc (three_made2 _ _ _ _ _) _) hb)
  clear hb CK OA
  obtain ⟨g, cap, rfl, hg, hg2⟩ := own_slice own (by omega)
  have hg' : w.heap.size + 3 ≤ g := by simpa using hg
  have OW := hide own
  have c1 := own_cell own hm2
  rw [HX.out] at c1
  have c2 : W.frozen? ⟨g, k, none⟩ = false := own.frozenAt k
  obtain ⟨a0, a1, a2⟩ := three_read TA.out
  obtain ⟨-, -, -, -, -, -, a3, a4, a5⟩ := three_facts ⟨_, _, _, TA.out⟩
  obtain ⟨u0, u1, u2, t0, t1, t2, t3, t4, t5⟩ := three_facts TR.out
  have n1 : ¬ w.heap.size = g := by omega
  have n2 : ¬ g = w.heap.size := by omega
  have n3 : ¬ w.heap.size + 1 = g := by omega
  have n4 : ¬ g = w.heap.size + 1 := by omega
  clear own hg hg2
  obtain ⟨W1, hW1⟩ : ∃ W1, ((W.setCell ⟨w.heap.size, 0, none⟩ (.int .i64 id)).setCell ⟨w.heap.size, 1, none⟩ (.int .i64 bal)).setCell ⟨w.heap.size, 2, none⟩ (.slice (some ⟨g, 0, none⟩) n cap) = W1 := ⟨_, rfl⟩
  obtain ⟨W2, hW2⟩ : ∃ W2, W1.setCell ⟨w.heap.size, 1, none⟩ (.int .i64 (bal - co - fee)) = W2 := ⟨_, rfl⟩
  obtain ⟨W3, hW3⟩ : ∃ W3, W2.setCell ⟨g, k, none⟩ (.int .i64 (x + q)) = W3 := ⟨_, rfl⟩
  have H1 := hide hW1
  have H2 := hide hW2
  have H3 := hide hW3
  have TA1 : Hid (W1.heap[w.heap.size]? = some (.cells #[.int .i64 id, .int .i64 bal, .slice (some ⟨g, 0, none⟩) n cap] 78 (0, 0))) := by rw [← hW1]; exact three_set ⟨_, _, _, TA.out⟩ _ _ _
  have TA2 : Hid (W2.heap[w.heap.size]? = some (.cells #[.int .i64 id, .int .i64 (bal - co - fee), .slice (some ⟨g, 0, none⟩) n cap] 78 (0, 0))) := by rw [← hW2]; exact three_put TA1.out _
  have TA3 : Hid (W3.heap[w.heap.size]? = some (.cells #[.int .i64 id, .int .i64 (bal - co - fee), .slice (some ⟨g, 0, none⟩) n cap] 78 (0, 0))) := by
    rw [← hW3]
    exact (Below.heap_setCell _ _ _ _ (fun e => n1 e)).trans TA2.out
  have TR3 : Hid (Three W3 (w.heap.size + 1)) := by
    rw [← hW3, ← hW2, ← hW1]
    exact three_other (three_other (three_other (three_other (three_other TR.out (by simp) _) (by simp) _) (by simp) _) (by simp) _) n4 _
  have OW2 : Hid (W2.ownsRow (w.heap.size + 3) 3 1 (.slice (some ⟨g, 0, none⟩) n cap) n (pos.map (Value.int .i64))) := by
    rw [← hW2, ← hW1]
    exact ownsRow_setCell_below (ownsRow_setCell_below (ownsRow_setCell_below (ownsRow_setCell_below (own_base OW.out (by simp)) (by simp) _) (by simp) _) (by simp) _) (by simp) _
  have OW3 : Hid (W3.ownsRow (w.heap.size + 3) 3 1 (.slice (some ⟨g, 0, none⟩) n cap) n ((pos.set k (x + q)).map (Value.int .i64))) := by
    have := (OW2.out.stored k (.int .i64 (x + q))).1
    rw [← List.map_set, hW3] at this
    exact this
  have B3 : Hid (Below w.heap.size w W3) := by
    rw [← hW3, ← hW2, ← hW1]
    exact ((three_below_set BW.out (Nat.le_refl _) _ _ _).setCell (Nat.le_refl _) _).setCell (by simp; omega) _
  obtain ⟨b0, b1, b2⟩ := three_read TA1.out
  obtain ⟨-, -, -, -, -, -, b3, b4, b5⟩ := three_facts ⟨_, _, _, TA1.out⟩
  obtain ⟨d0, d1, d2⟩ := three_read TA2.out
  have d3 := own_cell OW2.out hm2
  rw [HX.out] at d3
  have d4 : W2.frozen? ⟨g, k, none⟩ = false := OW2.out.frozenAt k
  obtain ⟨e0, e1, e2⟩ := three_read TA3.out
  have e3 := own_cell OW3.out hm2
  rw [show (pos.set k (x + q)).getD k 0 = x + q from by rw [List.getD_eq_getElem?_getD, List.getElem?_set]; simp [show k < pos.length by rw [HL.out]; exact hm2]] at e3
  obtain ⟨v0, v1, v2, r0, r1, r2, r3, r4, r5⟩ := three_facts TR3.out
  clear hW1 hW2 hW3 c1 c2 t0 t1 t2 t3 t4 t5 n1 n2 n3 n4
  go_wp2_with (first | rw [H1.out] | rw [H2.out] | rw [H3.out])
  obtain ⟨s0, s1, s2⟩ := three_read (three_set TR3.out (.int .i64 id) (.int .i64 (bal - co - fee)) (.slice (some ⟨g, 0, none⟩) n cap))
  refine bodyPost_ret (v := .tuple #[.agg #[.int .i64 id, .int .i64 (bal - co - fee), .slice (some ⟨g, 0, none⟩) n cap], .int .i64 0]) (by simp [results, Try.results61, go_sem, s0, s1, s2]) rfl ⟨_, rfl, ?_, three_below_set B3.out (by omega) _ _ _⟩
  exact own_base (ownsRow_setCell_below (ownsRow_setCell_below (ownsRow_setCell_below OW3.out (by simp) _) (by simp) _) (by simp) _) (by omega)

set_option maxHeartbeats 1000000 in
set_option maxRecDepth 100000 in
theorem traded_b5 (id bal : Int) (b off : Nat) (n c : Nat) (pos : List Int) (k : Nat) (q pr fee : Int) (w : World) (hl : pos.length = n) (hn : n ≤ 2) (h : Row w (some ⟨b, off, none⟩) pos) (he : accErr id bal pos n = 0) (hm2 : k < n) (hq : betw (-1000) q 1000 = true) (hp : betw 0 pr 10000 = true)
    (m1 : money (bal - q * pr) = true) (m2 : money fee = true) (m3 : money (bal - q * pr - fee) = true) (x : Int) (hx : pos.getD k 0 = x) (hx1 : -1000 ≤ x) (hx2 : x ≤ 1000) (hg : x + q < -1000 ∨ 1000 < x + q) :
    Calls Try.prog 61 #[accV id bal (some ⟨b, off, none⟩) n c, .int .i64 k, .int .i64 q, .int .i64 pr, .int .i64 fee] w fun e w' => e = .returned (.tuple #[noA, .int .i64 7]) ∧ Below w.heap.size w w' := by
  rcases hg with hg1 | hg1
  · have CK := hide (fun W hW => checkAccount_any id bal (some ⟨b, off, none⟩) n c pos n W hl (row_below h hW))
    have OA := hide (fun W hW => ownAccount_any id bal (some ⟨b, off, none⟩) n c pos W hl (by omega) (by simp) (row_below h hW))
    rw [he] at CK
    have WO := hide (fun W => RefA.worthOf_yes q pr W hq hp)
    have hco := money_true (cost_money hq hp)
    obtain ⟨ba1, ba2⟩ := money_true (accErr_ok he).2.2.2.1
    obtain ⟨q1, q2⟩ := betw_true hq
    obtain ⟨f1, f2⟩ := money_true m2
    generalize q * pr = co at WO hco m1 m3 ⊢
    obtain ⟨co1, co2⟩ := hco
    have HX := hide hx
    have HL := hide hl
    have hkz : (k : Int) < n := by omega
    clear h he hq hp hx hl
    go_enter Try.func61, Try.ntmps61
    go_wp2_with fail
    refine (CK.out _ (below_alloc2 _ _ _)).mono ?_
    rintro e W ⟨rfl, rfl⟩
    go_wp2_with (first | (go_at_call 21; refine (WO.out _).mono ?_; rintro e w' ⟨rfl, hw'⟩; rw [hw']; clear hw') | (go_at_call 24; refine (RefA.isMoney_any _ _).mono ?_; rintro e w' ⟨rfl, hw'⟩; rw [hw']; clear hw'))
    refine (OA.out _ (below3 _ _ _ _)).mono ?_
    rintro e W ⟨v, rfl, own, hb⟩
    have BW := hide (onward3 (below3 w _ _ _) hb)
    have TA := hide ((hb.block w.heap.size (by simp; omega)).trans (heap3 w _ _ _))
    have TR := hide (three_below (three_alloc (three_made2 _ _ _ _ _) _) hb)
    clear hb CK OA
    obtain ⟨g, cap, rfl, hg, hg2⟩ := own_slice own (by omega)
    have hg' : w.heap.size + 3 ≤ g := by simpa using hg
    have OW := hide own
    have c1 := own_cell own hm2
    rw [HX.out] at c1
    have c2 : W.frozen? ⟨g, k, none⟩ = false := own.frozenAt k
    obtain ⟨a0, a1, a2⟩ := three_read TA.out
    obtain ⟨-, -, -, -, -, -, a3, a4, a5⟩ := three_facts ⟨_, _, _, TA.out⟩
    obtain ⟨u0, u1, u2, t0, t1, t2, t3, t4, t5⟩ := three_facts TR.out
    have n1 : ¬ w.heap.size = g := by omega
    have n2 : ¬ g = w.heap.size := by omega
    have n3 : ¬ w.heap.size + 1 = g := by omega
    have n4 : ¬ g = w.heap.size + 1 := by omega
    clear own hg hg2
    obtain ⟨W1, hW1⟩ : ∃ W1, ((W.setCell ⟨w.heap.size, 0, none⟩ (.int .i64 id)).setCell ⟨w.heap.size, 1, none⟩ (.int .i64 bal)).setCell ⟨w.heap.size, 2, none⟩ (.slice (some ⟨g, 0, none⟩) n cap) = W1 := ⟨_, rfl⟩
    obtain ⟨W2, hW2⟩ : ∃ W2, W1.setCell ⟨w.heap.size, 1, none⟩ (.int .i64 (bal - co - fee)) = W2 := ⟨_, rfl⟩
    obtain ⟨W3, hW3⟩ : ∃ W3, W2.setCell ⟨g, k, none⟩ (.int .i64 (x + q)) = W3 := ⟨_, rfl⟩
    have H1 := hide hW1
    have H2 := hide hW2
    have H3 := hide hW3
    have TA1 : Hid (W1.heap[w.heap.size]? = some (.cells #[.int .i64 id, .int .i64 bal, .slice (some ⟨g, 0, none⟩) n cap] 78 (0, 0))) := by rw [← hW1]; exact three_set ⟨_, _, _, TA.out⟩ _ _ _
    have TA2 : Hid (W2.heap[w.heap.size]? = some (.cells #[.int .i64 id, .int .i64 (bal - co - fee), .slice (some ⟨g, 0, none⟩) n cap] 78 (0, 0))) := by rw [← hW2]; exact three_put TA1.out _
    have TA3 : Hid (W3.heap[w.heap.size]? = some (.cells #[.int .i64 id, .int .i64 (bal - co - fee), .slice (some ⟨g, 0, none⟩) n cap] 78 (0, 0))) := by
      rw [← hW3]
      exact (Below.heap_setCell _ _ _ _ (fun e => n1 e)).trans TA2.out
    have TR3 : Hid (Three W3 (w.heap.size + 1)) := by
      rw [← hW3, ← hW2, ← hW1]
      exact three_other (three_other (three_other (three_other (three_other TR.out (by simp) _) (by simp) _) (by simp) _) (by simp) _) n4 _
    have OW2 : Hid (W2.ownsRow (w.heap.size + 3) 3 1 (.slice (some ⟨g, 0, none⟩) n cap) n (pos.map (Value.int .i64))) := by
      rw [← hW2, ← hW1]
      exact ownsRow_setCell_below (ownsRow_setCell_below (ownsRow_setCell_below (ownsRow_setCell_below (own_base OW.out (by simp)) (by simp) _) (by simp) _) (by simp) _) (by simp) _
    have OW3 : Hid (W3.ownsRow (w.heap.size + 3) 3 1 (.slice (some ⟨g, 0, none⟩) n cap) n ((pos.set k (x + q)).map (Value.int .i64))) := by
      have := (OW2.out.stored k (.int .i64 (x + q))).1
      rw [← List.map_set, hW3] at this
      exact this
    have B3 : Hid (Below w.heap.size w W3) := by
      rw [← hW3, ← hW2, ← hW1]
      exact ((three_below_set BW.out (Nat.le_refl _) _ _ _).setCell (Nat.le_refl _) _).setCell (by simp; omega) _
    obtain ⟨b0, b1, b2⟩ := three_read TA1.out
    obtain ⟨-, -, -, -, -, -, b3, b4, b5⟩ := three_facts ⟨_, _, _, TA1.out⟩
    obtain ⟨d0, d1, d2⟩ := three_read TA2.out
    have d3 := own_cell OW2.out hm2
    rw [HX.out] at d3
    have d4 : W2.frozen? ⟨g, k, none⟩ = false := OW2.out.frozenAt k
    obtain ⟨e0, e1, e2⟩ := three_read TA3.out
    have e3 := own_cell OW3.out hm2
    rw [show (pos.set k (x + q)).getD k 0 = x + q from by rw [List.getD_eq_getElem?_getD, List.getElem?_set]; simp [show k < pos.length by rw [HL.out]; exact hm2]] at e3
    obtain ⟨v0, v1, v2, r0, r1, r2, r3, r4, r5⟩ := three_facts TR3.out
    clear hW1 hW2 hW3 c1 c2 t0 t1 t2 t3 t4 t5 n1 n2 n3 n4
    go_wp2_with (first | rw [H1.out] | rw [H2.out] | rw [H3.out])
    obtain ⟨s0, s1, s2⟩ := three_read (three_set TR3.out (.int .i64 0) (.int .i64 0) (.slice none 0 0))
    refine bodyPost_ret (v := .tuple #[noA, .int .i64 7]) (by simp [results, Try.results61, go_sem, s0, s1, s2]) rfl ⟨rfl, three_below_set B3.out (by omega) _ _ _⟩
  · have CK := hide (fun W hW => checkAccount_any id bal (some ⟨b, off, none⟩) n c pos n W hl (row_below h hW))
    have OA := hide (fun W hW => ownAccount_any id bal (some ⟨b, off, none⟩) n c pos W hl (by omega) (by simp) (row_below h hW))
    rw [he] at CK
    have WO := hide (fun W => RefA.worthOf_yes q pr W hq hp)
    have hco := money_true (cost_money hq hp)
    obtain ⟨ba1, ba2⟩ := money_true (accErr_ok he).2.2.2.1
    obtain ⟨q1, q2⟩ := betw_true hq
    obtain ⟨f1, f2⟩ := money_true m2
    generalize q * pr = co at WO hco m1 m3 ⊢
    obtain ⟨co1, co2⟩ := hco
    have HX := hide hx
    have HL := hide hl
    have hkz : (k : Int) < n := by omega
    clear h he hq hp hx hl
    go_enter Try.func61, Try.ntmps61
    go_wp2_with fail
    refine (CK.out _ (below_alloc2 _ _ _)).mono ?_
    rintro e W ⟨rfl, rfl⟩
    go_wp2_with (first | (go_at_call 21; refine (WO.out _).mono ?_; rintro e w' ⟨rfl, hw'⟩; rw [hw']; clear hw') | (go_at_call 24; refine (RefA.isMoney_any _ _).mono ?_; rintro e w' ⟨rfl, hw'⟩; rw [hw']; clear hw'))
    refine (OA.out _ (below3 _ _ _ _)).mono ?_
    rintro e W ⟨v, rfl, own, hb⟩
    have BW := hide (onward3 (below3 w _ _ _) hb)
    have TA := hide ((hb.block w.heap.size (by simp; omega)).trans (heap3 w _ _ _))
    have TR := hide (three_below (three_alloc (three_made2 _ _ _ _ _) _) hb)
    clear hb CK OA
    obtain ⟨g, cap, rfl, hg, hg2⟩ := own_slice own (by omega)
    have hg' : w.heap.size + 3 ≤ g := by simpa using hg
    have OW := hide own
    have c1 := own_cell own hm2
    rw [HX.out] at c1
    have c2 : W.frozen? ⟨g, k, none⟩ = false := own.frozenAt k
    obtain ⟨a0, a1, a2⟩ := three_read TA.out
    obtain ⟨-, -, -, -, -, -, a3, a4, a5⟩ := three_facts ⟨_, _, _, TA.out⟩
    obtain ⟨u0, u1, u2, t0, t1, t2, t3, t4, t5⟩ := three_facts TR.out
    have n1 : ¬ w.heap.size = g := by omega
    have n2 : ¬ g = w.heap.size := by omega
    have n3 : ¬ w.heap.size + 1 = g := by omega
    have n4 : ¬ g = w.heap.size + 1 := by omega
    clear own hg hg2
    obtain ⟨W1, hW1⟩ : ∃ W1, ((W.setCell ⟨w.heap.size, 0, none⟩ (.int .i64 id)).setCell ⟨w.heap.size, 1, none⟩ (.int .i64 bal)).setCell ⟨w.heap.size, 2, none⟩ (.slice (some ⟨g, 0, none⟩) n cap) = W1 := ⟨_, rfl⟩
    obtain ⟨W2, hW2⟩ : ∃ W2, W1.setCell ⟨w.heap.size, 1, none⟩ (.int .i64 (bal - co - fee)) = W2 := ⟨_, rfl⟩
    obtain ⟨W3, hW3⟩ : ∃ W3, W2.setCell ⟨g, k, none⟩ (.int .i64 (x + q)) = W3 := ⟨_, rfl⟩
    have H1 := hide hW1
    have H2 := hide hW2
    have H3 := hide hW3
    have TA1 : Hid (W1.heap[w.heap.size]? = some (.cells #[.int .i64 id, .int .i64 bal, .slice (some ⟨g, 0, none⟩) n cap] 78 (0, 0))) := by rw [← hW1]; exact three_set ⟨_, _, _, TA.out⟩ _ _ _
    have TA2 : Hid (W2.heap[w.heap.size]? = some (.cells #[.int .i64 id, .int .i64 (bal - co - fee), .slice (some ⟨g, 0, none⟩) n cap] 78 (0, 0))) := by rw [← hW2]; exact three_put TA1.out _
    have TA3 : Hid (W3.heap[w.heap.size]? = some (.cells #[.int .i64 id, .int .i64 (bal - co - fee), .slice (some ⟨g, 0, none⟩) n cap] 78 (0, 0))) := by
      rw [← hW3]
      exact (Below.heap_setCell _ _ _ _ (fun e => n1 e)).trans TA2.out
    have TR3 : Hid (Three W3 (w.heap.size + 1)) := by
      rw [← hW3, ← hW2, ← hW1]
      exact three_other (three_other (three_other (three_other (three_other TR.out (by simp) _) (by simp) _) (by simp) _) (by simp) _) n4 _
    have OW2 : Hid (W2.ownsRow (w.heap.size + 3) 3 1 (.slice (some ⟨g, 0, none⟩) n cap) n (pos.map (Value.int .i64))) := by
      rw [← hW2, ← hW1]
      exact ownsRow_setCell_below (ownsRow_setCell_below (ownsRow_setCell_below (ownsRow_setCell_below (own_base OW.out (by simp)) (by simp) _) (by simp) _) (by simp) _) (by simp) _
    have OW3 : Hid (W3.ownsRow (w.heap.size + 3) 3 1 (.slice (some ⟨g, 0, none⟩) n cap) n ((pos.set k (x + q)).map (Value.int .i64))) := by
      have := (OW2.out.stored k (.int .i64 (x + q))).1
      rw [← List.map_set, hW3] at this
      exact this
    have B3 : Hid (Below w.heap.size w W3) := by
      rw [← hW3, ← hW2, ← hW1]
      exact ((three_below_set BW.out (Nat.le_refl _) _ _ _).setCell (Nat.le_refl _) _).setCell (by simp; omega) _
    obtain ⟨b0, b1, b2⟩ := three_read TA1.out
    obtain ⟨-, -, -, -, -, -, b3, b4, b5⟩ := three_facts ⟨_, _, _, TA1.out⟩
    obtain ⟨d0, d1, d2⟩ := three_read TA2.out
    have d3 := own_cell OW2.out hm2
    rw [HX.out] at d3
    have d4 : W2.frozen? ⟨g, k, none⟩ = false := OW2.out.frozenAt k
    obtain ⟨e0, e1, e2⟩ := three_read TA3.out
    have e3 := own_cell OW3.out hm2
    rw [show (pos.set k (x + q)).getD k 0 = x + q from by rw [List.getD_eq_getElem?_getD, List.getElem?_set]; simp [show k < pos.length by rw [HL.out]; exact hm2]] at e3
    obtain ⟨v0, v1, v2, r0, r1, r2, r3, r4, r5⟩ := three_facts TR3.out
    clear hW1 hW2 hW3 c1 c2 t0 t1 t2 t3 t4 t5 n1 n2 n3 n4
    go_wp2_with (first | rw [H1.out] | rw [H2.out] | rw [H3.out])
    obtain ⟨s0, s1, s2⟩ := three_read (three_set TR3.out (.int .i64 0) (.int .i64 0) (.slice none 0 0))
    refine bodyPost_ret (v := .tuple #[noA, .int .i64 7]) (by simp [results, Try.results61, go_sem, s0, s1, s2]) rfl ⟨rfl, three_below_set B3.out (by omega) _ _ _⟩

theorem traded_bad (id bal : Int) (p : Option Addr) (n c : Nat) (pos : List Int) (mk q pr fee : Int) (w : World) (hl : pos.length = n) (h : Row w p pos) (he : ¬ tradeErr id bal pos mk q pr fee = 0) :
    Calls Try.prog 61 #[accV id bal p n c, .int .i64 mk, .int .i64 q, .int .i64 pr, .int .i64 fee] w fun e w' => e = .returned (.tuple #[noA, .int .i64 (tradeErr id bal pos mk q pr fee)]) ∧ Below w.heap.size w w' := by
  unfold tradeErr at he ⊢
  rw [hl] at he ⊢
  split at he
  next h1 =>
    rw [if_pos h1]
    obtain ⟨a1, a2, a3, a4, a5⟩ := accErr_ok h1
    split at he
    next h2 =>
      rw [if_pos h2]
      obtain ⟨k, rfl⟩ : ∃ k : Nat, mk = k := ⟨mk.toNat, by omega⟩
      have hk : k < n := by omega
      split at he
      next h3 =>
        rw [if_pos h3]
        split at he
        next h4 =>
          rw [if_pos h4]
          split at he
          next h5 =>
            rw [if_pos h5]
            split at he
            next h6 =>
              rw [if_pos h6]
              split at he
              next h7 => exact absurd rfl he
              next h7 =>
                rw [if_neg h7]
                obtain ⟨b, off, rfl, hc⟩ := row_at h (k := k) (by omega)
                have hx := betw_true (all_get a5 (k := k) (by omega))
                have h2' := betw_true a2
                refine traded_b5 id bal b off n c pos k q pr fee w hl (by omega) h h1 hk h3.1 h3.2 h4 h5 h6 _ rfl hx.1 hx.2 ?_
                have h8 : pos1 (pos.getD k 0 + q) = false := by simpa using h7
                exact betw_false h8
            next h6 =>
              rw [if_neg h6]
              exact traded_b4 id bal p n c pos k q pr fee w hl h h1 (by omega) (by omega) h3.1 h3.2 7 (.inr (.inr ⟨h4, h5, by simpa using h6, rfl⟩))
          next h5 =>
            rw [if_neg h5]
            exact traded_b4 id bal p n c pos k q pr fee w hl h h1 (by omega) (by omega) h3.1 h3.2 3 (.inr (.inl ⟨h4, by simpa using h5, rfl⟩))
        next h4 =>
          rw [if_neg h4]
          exact traded_b4 id bal p n c pos k q pr fee w hl h h1 (by omega) (by omega) h3.1 h3.2 7 (.inl ⟨by simpa using h4, rfl⟩)
      next h3 =>
        rw [if_neg h3]
        refine traded_b3 id bal p n c pos k q pr fee w hl h h1 (by omega) (by omega) ?_
        cases e1 : betw (-1000) q 1000
        · exact .inl rfl
        · cases e2 : betw 0 pr 10000
          · exact .inr rfl
          · exact absurd ⟨e1, e2⟩ h3
    next h2 =>
      rw [if_neg h2]
      exact traded_b2 id bal p n c pos mk q pr fee w hl h h1 (by omega)
  next h1 =>
    rw [if_neg h1]
    exact traded_b1 id bal p n c pos mk q pr fee w hl h h1

theorem traded_good (id bal : Int) (p : Option Addr) (n c : Nat) (pos : List Int) (mk q pr fee : Int) (w : World) (hl : pos.length = n) (h : Row w p pos)
    (he : tradeErr id bal pos mk q pr fee = 0) :
    Calls Try.prog 61 #[accV id bal p n c, .int .i64 mk, .int .i64 q, .int .i64 pr, .int .i64 fee] w fun e w' => ∃ v, e = .returned (.tuple #[.agg #[.int .i64 id, .int .i64 (bal - q * pr - fee), v], .int .i64 0]) ∧ w'.ownsRow w.heap.size 3 1 v n ((pos.set mk.toNat (pos.getD mk.toNat 0 + q)).map (Value.int .i64)) ∧ Below w.heap.size w w' := by
  obtain ⟨h1, h2, h3, h3', h4, h5, h6, h7⟩ := tradeErr_ok he
  obtain ⟨a1, a2, a3, a4, a5⟩ := accErr_ok h1
  rw [hl] at h1 a2 h2
  have := betw_true a2
  obtain ⟨k, rfl⟩ : ∃ k : Nat, mk = k := ⟨mk.toNat, by omega⟩
  simp only [Int.toNat_natCast] at h7 ⊢
  have hk : k < n := by omega
  obtain ⟨b, off, rfl, -⟩ := row_at h (k := k) (by omega)
  have h8 := betw_true h7
  exact traded_ok id bal b off n c pos k q pr fee w hl (by omega) h h1 hk h3 h3' h4 h5 h6 _ rfl h8.1 h8.2
end Go.Proofs.Ytkjgkmndpbbagaa.Ac
