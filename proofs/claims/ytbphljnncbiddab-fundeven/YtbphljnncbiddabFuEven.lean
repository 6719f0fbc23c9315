/-
  FundEven, walked.
-/
import Derived.Test.YtbphljnncbiddabFuPaid
import Derived.Test.YtbphljnncbiddabFuEvP
import Derived.Test.YtbphljnncbiddabAc6
import Derived.BigQuiet
import Derived.Deep.QuietTactic
namespace Go.Proofs.Ytbphljnncbiddab.Ac
open Go.RowKit Go.Proofs.Ytbphljnncbiddab.Num Go.Proofs.Ytbphljnncbiddab.Fix Go.Proofs.Ytbphljnncbiddab.AcP Go.Proofs.Ytbphljnncbiddab.FuP

set_option maxHeartbeats 2000000 in
set_option maxRecDepth 100000 in
theorem evens_bad (p : Option Addr) (n c : Nat) (L : List Am) (mk mark rate : Int) (w : World) (hl : L.length = n) (h : AL w p L) (he : ¬ (settleR (L.map Am.acc) mk mark rate).2.2 = 0) :
    Calls Try.prog 4 #[.slice p n c, .int .i64 mk, .int .i64 mark, .int .i64 rate] w fun e w' => e = .returned (.bool true) ∧ Below w.heap.size w w' := by
  have SE := hide (settle_any p n c L mk mark rate w hl h)
  clear h hl
  generalize settleR (L.map Am.acc) mk mark rate = T at SE he
  obtain ⟨X, left, r⟩ := T
  dsimp only at SE he
  go_enter Try.func4, Try.ntmps4
  go_wp2_with fail
  refine SE.out.mono ?_
  rintro e W1 ⟨px, cx, D, rfl, -, -, hb1⟩
  have B1 := hide hb1
  clear hb1 SE
  go_wp2_with fail
  refine (paid_any _).mono ?_
  rintro e W2 ⟨rfl, hb2⟩
  have B2 := hide (B1.out.trans (hb2.mono B1.out.size))
  clear hb2
  go_wp2_with fail
  refine (paid_any _).mono ?_
  rintro e W3 ⟨rfl, hb3⟩
  have B3 := hide (B2.out.trans (hb3.mono B2.out.size))
  clear hb3
  go_wp2
  go_ret
  exact ⟨rfl, B3.out⟩

set_option maxHeartbeats 2000000 in
set_option maxRecDepth 100000 in
theorem evens_ok (p : Option Addr) (n c : Nat) (L : List Am) (mk : Nat) (mark rate : Int) (w : World) (hl : L.length = n) (hn : n ≤ 8) (h : AL w p L) (he : setE mk mark rate (L.map Am.acc) = 0) :
    Calls Try.prog 4 #[.slice p n c, .int .i64 mk, .int .i64 mark, .int .i64 rate] w fun e w' => e = .returned (.bool true) ∧ Below w.heap.size w w' := by
  have SE := hide (settle_any p n c L mk mark rate w hl h)
  rw [settle_ok (by simp; omega) he] at SE
  obtain ⟨A, hA⟩ : ∃ A, A = L.map Am.acc := ⟨_, rfl⟩
  rw [← hA] at SE he
  have HA := hide hA
  have HE := hide he
  have HL := hide hl
  have H := hide h
  have AN : Hid (A.length = n) := by show _ = _; rw [hA]; simpa using hl
  have LB := setL_bd (mk := mk) (mark := mark) (rate := rate) A
  rw [AN.out] at LB
  obtain ⟨left, hleft⟩ : ∃ x, x = setL mk mark rate A := ⟨_, rfl⟩
  rw [← hleft] at SE LB
  have HLE := hide hleft
  have lb1 : -800000 ≤ left := by omega
  have lb2 : left ≤ 800000 := by omega
  clear h hl he hA hleft LB
  dsimp only at SE
  go_enter Try.func4, Try.ntmps4
  go_wp2_with fail
  refine SE.out.mono ?_
  rintro e W1 ⟨px, cx, D, rfl, al, hD, hb1⟩
  have B1 := hide hb1
  have HD := hide hD
  have DL : D.length = n := by have := congrArg List.length hD; simp at this; have := AN.out; omega
  rw [DL]
  have HDL := hide DL
  have AD1 := hide al
  clear hb1 SE al hD DL
  go_wp2_with fail
  refine (paid_any _).mono ?_
  rintro e W2 ⟨rfl, hb2⟩
  have B2 := hide (B1.out.trans (hb2.mono B1.out.size))
  have AD := hide (AD1.out.below hb2)
  have AW := hide (H.out.below B2.out)
  clear hb2 AD1 B1
  go_wp2
  go_loopw [12, 13, 14, 40] (fun a0 a1 a2 i wr => ∃ (k : Nat) (was now ps : Int), k ≤ n ∧ i = .int .i64 k ∧ a0 = .int .i64 was ∧ a1 = .int .i64 now ∧ a2 = .int .i64 ps ∧ (-8000000000000 ≤ was ∧ was ≤ 8000000000000) ∧ (-8000000000000 ≤ now ∧ now ≤ 8000000000000) ∧ (-8000 ≤ ps ∧ ps ≤ 8000) ∧ Hid (EInv A mk mark rate k was now ps) ∧ Hid (Below W2.heap.size W2 wr)) (fun _ _ _ i _ => n - (intOf i).toNat)
  case atStart => exact ⟨0, 0, 0, 0, Nat.zero_le _, rfl, rfl, rfl, rfl, by omega, by omega, by omega, EInv.start _ _ _ _, Below.refl _ _⟩
  case round =>
    obtain ⟨k, was, now, ps, hk, rfl, rfl, rfl, rfl, ⟨s1, s2⟩, ⟨s3, s4⟩, ⟨s5, s6⟩, I, BW⟩ := hrel
    by_cases hlt : k < n
    · have hltz : (k : Int) < (n : Int) := by omega
      have hkL : k < L.length := by rw [HL.out]; exact hlt
      have hkD : k < D.length := by rw [HDL.out]; exact hlt
      have hkA : k < A.length := by rw [AN.out]; exact hlt
      obtain ⟨b, off, rfl, hc⟩ : ∃ b off, p = some ⟨b, off, none⟩ ∧ ∀ j u, (flatA L)[j]? = some u → W2.cell? ⟨b, off + j, none⟩ = some u := by
        rcases AW.out.row with e | e
        · rw [e] at hkL; simp at hkL
        · exact e
      obtain ⟨b', off', rfl, hc'⟩ : ∃ b off, px = some ⟨b, off, none⟩ ∧ ∀ j u, (flatA D)[j]? = some u → W2.cell? ⟨b, off + j, none⟩ = some u := by
        rcases AD.out.row with e | e
        · rw [e] at hkD; simp at hkD
        · exact e
      obtain ⟨f0, f1, f2⟩ := al_cells hc hkL
      obtain ⟨e0, e1, e2⟩ := al_cells hc' hkD
      have up := fun (x : Addr) (v : Value) (hx : W2.cell? x = some v) => (BW.out.cell (World.block_lt_of_cell? _ _ hx)).trans hx
      have g0 := up _ _ f0
      have g1 := up _ _ f1
      have g2 := up _ _ f2
      have d0 := cell_alloc (up _ _ e0)
      have d1 := cell_alloc (up _ _ e1)
      have d2 := cell_alloc (up _ _ e2)
      have KA := (AW.out.each _ (List.getElem_mem hkL)).below BW.out
      have KD := (AD.out.each _ (List.getElem_mem hkD)).below BW.out
      obtain ⟨a, ha⟩ : ∃ a, a = L[k] := ⟨_, rfl⟩
      obtain ⟨d, hd⟩ : ∃ d, d = D[k] := ⟨_, rfl⟩
      rw [← ha] at g0 g1 g2 KA
      rw [← hd] at d0 d1 d2 KD
      have hAk : A[k] = a.acc := by simp only [HA.out, List.getElem_map, ha]
      have hDk : d.acc = setA mk mark rate a.acc := by
        have := HD.out
        have h2 : (D.map Am.acc)[k]'(by simpa using hkD) = (A.map (setA mk mark rate))[k]'(by simpa using hkA) := by simp only [this]
        rw [List.getElem_map, List.getElem_map, hAk, ← hd] at h2
        exact h2
      have PZ := (setE_zero HE.out a.acc (by rw [← hAk]; exact List.getElem_mem hkA))
      have PF := pay_facts PZ.1
      obtain ⟨x, hx⟩ : ∃ x, x = a.pos.getD mk 0 := ⟨_, rfl⟩
      have IN := hide (I.out.next hkA (b := a.bal) (d := d.bal) (x := x) (by rw [hAk]; rfl) (by rw [hAk, ← hDk]; rfl) (by rw [hAk, hx]; rfl))
      have hid : d.id = a.id := congrArg (fun y => y.1) hDk
      have hpo : d.pos = a.pos := congrArg (fun y => y.2.2) hDk
      have FLAT : x = 0 → d.bal = a.bal := fun h0 => by
        have h1 : d.bal = a.bal - (payA mk mark rate a.acc).1 := congrArg (fun y => y.2.1) hDk
        rw [h1, flat_pays PZ.1 (by show a.pos.getD mk 0 = 0; rw [← hx]; exact h0)]
        omega
      have hmb := money_true PF.1
      have hmd : -1000000000000 ≤ d.bal ∧ d.bal ≤ 1000000000000 := by
        have h1 : d.bal = a.bal - (payA mk mark rate a.acc).1 := congrArg (fun y => y.2.1) hDk
        rw [h1]
        exact money_true PZ.2
      have hxb := betw_true PF.2.1
      rw [show (a.acc.2.2.getD (mk : Int).toNat 0) = x from by rw [hx]; rfl] at hxb
      have hmk : mk < a.n := by have := PF.2.2.2.1; have h3 : a.acc.2.2.length = a.n := KA.len; omega
      obtain ⟨ba, oa, hpa, hxa⟩ := row_at KA.row (k := mk) (by rw [KA.len]; exact hmk)
      rw [← hx] at hxa
      have EQ := hide (fun W (hW : Below wr.heap.size wr W) => equal_any a.p d.p a.n a.c d.n d.c a.pos d.pos W KA.len KD.len (by have := KA.few; omega) (by have := KD.few; omega) (row_below KA.row hW) (row_below KD.row hW))
      rw [hpo, decide_eq_true rfl] at EQ
      rw [hid] at d0
      rw [hpa] at g2 EQ
      have hmkz : (mk : Int) < (a.n : Int) := by omega
      have hxa' := cell_alloc hxa
      clear up f0 f1 f2 e0 e1 e2 hc hc' hAk hDk PZ PF hid hpo KA KD hx ha hd hpa hxa
      have hmb' : -1000000000000 ≤ a.bal ∧ a.bal ≤ 1000000000000 := hmb
      clear hmb
      generalize a.id = id at g0 d0
      generalize a.bal = bal at g1 IN FLAT hmb'
      generalize d.bal = bald at d1 IN FLAT hmd
      generalize a.n = m at g2 EQ hmk hmkz
      generalize a.c = ca at g2 EQ
      generalize d.p = pd at d2 EQ
      generalize d.n = md at d2 EQ
      generalize d.c = cd at d2 EQ
      obtain ⟨hm1, hm2⟩ := hmb'
      obtain ⟨hd1, hd2⟩ := hmd
      obtain ⟨hx1, hx2⟩ := hxb
      go_wp2_with fail
      obtain ⟨V, hV⟩ : ∃ V, V = wr.alloc (.cells #[.int .i64 id, .int .i64 bal, .slice (some ⟨ba, oa, none⟩) m ca] 30) := ⟨_, rfl⟩
      rw [← hV]
      have v0 : V.cell? ⟨wr.heap.size, 0, none⟩ = some (.int .i64 id) := by rw [hV]; exact new_cell wr _ _ 0 _ rfl
      have v1 : V.cell? ⟨wr.heap.size, 1, none⟩ = some (.int .i64 bal) := by rw [hV]; exact new_cell wr _ _ 1 _ rfl
      have v2 : V.cell? ⟨wr.heap.size, 2, none⟩ = some (.slice (some ⟨ba, oa, none⟩) m ca) := by rw [hV]; exact new_cell wr _ _ 2 _ rfl
      have BV : Hid (Below wr.heap.size wr V) := by rw [hV]; exact below_alloc wr _
      have u0 := d0 (.cells #[.int .i64 id, .int .i64 bal, .slice (some ⟨ba, oa, none⟩) m ca] 30)
      have u1 := d1 (.cells #[.int .i64 id, .int .i64 bal, .slice (some ⟨ba, oa, none⟩) m ca] 30)
      have u2 := d2 (.cells #[.int .i64 id, .int .i64 bal, .slice (some ⟨ba, oa, none⟩) m ca] 30)
      have u3 := hxa' (.cells #[.int .i64 id, .int .i64 bal, .slice (some ⟨ba, oa, none⟩) m ca] 30)
      rw [← hV] at u0 u1 u2 u3
      clear hV d0 d1 d2 hxa' g0 g1 g2
      go_quiet (fail)
      go_wp2_with fail
      obtain ⟨V2, hV2⟩ : ∃ V2, V2 = V.drewN nq := ⟨_, rfl⟩
      rw [← hV2]
      have v0' : V2.cell? ⟨wr.heap.size, 0, none⟩ = some (.int .i64 id) := by rw [hV2]; exact v0
      have v1' : V2.cell? ⟨wr.heap.size, 1, none⟩ = some (.int .i64 bal) := by rw [hV2]; exact v1
      have v2' : V2.cell? ⟨wr.heap.size, 2, none⟩ = some (.slice (some ⟨ba, oa, none⟩) m ca) := by rw [hV2]; exact v2
      have u0' : V2.cell? ⟨b', off' + k * 3, none⟩ = some (.int .i64 id) := by rw [hV2]; exact u0
      have u1' : V2.cell? ⟨b', off' + k * 3 + 1, none⟩ = some (.int .i64 bald) := by rw [hV2]; exact u1
      have u2' : V2.cell? ⟨b', off' + k * 3 + 2, none⟩ = some (.slice pd md cd) := by rw [hV2]; exact u2
      have u3' : V2.cell? ⟨ba, oa + mk, none⟩ = some (.int .i64 x) := by rw [hV2]; exact u3
      have BV2 : Hid (Below wr.heap.size wr V2) := by rw [hV2]; exact below_drewN BV.out _
      have EQ2 := hide (fun q => EQ.out (V2.drewN q) (below_drewN BV2.out q))
      clear hV2 v0 v1 v2 u0 u1 u2 u3 EQ BV
      by_cases hx0 : x = 0
      · have hbb := FLAT hx0
        subst hbb
        subst hx0
        clear FLAT
        go_big_quiet ((go_at_call 13; refine Calls.quiet_of (EQ2.out _)))
        go_wp2
        go_roundw
        case rel =>
          have bd := IN.out.bd HE.out (by rw [AN.out]; exact hn)
          exact ⟨k + 1, _, _, _, by omega, by go_num, rfl, rfl, rfl, bd.1, bd.2.1, bd.2.2, IN, below_drewN (BW.out.trans (BV2.out.mono BW.out.size)) _⟩
        case measure => simp [intOf]; omega
      · have hxz : (x == 0) = false := by simp [hx0]
        clear FLAT
        go_big_quiet ((go_at_call 13; refine Calls.quiet_of (EQ2.out _)))
        go_wp2
        go_roundw
        case rel =>
          have bd := IN.out.bd HE.out (by rw [AN.out]; exact hn)
          exact ⟨k + 1, _, _, _, by omega, by go_num, rfl, rfl, rfl, bd.1, bd.2.1, bd.2.2, IN, below_drewN (BW.out.trans (BV2.out.mono BW.out.size)) _⟩
        case measure => simp [intOf]; omega
    · have hkn : k = n := by omega
      subst hkn
      have DN := I.out
      rw [← AN.out] at DN
      obtain ⟨q1, q2⟩ := DN.done HE.out
      rw [← HLE.out] at q1 q2
      rw [AN.out] at q2
      have BZ := hide (B2.out.trans (BW.out.mono B2.out.size))
      clear DN I HE HLE HA AN HD
      subst q1
      by_cases hp0 : ps = 0
      · obtain ⟨q3, q4⟩ := q2 hp0
        subst hp0
        clear q2
        by_cases hl0 : left = 0
        · subst hl0
          go_wp2
          go_ret
          exact ⟨rfl, BZ.out⟩
        · have q5 : left < (k : Int) := by omega
          have hlz : (left == 0) = false := by simp [hl0]
          clear q4
          go_wp2
          go_ret
          exact ⟨rfl, BZ.out⟩
      · have hpz : (ps == 0) = false := by simp [hp0]
        clear q2
        go_wp2
        go_ret
        exact ⟨rfl, BZ.out⟩
end Go.Proofs.Ytbphljnncbiddab.Ac
