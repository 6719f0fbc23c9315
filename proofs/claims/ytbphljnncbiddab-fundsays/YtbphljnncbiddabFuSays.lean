/-
  FundSays, walked.
-/
import Derived.Test.YtbphljnncbiddabFuPaid
import Derived.Test.YtbphljnncbiddabFuSAll
namespace Go.Proofs.Ytbphljnncbiddab.Ac
open Go.RowKit Go.Proofs.Ytbphljnncbiddab.Num Go.Proofs.Ytbphljnncbiddab.Fix Go.Proofs.Ytbphljnncbiddab.AcP Go.Proofs.Ytbphljnncbiddab.FuP

abbrev sameFn : Value := .func (.func 10) #[] #[]

set_option maxHeartbeats 2000000 in
set_option maxRecDepth 100000 in
theorem equalFunc_same (p p' : Option Addr) (n c c' : Nat) (D X : List Am) (w : World) (hl : D.length = n) (hl' : X.length = n) (hn : n ≤ 1000) (h : AL w p D) (h' : AL w p' X) (he : D.map Am.acc = X.map Am.acc) :
    Calls Try.prog 9 #[.slice p n c, .slice p' n c', sameFn] w fun e w' => e = .returned (.bool true) ∧ Below w.heap.size w w' := by
  have eg : ∀ args w, (callFunc 10 args).run Try.prog w = .ok (.enter 10 args) w := enters_of Try.func10 (by kernel_rfl) rfl
  have H := hide h
  have H' := hide h'
  have HL := hide hl
  have HL' := hide hl'
  have HE := hide he
  clear h h' hl hl' he
  go_enter Try.func9, Try.ntmps9
  go_wp2
  go_loopw [17] (fun i wr => ∃ (k : Nat), k ≤ n ∧ i = .int .i64 k ∧ Hid (Below w.heap.size w wr)) (fun i _ => n - (intOf i).toNat)
  case atStart => exact ⟨0, Nat.zero_le _, rfl, Below.refl _ _⟩
  case round =>
    obtain ⟨k, hk, rfl, BW⟩ := hrel
    by_cases hlt : k < n
    · have hltz : (k : Int) < (n : Int) := by omega
      have hkD : k < D.length := by rw [HL.out]; exact hlt
      have hkX : k < X.length := by rw [HL'.out]; exact hlt
      obtain ⟨b, off, rfl, hc⟩ : ∃ b off, p = some ⟨b, off, none⟩ ∧ ∀ j u, (flatA D)[j]? = some u → w.cell? ⟨b, off + j, none⟩ = some u := by
        rcases H.out.row with e | e
        · rw [e] at hkD; simp at hkD
        · exact e
      obtain ⟨b', off', rfl, hc'⟩ : ∃ b off, p' = some ⟨b, off, none⟩ ∧ ∀ j u, (flatA X)[j]? = some u → w.cell? ⟨b, off + j, none⟩ = some u := by
        rcases H'.out.row with e | e
        · rw [e] at hkX; simp at hkX
        · exact e
      obtain ⟨f0, f1, f2⟩ := al_cells hc hkD
      obtain ⟨e0, e1, e2⟩ := al_cells hc' hkX
      have up := fun (x : Addr) (v : Value) (hx : w.cell? x = some v) => (BW.out.cell (World.block_lt_of_cell? _ _ hx)).trans hx
      have g0 := up _ _ f0
      have g1 := up _ _ f1
      have g2 := up _ _ f2
      have d0 := cell_alloc (up _ _ e0)
      have d1 := cell_alloc (up _ _ e1)
      have d2 := cell_alloc (up _ _ e2)
      have KD := (H.out.each _ (List.getElem_mem hkD)).below BW.out
      have KX := (H'.out.each _ (List.getElem_mem hkX)).below BW.out
      have hac : (D[k]).acc = (X[k]).acc := by
        have h2 : (D.map Am.acc)[k]'(by simpa using hkD) = (X.map Am.acc)[k]'(by simpa using hkX) := by simp only [HE.out]
        rw [List.getElem_map, List.getElem_map] at h2
        exact h2
      generalize D[k] = a at g0 g1 g2 KD hac
      generalize X[k] = x at d0 d1 d2 KX hac
      obtain ⟨id, bal, q, m, d, pos⟩ := a
      obtain ⟨id', bal', q', m', d', pos'⟩ := x
      have hid : id = id' := congrArg (fun y => y.1) hac
      have hba : bal = bal' := congrArg (fun y => y.2.1) hac
      have hpo : pos = pos' := congrArg (fun y => y.2.2) hac
      subst hid hba hpo
      dsimp only at g0 g1 g2 d0 d1 d2
      have SM := hide (fun W (hW : Below wr.heap.size wr W) => sameAccount_any id bal q m d pos id bal q' m' d' pos W KD.len KX.len (by have h1 := KD.few; dsimp only at h1; omega) (by have h1 := KX.few; dsimp only at h1; omega) (row_below KD.row hW) (row_below KX.row hW))
      rw [show accEq id bal pos id bal pos = true from by simp [accEq]] at SM
      clear up f0 f1 f2 e0 e1 e2 hc hc' KD KX hac
      go_wp2_with fail
      go_at_fn 10
      refine (SM.out _ (below_alloc2 _ _ _)).mono ?_
      rintro e W1 ⟨rfl, hb1⟩
      have B1 := hide (BW.out.trans (((below_alloc2 wr _ _).trans (hb1.mono (by simp; omega))).mono BW.out.size))
      clear hb1
      go_wp2
      go_roundw
      case rel => exact ⟨k + 1, by omega, by go_num, B1⟩
      case measure => simp [intOf]; omega
    · go_wp2
      go_ret
      exact ⟨rfl, BW.out⟩

set_option maxHeartbeats 2000000 in
set_option maxRecDepth 100000 in
theorem fundSays_any (p : Option Addr) (n c : Nat) (L : List Am) (mk mark rate : Int) (w : World) (hl : L.length = n) (hn : n ≤ 140737488351232) (h : AL w p L) :
    Calls Try.prog 3 #[.slice p n c, .int .i64 mk, .int .i64 mark, .int .i64 rate] w fun e w' => e = .returned (.bool true) ∧ Below w.heap.size w w' := by
  have SE := hide (settle_any p n c L mk mark rate w hl h)
  have SA := hide (fun W (hW : Below w.heap.size w W) => settledAll_any p n c L mk mark rate W hl (h.below hW))
  have few : (settleR (L.map Am.acc) mk mark rate).1.length ≤ 8 := by
    unfold settleR
    split
    · simp
    · split
      · simp at *; omega
      · simp
  have H := hide h
  have HL := hide hl
  clear h hl
  generalize settleR (L.map Am.acc) mk mark rate = T at SE SA few
  obtain ⟨Y, left, r⟩ := T
  dsimp only at SE SA few
  go_enter Try.func3, Try.ntmps3
  go_wp2_with fail
  refine SE.out.mono ?_
  rintro e W1 ⟨px, cx, D, rfl, al, hD, hb1⟩
  have B1 := hide hb1
  have AD1 := hide al
  have HD := hide hD
  have DL : D.length = Y.length := by rw [← hD]; simp
  rw [DL]
  have HDL := hide DL
  clear hb1 al hD DL SE
  go_wp2_with fail
  refine (SA.out _ B1.out).mono ?_
  rintro e W2 ⟨px', cx', X, rfl, al', hX, hb2⟩
  have B2 := hide (B1.out.trans (hb2.mono B1.out.size))
  have AD2 := hide (AD1.out.below hb2)
  have AX2 := hide al'
  have HX := hide hX
  have XL : X.length = Y.length := by rw [← hX]; simp
  rw [XL]
  have HXL := hide XL
  clear hb2 al' hX XL SA AD1 B1
  obtain ⟨ny, hny⟩ : ∃ ny, Y.length = ny := ⟨_, rfl⟩
  rw [hny] at HDL HXL few
  rw [hny]
  clear hny
  go_wp2_with fail
  refine (paid_any _).mono ?_
  rintro e W3 ⟨rfl, hb3⟩
  have B3 := hide (B2.out.trans (hb3.mono B2.out.size))
  have EF := hide (equalFunc_same px px' ny cx cx' D X W3 HDL.out HXL.out (by omega) (AD2.out.below hb3) (AX2.out.below hb3) (HD.out.trans HX.out.symm))
  clear hb3 B2 AD2 AX2
  go_wp2_with fail
  refine EF.out.mono ?_
  rintro e W4 ⟨rfl, hb4⟩
  have B4 := hide (B3.out.trans (hb4.mono B3.out.size))
  clear hb4 B3 EF
  go_wp2
  go_loopw [59] (fun i wr => ∃ (k : Nat), k ≤ n ∧ i = .int .i64 k ∧ Hid (Below w.heap.size w wr)) (fun i _ => n - (intOf i).toNat)
  case atStart => exact ⟨0, Nat.zero_le _, rfl, B4⟩
  case round =>
    obtain ⟨k, hk, rfl, BW⟩ := hrel
    by_cases hlt : k < n
    · have hltz : (k : Int) < (n : Int) := by omega
      have hkL : k < L.length := by rw [HL.out]; exact hlt
      obtain ⟨b, off, rfl, hc⟩ : ∃ b off, p = some ⟨b, off, none⟩ ∧ ∀ j u, (flatA L)[j]? = some u → w.cell? ⟨b, off + j, none⟩ = some u := by
        rcases H.out.row with e | e
        · rw [e] at hkL; simp at hkL
        · exact e
      obtain ⟨f0, f1, f2⟩ := al_cells hc hkL
      have up := fun (x : Addr) (v : Value) (hx : w.cell? x = some v) => (BW.out.cell (World.block_lt_of_cell? _ _ hx)).trans hx
      have g0 := up _ _ f0
      have g1 := up _ _ f1
      have g2 := up _ _ f2
      have KL := (H.out.each _ (List.getElem_mem hkL)).below BW.out
      generalize L[k] = a at g0 g1 g2 KL
      obtain ⟨id, bal, q, m, d, pos⟩ := a
      dsimp only at g0 g1 g2
      have hf := KL.few
      dsimp only at hf
      have PA := hide (fun W (hW : Below wr.heap.size wr W) => pays_any id bal q m d pos mk mark rate W KL.len (by omega) (row_below KL.row hW))
      have PO := hide (fun W (hW : Below wr.heap.size wr W) => paysOf_any id bal q m d pos mk mark rate W KL.len (by omega) (row_below KL.row hW))
      generalize paysR id bal pos mk mark rate = P at PA PO
      obtain ⟨pd, pe⟩ := P
      dsimp only at PA PO
      clear up f0 f1 f2 hc KL hf
      go_wp2_with fail
      refine (PA.out _ (below_alloc _ _)).mono ?_
      rintro e W5 ⟨rfl, hb5⟩
      have B5 := hide ((below_alloc wr (.cells #[.int .i64 id, .int .i64 bal, .slice q m d] 30)).trans (hb5.mono (by simp)))
      have T5 : Hid (W5.heap[wr.heap.size]? = some (.cells #[.int .i64 id, .int .i64 bal, .slice q m d] 30 (0, 0))) := (hb5.block _ (by simp)).trans (heap_alloc_new wr _)
      obtain ⟨x0, x1, x2⟩ := three_read T5.out
      clear hb5
      go_wp2_with fail
      refine (PO.out _ B5.out).mono ?_
      rintro e W6 ⟨rfl, hb6⟩
      have B6 := hide (BW.out.trans ((B5.out.trans (hb6.mono B5.out.size)).mono BW.out.size))
      clear hb6
      go_wp2
      go_roundw
      case rel => exact ⟨k + 1, by omega, by go_num, B6⟩
      case measure => simp [intOf]; omega
    · go_wp2
      go_ret
      exact ⟨rfl, BW.out⟩
end Go.Proofs.Ytbphljnncbiddab.Ac
