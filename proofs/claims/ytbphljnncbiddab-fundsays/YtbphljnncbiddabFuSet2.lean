/-
  Package fund by contracts: Settle, account by account.
-/
import Derived.Test.YtbphljnncbiddabFuSet
namespace Go.Proofs.Ytbphljnncbiddab.Ac
open Go.RowKit Go.Proofs.Ytbphljnncbiddab.Num Go.Proofs.Ytbphljnncbiddab.Fix Go.Proofs.Ytbphljnncbiddab.AcP Go.Proofs.Ytbphljnncbiddab.FuP Go.Proofs.Ytbphljnncbiddab.CopyK

set_option maxHeartbeats 2000000 in
set_option maxRecDepth 100000 in
theorem settle_in (p : Option Addr) (n c : Nat) (L : List Am) (mk mark rate : Int) (w : World) (hl : L.length = n) (hn : n ≤ 8) (h : AL w p L) :
    Calls Try.prog 6 #[.slice p n c, .int .i64 mk, .int .i64 mark, .int .i64 rate] w fun e w' => ∃ px cx D, e = .returned (.tuple #[.slice px D.length cx, .int .i64 (settleR (L.map Am.acc) mk mark rate).2.1, .int .i64 (settleR (L.map Am.acc) mk mark rate).2.2]) ∧ AL w' px D ∧ D.map Am.acc = (settleR (L.map Am.acc) mk mark rate).1 ∧ Below w.heap.size w w' := by
  obtain ⟨cs, MK, hcs⟩ := make_accs n (by omega)
  have CS := hide hcs
  have HL := hide hl
  have H := hide h
  have h8 : ¬ (8 : Int) < (n : Int) := by omega
  have HSZ : Hid ((Try.prog.info? 30).map (·.size) = some 3) := by show _ = _; kernel_rfl
  have HG := hide (heap_alloc_new w (.cells cs 30))
  have B1 := hide (below_alloc w (.cells cs 30))
  have HPOS : Hid (0 < n → ∃ ad, p = some ad ∧ ∀ j v, (flatA L)[j]? = some v → (w.alloc (.cells cs 30)).cell? (ad.add j) = some v) := fun h0 => by
    rcases h.row with h1 | ⟨b, off, rfl, hc⟩
    · rw [h1] at hl; simp at hl; omega
    · refine ⟨_, rfl, fun j v hv => ?_⟩
      rw [show (⟨b, off, none⟩ : Addr).add j = ⟨b, off + j, none⟩ from by simp [Addr.add]]
      exact cell_alloc (hc j v hv) _
  have HF : Hid ((flatA L).length = n * 3) := by show _ = _; rw [flatA_len, hl]
  have HO := hide (flatA_one L)
  clear hcs hl h
  obtain ⟨FL, hFL⟩ : ∃ F, F = flatA L := ⟨_, rfl⟩
  rw [← hFL] at HPOS HF HO
  have HFL := hide hFL
  clear hFL
  obtain ⟨E, hE⟩ : ∃ E, E = settleR (L.map Am.acc) mk mark rate := ⟨_, rfl⟩
  rw [← hE]
  have HE := hide hE
  clear hE
  go_enter Try.func6, Try.ntmps6
  go_wp2_with (refine wpList_copy_all rfl (.tmp 23) (.tmp 24) 22 22 rfl 30 3 Try.underlying22 HSZ.out w.heap.size n n c p rfl rfl cs 30 HG.out CS.out FL HF.out HPOS.out HO.out w.heap.size w B1.out (Nat.le_refl _) ?_; intro w2 HG2 B2 hsz; clear hsz)
  go_loopw [12, 28] (fun t i wr => ∃ (k : Nat) (s : Int) (D : List Am), k ≤ n ∧ i = .int .i64 k ∧ t = .int .i64 s ∧ -800000 ≤ s ∧ s ≤ 800000 ∧ Hid (SInv mk mark rate L D k s w wr)) (fun _ i _ => n - (intOf i).toNat)
  case atStart => exact ⟨0, 0, [], Nat.zero_le _, rfl, rfl, by omega, by omega, SInv.start (by rw [← HFL.out]; exact HG2.out) B2.out⟩
  case round =>
    obtain ⟨k, s, D, hk, rfl, rfl, hs1, hs2, I⟩ := hrel
    by_cases hlt : k < n
    · have hltz : (k : Int) < (n : Int) := by omega
      have hkL : k < L.length := by rw [HL.out]; exact hlt
      obtain ⟨b, off, rfl, hc⟩ : ∃ b off, p = some ⟨b, off, none⟩ ∧ ∀ j u, (flatA L)[j]? = some u → w.cell? ⟨b, off + j, none⟩ = some u := by
        rcases H.out.row with e | e
        · rw [e] at hkL; simp at hkL
        · exact e
      obtain ⟨f0, f1, f2⟩ := al_cells hc hkL
      have up := fun (x : Addr) (v : Value) (hx : w.cell? x = some v) => (I.out.below.cell (World.block_lt_of_cell? _ _ hx)).trans hx
      have g0 := up _ _ f0
      have g1 := up _ _ f1
      have g2 := up _ _ f2
      have AK := hide ((H.out.each _ (List.getElem_mem hkL)).below I.out.below)
      have ERR := I.out.err
      rw [drop_at hkL, List.map_cons] at ERR
      obtain ⟨a, ha⟩ : ∃ a, a = L[k] := ⟨_, rfl⟩
      rw [← ha] at g0 g1 g2 AK ERR
      have HA := hide ha
      clear up f0 f1 f2 hc ha
      have PA := hide (fun W hW => pays_any a.id a.bal a.p a.n a.c a.pos mk mark rate W AK.out.len (by have := AK.out.few; omega) (row_below AK.out.row hW))
      have PE : Hid (payA mk mark rate a.acc = paysR a.id a.bal a.pos mk mark rate) := rfl
      have PB := pays_bd (id := a.id) (bal := a.bal) (pos := a.pos) (mk := mk) (mark := mark) (rate := rate)
      obtain ⟨P, hP⟩ : ∃ P, P = paysR a.id a.bal a.pos mk mark rate := ⟨_, rfl⟩
      rw [← hP] at PA PE PB
      clear hP
      obtain ⟨pd, r⟩ := P
      dsimp only at PB PA
      obtain ⟨pb1, pb2⟩ := PB
      by_cases hr : r = 0
      · subst hr
        have PF := pay_facts (mk := mk) (mark := mark) (rate := rate) (a := a.acc) (by rw [PE.out])
        have hpl : a.pos.length = a.n := AK.out.len
        have hm1 : 1 ≤ a.n := by have := PF.2.2.1; have := PF.2.2.2.1; have e : a.acc.2.2.length = a.n := hpl; omega
        have hm2 : a.n ≤ 2 := by have := PF.2.2.2.2; have e : a.acc.2.2.length = a.n := hpl; omega
        have AD := hide (add_two PF.1 ⟨pb1, pb2⟩)
        have AW : Hid (AOk w a) := by rw [HA.out]; exact H.out.each _ (List.getElem_mem hkL)
        have CL := hide (fun W hW => Own.clone_any a.p a.n a.c a.pos W hpl (by omega) (row_below AW.out.row hW))
        have DK : Hid (L.drop k = a :: L.drop (k + 1)) := by rw [HA.out]; exact drop_at hkL
        have DL := hide I.out.len
        have sz : w.heap.size < wr.heap.size := by
          have := I.out.heap
          exact (Array.getElem?_eq_some_iff.1 this).1
        have n1 : ¬ w.heap.size = wr.heap.size := by omega
        have n2 : ¬ wr.heap.size = w.heap.size := by omega
        clear hpl PF
        rw [show a.acc.2.1 = a.bal from rfl] at AD
        obtain ⟨id, hid⟩ : ∃ x, x = a.id := ⟨_, rfl⟩
        obtain ⟨bal, hbal⟩ : ∃ x, x = a.bal := ⟨_, rfl⟩
        obtain ⟨q, hq⟩ : ∃ x, x = a.p := ⟨_, rfl⟩
        obtain ⟨m, hm⟩ : ∃ x, x = a.n := ⟨_, rfl⟩
        obtain ⟨d, hd⟩ : ∃ x, x = a.c := ⟨_, rfl⟩
        rw [← hid, ← hbal, ← hq, ← hm, ← hd] at PA
        rw [← hid] at g0
        rw [← hbal] at g1 AD
        rw [← hq, ← hm, ← hd] at g2 CL
        rw [← hm] at hm1 hm2
        have HN := hide (And.intro hid (And.intro hbal (And.intro hq (And.intro hm hd))))
        clear hid hbal hq hm hd
        go_wp2_with fail
        refine (PA.out _ (below_alloc _ _)).mono ?_
        rintro e W1 ⟨rfl, hb1⟩
        have B1 := hide ((below_alloc wr (.cells #[.int .i64 id, .int .i64 bal, .slice q m d] 30)).trans (hb1.mono (by simp)))
        have x1 : W1.cell? ⟨wr.heap.size, 1, none⟩ = some (.int .i64 bal) := (hb1.cell (by simp)).trans (new_cell wr _ _ 1 _ rfl)
        have x2 : W1.cell? ⟨wr.heap.size, 2, none⟩ = some (.slice q m d) := (hb1.cell (by simp)).trans (new_cell wr _ _ 2 _ rfl)
        have x2' := fun o => cell_alloc x2 o
        have G1 : Hid (W1.heap[w.heap.size]? = some (.cells (flatA (D ++ a :: L.drop (k + 1))).toArray 30 (0, 0))) := by
          show _ = _
          rw [B1.out.block _ sz, ← DK.out]
          exact I.out.heap
        have y1 : ∀ o, (W1.alloc o).cell? ⟨w.heap.size, k * 3 + 1, none⟩ = some (.int .i64 bal) := fun o => by
          have e := (out_cell G1.out (k * 3 + 1)).1
          rw [(mid_cells DL.out).1, ← HN.out.2.1] at e
          exact cell_alloc e o
        have y2 : ∀ o j, (W1.alloc o).frozen? ⟨w.heap.size, j, none⟩ = false := fun o j => by
          have e := (below_alloc W1 o).block w.heap.size (Array.getElem?_eq_some_iff.1 G1.out).1
          rw [G1.out] at e
          exact (out_cell e j).2
        clear hb1
        cases hmo : money (bal - pd)
        · rw [hmo] at AD
          have EN : Hid (E = ([], 0, 7)) := by
            have h1 : setE mk mark rate (L.map Am.acc) = 7 := by
              rw [ERR, setE_full (by rw [PE.out]) (by rw [PE.out]; show money (a.bal - pd) = false; rw [← HN.out.2.1]; exact hmo)]
            rw [HE.out, settle_err (by simp; have := HL.out; omega) (by rw [h1]; decide), h1]
            rfl
          clear ERR hmo
          go_wp2_with fail
          refine (add_any _ 2 2 [bal, -pd] _ rfl (by decide) (.inr ⟨_, _, rfl, ?_⟩)).mono ?_
          · intro i hi
            rw [World.cell?_alloc_at _ _ _ _ (by simp)]
            match i, hi with
            | 0, _ => rfl
            | 1, _ => rfl
          rintro e w' ⟨rfl, rfl⟩
          rw [AD.out]
          go_wp2
          go_ret3
          refine ⟨none, 0, [], ?_, al_nil _ _, ?_, ?_⟩
          · rw [EN.out]; rfl
          · rw [EN.out]; rfl
          · exact below_set ((I.out.below.trans (B1.out.mono I.out.below.size)).alloc (by have := I.out.below.size; have := B1.out.size; omega) _) (Nat.le_refl _) _ _
        · rw [hmo] at AD
          have HM := hide hmo
          clear hmo ERR
          go_wp2_with fail
          refine (add_any _ 2 2 [bal, -pd] _ rfl (by decide) (.inr ⟨_, _, rfl, ?_⟩)).mono ?_
          · intro i hi
            rw [World.cell?_alloc_at _ _ _ _ (by simp)]
            match i, hi with
            | 0, _ => rfl
            | 1, _ => rfl
          rintro e w' ⟨rfl, rfl⟩
          rw [AD.out]
          go_wp2_with fail
          obtain ⟨W2, hW2⟩ : ∃ W2, W2 = (W1.alloc (.cells #[.int .i64 bal, .int .i64 (-pd)] 3)).setCell ⟨w.heap.size, k * 3 + 1, none⟩ (.int .i64 (bal - pd)) := ⟨_, rfl⟩
          rw [← hW2]
          have BW1 := hide ((I.out.below.trans (B1.out.mono I.out.below.size)).alloc (by have := I.out.below.size; have := B1.out.size; omega) (.cells #[.int .i64 bal, .int .i64 (-pd)] 3))
          have BW2 : Hid (Below w.heap.size w W2) := by rw [hW2]; exact below_set BW1.out (Nat.le_refl _) _ _
          have G2 : Hid (W2.heap[w.heap.size]? = some (.cells (flatA (D ++ { a with bal := bal - pd } :: L.drop (k + 1))).toArray 30 (0, 0))) := by
            show _ = _
            have e := (below_alloc W1 (.cells #[.int .i64 bal, .int .i64 (-pd)] 3)).block w.heap.size (Array.getElem?_eq_some_iff.1 G1.out).1
            rw [G1.out] at e
            rw [hW2, out_set e, ← DL.out, flatA_set1]
          have D2 : Hid (∀ y, y ∈ D → AOk W2 y) := fun y hy => by
            rw [hW2]
            exact aok_set (((I.out.each y hy).1.below B1.out).below (below_alloc W1 _)) (I.out.each y hy).2 _ _
          have SZ2 : Hid (w.heap.size < W2.heap.size) := (Array.getElem?_eq_some_iff.1 G2.out).1
          clear hW2 x1 x2 x2' y1 y2
          refine (CL.out _ BW2.out).mono ?_
          rintro e W3 ⟨v, rfl, own, hb3⟩
          obtain ⟨g', cap, rfl, hg1, hg2⟩ := own_slice own (by omega)
          have OR := hide (own_row own)
          have B3 := hide hb3
          have G3 : Hid (W3.heap[w.heap.size]? = some (.cells (flatA (D ++ { a with bal := bal - pd } :: L.drop (k + 1))).toArray 30 (0, 0))) := by
            show _ = _
            rw [hb3.block _ SZ2.out]
            exact G2.out
          have y1 : W3.cell? ⟨w.heap.size, k * 3 + 2, none⟩ = some (.slice q m d) := by
            have e := (out_cell G3.out (k * 3 + 2)).1
            rw [(mid_cells DL.out).2] at e
            rw [e, HN.out.2.2.1, HN.out.2.2.2.1, HN.out.2.2.2.2]
          have y2 : W3.frozen? ⟨w.heap.size, k * 3 + 2, none⟩ = false := (out_cell G3.out (k * 3 + 2)).2
          have hgg : w.heap.size < g' := by have := SZ2.out; omega
          clear own hb3 hg1 hg2
          go_wp2
          go_roundw
          case rel =>
            have AN : AOk W3 ⟨a.id, a.bal - pd, some ⟨g', 0, none⟩, a.n, cap, a.pos⟩ := ⟨AK.out.len, AK.out.few, (fun h => by simp at h), OR.out⟩
            have IN := I.out.next (wn := W3.setCell ⟨w.heap.size, k * 3 + 2, none⟩ (.slice (some ⟨g', 0, none⟩) m cap)) hkL a HA.out pd PE.out (by rw [← HN.out.2.1]; exact HM.out) ⟨g', 0, none⟩ cap hgg
              (aok_set AN ⟨_, rfl, hgg⟩ _ _)
              (by rw [out_set G3.out, ← DL.out, flatA_set2, HN.out.2.1, HN.out.2.2.2.1]) (below_set (BW2.out.trans (B3.out.mono (Nat.le_of_lt SZ2.out))) (Nat.le_refl _) _ _)
              (fun y hy => aok_set ((D2.out y hy).below B3.out) (I.out.each y hy).2 _ _)
            have bd := IN.bd (by omega)
            exact ⟨k + 1, s + pd, _, by omega, by go_num, rfl, bd.1, bd.2, IN⟩
          case measure => simp [intOf]; omega
      · have EN : Hid (E = ([], 0, r)) := by
          have h1 : setE mk mark rate (L.map Am.acc) = r := by rw [ERR, setE_pay (by rw [PE.out]; exact hr), PE.out]
          rw [HE.out, settle_err (by simp; have := HL.out; omega) (by rw [h1]; exact hr), h1]
          rfl
        clear ERR
        generalize a.id = id at g0 g1 g2 PA
        generalize a.bal = bal at g0 g1 g2 PA
        generalize a.p = q at g0 g1 g2 PA
        generalize a.n = m at g0 g1 g2 PA
        generalize a.c = d at g0 g1 g2 PA
        go_wp2_with fail
        refine (PA.out _ (below_alloc _ _)).mono ?_
        rintro e W1 ⟨rfl, hb1⟩
        have BW := hide (I.out.below.trans ((below_alloc wr _).trans (hb1.mono (by simp))  |>.mono I.out.below.size))
        clear hb1
        go_wp2
        go_ret3
        refine ⟨none, 0, [], ?_, al_nil _ _, ?_, BW.out⟩
        · rw [EN.out]; rfl
        · rw [EN.out]; rfl
    · have hkn : k = n := by omega
      subst hkn
      have EN : Hid (E = ((L.map Am.acc).map (setA mk mark rate), s, 0)) := by
        have h1 : setE mk mark rate (L.map Am.acc) = 0 := by rw [I.out.err, List.drop_eq_nil_of_le (by have := HL.out; omega)]; rfl
        rw [HE.out, settle_ok (by simp; have := HL.out; omega) h1, I.out.sum, List.take_of_length_le (by have := HL.out; omega)]
        rfl
      go_wp2
      go_ret3
      have hD : D.length = k := I.out.len
      refine ⟨some ⟨w.heap.size, 0, none⟩, k, D, ?_, ⟨.inr ⟨w.heap.size, 0, rfl, fun j u hu => ?_⟩, fun a ha => (I.out.each a ha).1⟩, ?_, I.out.below⟩
      · rw [EN.out, hD]; rfl
      · have := I.out.heap
        rw [List.drop_eq_nil_of_le (by have := HL.out; omega), List.append_nil] at this
        rw [Nat.zero_add, (out_cell this j).1]
        exact hu
      · rw [EN.out, I.out.acc, List.take_of_length_le (by have := HL.out; omega), List.map_map]
        rfl
end Go.Proofs.Ytbphljnncbiddab.Ac
