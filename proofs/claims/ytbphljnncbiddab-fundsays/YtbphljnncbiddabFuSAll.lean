/-
  The reference's chapter 6 by contracts: SettledAll.
-/
import Derived.Test.YtbphljnncbiddabFuOf
import Derived.Test.YtbphljnncbiddabFuSet
import Derived.Test.YtbphljnncbiddabRefC
namespace Go.Proofs.Ytbphljnncbiddab.Ac
open Go.RowKit Go.Proofs.Ytbphljnncbiddab.Num Go.Proofs.Ytbphljnncbiddab.Fix Go.Proofs.Ytbphljnncbiddab.AcP Go.Proofs.Ytbphljnncbiddab.FuP

theorem addA (b off j : Nat) : (⟨b, off, none⟩ : Addr).add j = ⟨b, off + j, none⟩ := by unfold Addr.add; split <;> simp_all
theorem own_on {w w' : World} {B : Nat} {e : TypeId} {size : Nat} {v : Value} {n : Nat} {xs : List Value} (h : w.ownsRow B e size v n xs) (hb : Below w.heap.size w w') : w'.ownsRow B e size v n xs :=
  h.kept (row := none) ⟨hb.os, hb.tape, hb.output, hb.size, fun k hk _ => hb.block k hk⟩ (by cases hv : v.ownBlock <;> simp)
theorem own_diff {w : World} {B B' : Nat} {e e' : TypeId} {s s' : Nat} {v v' : Value} {n n' : Nat} {xs xs' : List Value} (h : w.ownsRow B e s v n xs) (h' : w.ownsRow B' e' s' v' n' xs') (he : e ≠ e') : v.ownBlock = none ∨ v.ownBlock ≠ v'.ownBlock := by
  rcases h.2 with ⟨rfl, _⟩ | ⟨g, cap, cur, rfl, _, hg, _⟩
  · exact .inl rfl
  · rcases h'.2 with ⟨rfl, _⟩ | ⟨g', cap', cur', rfl, _, hg', _⟩
    · exact .inr (by simp [Value.ownBlock])
    · refine .inr ?_
      simp only [Value.ownBlock]
      intro hh
      injection hh with hh
      subst hh
      rw [hg] at hg'
      injection hg' with hh
      injection hh with h1 h2
      exact he h2
/-- an account whose positions are the call's own. -/
def OwnA (w : World) (B : Nat) (a : Am) : Prop := w.ownsRow B 3 1 (.slice a.p a.n a.c) a.n (a.pos.map (Value.int .i64)) ∧ a.n * 8 ≤ 140737488351232
theorem OwnA.ok {w : World} {B : Nat} {a : Am} (h : OwnA w B a) : AOk w a := by
  obtain ⟨hl, x, c, he, _, hr⟩ := row_own h.1
  cases he
  refine ⟨hl, h.2, fun hp => ?_, hr⟩
  rcases h.1.2 with ⟨he, _⟩ | ⟨g, cap, cur, he, _⟩
  · injection he
  · rw [hp] at he
    injection he with h1
    cases h1
theorem OwnA.on {w w' : World} {B : Nat} {a : Am} (h : OwnA w B a) (hb : Below w.heap.size w w') : OwnA w' B a := ⟨own_on h.1 hb, h.2⟩

/-- what is done of the list. -/
structure RInv (mk mark rate : Int) (L D : List Am) (k : Nat) (s : Int) (v : Value) (w wr : World) : Prop where
  len : D.length = k
  acc : D.map Am.acc = (L.take k).map (fun a => setA mk mark rate a.acc)
  sum : s = setL mk mark rate ((L.take k).map Am.acc)
  own : wr.ownsRow w.heap.size 30 3 v k (flatA D)
  below : Below w.heap.size w wr
  each : ∀ a, a ∈ D → OwnA wr w.heap.size a
  err : setE mk mark rate (L.map Am.acc) = setE mk mark rate ((L.drop k).map Am.acc)
theorem RInv.bd {mk mark rate : Int} {L D : List Am} {k : Nat} {s : Int} {v : Value} {w wr : World} (h : RInv mk mark rate L D k s v w wr) (hk : k ≤ 8) : -800000 ≤ s ∧ s ≤ 800000 := by
  have := setL_bd (mk := mk) (mark := mark) (rate := rate) ((L.take k).map Am.acc)
  rw [← h.sum] at this
  have h2 : (((L.take k).map Am.acc).length : Int) ≤ 8 := by simp; omega
  omega
theorem RInv.start {mk mark rate : Int} {L : List Am} {w : World} : RInv mk mark rate L [] 0 0 (.slice none 0 0) w w :=
  ⟨rfl, rfl, rfl, World.ownsRow_nil _ _ _ _, Below.refl _ _, (fun _ h => by cases h), rfl⟩
/-- one more. -/
theorem RInv.next {mk mark rate : Int} {L D : List Am} {k : Nat} {s : Int} {v v' : Value} {w wr wn : World} (h : RInv mk mark rate L D k s v w wr) (hk : k < L.length) (a : Am) (ha : a = L[k]) (pd : Int) (hp : payA mk mark rate a.acc = (pd, 0)) (hm : money (a.bal - pd) = true)
    (x : Option Addr) (c : Nat) (hc : OwnA wn w.heap.size ⟨a.id, a.bal - pd, x, a.n, c, a.pos⟩)
    (hg : wn.ownsRow w.heap.size 30 3 v' (k + 1) (flatA D ++ encA ⟨a.id, a.bal - pd, x, a.n, c, a.pos⟩)) (hb : Below w.heap.size w wn)
    (hd : ∀ a, a ∈ D → OwnA wn w.heap.size a) : RInv mk mark rate L (D ++ [⟨a.id, a.bal - pd, x, a.n, c, a.pos⟩]) (k + 1) (s + pd) v' w wn := by
  subst ha
  refine ⟨by simp [h.len], ?_, ?_, ?_, hb, ?_, ?_⟩
  · rw [List.map_append, h.acc, take_at hk, List.map_append]
    simp only [List.map_cons, List.map_nil]
    rw [show setA mk mark rate L[k].acc = (L[k].id, L[k].bal - pd, L[k].pos) from by unfold setA; rw [hp]; rfl]
    rfl
  · rw [take_at hk, List.map_append, h.sum]
    simp only [List.map_cons, List.map_nil]
    rw [setL_snoc, hp]
  · rw [flatA_app]
    simpa [flatA] using hg
  · intro y hy
    rcases List.mem_append.1 hy with hy | hy
    · exact hd y hy
    · simp at hy
      subst hy
      exact hc
  · rw [h.err, drop_at hk, List.map_cons, setE_on (by rw [hp]) (by rw [hp]; exact hm)]

set_option maxHeartbeats 1000000 in
set_option maxRecDepth 100000 in
theorem settledAll_many (p : Option Addr) (n c : Nat) (mk mark rate : Int) (w : World) (hn : 8 < n) :
    Calls Try.prog 7 #[.slice p n c, .int .i64 mk, .int .i64 mark, .int .i64 rate] w fun e w' => e = .returned (.tuple #[.slice none 0 0, .int .i64 0, .int .i64 2]) ∧ w' = w := by
  have h1 : (8 : Int) < (n : Int) := by omega
  go_enter Try.func7, Try.ntmps7
  go_wp2
  go_ret3
  exact ⟨rfl, rfl⟩

set_option maxHeartbeats 2000000 in
set_option maxRecDepth 100000 in
theorem settledAll_in (p : Option Addr) (n c : Nat) (L : List Am) (mk mark rate : Int) (w : World) (hl : L.length = n) (hn : n ≤ 8) (h : AL w p L) :
    Calls Try.prog 7 #[.slice p n c, .int .i64 mk, .int .i64 mark, .int .i64 rate] w fun e w' => ∃ px cx D, e = .returned (.tuple #[.slice px D.length cx, .int .i64 (settleR (L.map Am.acc) mk mark rate).2.1, .int .i64 (settleR (L.map Am.acc) mk mark rate).2.2]) ∧ AL w' px D ∧ D.map Am.acc = (settleR (L.map Am.acc) mk mark rate).1 ∧ Below w.heap.size w w' := by
  obtain ⟨i0, hi, hz0, hz1, hz2⟩ := info_parts (show (Try.prog.info? 30).map (fun i => (i.zero, i.size, i.bytes)) = some (some noA, 3, 40) by kernel_rfl)
  have HL := hide hl
  have H := hide h
  have h8 : ¬ (8 : Int) < (n : Int) := by omega
  clear hl h
  obtain ⟨E, hE⟩ : ∃ E, E = settleR (L.map Am.acc) mk mark rate := ⟨_, rfl⟩
  rw [← hE]
  have HE := hide hE
  clear hE
  go_enter Try.func7, Try.ntmps7
  go_wp2
  go_loopw [11, 12, 22] (fun v t i wr => ∃ (k : Nat) (s : Int) (D : List Am), k ≤ n ∧ i = .int .i64 k ∧ t = .int .i64 s ∧ -800000 ≤ s ∧ s ≤ 800000 ∧ Hid (RInv mk mark rate L D k s v w wr)) (fun _ _ i _ => n - (intOf i).toNat)
  case atStart => exact ⟨0, 0, [], Nat.zero_le _, rfl, rfl, by omega, by omega, RInv.start⟩
  case round =>
    obtain ⟨k, s, D, hk, rfl, rfl, hs1, hs2, I⟩ := hrel
    by_cases hlt : k < n
    · have hltz : (k : Int) < (n : Int) := by omega
      have hkL : k < L.length := by rw [HL.out]; exact hlt
      obtain ⟨b, off, rfl, hc⟩ : ∃ b off, p = some ⟨b, off, none⟩ ∧ ∀ j u, (flatA L)[j]? = some u → w.cell? ⟨b, off + j, none⟩ = some u := by
        rcases H.out.row with e | e
        · rw [e] at hkL; simp at hkL
        · exact e
      obtain ⟨f0, f1, f2⟩ := al_cells hc hkL
      have up := fun (x : Addr) (v : Value) (hx : w.cell? x = some v) => (I.out.below.cell (World.block_lt_of_cell? _ _ hx)).trans hx
      have g0 := up _ _ f0
      have g1 := up _ _ f1
      have g2 := up _ _ f2
      have AK := hide ((H.out.each _ (List.getElem_mem hkL)).below I.out.below)
      have ERR := I.out.err
      rw [drop_at hkL, List.map_cons] at ERR
      obtain ⟨a, ha⟩ : ∃ a, a = L[k] := ⟨_, rfl⟩
      rw [← ha] at g0 g1 g2 AK ERR
      have HA := hide ha
      clear up f0 f1 f2 hc ha
      have PA := hide (fun W hW => paysOf_any a.id a.bal a.p a.n a.c a.pos mk mark rate W AK.out.len (by have := AK.out.few; omega) (row_below AK.out.row hW))
      have PE : Hid (payA mk mark rate a.acc = paysR a.id a.bal a.pos mk mark rate) := rfl
      have PB := pays_bd (id := a.id) (bal := a.bal) (pos := a.pos) (mk := mk) (mark := mark) (rate := rate)
      obtain ⟨P, hP⟩ : ∃ P, P = paysR a.id a.bal a.pos mk mark rate := ⟨_, rfl⟩
      rw [← hP] at PA PE PB
      clear hP
      obtain ⟨pd, r⟩ := P
      dsimp only at PB PA
      obtain ⟨pb1, pb2⟩ := PB
      by_cases hr : r = 0
      · subst hr
        have PF := pay_facts (mk := mk) (mark := mark) (rate := rate) (a := a.acc) (by rw [PE.out])
        have hpl : a.pos.length = a.n := AK.out.len
        have hm1 : 1 ≤ a.n := by have := PF.2.2.1; have := PF.2.2.2.1; have e : a.acc.2.2.length = a.n := hpl; omega
        have OA := hide (fun W hW => ownAccount_any a.id a.bal a.p a.n a.c a.pos W hpl AK.out.few AK.out.nil (row_below AK.out.row hW))
        obtain ⟨mb1, mb2⟩ := money_true PF.1
        rw [show a.acc.2.1 = a.bal from rfl] at mb1 mb2
        clear hpl PF
        obtain ⟨id, hid⟩ : ∃ x, x = a.id := ⟨_, rfl⟩
        obtain ⟨bal, hbal⟩ : ∃ x, x = a.bal := ⟨_, rfl⟩
        obtain ⟨q, hq⟩ : ∃ x, x = a.p := ⟨_, rfl⟩
        obtain ⟨m, hm⟩ : ∃ x, x = a.n := ⟨_, rfl⟩
        obtain ⟨d, hd⟩ : ∃ x, x = a.c := ⟨_, rfl⟩
        rw [← hid, ← hbal, ← hq, ← hm, ← hd] at PA OA
        rw [← hid] at g0
        rw [← hbal] at g1 mb1 mb2
        rw [← hq, ← hm, ← hd] at g2
        rw [← hm] at hm1
        have HN := hide (And.intro hid (And.intro hbal (And.intro hq (And.intro hm hd))))
        clear hid hbal hq hm hd
        go_wp2_with fail
        refine (PA.out _ (below_alloc _ _)).mono ?_
        rintro e W1 ⟨rfl, hb1⟩
        have B1 := hide ((below_alloc wr (.cells #[.int .i64 id, .int .i64 bal, .slice q m d] 30)).trans (hb1.mono (by simp)))
        have T1 : Hid (W1.heap[wr.heap.size]? = some (.cells #[.int .i64 id, .int .i64 bal, .slice q m d] 30 (0, 0))) := (hb1.block _ (by simp)).trans (heap_alloc_new wr _)
        obtain ⟨x0, x1, x2⟩ := three_read T1.out
        clear hb1
        go_wp2_with fail
        refine (OA.out _ B1.out).mono ?_
        rintro e W2 ⟨vv, rfl, own, hb2⟩
        obtain ⟨g, cap, rfl, hg, hg2⟩ := own_slice own (by omega)
        have B2 := hide (B1.out.trans (hb2.mono B1.out.size))
        have s1 : wr.heap.size < W1.heap.size := (Array.getElem?_eq_some_iff.1 T1.out).1
        have T2 : Hid (W2.heap[wr.heap.size]? = some (.cells #[.int .i64 id, .int .i64 bal, .slice q m d] 30 (0, 0))) := (hb2.block _ s1).trans T1.out
        obtain ⟨W3, hW3⟩ : ∃ W3, ((W2.setCell ⟨wr.heap.size, 0, none⟩ (.int .i64 id)).setCell ⟨wr.heap.size, 1, none⟩ (.int .i64 bal)).setCell ⟨wr.heap.size, 2, none⟩ (.slice (some ⟨g, 0, none⟩) m cap) = W3 := ⟨_, rfl⟩
        obtain ⟨W4, hW4⟩ : ∃ W4, W3.setCell ⟨wr.heap.size, 1, none⟩ (.int .i64 (bal - pd)) = W4 := ⟨_, rfl⟩
        have H3 := hide hW3
        have H4 := hide hW4
        have T3 : Hid (W3.heap[wr.heap.size]? = some (.cells #[.int .i64 id, .int .i64 bal, .slice (some ⟨g, 0, none⟩) m cap] 30 (0, 0))) := by rw [← hW3]; exact three_set ⟨_, _, _, T2.out⟩ _ _ _
        have T4 : Hid (W4.heap[wr.heap.size]? = some (.cells #[.int .i64 id, .int .i64 (bal - pd), .slice (some ⟨g, 0, none⟩) m cap] 30 (0, 0))) := by rw [← hW4]; exact three_put T3.out _
        have B4 : Hid (Below wr.heap.size wr W4) := by
          rw [← hW4, ← hW3]
          exact (three_below_set B2.out (Nat.le_refl _) _ _ _).setCell (Nat.le_refl _) _
        have OW4 : Hid (W4.ownsRow W1.heap.size 3 1 (.slice (some ⟨g, 0, none⟩) m cap) m (a.pos.map (Value.int .i64))) := by
          rw [← hW4, ← hW3]
          exact ownsRow_setCell_below (ownsRow_setCell_below (ownsRow_setCell_below (ownsRow_setCell_below own s1 _) s1 _) s1 _) s1 _
        obtain ⟨-, -, -, -, -, -, y3, y4, y5⟩ := three_facts ⟨_, _, _, T2.out⟩
        obtain ⟨y0, y1, y2⟩ := three_read T2.out
        obtain ⟨z0, z1, z2⟩ := three_read T3.out
        obtain ⟨-, -, -, -, -, -, z3, z4, z5⟩ := three_facts ⟨_, _, _, T3.out⟩
        obtain ⟨r0, r1, r2⟩ := three_read T4.out
        clear hW3 hW4 own hb2 hg hg2 x0 x1 x2
        cases hmo : money (bal - pd)
        · have EN : Hid (E = ([], 0, 7)) := by
            have h1 : setE mk mark rate (L.map Am.acc) = 7 := by
              rw [ERR, setE_full (by rw [PE.out]) (by rw [PE.out]; show money (a.bal - pd) = false; rw [← HN.out.2.1]; exact hmo)]
            rw [HE.out, settle_err (by simp; have := HL.out; omega) (by rw [h1]; decide), h1]
            rfl
          clear ERR
          go_wp2_with (first | rw [H3.out] | rw [H4.out] | (go_at_call 17; refine (RefA.isMoney_any _ _).mono ?_; rintro e w' ⟨rfl, hw'⟩; rw [hw', hmo]; clear hw'))
          go_ret3
          refine ⟨none, 0, [], ?_, al_nil _ _, ?_, ?_⟩
          · rw [EN.out]; rfl
          · rw [EN.out]; rfl
          · exact I.out.below.trans (B4.out.mono I.out.below.size)
        · have HM := hide hmo
          have OV5 := hide ((own_on I.out.own B4.out).alloc (.cells #[.int .i64 id, .int .i64 (bal - pd), .slice (some ⟨g, 0, none⟩) m cap] 30))
          have NW : Hid (∀ j u, (encA ⟨id, bal - pd, some ⟨g, 0, none⟩, m, cap, a.pos⟩)[j]? = some u → (W4.alloc (.cells #[.int .i64 id, .int .i64 (bal - pd), .slice (some ⟨g, 0, none⟩) m cap] 30)).cell? ((⟨W4.heap.size, 0, none⟩ : Addr).add j) = some u) := fun j u hu => by
            rw [addA, Nat.zero_add]
            exact new_cell W4 _ _ j u (by simpa [encA] using hu)
          have ON : Hid (∀ u ∈ encA ⟨id, bal - pd, some ⟨g, 0, none⟩, m, cap, a.pos⟩, u.oneCell' = true) := fun u hu => flatA_one [⟨id, bal - pd, some ⟨g, 0, none⟩, m, cap, a.pos⟩] u (by simpa [flatA] using hu)
          have SZ : Hid (w.heap.size ≤ (W4.alloc (.cells #[.int .i64 id, .int .i64 (bal - pd), .slice (some ⟨g, 0, none⟩) m cap] 30)).heap.size) := by
            have h1 := I.out.below.size
            have h2 := B4.out.size
            show _ ≤ _
            simp
            omega
          have B5 := hide ((I.out.below.trans (B4.out.mono I.out.below.size)).alloc (Nat.le_trans I.out.below.size B4.out.size) (.cells #[.int .i64 id, .int .i64 (bal - pd), .slice (some ⟨g, 0, none⟩) m cap] 30))
          have D5 : Hid (∀ y, y ∈ D → OwnA (W4.alloc (.cells #[.int .i64 id, .int .i64 (bal - pd), .slice (some ⟨g, 0, none⟩) m cap] 30)) w.heap.size y) := fun y hy => ((I.out.each y hy).on B4.out).on (below_alloc W4 _)
          have OW5 := hide (OW4.out.alloc (.cells #[.int .i64 id, .int .i64 (bal - pd), .slice (some ⟨g, 0, none⟩) m cap] 30))
          have hne : Hid (3 ≠ 30) := by show _ ≠ _; decide
          have hBW : w.heap.size ≤ W1.heap.size := Nat.le_trans I.out.below.size B1.out.size
          clear ERR
          go_wp2_with (first | rw [H3.out] | rw [H4.out] | (go_at_call 17; refine (RefA.isMoney_any _ _).mono ?_; rintro e w' ⟨rfl, hw'⟩; rw [hw', hmo]; clear hw') | (at_builtin; refine wpList_append_own _ rfl (.tmp 51) (.tmp 53) 22 rfl w.heap.size 30 i0 noA 3 40 Try.underlying22 hi hz0 hz1 hz2 rfl (by decide) u11 k (flatA D) rfl OV5.out ⟨W4.heap.size, 0, none⟩ 1 1 (encA ⟨id, bal - pd, some ⟨g, 0, none⟩, m, cap, a.pos⟩) rfl rfl NW.out ON.out (by unfold maxLen; omega) (by omega) SZ.out ?_; intro v' w1 hown1 hgrow1 hnil1; clear hnil1))
          go_roundw
          case rel =>
            have B6 := B5.out.grown hgrow1 SZ.out (fun j hj => (I.out.own.lt _ hj).1)
            have AN : OwnA w1 w.heap.size ⟨a.id, a.bal - pd, some ⟨g, 0, none⟩, a.n, cap, a.pos⟩ := by
              refine ⟨?_, AK.out.few⟩
              have h1 := own_base (OW5.out.kept hgrow1 (own_diff OW5.out OV5.out hne.out)) hBW
              rw [HN.out.2.2.2.1] at h1
              exact h1
            have IN := I.out.next (wn := w1) (v' := v') hkL a HA.out pd PE.out (by rw [← HN.out.2.1]; exact HM.out) (some ⟨g, 0, none⟩) cap AN (by rw [HN.out.1, HN.out.2.1, HN.out.2.2.2.1] at hown1; exact hown1) B6 (fun y hy => ⟨(D5.out y hy).1.kept hgrow1 (own_diff (D5.out y hy).1 OV5.out hne.out), (D5.out y hy).2⟩)
            have bd := IN.bd (by omega)
            exact ⟨k + 1, s + pd, _, by omega, by go_num, rfl, bd.1, bd.2, IN⟩
          case measure => simp [intOf]; omega
      · have EN : Hid (E = ([], 0, r)) := by
          have h1 : setE mk mark rate (L.map Am.acc) = r := by rw [ERR, setE_pay (by rw [PE.out]; exact hr), PE.out]
          rw [HE.out, settle_err (by simp; have := HL.out; omega) (by rw [h1]; exact hr), h1]
          rfl
        clear ERR
        generalize a.id = id at g0 g1 g2 PA
        generalize a.bal = bal at g0 g1 g2 PA
        generalize a.p = q at g0 g1 g2 PA
        generalize a.n = m at g0 g1 g2 PA
        generalize a.c = d at g0 g1 g2 PA
        go_wp2_with fail
        refine (PA.out _ (below_alloc _ _)).mono ?_
        rintro e W1 ⟨rfl, hb1⟩
        have BW := hide (I.out.below.trans ((below_alloc wr _).trans (hb1.mono (by simp))  |>.mono I.out.below.size))
        clear hb1
        go_wp2
        go_ret3
        refine ⟨none, 0, [], ?_, al_nil _ _, ?_, BW.out⟩
        · rw [EN.out]; rfl
        · rw [EN.out]; rfl
    · have hkn : k = n := by omega
      subst hkn
      have EN : Hid (E = ((L.map Am.acc).map (setA mk mark rate), s, 0)) := by
        have h1 : setE mk mark rate (L.map Am.acc) = 0 := by rw [I.out.err, List.drop_eq_nil_of_le (by have := HL.out; omega)]; rfl
        rw [HE.out, settle_ok (by simp; have := HL.out; omega) h1, I.out.sum, List.take_of_length_le (by have := HL.out; omega)]
        rfl
      go_wp2
      go_ret3
      have hD : D.length = k := I.out.len
      rcases I.out.own.2 with ⟨hv, h0⟩ | ⟨g, cap, cur, hv, -⟩
      · obtain rfl : D = [] := List.eq_nil_of_length_eq_zero (by omega)
        subst h0
        refine ⟨none, 0, [], ?_, al_nil _ _, ?_, I.out.below⟩
        · rw [EN.out, hv]; rfl
        · rw [EN.out]
          have := I.out.acc
          rw [List.take_of_length_le (by have := HL.out; omega)] at this
          simpa [List.map_map] using this
      · refine ⟨some ⟨g, 0, none⟩, cap, D, ?_, ⟨.inr ⟨g, 0, rfl, fun j u hu => ?_⟩, fun a ha => (I.out.each a ha).ok⟩, ?_, I.out.below⟩
        · rw [EN.out, hD, hv]; rfl
        · have := I.out.own.cells (g := g) (by rw [hv]; rfl) j u hu
          rw [addA] at this
          exact this
        · rw [EN.out, I.out.acc, List.take_of_length_le (by have := HL.out; omega), List.map_map]
          rfl

theorem settledAll_any (p : Option Addr) (n c : Nat) (L : List Am) (mk mark rate : Int) (w : World) (hl : L.length = n) (h : AL w p L) :
    Calls Try.prog 7 #[.slice p n c, .int .i64 mk, .int .i64 mark, .int .i64 rate] w fun e w' => ∃ px cx D, e = .returned (.tuple #[.slice px D.length cx, .int .i64 (settleR (L.map Am.acc) mk mark rate).2.1, .int .i64 (settleR (L.map Am.acc) mk mark rate).2.2]) ∧ AL w' px D ∧ D.map Am.acc = (settleR (L.map Am.acc) mk mark rate).1 ∧ Below w.heap.size w w' := by
  by_cases hn : n ≤ 8
  · exact settledAll_in p n c L mk mark rate w hl hn h
  · have e : settleR (L.map Am.acc) mk mark rate = ([], 0, 2) := by unfold settleR; rw [if_pos (by simp; omega)]
    refine (settledAll_many p n c mk mark rate w (by omega)).mono ?_
    rintro e' w' ⟨rfl, rfl⟩
    rw [e]
    exact ⟨none, 0, [], rfl, al_nil _ _, rfl, Below.refl _ _⟩
end Go.Proofs.Ytbphljnncbiddab.Ac
