/-
  The law BookBack, by contracts.
-/
import Derived.Test.YtmfhjbpbgkikfaaBkShelf
namespace Go.Proofs.Ytmfhjbpbgkikfaa.Bk
open Go.RowKit Go.Sort Go.Maps Go.Proofs.Ytmfhjbpbgkikfaa.Mix

theorem ov_five {w : World} {p : Option Addr} {c t : Nat} {xs : List Odr} (h : OV w p c xs) (hp : ∀ a, p = some a → a.block ≠ t) (u0 u1 u2 u3 u4 : Value) : OV (five w t u0 u1 u2 u3 u4) p c xs := by
  refine ⟨?_, h.nil, h.cap⟩
  rcases h.row with rfl | ⟨b, off, rfl, hc⟩
  · exact .inl rfl
  · refine .inr ⟨b, off, rfl, fun j hj i v hv => ?_⟩
    have hb : b ≠ t := hp _ rfl
    rw [five_other (a := ⟨b, off + j * 5 + i, none⟩) hb]
    exact hc j hj i v hv

set_option maxHeartbeats 2000000 in
set_option maxRecDepth 100000 in
theorem back_any (p p' : Option Addr) (c c' : Nat) (bids asks : List Odr) (a ac sd pr q id : Int) (w : World) (h : OV w p c bids) (h' : OV w p' c' asks) (hn : bids.length ≤ 140737488351232) (hn' : asks.length ≤ 140737488351232) :
    Calls Try.prog 8 #[.agg #[.slice p bids.length c, .slice p' asks.length c'], .agg #[.int .i64 a, .int .i64 ac, .int .i64 sd, .int .i64 pr, .int .i64 q], .int .i64 id] w fun e w' => e = .returned (.bool true) ∧ Below w.heap.size w w' := by
  have hb0 : ∀ o1 o2, Below w.heap.size w ((w.alloc o1).alloc o2) := fun o1 o2 => ((Below.refl _ w).alloc (Nat.le_refl _) _).alloc (by simp) _
  obtain ⟨nb, hnb⟩ : ∃ n, bids.length = n := ⟨_, rfl⟩
  obtain ⟨na, hna⟩ : ∃ n, asks.length = n := ⟨_, rfl⟩
  have HB := hide h
  have HA := hide h'
  have RB : Hid (∀ X, Below w.heap.size w X → ¬ findE bids asks id = 0 → Calls Try.prog 27 #[.agg #[.slice p nb c, .slice p' na c'], .int .i64 id] X fun e w' => e = .returned (.tuple #[.agg #[.slice none 0 0, .slice none 0 0], odrV noOdr, .int .i64 (findE bids asks id)]) ∧ Below X.heap.size X w') := fun X hX he => by
    have := remove_bad p p' c c' bids asks id X (orow_below h.row hX) (orow_below h'.row hX) hn hn' he
    rw [hnb, hna] at this
    exact this
  have FE0 : Hid (findE bids asks id = 0 → Right bids asks ∧ ∃ o, findIn id bids asks = some o) := fun he => by
    unfold findE at he
    by_cases hb : bookErr bids asks = 0
    · rw [if_pos hb] at he
      refine ⟨bookErr_zero.1 hb, ?_⟩
      cases hf : findIn id bids asks with
      | none => rw [hf] at he; cases he
      | some o => exact ⟨o, rfl⟩
    · rw [if_neg hb] at he
      exact absurd he hb
  have RO : Hid (Right bids asks → ∀ o, findIn id bids asks = some o → (∀ X, Below w.heap.size w X → Calls Try.prog 27 #[.agg #[.slice p nb c, .slice p' na c'], .int .i64 id] X (RemovePost X (without id bids) (without id asks) o)) ∧ mayRest (without id bids) (without id asks) o = 0 ∧ restB (without id bids) o = bids ∧ restA (without id asks) o = asks ∧ bookErr (without id bids) (without id asks) = 0 ∧ bids.length + asks.length ≤ 40) := fun hR o hf => by
    have h1 := removed_rests hR hf
    refine ⟨fun X hX => ?_, h1.1, h1.2.1, h1.2.2, bookErr_zero.2 (remove_right id hR), hR.few⟩
    have := remove_ok p p' c c' bids asks id X (h.below hX) (h'.below hX) hR o hf
    rw [hnb, hna] at this
    exact this
  have SB : Hid (∀ X r r' d d', Below w.heap.size w X → ORow X r bids → ORow X r' asks → Calls Try.prog 36 #[.agg #[.slice r nb d, .slice r' na d'], .agg #[.slice p nb c, .slice p' na c']] X fun e w' => e = .returned (.bool true) ∧ Below X.heap.size X w') := fun X r r' d d' hX k k' => by
    have := same_any r r' p p' d d' c c' bids asks bids asks X k k' (orow_below h.row hX) (orow_below h'.row hX) hn hn' hn hn'
    rw [hnb, hna, decide_eq_true ⟨rfl, rfl⟩] at this
    exact this
  have R1 : Hid (∀ X, Below w.heap.size w X → ¬ mayRest bids asks (a, ac, sd, pr, q) = 0 → Calls Try.prog 25 #[.agg #[.slice p nb c, .slice p' na c'], .agg #[.int .i64 a, .int .i64 ac, .int .i64 sd, .int .i64 pr, .int .i64 q]] X fun e w' => e = .returned (.tuple #[.agg #[.slice none 0 0, .slice none 0 0], .int .i64 (mayRest bids asks (a, ac, sd, pr, q))]) ∧ Below X.heap.size X w') := fun X hX hm => by
    have := rest_bad p p' c c' bids asks a ac sd pr q X (orow_below h.row hX) (orow_below h'.row hX) hn hn' hm
    rw [hnb, hna] at this
    exact this
  have R2 : Hid (∀ X, Below w.heap.size w X → mayRest bids asks (a, ac, sd, pr, q) = 0 → Calls Try.prog 25 #[.agg #[.slice p nb c, .slice p' na c'], .agg #[.int .i64 a, .int .i64 ac, .int .i64 sd, .int .i64 pr, .int .i64 q]] X (RestPost X (restB bids (a, ac, sd, pr, q)) (restA asks (a, ac, sd, pr, q)))) := fun X hX hm => by
    have := rest_any p p' c c' bids asks (a, ac, sd, pr, q) X (h.below hX) (h'.below hX) hm
    rw [hnb, hna] at this
    exact this
  rw [hnb, hna]
  have NB := hide hnb
  have NA := hide hna
  clear h h' hn hn' hnb hna
  by_cases hm : mayRest bids asks (a, ac, sd, pr, q) = 0
  · have hRR := rest_right hm
    have hWW := rest_without hm
    have hFF := rest_found hm
    have hBB := bookErr_zero.2 hRR
    have R3 := hide (fun X hX => R2.out X hX hm)
    obtain ⟨XB, hXB⟩ : ∃ x, x = restB bids (a, ac, sd, pr, q) := ⟨_, rfl⟩
    obtain ⟨XA, hXA⟩ : ∃ x, x = restA asks (a, ac, sd, pr, q) := ⟨_, rfl⟩
    rw [← hXB, ← hXA] at hRR hFF hBB
    rw [← hXB, ← hXA] at hWW
    rw [← hXB, ← hXA] at R3
    obtain ⟨l1, hl1⟩ : ∃ n, XB.length = n := ⟨_, rfl⟩
    obtain ⟨l2, hl2⟩ : ∃ n, XA.length = n := ⟨_, rfl⟩
    have hfw := hRR.few
    have RM1 : Hid (∀ X r r' d d', OV X r d XB → OV X r' d' XA → Calls Try.prog 27 #[.agg #[.slice r l1 d, .slice r' l2 d'], .int .i64 a] X fun e w' => ∃ p3 c3 p4 c4, e = .returned (.tuple #[.agg #[.slice p3 nb c3, .slice p4 na c4], .agg #[.int .i64 a, .int .i64 ac, .int .i64 sd, .int .i64 pr, .int .i64 q], .int .i64 0]) ∧ OV w' p3 c3 bids ∧ OV w' p4 c4 asks ∧ Below X.heap.size X w') := fun X r r' d d' k k' => by
      have := remove_ok r r' d d' XB XA a X k k' hRR (a, ac, sd, pr, q) hFF
      rw [show without a XB = bids from hWW.1, show without a XA = asks from hWW.2, hl1, hl2] at this
      refine this.mono ?_
      rintro e w' ⟨p3, c3, p4, c4, rfl, k3, k4, kb, _, _⟩
      rw [NB.out, NA.out]
      exact ⟨p3, c3, p4, c4, rfl, k3, k4, kb⟩
    have FI1 : Hid (∀ X r r' d d', OV X r d XB → OV X r' d' XA → Calls Try.prog 26 #[.agg #[.slice r l1 d, .slice r' l2 d'], .int .i64 a] X fun e w' => e = .returned (.tuple #[.agg #[.int .i64 a, .int .i64 ac, .int .i64 sd, .int .i64 pr, .int .i64 q], .int .i64 0]) ∧ Below X.heap.size X w') := fun X r r' d d' k k' => by
      have := find_any r r' d d' XB XA a X k.row k'.row (by omega) (by omega)
      rw [show findO XB XA a = (a, ac, sd, pr, q) by unfold findO; rw [if_pos hBB, show findIn a XB XA = some (a, ac, sd, pr, q) from hFF]; rfl, show findE XB XA a = 0 by unfold findE; rw [if_pos hBB, show findIn a XB XA = some (a, ac, sd, pr, q) from hFF]; rfl, hl1, hl2] at this
      exact this
    have CH1 : Hid (∀ X r r' d d', OV X r d XB → OV X r' d' XA → Calls Try.prog 31 #[.agg #[.slice r l1 d, .slice r' l2 d']] X fun e w' => e = .returned (.int .i64 0) ∧ Below X.heap.size X w') := fun X r r' d d' k k' => by
      have := check_any r r' d d' XB XA X k.row k'.row (by omega) (by omega)
      rw [hBB, hl1, hl2] at this
      exact this
    have R4 : Hid (∀ X, Below w.heap.size w X → Calls Try.prog 25 #[.agg #[.slice p nb c, .slice p' na c'], .agg #[.int .i64 a, .int .i64 ac, .int .i64 sd, .int .i64 pr, .int .i64 q]] X fun e w' => ∃ p1 c1 p2 c2, e = .returned (.tuple #[.agg #[.slice p1 l1 c1, .slice p2 l2 c2], .int .i64 0]) ∧ OV w' p1 c1 XB ∧ OV w' p2 c2 XA ∧ Below X.heap.size X w') := fun X hX => by
      refine (R3.out X hX).mono ?_
      rintro e w' ⟨p1, c1, p2, c2, rfl, k1, k2, kb, _, _⟩
      exact ⟨p1, c1, p2, c2, by rw [hl1, hl2], k1, k2, kb⟩
    have hN : ∀ x, Sem.run Try.prog (binOp .neq 44 (.agg #[.int .i64 a, .int .i64 ac, .int .i64 sd, .int .i64 pr, .int .i64 q]) (.agg #[.int .i64 a, .int .i64 ac, .int .i64 sd, .int .i64 pr, .int .i64 q])) x = .ok (.bool false) x := fun x => by
      have := neqO.1 (a, ac, sd, pr, q) (a, ac, sd, pr, q) x
      simpa [enc] using this
    have hG : ∀ op A B x, Sem.run Try.prog (eqGuard op 44 A B (.agg #[.int .i64 a, .int .i64 ac, .int .i64 sd, .int .i64 pr, .int .i64 q]) (.agg #[.int .i64 a, .int .i64 ac, .int .i64 sd, .int .i64 pr, .int .i64 q])) x = .ok () x := fun op A B x => by
      have := neqO.2 op A B (a, ac, sd, pr, q) (a, ac, sd, pr, q) x
      simpa [enc] using this
    clear R1 R2 R3 hm hRR hWW hFF hBB hXB hXA hl1 hl2 hfw
    go_enter Try.func8, Try.ntmps8
    go_wp2_with fail
    refine (R4.out _ (hb0 _ _)).mono ?_
    rintro e W ⟨p1, c1, p2, c2, rfl, o1, o2, hb⟩
    have BW := hide ((hb0 _ _).trans (hb.mono (by simp; omega)))
    have F0 := hide (five_below (five_made _ _ _ _ _ _ _) hb)
    have k0 : W.cell? ⟨w.heap.size, 0, none⟩ = some (.slice p nb c) := box2_a hb rfl
    have k1 : W.cell? ⟨w.heap.size, 1, none⟩ = some (.slice p' na c') := box2_a hb rfl
    have m0 : W.cell? ⟨w.heap.size + 1, 0, none⟩ = some (.int .i64 a) := (hb.cell (by simp)).trans (new_cell2 _ _ _ _ _ _ rfl)
    have m1 : W.cell? ⟨w.heap.size + 1, 1, none⟩ = some (.int .i64 ac) := (hb.cell (by simp)).trans (new_cell2 _ _ _ _ _ _ rfl)
    have m2 : W.cell? ⟨w.heap.size + 1, 2, none⟩ = some (.int .i64 sd) := (hb.cell (by simp)).trans (new_cell2 _ _ _ _ _ _ rfl)
    have m3 : W.cell? ⟨w.heap.size + 1, 3, none⟩ = some (.int .i64 pr) := (hb.cell (by simp)).trans (new_cell2 _ _ _ _ _ _ rfl)
    have m4 : W.cell? ⟨w.heap.size + 1, 4, none⟩ = some (.int .i64 q) := (hb.cell (by simp)).trans (new_cell2 _ _ _ _ _ _ rfl)
    have AL := (Below.refl W.heap.size W).alloc (Nat.le_refl _) (.cells #[.slice p1 l1 c1, .slice p2 l2 c2] 42)
    have K0 := cell_alloc k0 (.cells #[.slice p1 l1 c1, .slice p2 l2 c2] 42)
    have K1 := cell_alloc k1 (.cells #[.slice p1 l1 c1, .slice p2 l2 c2] 42)
    have M0 := cell_alloc m0 (.cells #[.slice p1 l1 c1, .slice p2 l2 c2] 42)
    have M1 := cell_alloc m1 (.cells #[.slice p1 l1 c1, .slice p2 l2 c2] 42)
    have M2 := cell_alloc m2 (.cells #[.slice p1 l1 c1, .slice p2 l2 c2] 42)
    have M3 := cell_alloc m3 (.cells #[.slice p1 l1 c1, .slice p2 l2 c2] 42)
    have M4 := cell_alloc m4 (.cells #[.slice p1 l1 c1, .slice p2 l2 c2] 42)
    have U0 := new_cell W #[.slice p1 l1 c1, .slice p2 l2 c2] 42 0 _ rfl
    have U1 := new_cell W #[.slice p1 l1 c1, .slice p2 l2 c2] 42 1 _ rfl
    have BZ := hide (BW.out.trans (AL.mono BW.out.size))
    have FZ := hide (five_below F0.out AL)
    have OA := hide (o1.below AL)
    have OB := hide (o2.below AL)
    clear hb hb0 R4 AL F0 BW k0 k1 m0 m1 m2 m3 m4 o1 o2
    go_wp2_with fail
    refine (RM1.out _ p1 p2 c1 c2 OA.out OB.out).mono ?_
    rintro e w2 ⟨p3, c3, p4, c4, rfl, o3, o4, b2⟩
    have AL1 := (Below.refl w2.heap.size w2).alloc (Nat.le_refl _) (.cells #[.slice p3 nb c3, .slice p4 na c4] 42)
    have AL2 := AL1.alloc AL1.size (.cells #[.int .i64 a, .int .i64 ac, .int .i64 sd, .int .i64 pr, .int .i64 q] 44)
    have b3 := b2.trans (AL2.mono b2.size)
    have up := fun (x : Addr) (v : Value) (hx : (W.alloc (.cells #[.slice p1 l1 c1, .slice p2 l2 c2] 42)).cell? x = some v) => (b3.cell (World.block_lt_of_cell? _ _ hx)).trans hx
    have K0' := up _ _ K0
    have K1' := up _ _ K1
    have M0' := up _ _ M0
    have M1' := up _ _ M1
    have M2' := up _ _ M2
    have M3' := up _ _ M3
    have M4' := up _ _ M4
    have U0' := up _ _ U0
    have U1' := up _ _ U1
    have Y0 := cell_alloc (new_cell w2 #[.slice p3 nb c3, .slice p4 na c4] 42 0 _ rfl) (.cells #[.int .i64 a, .int .i64 ac, .int .i64 sd, .int .i64 pr, .int .i64 q] 44)
    have Y1 := cell_alloc (new_cell w2 #[.slice p3 nb c3, .slice p4 na c4] 42 1 _ rfl) (.cells #[.int .i64 a, .int .i64 ac, .int .i64 sd, .int .i64 pr, .int .i64 q] 44)
    have P0 := new_cell2 w2 (.cells #[.slice p3 nb c3, .slice p4 na c4] 42) #[.int .i64 a, .int .i64 ac, .int .i64 sd, .int .i64 pr, .int .i64 q] 44 0 _ rfl
    have P1 := new_cell2 w2 (.cells #[.slice p3 nb c3, .slice p4 na c4] 42) #[.int .i64 a, .int .i64 ac, .int .i64 sd, .int .i64 pr, .int .i64 q] 44 1 _ rfl
    have P2 := new_cell2 w2 (.cells #[.slice p3 nb c3, .slice p4 na c4] 42) #[.int .i64 a, .int .i64 ac, .int .i64 sd, .int .i64 pr, .int .i64 q] 44 2 _ rfl
    have P3 := new_cell2 w2 (.cells #[.slice p3 nb c3, .slice p4 na c4] 42) #[.int .i64 a, .int .i64 ac, .int .i64 sd, .int .i64 pr, .int .i64 q] 44 3 _ rfl
    have P4 := new_cell2 w2 (.cells #[.slice p3 nb c3, .slice p4 na c4] 42) #[.int .i64 a, .int .i64 ac, .int .i64 sd, .int .i64 pr, .int .i64 q] 44 4 _ rfl
    have BZ2 := hide (BZ.out.trans (b3.mono BZ.out.size))
    have FZ2 := hide (five_below FZ.out b3)
    have OA2 := hide (OA.out.below b3)
    have OB2 := hide (OB.out.below b3)
    have OY := hide (o3.below AL2)
    have OYA := hide (o4.below AL2)
    clear up AL1 AL2 b2 b3 o3 o4 K0 K1 M0 M1 M2 M3 M4 U0 U1 BZ FZ OA OB RM1
    go_wp2_with fail
    refine (FI1.out _ p1 p2 c1 c2 OA2.out OB2.out).mono ?_
    rintro e w3 ⟨rfl, b4⟩
    have AL3 := (Below.refl w3.heap.size w3).alloc (Nat.le_refl _) (.cells #[.int .i64 a, .int .i64 ac, .int .i64 sd, .int .i64 pr, .int .i64 q] 44)
    have b5 := b4.trans (AL3.mono b4.size)
    have up := fun (x : Addr) (v : Value) (hx : ((w2.alloc (.cells #[.slice p3 nb c3, .slice p4 na c4] 42)).alloc (.cells #[.int .i64 a, .int .i64 ac, .int .i64 sd, .int .i64 pr, .int .i64 q] 44)).cell? x = some v) => (b5.cell (World.block_lt_of_cell? _ _ hx)).trans hx
    have a0 := up _ _ K0'
    have a1 := up _ _ K1'
    have e0 := up _ _ M0'
    have e1 := up _ _ M1'
    have e2 := up _ _ M2'
    have e3 := up _ _ M3'
    have e4 := up _ _ M4'
    have g0 := up _ _ U0'
    have g1 := up _ _ U1'
    have y0 := up _ _ Y0
    have y1 := up _ _ Y1
    have q0 := up _ _ P0
    have q1 := up _ _ P1
    have q2 := up _ _ P2
    have q3 := up _ _ P3
    have q4 := up _ _ P4
    have BZ3 := hide (BZ2.out.trans (b5.mono BZ2.out.size))
    have FZ3 := hide (five_below FZ2.out b5)
    have OA3 := hide (OA2.out.below b5)
    have OB3 := hide (OB2.out.below b5)
    have OY3 := hide (OY.out.below b5)
    have OYA3 := hide (OYA.out.below b5)
    clear up AL3 b4 b5 K0' K1' M0' M1' M2' M3' M4' U0' U1' Y0 Y1 P0 P1 P2 P3 P4 BZ2 FZ2 OA2 OB2 OY OYA FI1
    go_wp2_with fail
    refine (SB.out _ p3 p4 c3 c4 BZ3.out OY3.out.row OYA3.out.row).mono ?_
    rintro e w4 ⟨rfl, b6⟩
    have up := fun (x : Addr) (v : Value) (hx : (w3.alloc (.cells #[.int .i64 a, .int .i64 ac, .int .i64 sd, .int .i64 pr, .int .i64 q] 44)).cell? x = some v) => (b6.cell (World.block_lt_of_cell? _ _ hx)).trans hx
    have a0' := up _ _ a0
    have a1' := up _ _ a1
    have g0' := up _ _ g0
    have g1' := up _ _ g1
    have BZ4 := hide (BZ3.out.trans (b6.mono BZ3.out.size))
    have FZ4 := hide (five_below FZ3.out b6)
    have OA4 := hide (OA3.out.below b6)
    have OB4 := hide (OB3.out.below b6)
    clear up b6 a0 a1 e0 e1 e2 e3 e4 g0 g1 y0 y1 q0 q1 q2 q3 q4 BZ3 FZ3 OA3 OB3 OY3 OYA3 hN hG
    go_wp2_with fail
    refine (CH1.out _ p1 p2 c1 c2 OA4.out OB4.out).mono ?_
    rintro e w6 ⟨rfl, b7⟩
    have c0 := (b7.cell (World.block_lt_of_cell? _ _ a0')).trans a0'
    have c1' := (b7.cell (World.block_lt_of_cell? _ _ a1')).trans a1'
    have BX := hide (BZ4.out.trans (b7.mono BZ4.out.size))
    have F4 := hide (five_below FZ4.out b7)
    clear b7 a0' a1' g0' g1' BZ4 FZ4 OA4 OB4 CH1
    have RE := hide (fun X (hX : Below w.heap.size w X) => RB.out X hX)
    by_cases hfe : findE bids asks id = 0
    · obtain ⟨hR2, o2, hf2⟩ := FE0.out hfe
      have RK := RO.out hR2 o2 hf2
      obtain ⟨a2, ac2, sd2, pr2, q2⟩ := o2
      have RK2 := hide RK
      clear RK RE RB
      go_wp2_with fail
      refine (RK2.out.1 _ BX.out).mono ?_
      rintro e w5 ⟨p5, c5, p6, c6, rfl, o5, o6, b5, f5, f6⟩
      have B5 := hide (BX.out.trans (b5.mono BX.out.size))
      have F5 := hide (five_below F4.out b5)
      obtain ⟨m1', m2', m3', m4', m5'⟩ := RK2.out.2
      have X5 := hide o5
      have X6 := hide o6
      obtain ⟨lx, hlx⟩ : ∃ n, (without id bids).length = n := ⟨_, rfl⟩
      obtain ⟨ly, hly⟩ : ∃ n, (without id asks).length = n := ⟨_, rfl⟩
      have RX : Hid (∀ X, OV X p5 c5 (without id bids) → OV X p6 c6 (without id asks) → Calls Try.prog 25 #[.agg #[.slice p5 lx c5, .slice p6 ly c6], .agg #[.int .i64 a2, .int .i64 ac2, .int .i64 sd2, .int .i64 pr2, .int .i64 q2]] X fun e w' => ∃ p7 c7 p8 c8, e = .returned (.tuple #[.agg #[.slice p7 nb c7, .slice p8 na c8], .int .i64 0]) ∧ OV w' p7 c7 bids ∧ OV w' p8 c8 asks ∧ Below X.heap.size X w') := fun X k k' => by
        have := rest_any p5 p6 c5 c6 _ _ (a2, ac2, sd2, pr2, q2) X k k' m1'
        rw [m2', m3', hlx, hly] at this
        refine this.mono ?_
        rintro e w' ⟨p7, c7, p8, c8, rfl, k7, k8, kb, _, _⟩
        rw [NB.out, NA.out]
        exact ⟨p7, c7, p8, c8, rfl, k7, k8, kb⟩
      have CX : Hid (∀ X, OV X p5 c5 (without id bids) → OV X p6 c6 (without id asks) → Calls Try.prog 31 #[.agg #[.slice p5 lx c5, .slice p6 ly c6]] X fun e w' => e = .returned (.int .i64 0) ∧ Below X.heap.size X w') := fun X k k' => by
        have hle1 := (without_sub id bids).length_le
        have hle2 := (without_sub id asks).length_le
        have := check_any p5 p6 c5 c6 _ _ X k.row k'.row (by omega) (by omega)
        rw [m4', hlx, hly] at this
        exact this
      rw [hlx, hly]
      have fsz := five_lt F4.out
      have g5 : Hid (∀ x, p5 = some x → x.block ≠ w.heap.size + 1) := fun x hx => by have := f5 x hx; omega
      have g6 : Hid (∀ x, p6 = some x → x.block ≠ w.heap.size + 1) := fun x hx => by have := f6 x hx; omega
      have d0 := (b5.cell (World.block_lt_of_cell? _ _ c0)).trans c0
      have d1 := (b5.cell (World.block_lt_of_cell? _ _ c1')).trans c1'
      have AL := (Below.refl w5.heap.size w5).alloc (Nat.le_refl _) (.cells #[.slice p5 lx c5, .slice p6 ly c6] 42)
      have F6 := hide (five_below F5.out AL)
      have B6 := hide (B5.out.trans (AL.mono B5.out.size))
      have e0 := cell_alloc d0 (.cells #[.slice p5 lx c5, .slice p6 ly c6] 42)
      have e1 := cell_alloc d1 (.cells #[.slice p5 lx c5, .slice p6 ly c6] 42)
      have n0 := new_cell w5 #[.slice p5 lx c5, .slice p6 ly c6] 42 0 _ rfl
      have n1 := new_cell w5 #[.slice p5 lx c5, .slice p6 ly c6] 42 1 _ rfl
      have X7 := hide (X5.out.below AL)
      have X8 := hide (X6.out.below AL)
      have hs5 := five_lt F5.out
      clear o5 o6 b5 f5 f6 d0 d1 c0 c1' AL F5 B5 F4 BX fsz hlx hly RK2 m1' m2' m3' m4' m5' X5 X6
      obtain ⟨⟨v0, v1, v2, v3, v4, m0, m1, m2, m3, m4⟩, r0, r1, r2, r3, r4⟩ := five_facts F6.out
      obtain ⟨Z, hZ⟩ : ∃ Z, Z = five (w5.alloc (.cells #[.slice p5 lx c5, .slice p6 ly c6] 42)) (w.heap.size + 1) (.int .i64 a2) (.int .i64 ac2) (.int .i64 sd2) (.int .i64 pr2) (.int .i64 q2) := ⟨_, rfl⟩
      have Z1 : Hid (Below w.heap.size w Z) := by rw [hZ]; exact five_below_set B6.out (by omega) _ _ _ _ _
      have Z2 : Hid (OV Z p5 c5 (without id bids)) := by rw [hZ]; exact ov_five X7.out g5.out _ _ _ _ _
      have Z3 : Hid (OV Z p6 c6 (without id asks)) := by rw [hZ]; exact ov_five X8.out g6.out _ _ _ _ _
      have z0 : Z.cell? ⟨w.heap.size, 0, none⟩ = some (.slice p nb c) := by rw [hZ]; exact (five_other (by simp) _ _ _ _ _).trans e0
      have z1 : Z.cell? ⟨w.heap.size, 1, none⟩ = some (.slice p' na c') := by rw [hZ]; exact (five_other (by simp) _ _ _ _ _).trans e1
      have z2 : Z.cell? ⟨w5.heap.size, 0, none⟩ = some (.slice p5 lx c5) := by rw [hZ]; exact (five_other (by simp; omega) _ _ _ _ _).trans n0
      have z3 : Z.cell? ⟨w5.heap.size, 1, none⟩ = some (.slice p6 ly c6) := by rw [hZ]; exact (five_other (by simp; omega) _ _ _ _ _).trans n1
      have z4 := five_set F6.out (.int .i64 a2) (.int .i64 ac2) (.int .i64 sd2) (.int .i64 pr2) (.int .i64 q2)
      rw [← hZ] at z4
      obtain ⟨y0, y1, y2, y3, y4⟩ := z4
      simp only [five] at hZ
      have HZ := hide hZ
      clear hZ e0 e1 n0 n1 hs5
      go_wp2_with fail
      have hZ := HZ.out
      rw [← hZ]
      clear HZ hZ m0 m1 m2 m3 m4 r0 r1 r2 r3 r4 X7 X8 F6 B6 g5 g6
      generalize w5.heap.size = t14 at z2 z3 ⊢
      refine (shelved_any _).mono ?_
      rintro e w7 ⟨rfl, b7⟩
      have up := fun (x : Addr) (v : Value) (hx : Z.cell? x = some v) => (b7.cell (World.block_lt_of_cell? _ _ hx)).trans hx
      have a0 := up _ _ z0
      have a1 := up _ _ z1
      have a2' := up _ _ z2
      have a3 := up _ _ z3
      have a4 := up _ _ y0
      have a5 := up _ _ y1
      have a6 := up _ _ y2
      have a7 := up _ _ y3
      have a8 := up _ _ y4
      have B7 := hide (Z1.out.trans (b7.mono Z1.out.size))
      have K5 := hide (Z2.out.below b7)
      have K6 := hide (Z3.out.below b7)
      clear up z0 z1 z2 z3 y0 y1 y2 y3 y4 Z1 Z2 Z3 b7
      go_wp2_with fail
      refine (RX.out _ K5.out K6.out).mono ?_
      rintro e w8 ⟨p7, c7, p8, c8, rfl, o7, o8, b8⟩
      have AL := (Below.refl w8.heap.size w8).alloc (Nat.le_refl _) (.cells #[.slice p7 nb c7, .slice p8 na c8] 42)
      have b9 := b8.trans (AL.mono b8.size)
      have up := fun (x : Addr) (v : Value) (hx : w7.cell? x = some v) => (b9.cell (World.block_lt_of_cell? _ _ hx)).trans hx
      have h0 := up _ _ a0
      have h1 := up _ _ a1
      have h2 := up _ _ a2'
      have h3 := up _ _ a3
      have B9 := hide (B7.out.trans (b9.mono B7.out.size))
      have L5 := hide (K5.out.below b9)
      have L6 := hide (K6.out.below b9)
      have L7 := hide (orow_below o7.row AL)
      have L8 := hide (orow_below o8.row AL)
      clear up a0 a1 a2' a3 a4 a5 a6 a7 a8 B7 K5 K6 o7 o8 b8 b9 AL
      go_wp2_with fail
      refine (SB.out _ p7 p8 c7 c8 B9.out L7.out L8.out).mono ?_
      rintro e w10 ⟨rfl, b10⟩
      have j2 := (b10.cell (World.block_lt_of_cell? _ _ h2)).trans h2
      have j3 := (b10.cell (World.block_lt_of_cell? _ _ h3)).trans h3
      have B10 := hide (B9.out.trans (b10.mono B9.out.size))
      have M5 := hide (L5.out.below b10)
      have M6 := hide (L6.out.below b10)
      clear h0 h1 h2 h3 b10 B9 L5 L6 L7 L8
      go_wp2_with fail
      refine (CX.out _ M5.out M6.out).mono ?_
      rintro e w11 ⟨rfl, b11⟩
      have B11 := hide (B10.out.trans (b11.mono B10.out.size))
      go_wp2
      go_ret
      exact ⟨rfl, B11.out⟩
    · have hfe' : (findE bids asks id != 0) = true := by simp [hfe]
      have RE2 := hide (fun X hX => RE.out X hX hfe)
      generalize findE bids asks id = fe at hfe hfe' RE2 FE0
      clear RE RB FE0 RO
      go_wp2_with fail
      refine (RE2.out _ BX.out).mono ?_
      rintro e w5 ⟨rfl, b5⟩
      have B5 := hide (BX.out.trans (b5.mono BX.out.size))
      have F5 := hide (five_below F4.out b5)
      have AL := (Below.refl w5.heap.size w5).alloc (Nat.le_refl _) (.cells #[.slice none 0 0, .slice none 0 0] 42)
      have F6 := hide (five_below F5.out AL)
      have B6 := hide (B5.out.trans (AL.mono B5.out.size))
      obtain ⟨⟨v0, v1, v2, v3, v4, m0, m1, m2, m3, m4⟩, r0, r1, r2, r3, r4⟩ := five_facts F6.out
      have B7 := hide (five_below_set B6.out (t := w.heap.size + 1) (by omega) (.int .i64 0) (.int .i64 0) (.int .i64 0) (.int .i64 0) (.int .i64 0))
      clear b5 F5 AL F6 B5 B6 F4 BX
      go_wp2_with fail
      clear m0 m1 m2 m3 m4 r0 r1 r2 r3 r4
      refine (shelved_any _).mono ?_
      rintro e w8 ⟨rfl, b8⟩
      have B8 := hide (B7.out.trans (b8.mono B7.out.size))
      clear b8 B7
      go_wp2_with fail
      refine (shelved_any _).mono ?_
      rintro e w9 ⟨rfl, b9⟩
      have B9 := hide (B8.out.trans (b9.mono B8.out.size))
      go_wp2
      go_ret
      exact ⟨rfl, B9.out⟩
  · have R3 := hide (fun X hX => R1.out X hX hm)
    have hm' : (mayRest bids asks (a, ac, sd, pr, q) == 0) = false := by simp [hm]
    generalize mayRest bids asks (a, ac, sd, pr, q) = mr at hm hm' R3
    clear R1 R2
    go_enter Try.func8, Try.ntmps8
    go_wp2_with fail
    refine (R3.out _ (hb0 _ _)).mono ?_
    rintro e W ⟨rfl, hb⟩
    have BW := hide ((hb0 _ _).trans (hb.mono (by simp; omega)))
    have F0 := hide (five_below (five_made _ _ _ _ _ _ _) hb)
    have k0 : W.cell? ⟨w.heap.size, 0, none⟩ = some (.slice p nb c) := box2_a hb rfl
    have k1 : W.cell? ⟨w.heap.size, 1, none⟩ = some (.slice p' na c') := box2_a hb rfl
    have AL := (Below.refl W.heap.size W).alloc (Nat.le_refl _) (.cells #[.slice none 0 0, .slice none 0 0] 42)
    have BX := hide (BW.out.trans (AL.mono BW.out.size))
    have F4 := hide (five_below F0.out AL)
    have c0 := cell_alloc k0 (.cells #[.slice none 0 0, .slice none 0 0] 42)
    have c1 := cell_alloc k1 (.cells #[.slice none 0 0, .slice none 0 0] 42)
    clear hb hb0 R3 AL F0 BW k0 k1
    have RE := hide (fun X (hX : Below w.heap.size w X) => RB.out X hX)
    by_cases hfe : findE bids asks id = 0
    · obtain ⟨hR2, o2, hf2⟩ := FE0.out hfe
      have RK := RO.out hR2 o2 hf2
      obtain ⟨a2, ac2, sd2, pr2, q2⟩ := o2
      have RK2 := hide RK
      clear RK RE RB
      go_wp2_with fail
      refine (RK2.out.1 _ BX.out).mono ?_
      rintro e w5 ⟨p5, c5, p6, c6, rfl, o5, o6, b5, f5, f6⟩
      have B5 := hide (BX.out.trans (b5.mono BX.out.size))
      have F5 := hide (five_below F4.out b5)
      obtain ⟨m1', m2', m3', m4', m5'⟩ := RK2.out.2
      have X5 := hide o5
      have X6 := hide o6
      obtain ⟨lx, hlx⟩ : ∃ n, (without id bids).length = n := ⟨_, rfl⟩
      obtain ⟨ly, hly⟩ : ∃ n, (without id asks).length = n := ⟨_, rfl⟩
      have RX : Hid (∀ X, OV X p5 c5 (without id bids) → OV X p6 c6 (without id asks) → Calls Try.prog 25 #[.agg #[.slice p5 lx c5, .slice p6 ly c6], .agg #[.int .i64 a2, .int .i64 ac2, .int .i64 sd2, .int .i64 pr2, .int .i64 q2]] X fun e w' => ∃ p7 c7 p8 c8, e = .returned (.tuple #[.agg #[.slice p7 nb c7, .slice p8 na c8], .int .i64 0]) ∧ OV w' p7 c7 bids ∧ OV w' p8 c8 asks ∧ Below X.heap.size X w') := fun X k k' => by
        have := rest_any p5 p6 c5 c6 _ _ (a2, ac2, sd2, pr2, q2) X k k' m1'
        rw [m2', m3', hlx, hly] at this
        refine this.mono ?_
        rintro e w' ⟨p7, c7, p8, c8, rfl, k7, k8, kb, _, _⟩
        rw [NB.out, NA.out]
        exact ⟨p7, c7, p8, c8, rfl, k7, k8, kb⟩
      have CX : Hid (∀ X, OV X p5 c5 (without id bids) → OV X p6 c6 (without id asks) → Calls Try.prog 31 #[.agg #[.slice p5 lx c5, .slice p6 ly c6]] X fun e w' => e = .returned (.int .i64 0) ∧ Below X.heap.size X w') := fun X k k' => by
        have hle1 := (without_sub id bids).length_le
        have hle2 := (without_sub id asks).length_le
        have := check_any p5 p6 c5 c6 _ _ X k.row k'.row (by omega) (by omega)
        rw [m4', hlx, hly] at this
        exact this
      rw [hlx, hly]
      have fsz := five_lt F4.out
      have g5 : Hid (∀ x, p5 = some x → x.block ≠ w.heap.size + 1) := fun x hx => by have := f5 x hx; omega
      have g6 : Hid (∀ x, p6 = some x → x.block ≠ w.heap.size + 1) := fun x hx => by have := f6 x hx; omega
      have d0 := (b5.cell (World.block_lt_of_cell? _ _ c0)).trans c0
      have d1 := (b5.cell (World.block_lt_of_cell? _ _ c1)).trans c1
      have AL := (Below.refl w5.heap.size w5).alloc (Nat.le_refl _) (.cells #[.slice p5 lx c5, .slice p6 ly c6] 42)
      have F6 := hide (five_below F5.out AL)
      have B6 := hide (B5.out.trans (AL.mono B5.out.size))
      have e0 := cell_alloc d0 (.cells #[.slice p5 lx c5, .slice p6 ly c6] 42)
      have e1 := cell_alloc d1 (.cells #[.slice p5 lx c5, .slice p6 ly c6] 42)
      have n0 := new_cell w5 #[.slice p5 lx c5, .slice p6 ly c6] 42 0 _ rfl
      have n1 := new_cell w5 #[.slice p5 lx c5, .slice p6 ly c6] 42 1 _ rfl
      have X7 := hide (X5.out.below AL)
      have X8 := hide (X6.out.below AL)
      have hs5 := five_lt F5.out
      clear o5 o6 b5 f5 f6 d0 d1 c0 c1 AL F5 B5 F4 BX fsz hlx hly RK2 m1' m2' m3' m4' m5' X5 X6
      obtain ⟨⟨v0, v1, v2, v3, v4, m0, m1, m2, m3, m4⟩, r0, r1, r2, r3, r4⟩ := five_facts F6.out
      obtain ⟨Z, hZ⟩ : ∃ Z, Z = five (w5.alloc (.cells #[.slice p5 lx c5, .slice p6 ly c6] 42)) (w.heap.size + 1) (.int .i64 a2) (.int .i64 ac2) (.int .i64 sd2) (.int .i64 pr2) (.int .i64 q2) := ⟨_, rfl⟩
      have Z1 : Hid (Below w.heap.size w Z) := by rw [hZ]; exact five_below_set B6.out (by omega) _ _ _ _ _
      have Z2 : Hid (OV Z p5 c5 (without id bids)) := by rw [hZ]; exact ov_five X7.out g5.out _ _ _ _ _
      have Z3 : Hid (OV Z p6 c6 (without id asks)) := by rw [hZ]; exact ov_five X8.out g6.out _ _ _ _ _
      have z0 : Z.cell? ⟨w.heap.size, 0, none⟩ = some (.slice p nb c) := by rw [hZ]; exact (five_other (by simp) _ _ _ _ _).trans e0
      have z1 : Z.cell? ⟨w.heap.size, 1, none⟩ = some (.slice p' na c') := by rw [hZ]; exact (five_other (by simp) _ _ _ _ _).trans e1
      have z2 : Z.cell? ⟨w5.heap.size, 0, none⟩ = some (.slice p5 lx c5) := by rw [hZ]; exact (five_other (by simp; omega) _ _ _ _ _).trans n0
      have z3 : Z.cell? ⟨w5.heap.size, 1, none⟩ = some (.slice p6 ly c6) := by rw [hZ]; exact (five_other (by simp; omega) _ _ _ _ _).trans n1
      have z4 := five_set F6.out (.int .i64 a2) (.int .i64 ac2) (.int .i64 sd2) (.int .i64 pr2) (.int .i64 q2)
      rw [← hZ] at z4
      obtain ⟨y0, y1, y2, y3, y4⟩ := z4
      simp only [five] at hZ
      have HZ := hide hZ
      clear hZ e0 e1 n0 n1 hs5
      go_wp2_with fail
      have hZ := HZ.out
      rw [← hZ]
      clear HZ hZ m0 m1 m2 m3 m4 r0 r1 r2 r3 r4 X7 X8 F6 B6 g5 g6
      generalize w5.heap.size = t14 at z2 z3 ⊢
      refine (shelved_any _).mono ?_
      rintro e w7 ⟨rfl, b7⟩
      have up := fun (x : Addr) (v : Value) (hx : Z.cell? x = some v) => (b7.cell (World.block_lt_of_cell? _ _ hx)).trans hx
      have a0 := up _ _ z0
      have a1 := up _ _ z1
      have a2' := up _ _ z2
      have a3 := up _ _ z3
      have a4 := up _ _ y0
      have a5 := up _ _ y1
      have a6 := up _ _ y2
      have a7 := up _ _ y3
      have a8 := up _ _ y4
      have B7 := hide (Z1.out.trans (b7.mono Z1.out.size))
      have K5 := hide (Z2.out.below b7)
      have K6 := hide (Z3.out.below b7)
      clear up z0 z1 z2 z3 y0 y1 y2 y3 y4 Z1 Z2 Z3 b7
      go_wp2_with fail
      refine (RX.out _ K5.out K6.out).mono ?_
      rintro e w8 ⟨p7, c7, p8, c8, rfl, o7, o8, b8⟩
      have AL := (Below.refl w8.heap.size w8).alloc (Nat.le_refl _) (.cells #[.slice p7 nb c7, .slice p8 na c8] 42)
      have b9 := b8.trans (AL.mono b8.size)
      have up := fun (x : Addr) (v : Value) (hx : w7.cell? x = some v) => (b9.cell (World.block_lt_of_cell? _ _ hx)).trans hx
      have h0 := up _ _ a0
      have h1 := up _ _ a1
      have h2 := up _ _ a2'
      have h3 := up _ _ a3
      have B9 := hide (B7.out.trans (b9.mono B7.out.size))
      have L5 := hide (K5.out.below b9)
      have L6 := hide (K6.out.below b9)
      have L7 := hide (orow_below o7.row AL)
      have L8 := hide (orow_below o8.row AL)
      clear up a0 a1 a2' a3 a4 a5 a6 a7 a8 B7 K5 K6 o7 o8 b8 b9 AL
      go_wp2_with fail
      refine (SB.out _ p7 p8 c7 c8 B9.out L7.out L8.out).mono ?_
      rintro e w10 ⟨rfl, b10⟩
      have j2 := (b10.cell (World.block_lt_of_cell? _ _ h2)).trans h2
      have j3 := (b10.cell (World.block_lt_of_cell? _ _ h3)).trans h3
      have B10 := hide (B9.out.trans (b10.mono B9.out.size))
      have M5 := hide (L5.out.below b10)
      have M6 := hide (L6.out.below b10)
      clear h0 h1 h2 h3 b10 B9 L5 L6 L7 L8
      go_wp2_with fail
      refine (CX.out _ M5.out M6.out).mono ?_
      rintro e w11 ⟨rfl, b11⟩
      have B11 := hide (B10.out.trans (b11.mono B10.out.size))
      go_wp2
      go_ret
      exact ⟨rfl, B11.out⟩
    · have hfe' : (findE bids asks id != 0) = true := by simp [hfe]
      have RE2 := hide (fun X hX => RE.out X hX hfe)
      generalize findE bids asks id = fe at hfe hfe' RE2 FE0
      clear RE RB FE0 RO
      go_wp2_with fail
      refine (RE2.out _ BX.out).mono ?_
      rintro e w5 ⟨rfl, b5⟩
      have B5 := hide (BX.out.trans (b5.mono BX.out.size))
      have F5 := hide (five_below F4.out b5)
      have AL := (Below.refl w5.heap.size w5).alloc (Nat.le_refl _) (.cells #[.slice none 0 0, .slice none 0 0] 42)
      have F6 := hide (five_below F5.out AL)
      have B6 := hide (B5.out.trans (AL.mono B5.out.size))
      obtain ⟨⟨v0, v1, v2, v3, v4, m0, m1, m2, m3, m4⟩, r0, r1, r2, r3, r4⟩ := five_facts F6.out
      have B7 := hide (five_below_set B6.out (t := w.heap.size + 1) (by omega) (.int .i64 0) (.int .i64 0) (.int .i64 0) (.int .i64 0) (.int .i64 0))
      clear b5 F5 AL F6 B5 B6 F4 BX
      go_wp2_with fail
      clear m0 m1 m2 m3 m4 r0 r1 r2 r3 r4
      refine (shelved_any _).mono ?_
      rintro e w8 ⟨rfl, b8⟩
      have B8 := hide (B7.out.trans (b8.mono B7.out.size))
      clear b8 B7
      go_wp2_with fail
      refine (shelved_any _).mono ?_
      rintro e w9 ⟨rfl, b9⟩
      have B9 := hide (B8.out.trans (b9.mono B8.out.size))
      go_wp2
      go_ret
      exact ⟨rfl, B9.out⟩
end Go.Proofs.Ytmfhjbpbgkikfaa.Bk
