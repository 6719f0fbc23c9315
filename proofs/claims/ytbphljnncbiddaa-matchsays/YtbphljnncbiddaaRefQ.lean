/-
  The reference's CheckBook, by a contract.
-/
import Derived.Test.YtbphljnncbiddaaRefL
import Derived.Test.YtbphljnncbiddaaStB
import Derived.Test.YtbphljnncbiddaaBkMay
import Derived.Shelf.Slices.Turned
namespace Go.Proofs.Ytbphljnncbiddaa.Rk
open Go.RowKit Go.Sort Go.Maps Go.Proofs.Ytbphljnncbiddaa.Bk

abbrev iV (l : List Int) : List Value := l.map (Value.int .i64)
theorem contains_own {w : World} {B : Nat} {v : Value} {ids : List Int} (a : Int) (h : w.ownsRow B 3 1 v ids.length (iV ids)) (hl : ids.length ≤ 1000) :
    Calls Try.prog 80 #[v, .int .i64 a] w fun e w' => e = .returned (.bool (decide (a ∈ ids))) ∧ w' = w := by
  have h' := h
  rcases h.2 with ⟨rfl, e⟩ | ⟨g, cap, cur, rfl, hb, hg, hnc, hm, hcs, ht⟩
  · have hi : ids = [] := List.length_eq_zero_iff.1 e
    subst hi
    exact Any.slices_Contains_int_empty Try.laysSC none 0 a w
  · have := Any.slices_Contains_int Try.laysSC g 0 ids.length cap ids a w (Nat.le_refl _) (by omega) (fun j hj => by
      rw [Nat.zero_add, h'.cellAt j (by omega)]
      simp [iV, hj])
    rw [List.take_length] at this
    rw [show decide (a ∈ ids) = ids.contains a by rw [Bool.eq_iff_iff]; simp]
    exact this

theorem own_below {w w' : World} {B n : Nat} {v : Value} {xs : List Value} (h : w.ownsRow B 3 1 v n xs) (hb : Below w.heap.size w w') : w'.ownsRow B 3 1 v n xs := by
  refine ⟨h.1, ?_⟩
  rcases h.2 with e | ⟨g, cap, cur, e, hB, hg, rest⟩
  · exact .inl e
  · exact .inr ⟨g, cap, cur, e, hB, (hb.block g (Array.getElem?_eq_some_iff.1 hg).1).trans hg, rest⟩
theorem one_int (n : Int) : ∀ u ∈ [Value.int .i64 n], u.oneCell' = true := by
  intro u hu; rw [List.mem_singleton.1 hu]; rfl

set_option maxHeartbeats 4000000 in
set_option maxRecDepth 100000 in
theorem refCheckBook_any (p p' : Option Addr) (c c' : Nat) (bids asks : List Odr) (w : World) (h : ORow w p bids) (h' : ORow w p' asks) (hn : bids.length ≤ 140737488351232) (hn' : asks.length ≤ 140737488351232) :
    Calls Try.prog 34 #[.agg #[.slice p bids.length c, .slice p' asks.length c']] w fun e w' => e = .returned (.int .i64 (bookErr bids asks)) ∧ Below w.heap.size w w' := by
  have mixed : Try.prog.follows .mixedOrders = true := by kernel_rfl
  obtain ⟨i0, hi, hz0, hz1, hz2⟩ := info_parts (show (Try.prog.info? 3).map (fun i => (i.zero, i.size, i.bytes)) = some (some (.int .i64 0), 1, 8) by kernel_rfl)
  generalize hr : bookErr bids asks = r
  have R := hide hr
  clear hr
  have H := hide h
  have H' := hide h'
  clear h h'
  have hfew : Hid (40 < bids.length + asks.length → r = 2) := fun h => by rw [← R.out]; unfold bookErr; rw [if_pos h]
  have hb0 : Hid (¬ 40 < bids.length + asks.length → ∀ x, sideErr 1 none [] bids = x → ¬ x = 0 → r = x) := fun h1 x hx h2 => by rw [← R.out]; unfold bookErr; rw [if_neg h1, hx, if_pos h2]
  have ha0 : Hid (¬ 40 < bids.length + asks.length → sideErr 1 none [] bids = 0 → ∀ x, sideErr (-1) none (bids.map oid) asks = x → ¬ x = 0 → r = x) := fun h1 h2 x hx h3 => by rw [← R.out]; unfold bookErr; rw [if_neg h1, if_neg (fun e => e h2), hx, if_pos h3]
  have hx0 : Hid (¬ 40 < bids.length + asks.length → sideErr 1 none [] bids = 0 → sideErr (-1) none (bids.map oid) asks = 0 → r = if crossed bids asks = true then 4 else 0) := fun h1 h2 h3 => by rw [← R.out]; unfold bookErr; rw [if_neg h1, if_neg (fun e => e h2), if_neg (fun e => e h3)]
  generalize hnb : bids.length = nb at hn hfew hb0 ha0 hx0 ⊢
  generalize hna : asks.length = na at hn' hfew hb0 ha0 hx0 ⊢
  have NB := hide hnb
  have NA := hide hna
  clear hnb hna R
  go_enter Try.func34, Try.ntmps34
  by_cases hmany : 40 < nb + na
  · have hm2 : (40 : Int) < (nb : Int) + (na : Int) := by omega
    have HR := hide (hfew.out hmany)
    go_wp2
    go_ret
    exact ⟨by rw [HR.out]; rfl, (Below.refl _ _).alloc (Nat.le_refl _) _⟩
  · have hm2 : ¬ (40 : Int) < (nb : Int) + (na : Int) := by omega
    have hb1 := hide (hb0.out hmany)
    have ha1 := hide (ha0.out hmany)
    have hx1 := hide (hx0.out hmany)
    clear hfew hb0 ha0 hx0
    go_wp2_with fail
    obtain ⟨W, hW⟩ : ∃ W, W = (w.alloc (.cells #[.slice p nb c, .slice p' na c'] 42)).alloc (.cells #[.slice p nb c, .slice p' na c'] 40) := ⟨_, rfl⟩
    have BW : Hid (Below w.heap.size w W) := by rw [hW]; exact ((Below.refl _ w).alloc (Nat.le_refl _) _).alloc (by simp) _
    have e0 : W.cell? ⟨w.heap.size, 0, none⟩ = some (.slice p nb c) := by rw [hW]; exact cell_alloc (new_cell _ _ _ _ _ rfl) _
    have e1 : W.cell? ⟨w.heap.size, 1, none⟩ = some (.slice p' na c') := by rw [hW]; exact cell_alloc (new_cell _ _ _ _ _ rfl) _
    have e2 : W.cell? ⟨w.heap.size + 1, 0, none⟩ = some (.slice p nb c) := by rw [hW]; exact new_cell2 _ _ _ _ _ _ rfl
    have e3 : W.cell? ⟨w.heap.size + 1, 1, none⟩ = some (.slice p' na c') := by rw [hW]; exact new_cell2 _ _ _ _ _ _ rfl
    have KEEP : Hid (∀ x, Below W.heap.size W x → x.cell? ⟨w.heap.size, 0, none⟩ = some (.slice p nb c) ∧ x.cell? ⟨w.heap.size, 1, none⟩ = some (.slice p' na c') ∧ x.cell? ⟨w.heap.size + 1, 0, none⟩ = some (.slice p nb c) ∧ x.cell? ⟨w.heap.size + 1, 1, none⟩ = some (.slice p' na c')) := fun x hx =>
      have k := fun ad v (he : W.cell? ad = some v) => (hx.cell (World.block_lt_of_cell? _ _ he)).trans he
      ⟨k _ _ e0, k _ _ e1, k _ _ e2, k _ _ e3⟩
    rw [← hW]
    clear hW e0 e1 e2 e3
    go_loopw [3, 23] (fun v vi wr => Hid (Below W.heap.size W wr) ∧ ((vi = .int .i64 0 ∧ Hid (wr.ownsRow W.heap.size 3 1 v ([] : List Int).length (iV []))) ∨ (vi = .int .i64 1 ∧ Hid (wr.ownsRow W.heap.size 3 1 v (bids.map oid).length (iV (bids.map oid))) ∧ Hid (sideErr 1 none [] bids = 0)) ∨ (vi = .int .i64 2 ∧ Hid (sideErr 1 none [] bids = 0) ∧ Hid (sideErr (-1) none (bids.map oid) asks = 0)))) (fun _ vi _ => 2 - (intOf vi).toNat)
    case atStart => exact ⟨hide (Below.refl _ _), .inl ⟨rfl, hide (World.ownsRow_nil _ _ _ _)⟩⟩
    case round =>
      obtain ⟨wo, hwo⟩ : ∃ wo, wo = wr := ⟨_, rfl⟩
      subst hwo
      obtain ⟨BO, ⟨rfl, OS⟩ | ⟨rfl, OS, HZ⟩ | ⟨rfl, HZ, HZ'⟩⟩ := hrel
      · obtain ⟨-, -, K0, K1⟩ := KEEP.out wo BO.out
        obtain ⟨xs, hxs⟩ : ∃ xs, xs = bids := ⟨_, rfl⟩
        obtain ⟨seen, hse⟩ : ∃ seen : List Int, seen = [] := ⟨_, rfl⟩
        obtain ⟨rs, hrs⟩ : ∃ rs, sideErr 1 none seen xs = rs := ⟨_, rfl⟩
        have NX : Hid (xs.length = nb) := by rw [hxs]; exact NB
        have HX : Hid (ORow w p xs) := by rw [hxs]; exact H
        have RB : Hid (∀ x, rs = x → ¬ x = 0 → r = x) := fun x hx h0 => hb1.out x (by rw [← hx, ← hrs, hxs, hse]) h0
        have RS : Hid (sideAt 1 seen xs 0 = rs) := (sideAt_zero _ _ _).trans hrs
        have hsl : seen.length ≤ 40 := by rw [hse]; simp
        have NEXT : Hid (∀ (v : Value) (x : World), rs = 0 → x.ownsRow W.heap.size 3 1 v (seen ++ xs.map oid).length (iV (seen ++ xs.map oid)) → Hid (x.ownsRow W.heap.size 3 1 v (bids.map oid).length (iV (bids.map oid))) ∧ Hid (sideErr 1 none [] bids = 0)) := fun v x h0 ho => by
          rw [hse, List.nil_append, hxs] at ho
          exact ⟨ho, by rw [← hxs, ← hse]; exact hrs.trans h0⟩
        rw [← hse] at OS
        clear hxs hse hrs
        go_wp2_with fail
        go_loopw [3, 30] (fun v vi wr => ∃ k : Nat, vi = .int .i64 k ∧ k ≤ nb ∧ Hid (wr.ownsRow W.heap.size 3 1 v (seen ++ (xs.take k).map oid).length (iV (seen ++ (xs.take k).map oid))) ∧ Hid (Below W.heap.size W wr) ∧ Hid (sideAt 1 seen xs k = rs)) (fun _ vi _ => nb - (intOf vi).toNat)
        case atStart => exact ⟨0, rfl, Nat.zero_le _, by simpa using OS, BO, RS⟩
        case round =>
          obtain ⟨k, rfl, hk, O, BWr, R⟩ := hrel
          have B0 := hide (BW.out.trans (BWr.out.mono BW.out.size))
          have hIl : (seen ++ (xs.take k).map oid).length ≤ 80 := by rw [List.length_append, List.length_map, List.length_take]; omega
          by_cases hlt : k < nb
          · have hltz : (k : Int) < nb := by omega
            have hkx : k < xs.length := by rw [NX.out]; exact hlt
            obtain ⟨b, off, hpe, hc⟩ : ∃ b off, p = some ⟨b, off, none⟩ ∧ ∀ j, j < xs.length → ∀ i v, (Bk.enc xs[j]!)[i]? = some v → w.cell? ⟨b, off + j * 5 + i, none⟩ = some v := HX.out.resolve_left (fun e => by rw [e] at hkx; simp at hkx)
            subst hpe
            have HC := hide hc
            clear hc
            have hbw : b < w.heap.size := World.block_lt_of_cell? w _ (HC.out k hkx 0 _ rfl)
            have HBW := hide hbw
            clear hbw
            obtain ⟨c0, c1, c2, c3, c4⟩ := orow_cells (w := wr) (b := b) (off := off) (xs := xs) (fun j hj i v hv => (B0.out.cell HBW.out).trans (HC.out j hj i v hv)) hkx
            generalize hx : xs[k]! = x at c0 c1 c2 c3 c4
            have X := hide hx
            clear hx
            obtain ⟨a, ac, sd, pr, q⟩ := x
            dsimp only [oid, oac, osd, opr, oqt] at c0 c1 c2 c3 c4
            by_cases hok : okOrder (a, ac, sd, pr, q) = 0
            · go_wp2_with fail
              refine (refCheckOrder_grow _ _ _ _ _ _).mono ?_
              rintro e w' ⟨rfl, q1, os1, hw⟩
              rw [hok]
              have B2 : Hid (Below wr.heap.size wr w') := hide (by rw [hw]; exact box_below _ _ _ _)
              have e0 : ∀ n os, (grow (w'.drewN n) os).cell? ⟨wr.heap.size, 0, none⟩ = some (.int .i64 a) := fun n os => by rw [hw]; exact cell_grown (by simp [grow]; omega) (box_cell _ _ _ _ _ _ _ rfl) n os
              have e1 : ∀ n os, (grow (w'.drewN n) os).cell? ⟨wr.heap.size, 1, none⟩ = some (.int .i64 ac) := fun n os => by rw [hw]; exact cell_grown (by simp [grow]; omega) (box_cell _ _ _ _ _ _ _ rfl) n os
              have e2 : ∀ n os, (grow (w'.drewN n) os).cell? ⟨wr.heap.size, 2, none⟩ = some (.int .i64 sd) := fun n os => by rw [hw]; exact cell_grown (by simp [grow]; omega) (box_cell _ _ _ _ _ _ _ rfl) n os
              have e3 : ∀ n os, (grow (w'.drewN n) os).cell? ⟨wr.heap.size, 3, none⟩ = some (.int .i64 pr) := fun n os => by rw [hw]; exact cell_grown (by simp [grow]; omega) (box_cell _ _ _ _ _ _ _ rfl) n os
              have e4 : ∀ n os, (grow (w'.drewN n) os).cell? ⟨wr.heap.size, 4, none⟩ = some (.int .i64 q) := fun n os => by rw [hw]; exact cell_grown (by simp [grow]; omega) (box_cell _ _ _ _ _ _ _ rfl) n os
              clear hw c0 c1 c2 c3 c4
              generalize w' = W2 at B2 e0 e1 e2 e3 e4 ⊢
              by_cases hs : sd = 1
              · have hs' : (sd != 1) = false := by simp [hs]
                have HS := hide hs
                clear hs
                by_cases hk0 : k = 0
                · have HA : Hid (k = 0 ∨ Bk.ahead xs[k - 1]! xs[k]! = true) := .inl hk0
                  have hk1 : decide (0 < k) = false := by simp; omega
                  have HK := hide hk0
                  clear hk0
                  go_wp2_with fail
                  refine wp_region_quiet_grown (by assumption) (by kernel_rfl) ?_
                  repeat (go_big_quiet_step (fail))
                  refine wpQuiet_nil ?_
                  intro _ hwq
                  obtain ⟨⟨nq, osq⟩, hwq'⟩ := hwq
                  subst hwq'
                  have d0 : (grow (W2.drewN nq) osq).cell? ⟨wr.heap.size, 0, none⟩ = some (.int .i64 a) := e0 nq osq
                  have O3 := hide (own_below O.out (B2.out.trans ((grow_below W2 nq osq).mono B2.out.size)))
                  have B3 := hide (B2.out.trans ((grow_below W2 nq osq).mono B2.out.size))
                  clear e0 e1 e2 e3 e4 B2
                  generalize grow (W2.drewN nq) osq = W3 at O3 B3 d0 ⊢
                  generalize hI : seen ++ (xs.take k).map oid = I at O3 hIl
                  have HI := hide hI
                  clear hI
                  have CT := hide (contains_own a O3.out (by omega))
                  by_cases hin : a ∈ I
                  · rw [decide_eq_true hin] at CT
                    have hrr : r = 6 := RB.out 6 (by rw [← R.out]; exact sideAt_twice hkx (by rw [X.out]; exact hok) (by rw [X.out]; exact HS.out) HA.out (by rw [X.out, HI.out]; exact hin)) (by decide)
                    have HR := hide hrr
                    have BX := hide (B0.out.trans (B3.out.mono B0.out.size))
                    clear hrr hin
                    go_wp2_with (go_at_call 80; refine CT.out.mono ?_; rintro e w' ⟨rfl, hw'⟩; rw [hw']; clear hw' w')
                    go_ret
                    exact ⟨by rw [HR.out]; rfl, BX.out⟩
                  · rw [decide_eq_false hin] at CT
                    have d1 := fun o => cell_alloc d0 o
                    have NW : Hid (∀ jj u, ([.int .i64 a] : List Value)[jj]? = some u → (W3.alloc (.cells #[.int .i64 a] 3)).cell? ((⟨W3.heap.size, 0, none⟩ : Addr).add jj) = some u) := fun jj u hu => by
                      rw [add_lit, Nat.zero_add]
                      exact new_cell W3 _ _ jj u (by simpa using hu)
                    have HO := hide (sideAt_on (side := 1) (seen := seen) hkx (by rw [X.out]; exact hok) (by rw [X.out]; exact HS.out) HA.out (by rw [X.out, HI.out]; exact hin))
                    have SZ := hide (show W.heap.size ≤ (W3.alloc (.cells #[.int .i64 a] 3)).heap.size by have := BWr.out.size; have := B3.out.size; simp; omega)
                    clear hin
                    go_wp2_with (first | (go_at_call 80; refine CT.out.mono ?_; rintro e w' ⟨rfl, hw'⟩; rw [hw']; clear hw' w') | (at_builtin; refine wpList_append_own _ rfl (.tmp 64) (.tmp 67) 24 rfl W.heap.size 3 i0 (.int .i64 0) 1 8 Try.underlying24 hi hz0 hz1 hz2 rfl (by decide) _ I.length (iV I) rfl (O3.out.alloc _) ⟨W3.heap.size, 0, none⟩ 1 1 [.int .i64 a] rfl rfl NW.out (one_int _) (by unfold maxLen; omega) (by omega) SZ.out ?_; intro v' w1 hown1 hgrow1 hnil1; clear hnil1))
                    have BN := hide (((BWr.out.trans (B3.out.mono BWr.out.size)).alloc (Nat.le_trans BWr.out.size B3.out.size) (.cells #[.int .i64 a] 3)).grown hgrow1 SZ.out (fun j hj => (O3.out.lt j hj).1))
                    have ON : Hid (w1.ownsRow W.heap.size 3 1 v' (seen ++ (xs.take (k + 1)).map oid).length (iV (seen ++ (xs.take (k + 1)).map oid))) := by
                      rw [ids_at seen hkx, X.out, HI.out]
                      exact hide (by simpa [iV] using hown1)
                    clear hown1 hgrow1
                    go_roundw
                    case rel => exact ⟨k + 1, by go_num, by omega, ON, BN, by rw [← R.out]; exact hide HO.out.symm⟩
                    case measure => simp [intOf]; omega
                · have hk1 : (0 : Int) < (k : Int) := by omega
                  obtain ⟨k0, hk2⟩ : ∃ k0 : Nat, k = k0 + 1 := ⟨k - 1, by omega⟩
                  have hkx1 : k - 1 < xs.length := by omega
                  obtain ⟨f0, f1, f2, f3, f4⟩ := orow_cells (w := W2) (b := b) (off := off) (xs := xs) (fun j hj i v hv => (B2.out.cell (Nat.lt_of_lt_of_le HBW.out B0.out.size)).trans ((B0.out.cell HBW.out).trans (HC.out j hj i v hv))) hkx1
                  have hbW : b < W2.heap.size := Nat.lt_of_lt_of_le HBW.out (Nat.le_trans B0.out.size B2.out.size)
                  generalize hy : xs[k - 1]! = y at f0 f1 f2 f3 f4
                  have Y := hide hy
                  clear hy
                  obtain ⟨a', ac', sd', pr', q'⟩ := y
                  dsimp only [oid, oac, osd, opr, oqt] at f0 f1 f2 f3 f4
                  have g0 := fun n os => cell_grown (a := ⟨b, off + (k - 1) * 5, none⟩) hbW f0 n os
                  have g1 := fun n os => cell_grown (a := ⟨b, off + (k - 1) * 5 + 1, none⟩) hbW f1 n os
                  have g2 := fun n os => cell_grown (a := ⟨b, off + (k - 1) * 5 + 2, none⟩) hbW f2 n os
                  have g3 := fun n os => cell_grown (a := ⟨b, off + (k - 1) * 5 + 3, none⟩) hbW f3 n os
                  have g4 := fun n os => cell_grown (a := ⟨b, off + (k - 1) * 5 + 4, none⟩) hbW f4 n os
                  clear f0 f1 f2 f3 f4 hkx1 hbW
                  have hk3 : 0 < k := by omega
                  have HK := hide hk2
                  clear hk2
                  go_wp2_with fail
                  cases hah : Bk.ahead (a', ac', sd', pr', q') (a, ac, sd, pr, q) with
                  | false =>
                    have hrr : r = 4 := RB.out 4 (by rw [← R.out]; exact sideAt_form hkx (by rw [X.out]; exact hok) hk3 (by rw [X.out, Y.out]; exact hah)) (by decide)
                    have HR := hide hrr
                    clear hrr
                    refine wp_region_quiet_grown (by assumption) (by kernel_rfl) ?_
                    repeat (go_big_quiet_step (first | (go_at_call 40; refine Calls.grown_of (hah ▸ St.isAhead_grow _ _ _ _ _ _ _ _ _ _ _))))
                    refine wpQuiet_nil ?_
                    intro _ hwq
                    obtain ⟨⟨nq, osq⟩, hwq'⟩ := hwq
                    subst hwq'
                    have BX := hide (B0.out.trans ((B2.out.trans ((grow_below W2 nq osq).mono B2.out.size)).mono B0.out.size))
                    go_wp2
                    go_ret
                    exact ⟨by rw [HR.out]; rfl, BX.out⟩
                  | true =>
                    have HA : Hid (k = 0 ∨ Bk.ahead xs[k - 1]! xs[k]! = true) := .inr (by rw [X.out, Y.out]; exact hah)
                    refine wp_region_quiet_grown (by assumption) (by kernel_rfl) ?_
                    repeat (go_big_quiet_step (first | (go_at_call 40; refine Calls.grown_of (hah ▸ St.isAhead_grow _ _ _ _ _ _ _ _ _ _ _))))
                    refine wpQuiet_nil ?_
                    intro _ hwq
                    obtain ⟨⟨nq, osq⟩, hwq'⟩ := hwq
                    subst hwq'
                    clear g0 g1 g2 g3 g4
                    have d0 : (grow (W2.drewN nq) osq).cell? ⟨wr.heap.size, 0, none⟩ = some (.int .i64 a) := e0 nq osq
                    have O3 := hide (own_below O.out (B2.out.trans ((grow_below W2 nq osq).mono B2.out.size)))
                    have B3 := hide (B2.out.trans ((grow_below W2 nq osq).mono B2.out.size))
                    clear e0 e1 e2 e3 e4 B2
                    generalize grow (W2.drewN nq) osq = W3 at O3 B3 d0 ⊢
                    generalize hI : seen ++ (xs.take k).map oid = I at O3 hIl
                    have HI := hide hI
                    clear hI
                    have CT := hide (contains_own a O3.out (by omega))
                    by_cases hin : a ∈ I
                    · rw [decide_eq_true hin] at CT
                      have hrr : r = 6 := RB.out 6 (by rw [← R.out]; exact sideAt_twice hkx (by rw [X.out]; exact hok) (by rw [X.out]; exact HS.out) HA.out (by rw [X.out, HI.out]; exact hin)) (by decide)
                      have HR := hide hrr
                      have BX := hide (B0.out.trans (B3.out.mono B0.out.size))
                      clear hrr hin
                      go_wp2_with (go_at_call 80; refine CT.out.mono ?_; rintro e w' ⟨rfl, hw'⟩; rw [hw']; clear hw' w')
                      go_ret
                      exact ⟨by rw [HR.out]; rfl, BX.out⟩
                    · rw [decide_eq_false hin] at CT
                      have d1 := fun o => cell_alloc d0 o
                      have NW : Hid (∀ jj u, ([.int .i64 a] : List Value)[jj]? = some u → (W3.alloc (.cells #[.int .i64 a] 3)).cell? ((⟨W3.heap.size, 0, none⟩ : Addr).add jj) = some u) := fun jj u hu => by
                        rw [add_lit, Nat.zero_add]
                        exact new_cell W3 _ _ jj u (by simpa using hu)
                      have HO := hide (sideAt_on (side := 1) (seen := seen) hkx (by rw [X.out]; exact hok) (by rw [X.out]; exact HS.out) HA.out (by rw [X.out, HI.out]; exact hin))
                      have SZ := hide (show W.heap.size ≤ (W3.alloc (.cells #[.int .i64 a] 3)).heap.size by have := BWr.out.size; have := B3.out.size; simp; omega)
                      clear hin
                      go_wp2_with (first | (go_at_call 80; refine CT.out.mono ?_; rintro e w' ⟨rfl, hw'⟩; rw [hw']; clear hw' w') | (at_builtin; refine wpList_append_own _ rfl (.tmp 64) (.tmp 67) 24 rfl W.heap.size 3 i0 (.int .i64 0) 1 8 Try.underlying24 hi hz0 hz1 hz2 rfl (by decide) _ I.length (iV I) rfl (O3.out.alloc _) ⟨W3.heap.size, 0, none⟩ 1 1 [.int .i64 a] rfl rfl NW.out (one_int _) (by unfold maxLen; omega) (by omega) SZ.out ?_; intro v' w1 hown1 hgrow1 hnil1; clear hnil1))
                      have BN := hide (((BWr.out.trans (B3.out.mono BWr.out.size)).alloc (Nat.le_trans BWr.out.size B3.out.size) (.cells #[.int .i64 a] 3)).grown hgrow1 SZ.out (fun j hj => (O3.out.lt j hj).1))
                      have ON : Hid (w1.ownsRow W.heap.size 3 1 v' (seen ++ (xs.take (k + 1)).map oid).length (iV (seen ++ (xs.take (k + 1)).map oid))) := by
                        rw [ids_at seen hkx, X.out, HI.out]
                        exact hide (by simpa [iV] using hown1)
                      clear hown1 hgrow1
                      go_roundw
                      case rel => exact ⟨k + 1, by go_num, by omega, ON, BN, by rw [← R.out]; exact hide HO.out.symm⟩
                      case measure => simp [intOf]; omega
              · have hs' : (sd != 1) = true := by simp [hs]
                have hrr : r = 4 := RB.out 4 (by rw [← R.out]; exact sideAt_side hkx (by rw [X.out]; exact hok) (by rw [X.out]; exact hs)) (by decide)
                have HR := hide hrr
                clear hrr
                go_wp2_with fail
                clear e0 e1 e3 e4
                refine wp_region_quiet_grown (by assumption) (by kernel_rfl) ?_
                repeat (go_big_quiet_step (fail))
                refine wpQuiet_nil ?_
                intro _ hwq
                obtain ⟨⟨nq, osq⟩, hwq'⟩ := hwq
                subst hwq'
                have BX := hide (B0.out.trans ((B2.out.trans ((grow_below W2 nq osq).mono B2.out.size)).mono B0.out.size))
                go_wp2
                go_ret
                exact ⟨by rw [HR.out]; rfl, BX.out⟩
            · have hrr : r = okOrder (a, ac, sd, pr, q) := RB.out _ (by rw [← R.out, sideAt_bad hkx (by rw [X.out]; exact hok), X.out]) hok
              have HR := hide hrr
              clear hrr
              go_wp2_with (go_at_call 38; refine (refCheckOrder_grow _ _ _ _ _ _).mono ?_; rintro e w' ⟨rfl, q1, os1, rfl⟩)
              go_ret
              exact ⟨by rw [HR.out]; rfl, B0.out.trans ((box_below _ _ _ _).mono B0.out.size)⟩
          · have hk' : k = nb := by omega
            subst hk'
            have RZ : Hid (rs = 0) := by rw [← R.out, ← NX.out]; exact hide (sideAt_end _ _ _)
            rw [show xs.take k = xs from List.take_of_length_le (by rw [NX.out]; exact Nat.le_refl _)] at O
            clear R hIl
            go_wp2
            go_roundw
            case rel => exact ⟨BWr, .inr (.inl ⟨rfl, NEXT.out _ _ RZ.out O.out⟩)⟩
            case measure => simp [intOf]
      · obtain ⟨-, -, K0, K1⟩ := KEEP.out wo BO.out
        obtain ⟨xs, hxs⟩ : ∃ xs, xs = asks := ⟨_, rfl⟩
        obtain ⟨seen, hse⟩ : ∃ seen : List Int, seen = bids.map oid := ⟨_, rfl⟩
        obtain ⟨rs, hrs⟩ : ∃ rs, sideErr (-1) none seen xs = rs := ⟨_, rfl⟩
        have NX : Hid (xs.length = na) := by rw [hxs]; exact NA
        have HX : Hid (ORow w p' xs) := by rw [hxs]; exact H'
        have RB : Hid (∀ x, rs = x → ¬ x = 0 → r = x) := fun x hx h0 => ha1.out HZ.out x (by rw [← hx, ← hrs, hxs, hse]) h0
        have RS : Hid (sideAt (-1) seen xs 0 = rs) := (sideAt_zero _ _ _).trans hrs
        have hsl : seen.length ≤ 40 := by rw [hse, List.length_map, NB.out]; omega
        have NEXT : Hid (∀ (v : Value) (x : World), rs = 0 → x.ownsRow W.heap.size 3 1 v (seen ++ xs.map oid).length (iV (seen ++ xs.map oid)) → Hid (sideErr 1 none [] bids = 0) ∧ Hid (sideErr (-1) none (bids.map oid) asks = 0)) := fun v x h0 _ => ⟨HZ, by rw [← hxs, ← hse]; exact hrs.trans h0⟩
        rw [← hse] at OS
        clear hxs hse hrs
        go_wp2_with fail
        go_loopw [3, 30] (fun v vi wr => ∃ k : Nat, vi = .int .i64 k ∧ k ≤ na ∧ Hid (wr.ownsRow W.heap.size 3 1 v (seen ++ (xs.take k).map oid).length (iV (seen ++ (xs.take k).map oid))) ∧ Hid (Below W.heap.size W wr) ∧ Hid (sideAt (-1) seen xs k = rs)) (fun _ vi _ => na - (intOf vi).toNat)
        case atStart => exact ⟨0, rfl, Nat.zero_le _, by simpa using OS, BO, RS⟩
        case round =>
          obtain ⟨k, rfl, hk, O, BWr, R⟩ := hrel
          have B0 := hide (BW.out.trans (BWr.out.mono BW.out.size))
          have hIl : (seen ++ (xs.take k).map oid).length ≤ 80 := by rw [List.length_append, List.length_map, List.length_take]; omega
          by_cases hlt : k < na
          · have hltz : (k : Int) < na := by omega
            have hkx : k < xs.length := by rw [NX.out]; exact hlt
            obtain ⟨b, off, hpe, hc⟩ : ∃ b off, p' = some ⟨b, off, none⟩ ∧ ∀ j, j < xs.length → ∀ i v, (Bk.enc xs[j]!)[i]? = some v → w.cell? ⟨b, off + j * 5 + i, none⟩ = some v := HX.out.resolve_left (fun e => by rw [e] at hkx; simp at hkx)
            subst hpe
            have HC := hide hc
            clear hc
            have hbw : b < w.heap.size := World.block_lt_of_cell? w _ (HC.out k hkx 0 _ rfl)
            have HBW := hide hbw
            clear hbw
            obtain ⟨c0, c1, c2, c3, c4⟩ := orow_cells (w := wr) (b := b) (off := off) (xs := xs) (fun j hj i v hv => (B0.out.cell HBW.out).trans (HC.out j hj i v hv)) hkx
            generalize hx : xs[k]! = x at c0 c1 c2 c3 c4
            have X := hide hx
            clear hx
            obtain ⟨a, ac, sd, pr, q⟩ := x
            dsimp only [oid, oac, osd, opr, oqt] at c0 c1 c2 c3 c4
            by_cases hok : okOrder (a, ac, sd, pr, q) = 0
            · go_wp2_with fail
              refine (refCheckOrder_grow _ _ _ _ _ _).mono ?_
              rintro e w' ⟨rfl, q1, os1, hw⟩
              rw [hok]
              have B2 : Hid (Below wr.heap.size wr w') := hide (by rw [hw]; exact box_below _ _ _ _)
              have e0 : ∀ n os, (grow (w'.drewN n) os).cell? ⟨wr.heap.size, 0, none⟩ = some (.int .i64 a) := fun n os => by rw [hw]; exact cell_grown (by simp [grow]; omega) (box_cell _ _ _ _ _ _ _ rfl) n os
              have e1 : ∀ n os, (grow (w'.drewN n) os).cell? ⟨wr.heap.size, 1, none⟩ = some (.int .i64 ac) := fun n os => by rw [hw]; exact cell_grown (by simp [grow]; omega) (box_cell _ _ _ _ _ _ _ rfl) n os
              have e2 : ∀ n os, (grow (w'.drewN n) os).cell? ⟨wr.heap.size, 2, none⟩ = some (.int .i64 sd) := fun n os => by rw [hw]; exact cell_grown (by simp [grow]; omega) (box_cell _ _ _ _ _ _ _ rfl) n os
              have e3 : ∀ n os, (grow (w'.drewN n) os).cell? ⟨wr.heap.size, 3, none⟩ = some (.int .i64 pr) := fun n os => by rw [hw]; exact cell_grown (by simp [grow]; omega) (box_cell _ _ _ _ _ _ _ rfl) n os
              have e4 : ∀ n os, (grow (w'.drewN n) os).cell? ⟨wr.heap.size, 4, none⟩ = some (.int .i64 q) := fun n os => by rw [hw]; exact cell_grown (by simp [grow]; omega) (box_cell _ _ _ _ _ _ _ rfl) n os
              clear hw c0 c1 c2 c3 c4
              generalize w' = W2 at B2 e0 e1 e2 e3 e4 ⊢
              by_cases hs : sd = (-1)
              · have hs' : (sd != (-1)) = false := by simp [hs]
                have HS := hide hs
                clear hs
                by_cases hk0 : k = 0
                · have HA : Hid (k = 0 ∨ Bk.ahead xs[k - 1]! xs[k]! = true) := .inl hk0
                  have hk1 : decide (0 < k) = false := by simp; omega
                  have HK := hide hk0
                  clear hk0
                  go_wp2_with fail
                  refine wp_region_quiet_grown (by assumption) (by kernel_rfl) ?_
                  repeat (go_big_quiet_step (fail))
                  refine wpQuiet_nil ?_
                  intro _ hwq
                  obtain ⟨⟨nq, osq⟩, hwq'⟩ := hwq
                  subst hwq'
                  have d0 : (grow (W2.drewN nq) osq).cell? ⟨wr.heap.size, 0, none⟩ = some (.int .i64 a) := e0 nq osq
                  have O3 := hide (own_below O.out (B2.out.trans ((grow_below W2 nq osq).mono B2.out.size)))
                  have B3 := hide (B2.out.trans ((grow_below W2 nq osq).mono B2.out.size))
                  clear e0 e1 e2 e3 e4 B2
                  generalize grow (W2.drewN nq) osq = W3 at O3 B3 d0 ⊢
                  generalize hI : seen ++ (xs.take k).map oid = I at O3 hIl
                  have HI := hide hI
                  clear hI
                  have CT := hide (contains_own a O3.out (by omega))
                  by_cases hin : a ∈ I
                  · rw [decide_eq_true hin] at CT
                    have hrr : r = 6 := RB.out 6 (by rw [← R.out]; exact sideAt_twice hkx (by rw [X.out]; exact hok) (by rw [X.out]; exact HS.out) HA.out (by rw [X.out, HI.out]; exact hin)) (by decide)
                    have HR := hide hrr
                    have BX := hide (B0.out.trans (B3.out.mono B0.out.size))
                    clear hrr hin
                    go_wp2_with (go_at_call 80; refine CT.out.mono ?_; rintro e w' ⟨rfl, hw'⟩; rw [hw']; clear hw' w')
                    go_ret
                    exact ⟨by rw [HR.out]; rfl, BX.out⟩
                  · rw [decide_eq_false hin] at CT
                    have d1 := fun o => cell_alloc d0 o
                    have NW : Hid (∀ jj u, ([.int .i64 a] : List Value)[jj]? = some u → (W3.alloc (.cells #[.int .i64 a] 3)).cell? ((⟨W3.heap.size, 0, none⟩ : Addr).add jj) = some u) := fun jj u hu => by
                      rw [add_lit, Nat.zero_add]
                      exact new_cell W3 _ _ jj u (by simpa using hu)
                    have HO := hide (sideAt_on (side := (-1)) (seen := seen) hkx (by rw [X.out]; exact hok) (by rw [X.out]; exact HS.out) HA.out (by rw [X.out, HI.out]; exact hin))
                    have SZ := hide (show W.heap.size ≤ (W3.alloc (.cells #[.int .i64 a] 3)).heap.size by have := BWr.out.size; have := B3.out.size; simp; omega)
                    clear hin
                    go_wp2_with (first | (go_at_call 80; refine CT.out.mono ?_; rintro e w' ⟨rfl, hw'⟩; rw [hw']; clear hw' w') | (at_builtin; refine wpList_append_own _ rfl (.tmp 64) (.tmp 67) 24 rfl W.heap.size 3 i0 (.int .i64 0) 1 8 Try.underlying24 hi hz0 hz1 hz2 rfl (by decide) _ I.length (iV I) rfl (O3.out.alloc _) ⟨W3.heap.size, 0, none⟩ 1 1 [.int .i64 a] rfl rfl NW.out (one_int _) (by unfold maxLen; omega) (by omega) SZ.out ?_; intro v' w1 hown1 hgrow1 hnil1; clear hnil1))
                    have BN := hide (((BWr.out.trans (B3.out.mono BWr.out.size)).alloc (Nat.le_trans BWr.out.size B3.out.size) (.cells #[.int .i64 a] 3)).grown hgrow1 SZ.out (fun j hj => (O3.out.lt j hj).1))
                    have ON : Hid (w1.ownsRow W.heap.size 3 1 v' (seen ++ (xs.take (k + 1)).map oid).length (iV (seen ++ (xs.take (k + 1)).map oid))) := by
                      rw [ids_at seen hkx, X.out, HI.out]
                      exact hide (by simpa [iV] using hown1)
                    clear hown1 hgrow1
                    go_roundw
                    case rel => exact ⟨k + 1, by go_num, by omega, ON, BN, by rw [← R.out]; exact hide HO.out.symm⟩
                    case measure => simp [intOf]; omega
                · have hk1 : (0 : Int) < (k : Int) := by omega
                  obtain ⟨k0, hk2⟩ : ∃ k0 : Nat, k = k0 + 1 := ⟨k - 1, by omega⟩
                  have hkx1 : k - 1 < xs.length := by omega
                  obtain ⟨f0, f1, f2, f3, f4⟩ := orow_cells (w := W2) (b := b) (off := off) (xs := xs) (fun j hj i v hv => (B2.out.cell (Nat.lt_of_lt_of_le HBW.out B0.out.size)).trans ((B0.out.cell HBW.out).trans (HC.out j hj i v hv))) hkx1
                  have hbW : b < W2.heap.size := Nat.lt_of_lt_of_le HBW.out (Nat.le_trans B0.out.size B2.out.size)
                  generalize hy : xs[k - 1]! = y at f0 f1 f2 f3 f4
                  have Y := hide hy
                  clear hy
                  obtain ⟨a', ac', sd', pr', q'⟩ := y
                  dsimp only [oid, oac, osd, opr, oqt] at f0 f1 f2 f3 f4
                  have g0 := fun n os => cell_grown (a := ⟨b, off + (k - 1) * 5, none⟩) hbW f0 n os
                  have g1 := fun n os => cell_grown (a := ⟨b, off + (k - 1) * 5 + 1, none⟩) hbW f1 n os
                  have g2 := fun n os => cell_grown (a := ⟨b, off + (k - 1) * 5 + 2, none⟩) hbW f2 n os
                  have g3 := fun n os => cell_grown (a := ⟨b, off + (k - 1) * 5 + 3, none⟩) hbW f3 n os
                  have g4 := fun n os => cell_grown (a := ⟨b, off + (k - 1) * 5 + 4, none⟩) hbW f4 n os
                  clear f0 f1 f2 f3 f4 hkx1 hbW
                  have hk3 : 0 < k := by omega
                  have HK := hide hk2
                  clear hk2
                  go_wp2_with fail
                  cases hah : Bk.ahead (a', ac', sd', pr', q') (a, ac, sd, pr, q) with
                  | false =>
                    have hrr : r = 4 := RB.out 4 (by rw [← R.out]; exact sideAt_form hkx (by rw [X.out]; exact hok) hk3 (by rw [X.out, Y.out]; exact hah)) (by decide)
                    have HR := hide hrr
                    clear hrr
                    refine wp_region_quiet_grown (by assumption) (by kernel_rfl) ?_
                    repeat (go_big_quiet_step (first | (go_at_call 40; refine Calls.grown_of (hah ▸ St.isAhead_grow _ _ _ _ _ _ _ _ _ _ _))))
                    refine wpQuiet_nil ?_
                    intro _ hwq
                    obtain ⟨⟨nq, osq⟩, hwq'⟩ := hwq
                    subst hwq'
                    have BX := hide (B0.out.trans ((B2.out.trans ((grow_below W2 nq osq).mono B2.out.size)).mono B0.out.size))
                    go_wp2
                    go_ret
                    exact ⟨by rw [HR.out]; rfl, BX.out⟩
                  | true =>
                    have HA : Hid (k = 0 ∨ Bk.ahead xs[k - 1]! xs[k]! = true) := .inr (by rw [X.out, Y.out]; exact hah)
                    refine wp_region_quiet_grown (by assumption) (by kernel_rfl) ?_
                    repeat (go_big_quiet_step (first | (go_at_call 40; refine Calls.grown_of (hah ▸ St.isAhead_grow _ _ _ _ _ _ _ _ _ _ _))))
                    refine wpQuiet_nil ?_
                    intro _ hwq
                    obtain ⟨⟨nq, osq⟩, hwq'⟩ := hwq
                    subst hwq'
                    clear g0 g1 g2 g3 g4
                    have d0 : (grow (W2.drewN nq) osq).cell? ⟨wr.heap.size, 0, none⟩ = some (.int .i64 a) := e0 nq osq
                    have O3 := hide (own_below O.out (B2.out.trans ((grow_below W2 nq osq).mono B2.out.size)))
                    have B3 := hide (B2.out.trans ((grow_below W2 nq osq).mono B2.out.size))
                    clear e0 e1 e2 e3 e4 B2
                    generalize grow (W2.drewN nq) osq = W3 at O3 B3 d0 ⊢
                    generalize hI : seen ++ (xs.take k).map oid = I at O3 hIl
                    have HI := hide hI
                    clear hI
                    have CT := hide (contains_own a O3.out (by omega))
                    by_cases hin : a ∈ I
                    · rw [decide_eq_true hin] at CT
                      have hrr : r = 6 := RB.out 6 (by rw [← R.out]; exact sideAt_twice hkx (by rw [X.out]; exact hok) (by rw [X.out]; exact HS.out) HA.out (by rw [X.out, HI.out]; exact hin)) (by decide)
                      have HR := hide hrr
                      have BX := hide (B0.out.trans (B3.out.mono B0.out.size))
                      clear hrr hin
                      go_wp2_with (go_at_call 80; refine CT.out.mono ?_; rintro e w' ⟨rfl, hw'⟩; rw [hw']; clear hw' w')
                      go_ret
                      exact ⟨by rw [HR.out]; rfl, BX.out⟩
                    · rw [decide_eq_false hin] at CT
                      have d1 := fun o => cell_alloc d0 o
                      have NW : Hid (∀ jj u, ([.int .i64 a] : List Value)[jj]? = some u → (W3.alloc (.cells #[.int .i64 a] 3)).cell? ((⟨W3.heap.size, 0, none⟩ : Addr).add jj) = some u) := fun jj u hu => by
                        rw [add_lit, Nat.zero_add]
                        exact new_cell W3 _ _ jj u (by simpa using hu)
                      have HO := hide (sideAt_on (side := (-1)) (seen := seen) hkx (by rw [X.out]; exact hok) (by rw [X.out]; exact HS.out) HA.out (by rw [X.out, HI.out]; exact hin))
                      have SZ := hide (show W.heap.size ≤ (W3.alloc (.cells #[.int .i64 a] 3)).heap.size by have := BWr.out.size; have := B3.out.size; simp; omega)
                      clear hin
                      go_wp2_with (first | (go_at_call 80; refine CT.out.mono ?_; rintro e w' ⟨rfl, hw'⟩; rw [hw']; clear hw' w') | (at_builtin; refine wpList_append_own _ rfl (.tmp 64) (.tmp 67) 24 rfl W.heap.size 3 i0 (.int .i64 0) 1 8 Try.underlying24 hi hz0 hz1 hz2 rfl (by decide) _ I.length (iV I) rfl (O3.out.alloc _) ⟨W3.heap.size, 0, none⟩ 1 1 [.int .i64 a] rfl rfl NW.out (one_int _) (by unfold maxLen; omega) (by omega) SZ.out ?_; intro v' w1 hown1 hgrow1 hnil1; clear hnil1))
                      have BN := hide (((BWr.out.trans (B3.out.mono BWr.out.size)).alloc (Nat.le_trans BWr.out.size B3.out.size) (.cells #[.int .i64 a] 3)).grown hgrow1 SZ.out (fun j hj => (O3.out.lt j hj).1))
                      have ON : Hid (w1.ownsRow W.heap.size 3 1 v' (seen ++ (xs.take (k + 1)).map oid).length (iV (seen ++ (xs.take (k + 1)).map oid))) := by
                        rw [ids_at seen hkx, X.out, HI.out]
                        exact hide (by simpa [iV] using hown1)
                      clear hown1 hgrow1
                      go_roundw
                      case rel => exact ⟨k + 1, by go_num, by omega, ON, BN, by rw [← R.out]; exact hide HO.out.symm⟩
                      case measure => simp [intOf]; omega
              · have hs' : (sd != (-1)) = true := by simp [hs]
                have hrr : r = 4 := RB.out 4 (by rw [← R.out]; exact sideAt_side hkx (by rw [X.out]; exact hok) (by rw [X.out]; exact hs)) (by decide)
                have HR := hide hrr
                clear hrr
                go_wp2_with fail
                clear e0 e1 e3 e4
                refine wp_region_quiet_grown (by assumption) (by kernel_rfl) ?_
                repeat (go_big_quiet_step (fail))
                refine wpQuiet_nil ?_
                intro _ hwq
                obtain ⟨⟨nq, osq⟩, hwq'⟩ := hwq
                subst hwq'
                have BX := hide (B0.out.trans ((B2.out.trans ((grow_below W2 nq osq).mono B2.out.size)).mono B0.out.size))
                go_wp2
                go_ret
                exact ⟨by rw [HR.out]; rfl, BX.out⟩
            · have hrr : r = okOrder (a, ac, sd, pr, q) := RB.out _ (by rw [← R.out, sideAt_bad hkx (by rw [X.out]; exact hok), X.out]) hok
              have HR := hide hrr
              clear hrr
              go_wp2_with (go_at_call 38; refine (refCheckOrder_grow _ _ _ _ _ _).mono ?_; rintro e w' ⟨rfl, q1, os1, rfl⟩)
              go_ret
              exact ⟨by rw [HR.out]; rfl, B0.out.trans ((box_below _ _ _ _).mono B0.out.size)⟩
          · have hk' : k = na := by omega
            subst hk'
            have RZ : Hid (rs = 0) := by rw [← R.out, ← NX.out]; exact hide (sideAt_end _ _ _)
            rw [show xs.take k = xs from List.take_of_length_le (by rw [NX.out]; exact Nat.le_refl _)] at O
            clear R hIl
            go_wp2
            go_roundw
            case rel => exact ⟨BWr, .inr (.inr ⟨rfl, NEXT.out u3 _ RZ.out O.out⟩)⟩
            case measure => simp [intOf]
      · obtain ⟨k0, k1, -, -⟩ := KEEP.out wo BO.out
        have B4 := hide (BW.out.trans (BO.out.mono BW.out.size))
        have hr4 := hide (hx1.out HZ.out HZ'.out)
        have s3 : w.heap.size < wo.heap.size := World.block_lt_of_cell? _ _ k0
        have m0 := fun n os => cell_grown (a := ⟨w.heap.size, 0, none⟩) s3 k0 n os
        have m1 := fun n os => cell_grown (a := ⟨w.heap.size, 1, none⟩) s3 k1 n os
        by_cases hbn : bids = []
        · have hnb0 : nb = 0 := by rw [← NB.out, hbn]; rfl
          have hcr : crossed bids asks = false := by rw [hbn]; rfl
          have hnd : decide (0 < nb) = false := by rw [hnb0]; rfl
          have hr5 := hr4.out
          rw [hcr] at hr5
          have HR := hide hr5
          clear hr5 hbn hnb0 hcr
          go_wp2_with fail
          refine wp_region_quiet_grown (by assumption) (by kernel_rfl) ?_
          repeat (go_big_quiet_step (fail))
          refine wpQuiet_nil ?_
          intro _ hwq
          obtain ⟨⟨nq, osq⟩, hwq'⟩ := hwq
          subst hwq'
          have BX := hide (B4.out.trans ((grow_below wo nq osq).mono B4.out.size))
          go_wp2
          go_ret
          exact ⟨by rw [HR.out]; rfl, BX.out⟩
        · have hpos := List.length_pos_iff.2 hbn
          obtain ⟨x, bs, hbx⟩ := List.exists_cons_of_ne_nil hbn
          have hnd : 0 < nb := by rw [← NB.out]; exact hpos
          have hxb : bids[0]! = x := by rw [hbx]; rfl
          have hsx : osd x = 1 := (sideErr_zero _ _ _ HZ.out).2.1 x (by rw [hbx]; exact List.mem_cons_self)
          by_cases han : asks = []
          · have hna0 : na = 0 := by rw [← NA.out, han]; rfl
            have hcr : crossed bids asks = false := by rw [hbx, han]; rfl
            have hnd' : decide (0 < na) = false := by rw [hna0]; rfl
            have hr5 := hr4.out
            rw [hcr] at hr5
            have HR := hide hr5
            clear hr5 hbn hna0 hcr han hsx hxb hbx hpos
            go_wp2_with fail
            refine wp_region_quiet_grown (by assumption) (by kernel_rfl) ?_
            repeat (go_big_quiet_step (fail))
            refine wpQuiet_nil ?_
            intro _ hwq
            obtain ⟨⟨nq, osq⟩, hwq'⟩ := hwq
            subst hwq'
            have BX := hide (B4.out.trans ((grow_below wo nq osq).mono B4.out.size))
            go_wp2
            go_ret
            exact ⟨by rw [HR.out]; rfl, BX.out⟩
          · have hpos' := List.length_pos_iff.2 han
            obtain ⟨y, ls, hay⟩ := List.exists_cons_of_ne_nil han
            have hnd' : 0 < na := by rw [← NA.out]; exact hpos'
            have hya : asks[0]! = y := by rw [hay]; rfl
            obtain ⟨b, off, hpe, hc⟩ := H.out.resolve_left hbn
            obtain ⟨b', off', hpe', hc'⟩ := H'.out.resolve_left han
            subst hpe
            subst hpe'
            have hbl : b < w.heap.size := World.block_lt_of_cell? w _ (hc 0 hpos 0 _ rfl)
            have hbl' : b' < w.heap.size := World.block_lt_of_cell? w _ (hc' 0 hpos' 0 _ rfl)
            obtain ⟨-, -, -, c3, -⟩ := orow_cells (w := wo) (b := b) (off := off) (xs := bids) (fun j hj i v hv => (B4.out.cell hbl).trans (hc j hj i v hv)) hpos
            obtain ⟨-, -, -, c3', -⟩ := orow_cells (w := wo) (b := b') (off := off') (xs := asks) (fun j hj i v hv => (B4.out.cell hbl').trans (hc' j hj i v hv)) hpos'
            rw [hxb] at c3
            rw [hya] at c3'
            simp only [Nat.zero_mul, Nat.add_zero] at c3 c3'
            have hcr : crossed bids asks = decide (opr y ≤ opr x) := by
              rw [hbx, hay]; unfold crossed crosses; dsimp only; rw [if_pos hsx]
            have hr5 := hr4.out
            rw [hcr] at hr5
            have HR := hide hr5
            have n3 := fun n os => cell_grown (a := ⟨b, off + 3, none⟩) (Nat.lt_of_lt_of_le hbl B4.out.size) c3 n os
            have n3' := fun n os => cell_grown (a := ⟨b', off' + 3, none⟩) (Nat.lt_of_lt_of_le hbl' B4.out.size) c3' n os
            generalize opr x = px at n3 HR
            generalize opr y = py at n3' HR
            clear hr5 hbn hcr han hsx hxb hbx hpos hya hay hpos' hc hc' c3 c3' hbl hbl'
            by_cases hle : py ≤ px
            · rw [decide_eq_true hle] at HR
              go_wp2_with fail
              refine wp_region_quiet_grown (by assumption) (by kernel_rfl) ?_
              repeat (go_big_quiet_step (fail))
              refine wpQuiet_nil ?_
              intro _ hwq
              obtain ⟨⟨nq, osq⟩, hwq'⟩ := hwq
              subst hwq'
              have BX := hide (B4.out.trans ((grow_below wo nq osq).mono B4.out.size))
              go_wp2
              go_ret
              exact ⟨by rw [HR.out]; rfl, BX.out⟩
            · rw [decide_eq_false hle] at HR
              go_wp2_with fail
              refine wp_region_quiet_grown (by assumption) (by kernel_rfl) ?_
              repeat (go_big_quiet_step (fail))
              refine wpQuiet_nil ?_
              intro _ hwq
              obtain ⟨⟨nq, osq⟩, hwq'⟩ := hwq
              subst hwq'
              have BX := hide (B4.out.trans ((grow_below wo nq osq).mono B4.out.size))
              go_wp2
              go_ret
              exact ⟨by rw [HR.out]; rfl, BX.out⟩
end Go.Proofs.Ytbphljnncbiddaa.Rk
