/-
  Package book by contracts: checkSide.
-/
import Derived.Test.YtbphljnncbiddaaBkSideP
import Derived.Shelf.SlSortCmp.QuietGrown
namespace Go.Proofs.Ytbphljnncbiddaa.Bk
open Go.RowKit Go.Sort Go.Maps

theorem ownsSet_below {S : Nat} {w w' : World} {B m : Nat} {ids : List Int} (h : OwnsSet w B m ids) (hb : Below S w w') (hB : B < S) : OwnsSet w' B m ids := by
  obtain ⟨es, clock, h1, rest⟩ := h
  exact ⟨es, clock, (hb.block B hB).trans h1, rest⟩
theorem box_below (w : World) (o : Obj) (q : Nat) (os : Array Obj) : Below w.heap.size w (grow ((w.alloc o).drewN q) os) :=
  ((Below.refl _ w).alloc (Nat.le_refl _) o).trans ((grow_below (w.alloc o) q os).mono (by simp))
theorem box_cell (w : World) (cs : Array Value) (t : TypeId) (q : Nat) (os : Array Obj) (i : Nat) (v : Value) (h : cs[i]? = some v) : (grow ((w.alloc (.cells cs t)).drewN q) os).cell? ⟨w.heap.size, i, none⟩ = some v := by
  refine cell_grown (by simp) ?_ q os
  rw [World.cell?_alloc_at _ _ _ _ (by simp)]
  exact h

set_option maxHeartbeats 2000000 in
set_option maxRecDepth 100000 in
theorem checkSide_some (b off c : Nat) (xs : List Odr) (side : Int) (B m : Nat) (seen : List Int) (w : World) (hB : b < B) (hown0 : OwnsSet w B m seen) (hlen : xs.length ≤ 40) (hm : m ≤ 40)
    (hc : ∀ j, j < xs.length → ∀ i v, (enc xs[j]!)[i]? = some v → w.cell? ⟨b, off + j * 5 + i, none⟩ = some v) :
    Calls Try.prog 82 #[.slice (some ⟨b, off, none⟩) xs.length c, .int .i64 side, .map (some B)] w fun e w' =>
      e = .returned (.int .i64 (sideErr side none seen xs)) ∧ Below B w w' ∧ (sideErr side none seen xs = 0 → OwnsSet w' B (m + xs.length) (seen ++ xs.map oid)) := by
  have mixed : Try.prog.follows .mixedOrders = true := by kernel_rfl
  rw [← sideAt_zero]
  generalize hr : sideAt side seen xs 0 = r
  have R0 := hide hr
  clear hr
  have HC := hide hc
  clear hc
  generalize hn : xs.length = n at hlen ⊢
  have N := hide hn
  clear hn
  have O0 := hide hown0
  clear hown0
  go_enter Try.func82, Try.ntmps82
  go_wp2
  go_loopw [14] (fun i wr => ∃ k : Nat, k ≤ n ∧ i = .int .i64 k ∧ Hid (OwnsSet wr B (m + k) (seen ++ (xs.take k).map oid)) ∧ Hid (Below B w wr) ∧ Hid (sideAt side seen xs k = r)) (fun i _ => n - (intOf i).toNat)
  case atStart => exact ⟨0, Nat.zero_le _, rfl, by simpa [Hid] using O0, Below.refl _ _, R0⟩
  case round =>
    obtain ⟨k, hk, rfl, O, BW, R⟩ := hrel
    by_cases hlt : k < n
    · have hltz : (k : Int) < (n : Int) := by omega
      have hkx : k < xs.length := by rw [N.out]; exact hlt
      obtain ⟨c0, c1, c2, c3, c4⟩ := orow_cells (w := wr) (b := b) (off := off) (xs := xs) (fun j hj i v hv => (BW.out.cell hB).trans (HC.out j hj i v hv)) hkx
      generalize hx : xs[k]! = x at c0 c1 c2 c3 c4
      have X := hide hx
      clear hx
      obtain ⟨a, ac, sd, pr, q⟩ := x
      dsimp only [oid, oac, osd, opr, oqt] at c0 c1 c2 c3 c4
      by_cases hok : okOrder (a, ac, sd, pr, q) = 0
      · have hBr : B < wr.heap.size := ownsSet_lt O.out
        go_wp2_with fail
        refine (checkOrder_grow _ _ _ _ _ _).mono ?_
        rintro e w' ⟨rfl, q1, os1, hw⟩
        rw [hok]
        have B2 : Hid (Below wr.heap.size wr w') := hide (by rw [hw]; exact box_below _ _ _ _)
        have O2 := hide (ownsSet_below O.out B2.out hBr)
        have e0 : ∀ n os, (grow (w'.drewN n) os).cell? ⟨wr.heap.size, 0, none⟩ = some (.int .i64 a) := fun n os => by rw [hw]; exact cell_grown (by simp [grow]; omega) (box_cell _ _ _ _ _ _ _ rfl) n os
        have e1 : ∀ n os, (grow (w'.drewN n) os).cell? ⟨wr.heap.size, 1, none⟩ = some (.int .i64 ac) := fun n os => by rw [hw]; exact cell_grown (by simp [grow]; omega) (box_cell _ _ _ _ _ _ _ rfl) n os
        have e2 : ∀ n os, (grow (w'.drewN n) os).cell? ⟨wr.heap.size, 2, none⟩ = some (.int .i64 sd) := fun n os => by rw [hw]; exact cell_grown (by simp [grow]; omega) (box_cell _ _ _ _ _ _ _ rfl) n os
        have e3 : ∀ n os, (grow (w'.drewN n) os).cell? ⟨wr.heap.size, 3, none⟩ = some (.int .i64 pr) := fun n os => by rw [hw]; exact cell_grown (by simp [grow]; omega) (box_cell _ _ _ _ _ _ _ rfl) n os
        have e4 : ∀ n os, (grow (w'.drewN n) os).cell? ⟨wr.heap.size, 4, none⟩ = some (.int .i64 q) := fun n os => by rw [hw]; exact cell_grown (by simp [grow]; omega) (box_cell _ _ _ _ _ _ _ rfl) n os
        clear hw c0 c1 c2 c3 c4
        generalize w' = W2 at B2 O2 e0 e1 e2 e3 e4 ⊢
        by_cases hs : sd = side
        · have hs' : (sd != side) = false := by simp [hs]
          have HS := hide hs
          clear hs
          by_cases hk0 : k = 0
          · have HA : Hid (k = 0 ∨ ahead xs[k - 1]! xs[k]! = true) := .inl hk0
            have hk1 : decide (0 < k) = false := by simp; omega
            have HK := hide hk0
            clear hk0
            go_wp2_with fail
            refine wp_region_quiet_grown (by assumption) (by kernel_rfl) ?_
            repeat (go_big_quiet_step (fail))
            refine wpQuiet_nil ?_
            intro _ hwq
            obtain ⟨⟨nq, osq⟩, hwq'⟩ := hwq
            subst hwq'
            have O3 := hide (ownsSet_below O2.out (grow_below W2 nq osq) (Nat.lt_of_lt_of_le hBr B2.out.size))
            have B3 := hide (B2.out.trans ((grow_below W2 nq osq).mono B2.out.size))
            have d0 : (grow (W2.drewN nq) osq).cell? ⟨wr.heap.size, 0, none⟩ = some (.int .i64 a) := e0 nq osq
            clear e0 e1 e2 e3 e4 O2 B2
            generalize grow (W2.drewN nq) osq = W3 at O3 B3 d0 ⊢
            have hBW := Nat.lt_of_lt_of_le hBr B3.out.size
            have d1 : ∀ o, (W3.alloc o).cell? ⟨wr.heap.size, 0, none⟩ = some (.int .i64 a) := fun o => by rw [alloc_eq_grow]; exact (cell?_grow W3 #[o] _ (World.block_lt_of_cell? _ _ d0)).trans d0
            have hkey := keyI (okOrder_id hok)
            dsimp only [oid] at hkey
            have hhas := has_Sset (seen ++ (xs.take k).map oid) a
            generalize hI : seen ++ (xs.take k).map oid = I at O3 hhas
            have HI := hide hI
            clear hI
            by_cases hin : a ∈ I
            · rw [decide_eq_true hin] at hhas
              go_wp2_with (first
                | (at_lookup; refine wpList_lookup_own_unit _ rfl _ _ 99 rfl 3 119 lawI Try.underlying99 (zeroU _) B (m + k) _ rfl O3.out _ _ rfl hkey ?_)
                | go_in)
              go_ret
              have hrr : r = 6 := by rw [← R.out]; exact sideAt_twice hkx (by rw [X.out]; exact hok) (by rw [X.out]; exact HS.out) HA.out (by rw [X.out, HI.out]; exact hin)
              refine ⟨by rw [hrr]; rfl, ?_, fun h0 => by rw [hrr] at h0; cases h0⟩
              exact BW.out.trans ((B3.out.alloc B3.out.size _).mono (Nat.le_of_lt hBr))
            · rw [decide_eq_false hin] at hhas
              go_wp2_with (first
                | (at_lookup; refine wpList_lookup_own_unit _ rfl _ _ 99 rfl 3 119 lawI Try.underlying99 (zeroU _) B (m + k) _ rfl O3.out _ _ rfl hkey ?_)
                | (at_mapUpdate; refine wpList_mapUpdate_own _ rfl _ _ _ 99 rfl 3 119 lawI Try.underlying99 (unitElem (H := Unit)) B (m + k) _ rfl (O3.out.alloc _) (by unfold maxLen; omega) _ _ _ rfl rfl hkey _ [] unitElem_mk ?_; intro w1 hown1 hgrow1)
                | go_in)
              go_roundw
              case rel =>
                refine ⟨k + 1, by omega, by go_num, ?_, ?_, ?_⟩
                · show OwnsSet w1 B (m + (k + 1)) _
                  rw [ids_at seen hkx, X.out, HI.out]
                  unfold OwnsSet
                  rw [Sset_snoc]
                  exact hown1
                · refine BW.out.trans ((((B3.out.alloc B3.out.size _).mono (Nat.le_of_lt hBr))).grown hgrow1 (by simp; omega) (fun j hj => by cases hj; exact Nat.le_refl _))
                · show sideAt side seen xs (k + 1) = r
                  rw [← R.out]
                  exact (sideAt_on hkx (by rw [X.out]; exact hok) (by rw [X.out]; exact HS.out) HA.out (by rw [X.out, HI.out]; exact hin)).symm
              case measure => simp [intOf]; omega
          · have hk1 : (0 : Int) < (k : Int) := by omega
            obtain ⟨k0, hk2⟩ : ∃ k0 : Nat, k = k0 + 1 := ⟨k - 1, by omega⟩
            have hkx1 : k - 1 < xs.length := by omega
            obtain ⟨f0, f1, f2, f3, f4⟩ := orow_cells (w := W2) (b := b) (off := off) (xs := xs) (fun j hj i v hv => (B2.out.cell (Nat.lt_trans hB hBr)).trans ((BW.out.cell hB).trans (HC.out j hj i v hv))) hkx1
            have hbW : b < W2.heap.size := Nat.lt_of_lt_of_le (Nat.lt_trans hB hBr) B2.out.size
            generalize hy : xs[k - 1]! = y at f0 f1 f2 f3 f4
            have Y := hide hy
            clear hy
            obtain ⟨a', ac', sd', pr', q'⟩ := y
            dsimp only [oid, oac, osd, opr, oqt] at f0 f1 f2 f3 f4
            have g0 := fun n os => cell_grown (a := ⟨b, off + (k - 1) * 5, none⟩) hbW f0 n os
            have g1 := fun n os => cell_grown (a := ⟨b, off + (k - 1) * 5 + 1, none⟩) hbW f1 n os
            have g2 := fun n os => cell_grown (a := ⟨b, off + (k - 1) * 5 + 2, none⟩) hbW f2 n os
            have g3 := fun n os => cell_grown (a := ⟨b, off + (k - 1) * 5 + 3, none⟩) hbW f3 n os
            have g4 := fun n os => cell_grown (a := ⟨b, off + (k - 1) * 5 + 4, none⟩) hbW f4 n os
            clear f0 f1 f2 f3 f4 hkx1
            have hk3 : 0 < k := by omega
            have HK := hide hk2
            clear hk2
            go_wp2_with fail
            cases hah : ahead (a', ac', sd', pr', q') (a, ac, sd, pr, q) with
            | false =>
              refine wp_region_quiet_grown (by assumption) (by kernel_rfl) ?_
              repeat (go_big_quiet_step (first | (go_at_call 39; refine Calls.grown_of (hah ▸ ahead_grow _ _ _ _ _ _ _ _ _ _ _))))
              refine wpQuiet_nil ?_
              intro _ hwq
              obtain ⟨⟨nq, osq⟩, hwq'⟩ := hwq
              subst hwq'
              go_wp2
              go_ret
              have hrr : r = 4 := by rw [← R.out]; exact sideAt_form hkx (by rw [X.out]; exact hok) hk3 (by rw [X.out, Y.out]; exact hah)
              refine ⟨by rw [hrr]; rfl, ?_, fun h0 => by rw [hrr] at h0; cases h0⟩
              exact BW.out.trans ((B2.out.trans ((grow_below W2 nq osq).mono B2.out.size)).mono (Nat.le_of_lt hBr))
            | true =>
              have HA : Hid (k = 0 ∨ ahead xs[k - 1]! xs[k]! = true) := .inr (by rw [X.out, Y.out]; exact hah)
              refine wp_region_quiet_grown (by assumption) (by kernel_rfl) ?_
              repeat (go_big_quiet_step (first | (go_at_call 39; refine Calls.grown_of (hah ▸ ahead_grow _ _ _ _ _ _ _ _ _ _ _))))
              refine wpQuiet_nil ?_
              intro _ hwq
              obtain ⟨⟨nq, osq⟩, hwq'⟩ := hwq
              subst hwq'
              have O3 := hide (ownsSet_below O2.out (grow_below W2 nq osq) (Nat.lt_of_lt_of_le hBr B2.out.size))
              have B3 := hide (B2.out.trans ((grow_below W2 nq osq).mono B2.out.size))
              have d0 : (grow (W2.drewN nq) osq).cell? ⟨wr.heap.size, 0, none⟩ = some (.int .i64 a) := e0 nq osq
              clear e0 e1 e2 e3 e4 O2 B2
              generalize grow (W2.drewN nq) osq = W3 at O3 B3 d0 ⊢
              have hBW := Nat.lt_of_lt_of_le hBr B3.out.size
              have d1 : ∀ o, (W3.alloc o).cell? ⟨wr.heap.size, 0, none⟩ = some (.int .i64 a) := fun o => by rw [alloc_eq_grow]; exact (cell?_grow W3 #[o] _ (World.block_lt_of_cell? _ _ d0)).trans d0
              have hkey := keyI (okOrder_id hok)
              dsimp only [oid] at hkey
              have hhas := has_Sset (seen ++ (xs.take k).map oid) a
              generalize hI : seen ++ (xs.take k).map oid = I at O3 hhas
              have HI := hide hI
              clear hI
              by_cases hin : a ∈ I
              · rw [decide_eq_true hin] at hhas
                go_wp2_with (first
                  | (at_lookup; refine wpList_lookup_own_unit _ rfl _ _ 99 rfl 3 119 lawI Try.underlying99 (zeroU _) B (m + k) _ rfl O3.out _ _ rfl hkey ?_)
                  | go_in)
                go_ret
                have hrr : r = 6 := by rw [← R.out]; exact sideAt_twice hkx (by rw [X.out]; exact hok) (by rw [X.out]; exact HS.out) HA.out (by rw [X.out, HI.out]; exact hin)
                refine ⟨by rw [hrr]; rfl, ?_, fun h0 => by rw [hrr] at h0; cases h0⟩
                exact BW.out.trans ((B3.out.alloc B3.out.size _).mono (Nat.le_of_lt hBr))
              · rw [decide_eq_false hin] at hhas
                go_wp2_with (first
                  | (at_lookup; refine wpList_lookup_own_unit _ rfl _ _ 99 rfl 3 119 lawI Try.underlying99 (zeroU _) B (m + k) _ rfl O3.out _ _ rfl hkey ?_)
                  | (at_mapUpdate; refine wpList_mapUpdate_own _ rfl _ _ _ 99 rfl 3 119 lawI Try.underlying99 (unitElem (H := Unit)) B (m + k) _ rfl (O3.out.alloc _) (by unfold maxLen; omega) _ _ _ rfl rfl hkey _ [] unitElem_mk ?_; intro w1 hown1 hgrow1)
                  | go_in)
                go_roundw
                case rel =>
                  refine ⟨k + 1, by omega, by go_num, ?_, ?_, ?_⟩
                  · show OwnsSet w1 B (m + (k + 1)) _
                    rw [ids_at seen hkx, X.out, HI.out]
                    unfold OwnsSet
                    rw [Sset_snoc]
                    exact hown1
                  · refine BW.out.trans ((((B3.out.alloc B3.out.size _).mono (Nat.le_of_lt hBr))).grown hgrow1 (by simp; omega) (fun j hj => by cases hj; exact Nat.le_refl _))
                  · show sideAt side seen xs (k + 1) = r
                    rw [← R.out]
                    exact (sideAt_on hkx (by rw [X.out]; exact hok) (by rw [X.out]; exact HS.out) HA.out (by rw [X.out, HI.out]; exact hin)).symm
                case measure => simp [intOf]; omega
        · have hs' : (sd != side) = true := by simp [hs]
          go_wp2_with fail
          clear e0 e1 e3 e4
          refine wp_region_quiet_grown (by assumption) (by kernel_rfl) ?_
          repeat (go_big_quiet_step (fail))
          refine wpQuiet_nil ?_
          intro _ hwq
          obtain ⟨⟨nq, osq⟩, hwq'⟩ := hwq
          subst hwq'
          go_wp2
          go_ret
          have hrr : r = 4 := by rw [← R.out]; exact sideAt_side hkx (by rw [X.out]; exact hok) (by rw [X.out]; exact hs)
          refine ⟨by rw [hrr]; rfl, ?_, fun h0 => by rw [hrr] at h0; cases h0⟩
          exact BW.out.trans ((B2.out.trans ((grow_below W2 nq osq).mono B2.out.size)).mono (Nat.le_of_lt hBr))
      · go_wp2_with (go_at_call 37; refine (checkOrder_grow _ _ _ _ _ _).mono ?_; rintro e w' ⟨rfl, q1, os1, rfl⟩)
        go_ret
        have hrr : r = okOrder (a, ac, sd, pr, q) := by rw [← R.out, sideAt_bad hkx (by rw [X.out]; exact hok), X.out]
        refine ⟨by rw [hrr]; rfl, ?_, fun h0 => absurd (hrr.symm.trans h0) hok⟩
        exact BW.out.trans ((box_below _ _ _ _).mono (Nat.le_of_lt (ownsSet_lt O.out)))
    · have hk' : k = n := by omega
      subst hk'
      go_wp2
      go_ret
      have hrr : r = 0 := by rw [← R.out, ← N.out, sideAt_end]
      refine ⟨by rw [hrr]; rfl, BW.out, fun _ => ?_⟩
      have := O.out
      rw [← N.out, List.take_length] at this
      rw [← N.out]
      exact this

set_option maxRecDepth 100000 in
theorem checkSide_none (p : Option Addr) (c : Nat) (side : Int) (v : Value) (w : World) :
    Calls Try.prog 82 #[.slice p 0 c, .int .i64 side, v] w fun e w' => e = .returned (.int .i64 0) ∧ w' = w := by
  go_enter Try.func82, Try.ntmps82
  go_wp2
  refine wp_loop_rounds 1 ?_
  rw [rounds_succ]
  go_wp2
  go_ret
  exact ⟨rfl, rfl⟩

theorem checkSide_any (p : Option Addr) (c : Nat) (xs : List Odr) (side : Int) (B m : Nat) (seen : List Int) (w w0 : World) (h : ORow w0 p xs) (hw : Below w0.heap.size w0 w) (hB : w0.heap.size ≤ B) (hown : OwnsSet w B m seen) (hlen : xs.length ≤ 40) (hm : m ≤ 40) :
    Calls Try.prog 82 #[.slice p xs.length c, .int .i64 side, .map (some B)] w fun e w' =>
      e = .returned (.int .i64 (sideErr side none seen xs)) ∧ Below B w w' ∧ (sideErr side none seen xs = 0 → OwnsSet w' B (m + xs.length) (seen ++ xs.map oid)) := by
  have hnil : ∀ xs : List Odr, xs = [] → Calls Try.prog 82 #[.slice p xs.length c, .int .i64 side, .map (some B)] w fun e w' =>
      e = .returned (.int .i64 (sideErr side none seen xs)) ∧ Below B w w' ∧ (sideErr side none seen xs = 0 → OwnsSet w' B (m + xs.length) (seen ++ xs.map oid)) := by
    rintro _ rfl
    refine (checkSide_none p c side (.map (some B)) w).mono ?_
    rintro e w' ⟨rfl, rfl⟩
    exact ⟨rfl, Below.refl _ _, fun _ => by simpa using hown⟩
  by_cases hx : xs = []
  · exact hnil xs hx
  · rcases h with h | ⟨b, off, rfl, hc⟩
    · exact absurd h hx
    · have hbl : b < w0.heap.size := World.block_lt_of_cell? w0 _ (hc 0 (List.length_pos_iff.2 hx) 0 _ rfl)
      refine checkSide_some b off c xs side B m seen w (Nat.lt_of_lt_of_le hbl hB) hown hlen hm fun j hj i v hv => ?_
      exact (hw.cell hbl).trans (hc j hj i v hv)

end Go.Proofs.Ytbphljnncbiddaa.Bk
