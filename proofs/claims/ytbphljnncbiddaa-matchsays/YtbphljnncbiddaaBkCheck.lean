/-
  Package book by contracts: Check.
-/
import Derived.Test.YtbphljnncbiddaaBkSide
namespace Go.Proofs.Ytbphljnncbiddaa.Bk
open Go.RowKit Go.Sort Go.Maps

theorem below_map (w : World) {W : World} (h : Below w.heap.size w W) : Below w.heap.size w (W.alloc (.map #[] 0)) := h.alloc h.size _

theorem cell_alloc {w : World} {a : Addr} {v : Value} (h : w.cell? a = some v) (o : Obj) : (w.alloc o).cell? a = some v := by
  rw [alloc_eq_grow]; exact (cell?_grow w #[o] _ (World.block_lt_of_cell? _ _ h)).trans h

set_option maxHeartbeats 2000000 in
set_option maxRecDepth 100000 in
theorem check_any (p p' : Option Addr) (c c' : Nat) (bids asks : List Odr) (w : World) (h : ORow w p bids) (h' : ORow w p' asks) (hn : bids.length ≤ 140737488351232) (hn' : asks.length ≤ 140737488351232) :
    Calls Try.prog 36 #[.agg #[.slice p bids.length c, .slice p' asks.length c']] w fun e w' => e = .returned (.int .i64 (bookErr bids asks)) ∧ Below w.heap.size w w' := by
  have mixed : Try.prog.follows .mixedOrders = true := by kernel_rfl
  have hmm := @run_makeMap Try.prog
  generalize hr : bookErr bids asks = r
  have R := hide hr
  clear hr
  have H := hide h
  have H' := hide h'
  clear h h'
  have CB := fun (B m : Nat) (w1 : World) (hw : Below w.heap.size w w1) (hB : w.heap.size ≤ B) (hown : OwnsSet w1 B m []) hl hm => checkSide_any p c bids 1 B m [] w1 w H.out hw hB hown hl hm
  have CA := fun (B m : Nat) (w1 : World) (hw : Below w.heap.size w w1) (hB : w.heap.size ≤ B) (hown : OwnsSet w1 B m (bids.map oid)) hl hm => checkSide_any p' c' asks (-1) B m (bids.map oid) w1 w H'.out hw hB hown hl hm
  have CC := fun (o : Odr) (w1 : World) (hw : Below w.heap.size w w1) => crossesBest_any o.1 o.2.1 o.2.2.1 o.2.2.2.1 o.2.2.2.2 p' c' asks w1 (orow_below H'.out hw)
  have hfew : Hid (40 < bids.length + asks.length → r = 2) := fun h => by rw [← R.out]; unfold bookErr; rw [if_pos h]
  have hb0 : Hid (¬ 40 < bids.length + asks.length → sideErr 1 none [] bids ≠ 0 → r = sideErr 1 none [] bids) := fun h1 h2 => by rw [← R.out]; unfold bookErr; rw [if_neg h1, if_pos h2]
  have ha0 : Hid (¬ 40 < bids.length + asks.length → sideErr 1 none [] bids = 0 → sideErr (-1) none (bids.map oid) asks ≠ 0 → r = sideErr (-1) none (bids.map oid) asks) := fun h1 h2 h3 => by rw [← R.out]; unfold bookErr; rw [if_neg h1, if_neg (fun e => e h2), if_pos h3]
  have hx0 : Hid (¬ 40 < bids.length + asks.length → sideErr 1 none [] bids = 0 → sideErr (-1) none (bids.map oid) asks = 0 → r = if crossed bids asks = true then 4 else 0) := fun h1 h2 h3 => by rw [← R.out]; unfold bookErr; rw [if_neg h1, if_neg (fun e => e h2), if_neg (fun e => e h3)]
  generalize hnb : bids.length = nb at hn hfew hb0 ha0 hx0 CB ⊢
  generalize hna : asks.length = na at hn' hfew hb0 ha0 hx0 CA CC ⊢
  have CB' := hide CB
  have CA' := hide CA
  have CC' := hide CC
  have NB := hide hnb
  have NA := hide hna
  clear CB CA CC hnb hna
  go_enter Try.func36, Try.ntmps36
  go_wp2_with fail
  refine (count_any _ _ _ _ _ _ _ hn hn').mono ?_
  rintro e w' ⟨rfl, q1, os1, hw⟩
  have B1 : Hid (Below w.heap.size w w') := hide (by rw [hw]; exact box_below _ _ _ _)
  have e0 : w'.cell? ⟨w.heap.size, 0, none⟩ = some (.slice p nb c) := by rw [hw]; exact box_cell _ _ _ _ _ _ _ rfl
  have e1 : w'.cell? ⟨w.heap.size, 1, none⟩ = some (.slice p' na c') := by rw [hw]; exact box_cell _ _ _ _ _ _ _ rfl
  have s1 : Hid (w.heap.size < w'.heap.size) := World.block_lt_of_cell? _ _ e0
  clear hw
  by_cases hmany : 40 < nb + na
  · have hm2 : (40 : Int) < (nb : Int) + (na : Int) := by omega
    go_wp2
    go_ret
    exact ⟨by rw [hfew.out hmany]; rfl, B1.out⟩
  · have hm2 : ¬ (40 : Int) < (nb : Int) + (na : Int) := by omega
    have f0 := fun o => cell_alloc e0 o
    have f1 := fun o => cell_alloc e1 o
    go_wp2_with fail
    refine (CB'.out w'.heap.size 0 _ (below_map w B1.out) B1.out.size (World.ownsMap_made _ _ _ _) (by omega) (by omega)).mono ?_
    rintro e w2 ⟨rfl, B2, O2⟩
    have B2' : Hid (Below w'.heap.size w' w2) := hide (((Below.refl w'.heap.size w').alloc (Nat.le_refl _) _).trans B2)
    have O2' := hide O2
    have g0 : w2.cell? ⟨w.heap.size, 0, none⟩ = some (.slice p nb c) := (B2'.out.cell (p := ⟨w.heap.size, 0, none⟩) s1.out).trans e0
    have g1 : w2.cell? ⟨w.heap.size, 1, none⟩ = some (.slice p' na c') := (B2'.out.cell (p := ⟨w.heap.size, 1, none⟩) s1.out).trans e1
    clear e0 e1 f0 f1 B2 O2
    by_cases hb : sideErr 1 none [] bids = 0
    · rw [hb]
      go_wp2_with fail
      have O3 : OwnsSet w2 w'.heap.size nb (bids.map oid) := by
        have := O2'.out hb
        rwa [List.nil_append, Nat.zero_add] at this
      refine (CA'.out w'.heap.size nb w2 (B1.out.trans (B2'.out.mono (Nat.le_of_lt s1.out))) B1.out.size O3 (by omega) (by omega)).mono ?_
      rintro e w3 ⟨rfl, B3, O3'⟩
      clear O3 O3'
      have B3' : Hid (Below w'.heap.size w' w3) := hide (B2'.out.trans B3)
      have k0 : w3.cell? ⟨w.heap.size, 0, none⟩ = some (.slice p nb c) := (B3.cell (p := ⟨w.heap.size, 0, none⟩) s1.out).trans g0
      have k1 : w3.cell? ⟨w.heap.size, 1, none⟩ = some (.slice p' na c') := (B3.cell (p := ⟨w.heap.size, 1, none⟩) s1.out).trans g1
      have B4 := hide (B1.out.trans (B3'.out.mono (Nat.le_of_lt s1.out)))
      clear B3 g0 g1 B2' O2' B3'
      by_cases ha : sideErr (-1) none (bids.map oid) asks = 0
      · rw [ha]
        have hr4 := hide (hx0.out hmany hb ha)
        have s3 : w.heap.size < w3.heap.size := World.block_lt_of_cell? _ _ k0
        have m0 := fun n os => cell_grown (a := ⟨w.heap.size, 0, none⟩) s3 k0 n os
        have m1 := fun n os => cell_grown (a := ⟨w.heap.size, 1, none⟩) s3 k1 n os
        by_cases hbn : bids = []
        · have hnb0 : nb = 0 := by rw [← NB.out, hbn]; rfl
          have hcr : crossed bids asks = false := by rw [hbn]; rfl
          have hnd : decide (0 < nb) = false := by rw [hnb0]; rfl
          have hr5 := hr4.out
          rw [hcr] at hr5
          clear hb ha hbn hnb0 hcr
          go_wp2_with fail
          refine wp_region_quiet_grown (by assumption) (by kernel_rfl) ?_
          repeat (go_big_quiet_step (fail))
          refine wpQuiet_nil ?_
          intro _ hwq
          obtain ⟨⟨nq, osq⟩, hwq'⟩ := hwq
          subst hwq'
          go_wp2
          go_ret
          exact ⟨by rw [hr5]; rfl, B4.out.trans ((grow_below w3 nq osq).mono B4.out.size)⟩
        · rcases H.out with hh | ⟨b, off, rfl, hc⟩
          · exact absurd hh hbn
          · have hpos := List.length_pos_iff.2 hbn
            obtain ⟨x, bs, hbx⟩ := List.exists_cons_of_ne_nil hbn
            have hnd : 0 < nb := by rw [← NB.out]; exact hpos
            have hbl : b < w.heap.size := World.block_lt_of_cell? w _ (hc 0 hpos 0 _ rfl)
            obtain ⟨c0, c1, c2, c3, c4⟩ := orow_cells (w := w3) (b := b) (off := off) (xs := bids) (fun j hj i v hv => (B4.out.cell hbl).trans (hc j hj i v hv)) hpos
            have hx1 : bids[0]! = x := by rw [hbx]; rfl
            rw [hx1] at c0 c1 c2 c3 c4
            simp only [Nat.zero_mul, Nat.add_zero] at c0 c1 c2 c3 c4
            have hcr : crossed bids asks = crosses x asks := by rw [hbx]; rfl
            have hr5 := hide (hr4.out)
            rw [hcr] at hr5
            have hb3 := Nat.lt_of_lt_of_le hbl B4.out.size
            obtain ⟨a, ac, sd, pr, q⟩ := x
            dsimp only [oid, oac, osd, opr, oqt] at c0 c1 c2 c3 c4
            have n0 := fun n os => cell_grown (a := ⟨b, off, none⟩) hb3 c0 n os
            have n1 := fun n os => cell_grown (a := ⟨b, off + 1, none⟩) hb3 c1 n os
            have n2 := fun n os => cell_grown (a := ⟨b, off + 2, none⟩) hb3 c2 n os
            have n3 := fun n os => cell_grown (a := ⟨b, off + 3, none⟩) hb3 c3 n os
            have n4 := fun n os => cell_grown (a := ⟨b, off + 4, none⟩) hb3 c4 n os
            clear c0 c1 c2 c3 c4 hc hx1 hcr hbx hpos hb ha k0 k1 hr4
            have CG := hide (fun n os => CC'.out (a, ac, sd, pr, q) (grow (w3.drewN n) os) (B4.out.trans ((grow_below w3 n os).mono B4.out.size)))
            dsimp only at CG
            cases hcx : crosses (a, ac, sd, pr, q) asks with
            | true =>
              have hr6 := hr5.out
              rw [hcx] at hr6
              rw [hcx] at CG
              go_wp2_with fail
              refine wp_region_quiet_grown (by assumption) (by kernel_rfl) ?_
              repeat (go_big_quiet_step (first | (go_at_call 83; refine Calls.grown_of (CG.out _ _))))
              refine wpQuiet_nil ?_
              intro _ hwq
              obtain ⟨⟨nq, osq⟩, hwq'⟩ := hwq
              subst hwq'
              go_wp2
              go_ret
              exact ⟨by rw [hr6]; rfl, B4.out.trans ((grow_below w3 nq osq).mono B4.out.size)⟩
            | false =>
              have hr6 := hr5.out
              rw [hcx] at hr6
              rw [hcx] at CG
              go_wp2_with fail
              refine wp_region_quiet_grown (by assumption) (by kernel_rfl) ?_
              repeat (go_big_quiet_step (first | (go_at_call 83; refine Calls.grown_of (CG.out _ _))))
              refine wpQuiet_nil ?_
              intro _ hwq
              obtain ⟨⟨nq, osq⟩, hwq'⟩ := hwq
              subst hwq'
              go_wp2
              go_ret
              exact ⟨by rw [hr6]; rfl, B4.out.trans ((grow_below w3 nq osq).mono B4.out.size)⟩
      · have hr4 := hide (ha0.out hmany hb ha)
        generalize sideErr (-1) none (bids.map oid) asks = ea at ha hr4 ⊢
        go_wp2
        go_ret
        exact ⟨by rw [hr4.out]; rfl, B4.out⟩
    · have hr4 := hide (hb0.out hmany hb)
      generalize sideErr 1 none [] bids = eb at hb hr4 ⊢
      go_wp2
      go_ret
      exact ⟨by rw [hr4.out]; rfl, B1.out.trans (B2'.out.mono (Nat.le_of_lt s1.out))⟩
end Go.Proofs.Ytbphljnncbiddaa.Bk
