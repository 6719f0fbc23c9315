/-
  Package book by contracts: Best; the law's closed fact.
-/
import Derived.Test.YtbphljnncbiddaaBkRem
namespace Go.Proofs.Ytbphljnncbiddaa.Bk
open Go.RowKit Go.Sort Go.Maps Go.Proofs.Ytbphljnncbiddaa.Mix

theorem firstPrice_grow (p : Option Addr) (c : Nat) (xs : List Odr) (w : World) (h : ORow w p xs) :
    Calls Try.prog 79 #[.slice p xs.length c] w fun e w' => e = .returned (.int .i64 (firstPrice xs)) ∧ ∃ k os, w' = grow (w.drewN k) os :=
  (firstPrice_any p c xs w h).mono fun _ _ ⟨he, hw⟩ => ⟨he, 0, #[], by rw [hw, grow_empty]; rfl⟩

set_option maxHeartbeats 1000000 in
set_option maxRecDepth 100000 in
theorem best_ok (p p' : Option Addr) (c c' : Nat) (bids asks : List Odr) (w : World) (h : ORow w p bids) (h' : ORow w p' asks) (hR : Right bids asks) :
    Calls Try.prog 33 #[.agg #[.slice p bids.length c, .slice p' asks.length c']] w fun e w' => e = .returned (.tuple #[.int .i64 (firstPrice bids), .int .i64 (firstPrice asks), .int .i64 0]) ∧ Below w.heap.size w w' := by
  have mixed : Try.prog.follows .mixedOrders = true := by kernel_rfl
  have hl := hR.few
  have CK := hide (fun W hW => check_any p p' c c' bids asks W (orow_below h hW) (orow_below h' hW) (by omega) (by omega))
  rw [bookErr_zero.2 hR] at CK
  have FB := hide (fun W hW => firstPrice_grow p c bids W (orow_below h hW))
  have FA := hide (fun W hW => firstPrice_grow p' c' asks W (orow_below h' hW))
  clear h h' hR hl
  generalize firstPrice bids = fb at FB ⊢
  generalize firstPrice asks = fa at FA ⊢
  generalize bids.length = nb at CK FB ⊢
  generalize asks.length = na at CK FA ⊢
  go_enter Try.func33, Try.ntmps33
  go_wp2_with fail
  refine (CK.out _ ((Below.refl _ w).alloc (Nat.le_refl _) _)).mono ?_
  rintro e W ⟨rfl, hb⟩
  have BW := hide (((Below.refl _ w).alloc (Nat.le_refl _) (.cells #[.slice p nb c, .slice p' na c'] 42)).trans (hb.mono (by simp)))
  have e0 : W.cell? ⟨w.heap.size, 0, none⟩ = some (.slice p nb c) := (hb.cell (by simp)).trans (new_cell _ _ _ _ _ rfl)
  have e1 : W.cell? ⟨w.heap.size, 1, none⟩ = some (.slice p' na c') := (hb.cell (by simp)).trans (new_cell _ _ _ _ _ rfl)
  have g0 := fun n os => cell_grown (World.block_lt_of_cell? _ _ e0) e0 n os
  have g1 := fun n os => cell_grown (World.block_lt_of_cell? _ _ e1) e1 n os
  have FB' := hide (fun n os => FB.out (grow (W.drewN n) os) (BW.out.trans ((grow_below W n os).mono BW.out.size)))
  have FA' := hide (fun n os => FA.out (grow (W.drewN n) os) (BW.out.trans ((grow_below W n os).mono BW.out.size)))
  clear hb CK FB FA e0 e1
  go_wp2_with fail
  refine wp_region_quiet_grown (by assumption) (by kernel_rfl) ?_
  go_big_quiet_step (fail)
  go_big_quiet_step (fail)
  go_big_quiet_step (refine Calls.grown_of (FB'.out _ _))
  go_big_quiet_step (fail)
  go_big_quiet_step (fail)
  go_big_quiet_step (refine Calls.grown_of (FA'.out _ _))
  repeat (go_big_quiet_step (fail))
  refine wpQuiet_nil ?_
  intro _ hwq
  obtain ⟨⟨nq, osq⟩, hwq'⟩ := hwq
  subst hwq'
  go_wp2
  go_ret3
  exact ⟨rfl, BW.out.trans ((grow_below W nq osq).mono BW.out.size)⟩

/-- a slice of orders stays as it is while two cells of another block are written. -/
theorem ov_two {w : World} {p : Option Addr} {c t : Nat} {xs : List Odr} (h : OV w p c xs) (hp : ∀ a, p = some a → a.block ≠ t) (v0 v1 : Value) : OV ((w.setCell ⟨t, 0, none⟩ v0).setCell ⟨t, 1, none⟩ v1) p c xs := by
  refine ⟨?_, h.nil, h.cap⟩
  rcases h.row with rfl | ⟨b, off, rfl, hc⟩
  · exact .inl rfl
  · refine .inr ⟨b, off, rfl, fun j hj i v hv => ?_⟩
    have hb : b ≠ t := hp _ rfl
    rw [set_other _ hb, set_other _ hb]
    exact hc j hj i v hv

abbrev RestTo (w : World) (n1 n2 : Nat) (X Y : List Odr) (e : Ending) (w' : World) : Prop :=
  ∃ p1 c1 p2 c2, e = .returned (.tuple #[.agg #[.slice p1 n1 c1, .slice p2 n2 c2], .int .i64 0]) ∧ OV w' p1 c1 X ∧ OV w' p2 c2 Y ∧ Below w.heap.size w w' ∧ (∀ a, p1 = some a → w.heap.size ≤ a.block) ∧ (∀ a, p2 = some a → w.heap.size ≤ a.block)

abbrev oA : Odr := (1, 0, 1, 5, 2)
abbrev oB : Odr := (3, 0, 1, 6, 2)
abbrev oC : Odr := (2, 0, 1, 5, 2)
abbrev oD : Odr := (4, 0, -1, 6, 2)
theorem shelf1 (w : World) : Calls Try.prog 30 #[.agg #[.slice none 0 0, .slice none 0 0], odrV oA] w (RestTo w 1 0 [oA] []) :=
  rest_any none none 0 0 [] [] oA w (ov_nil w) (ov_nil w) (by decide)
theorem shelf2 (p p' : Option Addr) (c c' : Nat) (w : World) (h : OV w p c [oA]) (h' : OV w p' c' []) : Calls Try.prog 30 #[.agg #[.slice p 1 c, .slice p' 0 c'], odrV oB] w (RestTo w 2 0 [oB, oA] []) :=
  rest_any p p' c c' [oA] [] oB w h h' (by decide)
theorem shelf3 (p p' : Option Addr) (c c' : Nat) (w : World) (h : OV w p c [oB, oA]) (h' : OV w p' c' []) : Calls Try.prog 30 #[.agg #[.slice p 2 c, .slice p' 0 c'], odrV oC] w (RestTo w 3 0 [oB, oA, oC] []) :=
  rest_any p p' c c' [oB, oA] [] oC w h h' (by decide)
theorem shelf4 (p p' : Option Addr) (c c' : Nat) (w : World) (h : OV w p c [oB, oA, oC]) (h' : OV w p' c' []) : Calls Try.prog 30 #[.agg #[.slice p 3 c, .slice p' 0 c'], odrV oD] w fun e w' =>
    e = .returned (.tuple #[.agg #[.slice none 0 0, .slice none 0 0], .int .i64 9]) ∧ Below w.heap.size w w' :=
  rest_bad p p' c c' [oB, oA, oC] [] 4 0 (-1) 6 2 w h.row h'.row (by decide) (by decide) (by decide)
theorem shelf5 (p p' : Option Addr) (c c' : Nat) (w : World) (h : OV w p c [oB, oA, oC]) (h' : OV w p' c' []) : Calls Try.prog 33 #[.agg #[.slice p 3 c, .slice p' 0 c']] w fun e w' =>
    e = .returned (.tuple #[.int .i64 6, .int .i64 0, .int .i64 0]) ∧ Below w.heap.size w w' :=
  best_ok p p' c c' [oB, oA, oC] [] w h.row h'.row (bookErr_zero.1 (by decide))

set_option maxHeartbeats 1000000 in
set_option maxRecDepth 100000 in
theorem shelved_any (w : World) : Calls Try.prog 35 #[] w fun e w' => e = .returned (.bool true) ∧ Below w.heap.size w w' := by
  go_enter Try.func35, Try.ntmps35
  go_wp2_with fail
  refine (shelf1 _).mono ?_
  rintro e w1 ⟨p1, c1, p2, c2, rfl, o1, o2, b1, f1, f2⟩
  have O1 := hide o1
  have O2 := hide o2
  have B1 := hide b1
  clear o1 o2 b1 f1 f2
  have T1 : Two (w1.alloc (.cells #[.slice p1 1 c1, .slice p2 0 c2] 42)) w1.heap.size := ⟨_, _, heap_alloc_new _ _⟩
  have ba := (Below.refl w1.heap.size w1).alloc (Nat.le_refl _) (.cells #[.slice p1 1 c1, .slice p2 0 c2] 42)
  have A1 := hide (B1.out.alloc B1.out.size (.cells #[.slice p1 1 c1, .slice p2 0 c2] 42))
  have hsz : (w1.alloc (.cells #[.slice p1 1 c1, .slice p2 0 c2] 42)).heap.size = w1.heap.size + 1 := by simp
  have hw1 : Hid (w.heap.size ≤ w1.heap.size) := B1.out.size
  have C2 := hide (shelf2 p1 p2 c1 c2 _ (O1.out.below ba) (O2.out.below ba))
  have TT := hide T1
  have HZ := hide hsz
  clear T1 ba hsz O1 O2 B1
  go_wp2_with fail
  refine C2.out.mono ?_
  rintro e w2 ⟨p3, c3, p4, c4, rfl, o3, o4, b2, f3, f4⟩
  have T2 := hide (two_below TT.out b2)
  have A2 := hide (A1.out.trans (b2.mono A1.out.size))
  obtain ⟨u0, u1, t0, t1, t2, t3⟩ := two_facts T2.out
  obtain ⟨s0, s1⟩ := two_set T2.out (.slice p3 2 c3) (.slice p4 0 c4)
  have g3 : ∀ a, p3 = some a → a.block ≠ w1.heap.size := fun a ha => by have := f3 a ha; rw [HZ.out] at this; omega
  have g4 : ∀ a, p4 = some a → a.block ≠ w1.heap.size := fun a ha => by have := f4 a ha; rw [HZ.out] at this; omega
  have C3 := hide (shelf3 p3 p4 c3 c4 _ (ov_two o3 g3 (.slice p3 2 c3) (.slice p4 0 c4)) (ov_two o4 g4 (.slice p3 2 c3) (.slice p4 0 c4)))
  have T3 := hide (two_again T2.out (.slice p3 2 c3) (.slice p4 0 c4))
  have A3 := hide (two_below_set A2.out hw1.out (.slice p3 2 c3) (.slice p4 0 c4))
  have Z3 : Hid (w1.heap.size + 1 ≤ ((w2.setCell ⟨w1.heap.size, 0, none⟩ (.slice p3 2 c3)).setCell ⟨w1.heap.size, 1, none⟩ (.slice p4 0 c4)).heap.size) := by have := b2.size; rw [HZ.out] at this; rw [two_size]; exact this
  clear C2 TT A1 A2 T2 b2 o3 o4 f3 f4 g3 g4
  go_wp2_with fail
  refine C3.out.mono ?_
  clear s0 s1 t0 t1 t2 t3 C3
  rintro e w3 ⟨p5, c5, p6, c6, rfl, o5, o6, b3, f5, f6⟩
  have T4 := hide (two_below T3.out b3)
  have A4 := hide (A3.out.trans (b3.mono A3.out.size))
  obtain ⟨v0, v1, t0, t1, t2, t3⟩ := two_facts T4.out
  obtain ⟨s0, s1⟩ := two_set T4.out (.slice p5 3 c5) (.slice p6 0 c6)
  have g5 : ∀ a, p5 = some a → a.block ≠ w1.heap.size := fun a ha => by have := f5 a ha; have := Z3.out; omega
  have g6 : ∀ a, p6 = some a → a.block ≠ w1.heap.size := fun a ha => by have := f6 a ha; have := Z3.out; omega
  have O5 := hide (ov_two o5 g5 (.slice p5 3 c5) (.slice p6 0 c6))
  have O6 := hide (ov_two o6 g6 (.slice p5 3 c5) (.slice p6 0 c6))
  have A5 := hide (two_below_set A4.out hw1.out (.slice p5 3 c5) (.slice p6 0 c6))
  have C4 := hide (shelf4 p5 p6 c5 c6 _ O5.out O6.out)
  clear T3 A3 Z3 b3 o5 o6 f5 f6 g5 g6 A4 T4
  go_wp2_with fail
  refine C4.out.mono ?_
  clear t0 t1 t2 t3 C4
  generalize (w3.setCell ⟨w1.heap.size, 0, none⟩ (.slice p5 3 c5)).setCell ⟨w1.heap.size, 1, none⟩ (.slice p6 0 c6) = W5 at s0 s1 O5 O6 A5 ⊢
  rintro e w6 ⟨rfl, b6⟩
  have ba := (Below.refl w6.heap.size w6).alloc (Nat.le_refl _) (.cells #[.slice none 0 0, .slice none 0 0] 42)
  have b7 := b6.trans (ba.mono b6.size)
  have A7 := hide (A5.out.trans (b7.mono A5.out.size))
  have O7 := hide (O5.out.below b7)
  have O8 := hide (O6.out.below b7)
  have C5 := hide (shelf5 p5 p6 c5 c6 _ O7.out O8.out)
  have r0 := (b7.cell (World.block_lt_of_cell? _ _ s0)).trans s0
  have r1 := (b7.cell (World.block_lt_of_cell? _ _ s1)).trans s1
  clear b6 ba b7 A5 O5 O6 s0 s1
  go_wp2_with fail
  refine C5.out.mono ?_
  rintro e w8 ⟨rfl, b8⟩
  have A8 := hide (A7.out.trans (b8.mono A7.out.size))
  have x0 := (b8.cell (World.block_lt_of_cell? _ _ r0)).trans r0
  have O9 := O7.out.below b8
  have q0 : ∃ b off, p5 = some ⟨b, off, none⟩ ∧ w8.cell? ⟨b, off, none⟩ = some (.int .i64 3) ∧ w8.cell? ⟨b, off + 10, none⟩ = some (.int .i64 2) := by
    rcases O9.row with h | ⟨b, off, h1, hc⟩
    · cases h
    · exact ⟨b, off, h1, hc 0 (by decide) 0 _ rfl, hc 2 (by decide) 0 _ rfl⟩
  obtain ⟨b, off, rfl, y0, y2⟩ := q0
  clear C5 b8 r0 r1 A7 O7 O8 O9
  go_wp2
  go_ret
  exact ⟨rfl, A8.out⟩
end Go.Proofs.Ytbphljnncbiddaa.Bk
