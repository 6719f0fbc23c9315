/-
  Package book by contracts: with (o behind those that are ahead of it).
-/
import Derived.Test.YtbphljnncbiddaaBkWithA
namespace Go.Proofs.Ytbphljnncbiddaa.Bk
open Go.RowKit Go.Sort Go.Maps Go.Proofs.Ytbphljnncbiddaa.Mix

set_option maxHeartbeats 2000000 in
set_option maxRecDepth 100000 in
theorem with_core (p p3 : Option Addr) (c c3 : Nat) (xs : List Odr) (a ac sd pr q : Int) (w : World) (hn : xs.length ≤ 1000) (pl : Nat) (hpl : place xs (a, ac, sd, pr, q) = pl) (hle : pl ≤ xs.length)
    (hsearch : ∀ W, Below w.heap.size w W → W.cell? ⟨w.heap.size, 0, none⟩ = some (.slice p xs.length c) → W.cell? ⟨w.heap.size + 1, 0, none⟩ = some (.int .i64 a) → W.cell? ⟨w.heap.size + 1, 1, none⟩ = some (.int .i64 ac) → W.cell? ⟨w.heap.size + 1, 2, none⟩ = some (.int .i64 sd) → W.cell? ⟨w.heap.size + 1, 3, none⟩ = some (.int .i64 pr) → W.cell? ⟨w.heap.size + 1, 4, none⟩ = some (.int .i64 q) →
      Calls Try.prog 102 #[.int .i64 xs.length, .func (.func 103) #[] #[.pointer (some ⟨w.heap.size, 0, none⟩), .pointer (some ⟨w.heap.size + 1, 0, none⟩)]] W fun e w' => e = .returned (.int .i64 (pl : Nat)) ∧ Below W.heap.size W w')
    (h1 : ∀ x, Below w.heap.size w x → OV x p c (xs.take pl)) (h3 : ∀ x, Below w.heap.size w x → OV x p3 c3 (xs.drop pl))
    (hs1 : ∀ x, Sem.run Try.prog (Instr.sliceAt 40 (.slice p xs.length c) none (some (.int .i64 (pl : Nat))) none) x = .ok (.slice p pl c) x)
    (hs2 : ∀ x, Sem.run Try.prog (Instr.sliceAt 40 (.slice p xs.length c) (some (.int .i64 (pl : Nat))) none none) x = .ok (.slice p3 (xs.length - pl) c3) x) :
    Calls Try.prog 74 #[.slice p xs.length c, .agg #[.int .i64 a, .int .i64 ac, .int .i64 sd, .int .i64 pr, .int .i64 q]] w fun e w' => ∃ v, e = .returned v ∧ w'.ownsRow w.heap.size 44 5 v (laid xs (a, ac, sd, pr, q)).length (flat (laid xs (a, ac, sd, pr, q))) ∧ Below w.heap.size w w' := by
  have mixed : Try.prog.follows .mixedOrders = true := by kernel_rfl
  have HS := hide hsearch
  have H1 := hide h1
  have H3 := hide h3
  have LT : Hid ((xs.take pl).length = pl) := by rw [List.length_take]; exact Nat.min_eq_left hle
  have LD : Hid ((xs.drop pl).length = xs.length - pl) := List.length_drop
  clear hsearch h1 h3
  have WE := hide (fun (W x3 : World) (g gB : Nat) hW hwW h1 h3 hg k0 k1 k2 hO => with_end W w x3 g xs (a, ac, sd, pr, q) p p3 c c3 gB hW hwW h1 h3 hg k0 k1 k2 hO (by omega))
  rw [hpl, LT.out, LD.out] at WE
  generalize hL : laid xs (a, ac, sd, pr, q) = L at WE ⊢
  generalize hxn : xs.length = n at hn HS hs1 hs2 WE hle ⊢
  clear hL hxn hpl LT LD
  have hlez : (pl : Int) ≤ (n : Int) := by omega
  go_enter Try.func74, Try.ntmps74
  go_wp2_with fail
  have hb0 : Below w.heap.size w ((w.alloc (.cells #[.slice p n c] 40)).alloc (.cells #[.int .i64 a, .int .i64 ac, .int .i64 sd, .int .i64 pr, .int .i64 q] 44)) := ((Below.refl _ w).alloc (Nat.le_refl _) _).alloc (by simp) _
  refine (HS.out _ hb0 (cell_alloc (new_cell _ _ _ _ _ rfl) _) (new_cell2 _ _ _ _ _ _ rfl) (new_cell2 _ _ _ _ _ _ rfl) (new_cell2 _ _ _ _ _ _ rfl) (new_cell2 _ _ _ _ _ _ rfl) (new_cell2 _ _ _ _ _ _ rfl)).mono ?_
  rintro e W ⟨rfl, hb1⟩
  have BW := hide (hb0.trans (hb1.mono (by simp; omega)))
  have e0 : W.cell? ⟨w.heap.size, 0, none⟩ = some (.slice p n c) := (hb1.cell (by simp; omega)).trans (cell_alloc (new_cell _ _ _ _ _ rfl) _)
  have f0 : W.cell? ⟨w.heap.size + 1, 0, none⟩ = some (.int .i64 a) := (hb1.cell (by simp)).trans (new_cell2 _ _ _ _ _ _ rfl)
  have f1 : W.cell? ⟨w.heap.size + 1, 1, none⟩ = some (.int .i64 ac) := (hb1.cell (by simp)).trans (new_cell2 _ _ _ _ _ _ rfl)
  have f2 : W.cell? ⟨w.heap.size + 1, 2, none⟩ = some (.int .i64 sd) := (hb1.cell (by simp)).trans (new_cell2 _ _ _ _ _ _ rfl)
  have f3 : W.cell? ⟨w.heap.size + 1, 3, none⟩ = some (.int .i64 pr) := (hb1.cell (by simp)).trans (new_cell2 _ _ _ _ _ _ rfl)
  have f4 : W.cell? ⟨w.heap.size + 1, 4, none⟩ = some (.int .i64 q) := (hb1.cell (by simp)).trans (new_cell2 _ _ _ _ _ _ rfl)
  clear hb0 hb1 HS
  have hC : ∀ p1 : InC (fun x => Below W.heap.size W x), ∀ x v, W.cell? x = some v → p1.w.cell? x = some v := fun p1 x v hx => (p1.h.cell (World.block_lt_of_cell? _ _ hx)).trans hx
  generalize hCC : (fun x => Below W.heap.size W x) = C at hC
  have g0 := fun p1 => hC p1 _ _ e0
  have l0 := fun p1 => hC p1 _ _ f0
  have l1 := fun p1 => hC p1 _ _ f1
  have l2 := fun p1 => hC p1 _ _ f2
  have l3 := fun p1 => hC p1 _ _ f3
  have l4 := fun p1 => hC p1 _ _ f4
  have CE := hide hCC
  have CS : Hid (Shut C) := by rw [← CE.out]; exact shut_below W
  have CW : Hid (∀ x, C x → Below W.heap.size W x) := fun x hx => by rw [← CE.out] at hx; exact hx
  clear hCC hC e0 f0 f1 f2 f3 f4
  go_wp2_with fail
  refine wp_region_mix [(0, true), (1, true), (2, true), (3, true), (5, true), (6, true), (7, true), (4, false), (8, false), (9, false), (10, true)] C mixed (by kernel_rfl) (by rw [← CE.out]; exact below_drawn W) ?_
  repeat (refine mix_still (by rfl) ?_; go_big_quiet_step (exact rfl); refine wpQuiet_nil ?_)
  refine mix_main (by rfl) ?_
  rintro ⟨x1, hx1⟩
  go_wp2
  have hC1 : C (x1.alloc (.cells #[.int .i64 a, .int .i64 ac, .int .i64 sd, .int .i64 pr, .int .i64 q] 44)) := CS.out x1 _ hx1 ((Below.refl _ _).alloc (Nat.le_refl _) _)
  refine ⟨From C (x1.alloc (.cells #[.int .i64 a, .int .i64 ac, .int .i64 sd, .int .i64 pr, .int .i64 q] 44)), from_self hC1, fun x hx => hx.1, ?_⟩
  have CS1 := hide (from_shut CS.out (x1.alloc (.cells #[.int .i64 a, .int .i64 ac, .int .i64 sd, .int .i64 pr, .int .i64 q] 44)))
  have K1 : Hid (∀ x, From C (x1.alloc (.cells #[.int .i64 a, .int .i64 ac, .int .i64 sd, .int .i64 pr, .int .i64 q] 44)) x → C x ∧ ∀ i v, (enc (a, ac, sd, pr, q))[i]? = some v → x.cell? ⟨x1.heap.size, i, none⟩ = some v) :=
    fun x hx => ⟨hx.1, fun i v hv => from_cell hx (new_cell _ _ _ _ _ (by simpa [enc] using hv))⟩
  generalize From C (x1.alloc (.cells #[.int .i64 a, .int .i64 ac, .int .i64 sd, .int .i64 pr, .int .i64 q] 44)) = C1 at CS1 K1 ⊢
  generalize x1.heap.size = gB at K1 ⊢
  clear g0 l0 l1 l2 l3 l4 hC1 hx1 x1 hs1 hs2
  refine mix_main (by rfl) ?_
  rintro ⟨x2, hx2⟩
  go_wp2
  have hC2 : C1 (x2.alloc (.cells #[.slice p pl c, .slice (some ⟨gB, 0, none⟩) 1 1, .slice p3 (n - pl) c3] 40)) := CS1.out x2 _ hx2 ((Below.refl _ _).alloc (Nat.le_refl _) _)
  refine ⟨From C1 (x2.alloc (.cells #[.slice p pl c, .slice (some ⟨gB, 0, none⟩) 1 1, .slice p3 (n - pl) c3] 40)), from_self hC2, fun x hx => hx.1, ?_⟩
  have K2 : Hid (∀ x, From C1 (x2.alloc (.cells #[.slice p pl c, .slice (some ⟨gB, 0, none⟩) 1 1, .slice p3 (n - pl) c3] 40)) x → C1 x ∧ x.cell? ⟨x2.heap.size, 0, none⟩ = some (.slice p pl c) ∧ x.cell? ⟨x2.heap.size, 1, none⟩ = some (.slice (some ⟨gB, 0, none⟩) 1 1) ∧ x.cell? ⟨x2.heap.size, 2, none⟩ = some (.slice p3 (n - pl) c3)) :=
    fun x hx => ⟨hx.1, from_cell hx (new_cell _ _ _ _ _ rfl), from_cell hx (new_cell _ _ _ _ _ rfl), from_cell hx (new_cell _ _ _ _ _ rfl)⟩
  have CS2 := hide (from_shut CS1.out (x2.alloc (.cells #[.slice p pl c, .slice (some ⟨gB, 0, none⟩) 1 1, .slice p3 (n - pl) c3] 40)))
  generalize From C1 (x2.alloc (.cells #[.slice p pl c, .slice (some ⟨gB, 0, none⟩) 1 1, .slice p3 (n - pl) c3] 40)) = C2 at K2 CS2 ⊢
  generalize x2.heap.size = g at K2 ⊢
  clear hC2 hx2 x2
  refine mix_main (by rfl) ?_
  rintro ⟨x3, hx3⟩
  dsimp only
  obtain ⟨y1, y2, y3, y4⟩ := K2.out x3 hx3
  obtain ⟨z1, z2⟩ := K1.out x3 y1
  have b3 := CW.out x3 z1
  have b4 := BW.out.trans (b3.mono BW.out.size)
  have hcon := WE.out W x3 g gB b3 BW.out (H1.out x3 b4) (H3.out x3 b4) (World.block_lt_of_cell? _ _ y2) y2 y3 y4 z2
  have HX := hide hx3
  clear y1 y2 y3 y4 z1 z2 b3 b4 hx3
  go_wp2_with (go_at_call 46; refine hcon.mono ?_; rintro e w4 ⟨v, rfl, hown, hb⟩)
  refine ⟨fun x => C2 x ∧ Below w.heap.size w x ∧ x.ownsRow w.heap.size 44 5 v L.length (flat L), ⟨?_, ?_, hown⟩, fun x hx => hx.1, ?_⟩
  · exact CS2.out x3 w4 HX.out hb
  · exact BW.out.trans ((CW.out w4 (K1.out w4 (K2.out w4 (CS2.out x3 w4 HX.out hb)).1).1).mono BW.out.size)
  · generalize hC3 : (fun x => C2 x ∧ Below w.heap.size w x ∧ x.ownsRow w.heap.size 44 5 v L.length (flat L)) = C3
    have E3 := hide hC3
    clear hC3
    repeat (refine mix_still (by rfl) ?_; go_big_quiet_step (exact rfl); refine wpQuiet_nil ?_)
    refine mix_end ?_
    rintro ⟨x5, hx5⟩
    dsimp only
    rw [← E3.out] at hx5
    have O5 := hide hx5
    clear hx5
    go_wp2
    go_ret
    exact ⟨_, rfl, O5.out.2.2, O5.out.2.1⟩

theorem slice_to {p : Option Addr} {n c k : Nat} (hk : k ≤ c) (x : World) : Sem.run Try.prog (Instr.sliceAt 40 (.slice p n c) none (some (.int .i64 (k : Nat))) none) x = .ok (.slice p k c) x := by
  have h1 : (k : Int) ≤ (c : Int) := by omega
  go_simp
theorem slice_from {p : Option Addr} {n c k : Nat} (hk : k ≤ n) (x : World) : Sem.run Try.prog (Instr.sliceAt 40 (.slice p n c) (some (.int .i64 (k : Nat))) none none) x = .ok (.slice (if c = k then p else p.map (·.add (k * 5))) (n - k) (c - k)) x := by
  have h1 : (k : Int) ≤ (n : Int) := by omega
  go_simp

theorem ov_take {w : World} {p : Option Addr} {c : Nat} {xs : List Odr} (h : OV w p c xs) (k : Nat) : OV w p c (xs.take k) := by
  refine ⟨?_, h.nil, ?_⟩
  · rcases h.row with rfl | ⟨b, off, rfl, hc⟩
    · exact .inl (by simp)
    · exact .inr ⟨b, off, rfl, orow_take hc k⟩
  · have := h.cap
    rw [List.length_take]; omega
theorem ov_drop {w : World} {p : Option Addr} {c : Nat} {xs : List Odr} (h : OV w p c xs) (k : Nat) (hk : k ≤ xs.length) : OV w (if c = k then p else p.map (·.add (k * 5))) (c - k) (xs.drop k) := by
  have hcap := h.cap
  refine ⟨?_, ?_, ?_⟩
  · by_cases hd : xs.length ≤ k
    · exact .inl (List.drop_eq_nil_of_le hd)
    · rcases h.row with rfl | ⟨b, off, rfl, hc⟩
      · exact absurd (Nat.zero_le k) hd
      · rw [if_neg (by omega)]
        refine .inr ⟨b, off + k * 5, ?_, orow_drop hc k⟩
        rw [Option.map_some, add_lit]
  · intro he
    split at he
    · omega
    · have : p = none := by simpa using he
      have := h.nil this
      omega
  · rw [List.length_drop]; omega

/-- in a sorted side those ahead of o come first. -/
theorem ahead_mono {s : Int} {xs : List Odr} {o : Odr} (h : Side s xs) : ∀ i j, i ≤ j → j < xs.length → ahead xs[j]! o = true → ahead xs[i]! o = true := by
  intro i j hij hj ha
  by_cases e : i = j
  · subst e; exact ha
  · have hi : i < xs.length := by omega
    rw [getElem!_pos xs j hj] at ha
    rw [getElem!_pos xs i hi]
    refine ahead_trans ?_ (List.pairwise_iff_getElem.1 h.srt i j hi hj (by omega)) ha
    rw [h.sd _ (List.getElem_mem hi), h.sd _ (List.getElem_mem hj)]

theorem with_any (p : Option Addr) (c : Nat) (xs : List Odr) (a ac sd pr q : Int) (w : World) (h : OV w p c xs) (hn : xs.length ≤ 1000) (s : Int) (hs : Side s xs) :
    Calls Try.prog 74 #[.slice p xs.length c, .agg #[.int .i64 a, .int .i64 ac, .int .i64 sd, .int .i64 pr, .int .i64 q]] w fun e w' => ∃ v, e = .returned v ∧ w'.ownsRow w.heap.size 44 5 v (laid xs (a, ac, sd, pr, q)).length (flat (laid xs (a, ac, sd, pr, q))) ∧ Below w.heap.size w w' := by
  have hle : place xs (a, ac, sd, pr, q) ≤ xs.length := List.countP_le_length
  have hcap := h.cap
  refine with_core p _ c _ xs a ac sd pr q w hn _ rfl hle ?_ (fun x hx => ov_take (h.below hx) _) (fun x hx => ov_drop (h.below hx) _ hle) (fun x => slice_to (by omega) x) (fun x => slice_from hle x)
  intro W hW e0 k0 k1 k2 k3 k4
  by_cases hx : xs = []
  · subst hx
    exact search_none _ W
  · rcases h.row with hh | ⟨b, off, rfl, hc⟩
    · exact absurd hh hx
    · have hbl : b < w.heap.size := World.block_lt_of_cell? w _ (hc 0 (List.length_pos_iff.2 hx) 0 _ rfl)
      exact search_some b off c w.heap.size (w.heap.size + 1) xs a ac sd pr q W (by omega) (ahead_mono hs) (fun j hj i v hv => (hW.cell hbl).trans (hc j hj i v hv)) e0 k0 k1 k2 k3 k4
end Go.Proofs.Ytbphljnncbiddaa.Bk
