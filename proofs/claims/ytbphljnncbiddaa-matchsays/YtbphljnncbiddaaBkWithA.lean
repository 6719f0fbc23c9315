/-
  Package book by contracts: with (o behind those that are ahead of it).
-/
import Derived.Test.YtbphljnncbiddaaBkCat
namespace Go.Proofs.Ytbphljnncbiddaa.Bk
open Go.RowKit Go.Sort Go.Maps Go.Proofs.Ytbphljnncbiddaa.Mix

theorem own_below {w w' : World} {B : Nat} {e : TypeId} {s : Nat} {v : Value} {n : Nat} {xs : List Value} (h : w.ownsRow B e s v n xs) (hb : Below w.heap.size w w') : w'.ownsRow B e s v n xs := by
  refine ⟨h.1, ?_⟩
  rcases h.2 with h | ⟨g, cap, cur, h1, h2, h3, h4⟩
  · exact .inl h
  · exact .inr ⟨g, cap, cur, h1, h2, (hb.block g (Array.getElem?_eq_some_iff.1 h3).1).trans h3, h4⟩
theorem own_base {w : World} {B B' : Nat} {e : TypeId} {s : Nat} {v : Value} {n : Nat} {xs : List Value} (h : w.ownsRow B e s v n xs) (hB : B' ≤ B) : w.ownsRow B' e s v n xs := by
  refine ⟨h.1, ?_⟩
  rcases h.2 with h | ⟨g, cap, cur, h1, h2, h3⟩
  · exact .inl h
  · exact .inr ⟨g, cap, cur, h1, Nat.le_trans hB h2, h3⟩

set_option maxHeartbeats 1000000 in
theorem with1_any (b off n c B0 B1 i : Nat) (xs : List Odr) (a ac sd pr q : Int) (w : World) (hi : i < n) (hn : xs.length = n)
    (hc : ∀ j, j < xs.length → ∀ i v, (enc xs[j]!)[i]? = some v → w.cell? ⟨b, off + j * 5 + i, none⟩ = some v) (h0 : w.cell? ⟨B0, 0, none⟩ = some (.slice (some ⟨b, off, none⟩) n c))
    (k0 : w.cell? ⟨B1, 0, none⟩ = some (.int .i64 a)) (k1 : w.cell? ⟨B1, 1, none⟩ = some (.int .i64 ac)) (k2 : w.cell? ⟨B1, 2, none⟩ = some (.int .i64 sd)) (k3 : w.cell? ⟨B1, 3, none⟩ = some (.int .i64 pr)) (k4 : w.cell? ⟨B1, 4, none⟩ = some (.int .i64 q)) :
    Calls Try.prog 103 #[.int .i64 i, .pointer (some ⟨B0, 0, none⟩), .pointer (some ⟨B1, 0, none⟩)] w fun e w' => e = .returned (.bool (!ahead xs[i]! (a, ac, sd, pr, q))) ∧ ∃ k os, w' = grow (w.drewN k) os := by
  have mixed : Try.prog.follows .mixedOrders = true := by kernel_rfl
  obtain ⟨c0, c1, c2, c3, c4⟩ := orow_cells hc (j := i) (by omega)
  generalize xs[i]! = x at c0 c1 c2 c3 c4 ⊢
  obtain ⟨a', ac', sd', pr', q'⟩ := x
  dsimp only [oid, oac, osd, opr, oqt] at c0 c1 c2 c3 c4
  have g0 := fun n os => cell_grown (World.block_lt_of_cell? _ _ h0) h0 n os
  have l0 := fun n os => cell_grown (World.block_lt_of_cell? _ _ k0) k0 n os
  have l1 := fun n os => cell_grown (World.block_lt_of_cell? _ _ k1) k1 n os
  have l2 := fun n os => cell_grown (World.block_lt_of_cell? _ _ k2) k2 n os
  have l3 := fun n os => cell_grown (World.block_lt_of_cell? _ _ k3) k3 n os
  have l4 := fun n os => cell_grown (World.block_lt_of_cell? _ _ k4) k4 n os
  have m0 := fun n os => cell_grown (World.block_lt_of_cell? _ _ c0) c0 n os
  have m1 := fun n os => cell_grown (World.block_lt_of_cell? _ _ c1) c1 n os
  have m2 := fun n os => cell_grown (World.block_lt_of_cell? _ _ c2) c2 n os
  have m3 := fun n os => cell_grown (World.block_lt_of_cell? _ _ c3) c3 n os
  have m4 := fun n os => cell_grown (World.block_lt_of_cell? _ _ c4) c4 n os
  have hiz : (i : Int) < (n : Int) := by omega
  clear hc h0 k0 k1 k2 k3 k4 c0 c1 c2 c3 c4 hn
  go_enter Try.func103, Try.ntmps103
  go_wp2_with fail
  refine wp_region_quiet_grown (by assumption) (by kernel_rfl) ?_
  repeat (go_big_quiet_step (first | (go_at_call 39; refine Calls.grown_of (ahead_grow _ _ _ _ _ _ _ _ _ _ _))))
  refine wpQuiet_nil ?_
  intro _ hwq
  obtain ⟨⟨nq, osq⟩, hwq'⟩ := hwq
  subst hwq'
  go_wp2
  go_ret
  exact ⟨rfl, _, _, rfl⟩

theorem place_count (xs : List Odr) (o : Odr) : (List.range xs.length).countP (fun i => !!ahead xs[i]! o) = place xs o := by
  have := Go.Lib.countP_range xs.toArray (fun x => ahead x o)
  simp only [List.size_toArray] at this
  unfold place
  rw [← this]
  refine List.countP_congr fun i hi => ?_
  rw [Bool.not_not]
  simp only [List.mem_range] at hi
  rw [getElem!_pos xs i hi, getElem!_pos xs.toArray i (by simpa using hi)]
  simp

theorem search_some (b off c B0 B1 : Nat) (xs : List Odr) (a ac sd pr q : Int) (w : World) (hn : xs.length ≤ 140737488351232) (hs : ∀ i j, i ≤ j → j < xs.length → ahead xs[j]! (a, ac, sd, pr, q) = true → ahead xs[i]! (a, ac, sd, pr, q) = true)
    (hc : ∀ j, j < xs.length → ∀ i v, (enc xs[j]!)[i]? = some v → w.cell? ⟨b, off + j * 5 + i, none⟩ = some v) (h0 : w.cell? ⟨B0, 0, none⟩ = some (.slice (some ⟨b, off, none⟩) xs.length c))
    (k0 : w.cell? ⟨B1, 0, none⟩ = some (.int .i64 a)) (k1 : w.cell? ⟨B1, 1, none⟩ = some (.int .i64 ac)) (k2 : w.cell? ⟨B1, 2, none⟩ = some (.int .i64 sd)) (k3 : w.cell? ⟨B1, 3, none⟩ = some (.int .i64 pr)) (k4 : w.cell? ⟨B1, 4, none⟩ = some (.int .i64 q)) :
    Calls Try.prog 102 #[.int .i64 xs.length, .func (.func 103) #[] #[.pointer (some ⟨B0, 0, none⟩), .pointer (some ⟨B1, 0, none⟩)]] w fun e w' => e = .returned (.int .i64 (place xs (a, ac, sd, pr, q) : Nat)) ∧ Below w.heap.size w w' := by
  have eg : ∀ args w, (callFunc 103 args).run Try.prog w = .ok (.enter 103 args) w := enters_of Try.func103 (by kernel_rfl) rfl
  have hcon := Any.sort_Search Try.searchB 103 #[.pointer (some ⟨B0, 0, none⟩), .pointer (some ⟨B1, 0, none⟩)] xs.length (fun i => !ahead xs[i]! (a, ac, sd, pr, q)) w eg (by omega)
    (fun m os i hi => with1_any b off xs.length c B0 B1 i xs a ac sd pr q (grow (w.drewN m) os) hi rfl
      (fun j hj i v hv => cell_grown (World.block_lt_of_cell? _ _ (hc j hj i v hv)) (hc j hj i v hv) m os)
      (cell_grown (World.block_lt_of_cell? _ _ h0) h0 m os) (cell_grown (World.block_lt_of_cell? _ _ k0) k0 m os) (cell_grown (World.block_lt_of_cell? _ _ k1) k1 m os) (cell_grown (World.block_lt_of_cell? _ _ k2) k2 m os)
      (cell_grown (World.block_lt_of_cell? _ _ k3) k3 m os) (cell_grown (World.block_lt_of_cell? _ _ k4) k4 m os))
    (fun i j hij hj hp => by
      cases e : ahead xs[j]! (a, ac, sd, pr, q) with
      | false => rfl
      | true => rw [hs i j hij hj e] at hp; cases hp)
  rw [place_count] at hcon
  refine hcon.mono ?_
  rintro e w' ⟨rfl, q1, os1, rfl⟩
  exact ⟨rfl, grow_below _ _ _⟩

set_option maxRecDepth 100000 in
theorem search_none (f : Value) (w : World) : Calls Try.prog 102 #[.int .i64 0, f] w fun e w' => e = .returned (.int .i64 0) ∧ Below w.heap.size w w' := by
  go_enter Try.func102, Try.ntmps102
  go_wp2
  refine wp_loop_rounds 1 ?_
  rw [rounds_succ]
  go_wp2
  go_ret
  exact ⟨rfl, Below.refl _ _⟩

theorem laid_joined (xs : List Odr) (o : Odr) (p1 p2 p3 : Option Addr) (c1 c2 c3 : Nat) : joined [(p1, c1, xs.take (place xs o)), (p2, c2, [o]), (p3, c3, xs.drop (place xs o))] = laid xs o := by
  simp [joined, laid]

theorem orow_take {w : World} {b off : Nat} {xs : List Odr} (hc : ∀ j, j < xs.length → ∀ i v, (enc xs[j]!)[i]? = some v → w.cell? ⟨b, off + j * 5 + i, none⟩ = some v) (k : Nat) :
    ∀ j, j < (xs.take k).length → ∀ i v, (enc (xs.take k)[j]!)[i]? = some v → w.cell? ⟨b, off + j * 5 + i, none⟩ = some v := by
  intro j hj i v hv
  have hj' : j < xs.length ∧ j < k := by simp at hj; omega
  refine hc j hj'.1 i v ?_
  rw [getElem!_pos xs j hj'.1]
  rw [getElem!_pos (xs.take k) j hj, List.getElem_take] at hv
  exact hv
theorem orow_drop {w : World} {b off : Nat} {xs : List Odr} (hc : ∀ j, j < xs.length → ∀ i v, (enc xs[j]!)[i]? = some v → w.cell? ⟨b, off + j * 5 + i, none⟩ = some v) (k : Nat) :
    ∀ j, j < (xs.drop k).length → ∀ i v, (enc (xs.drop k)[j]!)[i]? = some v → w.cell? ⟨b, off + k * 5 + j * 5 + i, none⟩ = some v := by
  intro j hj i v hv
  have hj' : k + j < xs.length := by simp at hj; omega
  have := hc (k + j) hj' i v ?_
  · rw [show off + k * 5 + j * 5 + i = off + (k + j) * 5 + i by omega]; exact this
  · rw [getElem!_pos xs (k + j) hj']
    rw [getElem!_pos (xs.drop k) j hj, List.getElem_drop] at hv
    exact hv

/-- the end of 'with': the three lists, joined. -/
theorem with_end (W w x3 : World) (g : Nat) (xs : List Odr) (o : Odr) (p1 p3 : Option Addr) (c1 c3 gB : Nat) (hW : Below W.heap.size W x3) (hwW : Below w.heap.size w W)
    (h1 : OV x3 p1 c1 (xs.take (place xs o))) (h3 : OV x3 p3 c3 (xs.drop (place xs o))) (hg : g < x3.heap.size)
    (k0 : x3.cell? ⟨g, 0, none⟩ = some (.slice p1 (xs.take (place xs o)).length c1)) (k1 : x3.cell? ⟨g, 1, none⟩ = some (.slice (some ⟨gB, 0, none⟩) 1 1)) (k2 : x3.cell? ⟨g, 2, none⟩ = some (.slice p3 (xs.drop (place xs o)).length c3))
    (hO : ∀ i v, (enc o)[i]? = some v → x3.cell? ⟨gB, i, none⟩ = some v) (hn : (xs.length + 1) * 40 ≤ 140737488351232) :
    Calls Try.prog 46 #[.slice (some ⟨g, 0, none⟩) 3 3] x3 fun e w' => ∃ v, e = .returned v ∧ w'.ownsRow w.heap.size 44 5 v (laid xs o).length (flat (laid xs o)) ∧ Below x3.heap.size x3 w' := by
  have hov : OV x3 (some ⟨gB, 0, none⟩) 1 [o] := ⟨.inr ⟨gB, 0, rfl, fun j hj i v hv => by
    have : j = 0 := by simpa using hj
    subst this
    simpa using hO i v hv⟩, (fun h => by cases h), Nat.le_refl _⟩
  have hcon := concat_any g 3 [(p1, c1, xs.take (place xs o)), (some ⟨gB, 0, none⟩, 1, [o]), (p3, c3, xs.drop (place xs o))] x3
    (fun j hj => by
      match j, hj with
      | 0, _ => exact k0
      | 1, _ => exact k1
      | 2, _ => exact k2)
    (fun j hj => by
      match j, hj with
      | 0, _ => exact h1
      | 1, _ => exact hov
      | 2, _ => exact h3)
    hg (by simp) (by rw [laid_joined, length_laid]; exact hn)
  rw [laid_joined] at hcon
  refine hcon.mono ?_
  rintro e w' ⟨v, rfl, hown, hb⟩
  exact ⟨v, rfl, own_base hown (Nat.le_trans hwW.size hW.size), hb⟩
end Go.Proofs.Ytbphljnncbiddaa.Bk
