/-
  Package book by contracts: hasID, its closure, slices.IndexFunc and slices.ContainsFunc with it.
-/
import Derived.Test.YtbphljnncbiddaaBkCheck
import Derived.Deep.LoopGhost
import Derived.RowKit
namespace Go.Proofs.Ytbphljnncbiddaa.Bk
open Go.RowKit Go.Sort Go.Maps

/-- the place of the first order of this ID, counted from k. -/
def idxAt (id : Int) : List Odr → Nat → Int
  | [], _ => -1
  | o :: l, k => if oid o = id then (k : Int) else idxAt id l (k + 1)
theorem idxAt_hit {id : Int} {xs : List Odr} {k : Nat} (h : k < xs.length) (he : oid xs[k]! = id) : idxAt id (xs.drop k) k = k := by
  rw [drop_at h]; unfold idxAt; rw [if_pos he]
theorem idxAt_miss {id : Int} {xs : List Odr} {k : Nat} (h : k < xs.length) (he : ¬ oid xs[k]! = id) : idxAt id (xs.drop k) k = idxAt id (xs.drop (k + 1)) (k + 1) := by
  rw [drop_at h]; conv => lhs; unfold idxAt
  rw [if_neg he]
theorem idxAt_end {id : Int} {xs : List Odr} {k : Nat} : idxAt id (xs.drop xs.length) k = -1 := by
  rw [List.drop_length]; rfl
theorem idxAt_ways (id : Int) : ∀ (xs : List Odr) (k : Nat), (idxAt id xs k = -1 ∧ xs.find? (hasId id) = none ∧ ∀ x, x ∈ xs → ¬ oid x = id) ∨ ∃ j, j < xs.length ∧ idxAt id xs k = ((k + j : Nat) : Int) ∧ xs.find? (hasId id) = some xs[j]! ∧ xs.take j = (xs.take j).filter (fun x => !hasId id x)
  | [], k => .inl ⟨rfl, rfl, by simp⟩
  | o :: l, k => by
    unfold idxAt
    by_cases he : oid o = id
    · refine .inr ⟨0, by simp, ?_, ?_, rfl⟩
      · rw [if_pos he]; rfl
      · rw [List.find?_cons, show hasId id o = true from (hasId_iff id o).2 he]; rfl
    · have hf : hasId id o = false := by simp [hasId, he]
      rw [if_neg he]
      rcases idxAt_ways id l (k + 1) with ⟨h1, h2, h3⟩ | ⟨j, h1, h2, h3, h4⟩
      · refine .inl ⟨h1, ?_, ?_⟩
        · rw [List.find?_cons, hf]; exact h2
        · intro x hx
          rcases List.mem_cons.1 hx with rfl | hx
          · exact he
          · exact h3 x hx
      · refine .inr ⟨j + 1, by simp; omega, ?_, ?_, ?_⟩
        · rw [h2]; congr 1; omega
        · rw [List.find?_cons, hf]; exact h3
        · rw [List.take_succ_cons, List.filter_cons, hf]; exact congrArg (o :: ·) h4

theorem idxAt_any (id : Int) (xs : List Odr) : decide (0 ≤ idxAt id xs 0) = xs.any (hasId id) := by
  rcases idxAt_ways id xs 0 with ⟨h1, h2, h3⟩ | ⟨j, h1, h2, h3, _⟩
  · rw [h1]
    have : xs.any (hasId id) = false := by
      rw [List.any_eq_false]; intro x hx; simp [hasId, h3 x hx]
    rw [this]; rfl
  · rw [h2]
    have : xs.any (hasId id) = true := by
      rw [List.any_eq_true]
      exact ⟨_, List.mem_of_find?_eq_some h3, List.find?_some h3⟩
    rw [this]; simp

/-- the function value that hasID hands back: its id lies in the cell ⟨B, 0⟩. -/
abbrev idFn (B : Nat) : Value := .func (.func 104) #[] #[.pointer (some ⟨B, 0, none⟩)]

theorem hasID_any (id : Int) (w : World) :
    Calls Try.prog 77 #[.int .i64 id] w fun e w' => e = .returned (idFn w.heap.size) ∧ w' = w.alloc (.cells #[.int .i64 id] 3) := by
  go_enter Try.func77, Try.ntmps77
  go_wp2
  go_ret
  exact ⟨rfl, rfl⟩

theorem hasID1_any (a ac sd pr q id : Int) (B : Nat) (w : World) (hc : w.cell? ⟨B, 0, none⟩ = some (.int .i64 id)) :
    Calls Try.prog 104 #[.agg #[.int .i64 a, .int .i64 ac, .int .i64 sd, .int .i64 pr, .int .i64 q], .pointer (some ⟨B, 0, none⟩)] w fun e w' => e = .returned (.bool (hasId id (a, ac, sd, pr, q))) ∧ ∃ k os, w' = grow (w.drewN k) os := by
  have h1 := fun o => cell_alloc hc o
  clear hc
  go_enter Try.func104, Try.ntmps104
  go_wp2
  go_ret
  refine ⟨?_, 0, #[_], alloc_eq_grow w _⟩
  by_cases e : a = id <;> simp [hasId, e]

set_option maxHeartbeats 2000000 in
set_option maxRecDepth 100000 in
theorem indexFunc_some (b off c : Nat) (xs : List Odr) (id : Int) (B : Nat) (w : World) (hn : xs.length ≤ 140737488351232)
    (hc : ∀ j, j < xs.length → ∀ i v, (enc xs[j]!)[i]? = some v → w.cell? ⟨b, off + j * 5 + i, none⟩ = some v) (hb : b < w.heap.size) (hid : w.cell? ⟨B, 0, none⟩ = some (.int .i64 id)) :
    Calls Try.prog 76 #[.slice (some ⟨b, off, none⟩) xs.length c, idFn B] w fun e w' => e = .returned (.int .i64 (idxAt id xs 0)) ∧ Below w.heap.size w w' := by
  have eg : ∀ args w, (callFunc 104 args).run Try.prog w = .ok (.enter 104 args) w := enters_of Try.func104 (by kernel_rfl) rfl
  generalize hr : idxAt id xs 0 = r
  have R0 : Hid (idxAt id (xs.drop 0) 0 = r) := hr
  clear hr
  have HC := hide hc
  have HI := hide hid
  clear hc hid
  generalize hxn : xs.length = n at hn ⊢
  have N := hide hxn
  clear hxn
  go_enter Try.func76, Try.ntmps76
  go_wp2
  go_loopw [8] (fun i wr => ∃ k : Nat, k ≤ n ∧ i = .int .i64 k ∧ Hid (Below w.heap.size w wr) ∧ Hid (idxAt id (xs.drop k) k = r)) (fun i _ => n - (intOf i).toNat)
  case atStart => exact ⟨0, Nat.zero_le _, rfl, Below.refl _ _, R0⟩
  case round =>
    obtain ⟨k, hk, rfl, BW, R⟩ := hrel
    by_cases hlt : k < n
    · have hltz : (k : Int) < (n : Int) := by omega
      have hkx : k < xs.length := by rw [N.out]; exact hlt
      obtain ⟨c0, c1, c2, c3, c4⟩ := orow_cells (w := wr) (b := b) (off := off) (xs := xs) (fun j hj i v hv => (BW.out.cell hb).trans (HC.out j hj i v hv)) hkx
      generalize hx : xs[k]! = x at c0 c1 c2 c3 c4
      have X := hide hx
      clear hx
      obtain ⟨a, ac, sd, pr, q⟩ := x
      dsimp only [oid, oac, osd, opr, oqt] at c0 c1 c2 c3 c4
      have hcall := hasID1_any a ac sd pr q id B wr ((BW.out.cell (World.block_lt_of_cell? _ _ HI.out)).trans HI.out)
      cases hh : hasId id (a, ac, sd, pr, q) with
      | true =>
        rw [hh] at hcall
        go_wp2_with (go_at_fn 104; refine hcall.mono ?_; rintro e w' ⟨rfl, q1, os1, rfl⟩)
        go_ret
        refine ⟨?_, BW.out.trans ((grow_below wr q1 os1).mono BW.out.size)⟩
        rw [← R.out, idxAt_hit hkx (by rw [X.out]; exact (hasId_iff _ _).1 hh)]
        rfl
      | false =>
        rw [hh] at hcall
        go_wp2_with (go_at_fn 104; refine hcall.mono ?_; rintro e w' ⟨rfl, q1, os1, rfl⟩)
        go_roundw
        case rel =>
          refine ⟨k + 1, by omega, by go_num, BW.out.trans ((grow_below wr q1 os1).mono BW.out.size), ?_⟩
          show idxAt id (xs.drop (k + 1)) (k + 1) = r
          rw [← R.out]
          exact (idxAt_miss hkx (by rw [X.out]; intro e; rw [(hasId_iff _ _).2 e] at hh; cases hh)).symm
        case measure => simp [intOf]; omega
    · have hk' : k = n := by omega
      subst hk'
      go_wp2
      go_ret
      refine ⟨?_, BW.out⟩
      rw [← R.out, ← N.out, idxAt_end]
      rfl

set_option maxRecDepth 100000 in
theorem indexFunc_none (p : Option Addr) (c : Nat) (f : Value) (w : World) :
    Calls Try.prog 76 #[.slice p 0 c, f] w fun e w' => e = .returned (.int .i64 (-1)) ∧ w' = w := by
  go_enter Try.func76, Try.ntmps76
  go_wp2
  refine wp_loop_rounds 1 ?_
  rw [rounds_succ]
  go_wp2
  go_ret
  exact ⟨rfl, rfl⟩

theorem indexFunc_any (p : Option Addr) (c : Nat) (xs : List Odr) (id : Int) (B : Nat) (w : World) (hn : xs.length ≤ 140737488351232) (h : ORow w p xs) (hid : w.cell? ⟨B, 0, none⟩ = some (.int .i64 id)) :
    Calls Try.prog 76 #[.slice p xs.length c, idFn B] w fun e w' => e = .returned (.int .i64 (idxAt id xs 0)) ∧ Below w.heap.size w w' := by
  by_cases hx : xs = []
  · subst hx
    refine (indexFunc_none p c (idFn B) w).mono ?_
    rintro e w' ⟨rfl, rfl⟩
    exact ⟨rfl, Below.refl _ _⟩
  · rcases h with h | ⟨b, off, rfl, hc⟩
    · exact absurd h hx
    · exact indexFunc_some b off c xs id B w hn hc (World.block_lt_of_cell? w _ (hc 0 (List.length_pos_iff.2 hx) 0 _ rfl)) hid

theorem containsFunc_any (p : Option Addr) (c : Nat) (xs : List Odr) (id : Int) (B : Nat) (w : World) (hn : xs.length ≤ 140737488351232) (h : ORow w p xs) (hid : w.cell? ⟨B, 0, none⟩ = some (.int .i64 id)) :
    Calls Try.prog 101 #[.slice p xs.length c, idFn B] w fun e w' => e = .returned (.bool (xs.any (hasId id))) ∧ Below w.heap.size w w' := by
  have hcon := indexFunc_any p c xs id B w hn h hid
  rw [← idxAt_any]
  generalize idxAt id xs 0 = r at hcon ⊢
  generalize xs.length = n at hcon ⊢
  clear h hid
  go_enter Try.func101, Try.ntmps101
  go_wp2_with (go_at_call 76; refine hcon.mono ?_; rintro e w' ⟨rfl, hb'⟩)
  go_ret
  exact ⟨rfl, hb'⟩

end Go.Proofs.Ytbphljnncbiddaa.Bk
