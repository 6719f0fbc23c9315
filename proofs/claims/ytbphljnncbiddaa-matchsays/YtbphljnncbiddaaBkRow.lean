/-
  Package book by contracts: slices of orders; Ahead, count, firstPrice, crossesBest.
-/
import Derived.Test.YtbphljnncbiddaaBkLow
namespace Go.Proofs.Ytbphljnncbiddaa.Bk
open Go.RowKit Go.Sort

/-- in this world a slice that begins there holds these orders. -/
def ORow (w : World) (p : Option Addr) (xs : List Odr) : Prop :=
  xs = [] ∨ ∃ b off, p = some ⟨b, off, none⟩ ∧ ∀ j, j < xs.length → ∀ i v, (enc xs[j]!)[i]? = some v → w.cell? ⟨b, off + j * 5 + i, none⟩ = some v

theorem grow_below (w : World) (k : Nat) (os : Array Obj) : Below w.heap.size w (grow (w.drewN k) os) :=
  ⟨rfl, rfl, rfl, by simp [grow], fun i hi => by
    show ((w.drewN k).heap ++ os)[i]? = _
    rw [Array.getElem?_append_left (by exact hi)]
    rfl⟩

theorem orow_below {w w' : World} {p : Option Addr} {xs : List Odr} (h : ORow w p xs) (hb : Below w.heap.size w w') : ORow w' p xs := by
  rcases h with rfl | ⟨b, off, rfl, hc⟩
  · exact .inl rfl
  · refine .inr ⟨b, off, rfl, fun j hj i v hv => ?_⟩
    have := hc j hj i v hv
    rw [hb.cell (World.block_lt_of_cell? w _ this)]
    exact this

theorem orow_cells {w : World} {b off : Nat} {xs : List Odr} (hc : ∀ j, j < xs.length → ∀ i v, (enc xs[j]!)[i]? = some v → w.cell? ⟨b, off + j * 5 + i, none⟩ = some v) {j : Nat} (hj : j < xs.length) :
    w.cell? ⟨b, off + j * 5, none⟩ = some (.int .i64 (oid xs[j]!)) ∧ w.cell? ⟨b, off + j * 5 + 1, none⟩ = some (.int .i64 (oac xs[j]!)) ∧ w.cell? ⟨b, off + j * 5 + 2, none⟩ = some (.int .i64 (osd xs[j]!)) ∧ w.cell? ⟨b, off + j * 5 + 3, none⟩ = some (.int .i64 (opr xs[j]!)) ∧ w.cell? ⟨b, off + j * 5 + 4, none⟩ = some (.int .i64 (oqt xs[j]!)) :=
  ⟨hc j hj 0 _ rfl, hc j hj 1 _ rfl, hc j hj 2 _ rfl, hc j hj 3 _ rfl, hc j hj 4 _ rfl⟩

theorem ahead_lt {a b : Odr} (h : opr a = opr b) : ahead a b = decide (oid a < oid b) := by unfold ahead; rw [if_pos h]
theorem ahead_buy {a b : Odr} (h : ¬ opr a = opr b) (h2 : osd a = 1) : ahead a b = decide (opr b < opr a) := by unfold ahead; rw [if_neg h, if_pos h2]
theorem ahead_sell {a b : Odr} (h : ¬ opr a = opr b) (h2 : ¬ osd a = 1) : ahead a b = decide (opr a < opr b) := by unfold ahead; rw [if_neg h, if_neg h2]

set_option maxHeartbeats 1000000 in
theorem ahead_grow (a b c d q a' b' c' d' q' : Int) (w : World) :
    Calls Try.prog 39 #[.agg #[.int .i64 a, .int .i64 b, .int .i64 c, .int .i64 d, .int .i64 q], .agg #[.int .i64 a', .int .i64 b', .int .i64 c', .int .i64 d', .int .i64 q']] w
      fun e w' => e = .returned (.bool (ahead (a, b, c, d, q) (a', b', c', d', q'))) ∧ ∃ k os, w' = grow (w.drewN k) os := by
  by_cases h1 : d = d'
  · rw [ahead_lt h1]
    subst h1
    go_enter Try.func39, Try.ntmps39
    go_wp2
    go_ret
    exact ⟨rfl, 0, #[_, _], by rw [alloc_eq_grow, alloc_eq_grow, grow_grow]; rfl⟩
  · have e1 : (d == d') = false := by simp [h1]
    by_cases h2 : c = 1
    · rw [ahead_buy h1 h2]
      subst h2
      go_enter Try.func39, Try.ntmps39
      go_wp2
      go_ret
      exact ⟨rfl, 0, #[_, _], by rw [alloc_eq_grow, alloc_eq_grow, grow_grow]; rfl⟩
    · rw [ahead_sell h1 h2]
      have e2 : (c == 1) = false := by simp [h2]
      go_enter Try.func39, Try.ntmps39
      go_wp2
      go_ret
      exact ⟨rfl, 0, #[_, _], by rw [alloc_eq_grow, alloc_eq_grow, grow_grow]; rfl⟩

theorem count_any (p p' : Option Addr) (n n' c c' : Nat) (w : World) (hn : n ≤ 140737488351232) (hn' : n' ≤ 140737488351232) :
    Calls Try.prog 81 #[.agg #[.slice p n c, .slice p' n' c']] w fun e w' => e = .returned (.int .i64 ((n : Int) + (n' : Int))) ∧ ∃ k os, w' = grow (w.drewN k) os := by
  go_enter Try.func81, Try.ntmps81
  go_wp2
  go_ret
  exact ⟨rfl, 0, #[_], alloc_eq_grow w _⟩

theorem firstPrice_any (p : Option Addr) (c : Nat) (xs : List Odr) (w : World) (h : ORow w p xs) :
    Calls Try.prog 79 #[.slice p xs.length c] w fun e w' => e = .returned (.int .i64 (firstPrice xs)) ∧ w' = w := by
  rcases h with rfl | ⟨b, off, rfl, hc⟩
  · go_enter Try.func79, Try.ntmps79
    go_wp2
    go_ret
    exact ⟨rfl, rfl⟩
  · cases xs with
    | nil =>
      go_enter Try.func79, Try.ntmps79
      go_wp2
      go_ret
      exact ⟨rfl, rfl⟩
    | cons x l =>
      have h3 := (orow_cells hc (j := 0) (by simp)).2.2.2.1
      simp only [Nat.zero_mul, Nat.add_zero, List.getElem!_cons_zero] at h3
      generalize hn : (x :: l).length = n
      have h0 : 0 < n := by rw [← hn]; simp
      clear hn hc
      simp only [firstPrice]
      go_enter Try.func79, Try.ntmps79
      go_wp2
      go_ret
      exact ⟨rfl, rfl⟩

set_option maxHeartbeats 1000000 in
theorem crossesBest_any (o1 o2 o3 o4 o5 : Int) (p : Option Addr) (c : Nat) (xs : List Odr) (w : World) (h : ORow w p xs) :
    Calls Try.prog 83 #[.agg #[.int .i64 o1, .int .i64 o2, .int .i64 o3, .int .i64 o4, .int .i64 o5], .slice p xs.length c] w fun e w' => e = .returned (.bool (crosses (o1, o2, o3, o4, o5) xs)) ∧ ∃ k os, w' = grow (w.drewN k) os := by
  cases xs with
  | nil =>
    simp only [crosses]
    go_enter Try.func83, Try.ntmps83
    go_wp2
    go_ret
    exact ⟨rfl, 0, #[_], alloc_eq_grow w _⟩
  | cons x l =>
    rcases h with h | ⟨b, off, rfl, hc⟩
    · cases h
    have h3 := (orow_cells hc (j := 0) (by simp)).2.2.2.1
    simp only [Nat.zero_mul, Nat.add_zero, List.getElem!_cons_zero] at h3
    have hb := World.block_lt_of_cell? w _ h3
    have h4 := fun (o : Obj) => (cell?_grow w #[o] ⟨b, off + 3, none⟩ hb).trans h3
    simp only [← alloc_eq_grow] at h4
    generalize hn : (x :: l).length = n
    have h0 : 0 < n := by rw [← hn]; simp
    clear hn hc h3
    simp only [crosses]
    generalize opr x = px at h4 ⊢
    by_cases h2 : o3 = 1
    · rw [if_pos h2]
      subst h2
      go_enter Try.func83, Try.ntmps83
      go_wp2_with fail
      go_quiet (fail)
      go_wp2
      go_ret
      exact ⟨rfl, _, #[_], by first | exact alloc_eq_grow _ _ | rfl⟩
    · rw [if_neg h2]
      have e2 : (o3 == 1) = false := by simp [h2]
      go_enter Try.func83, Try.ntmps83
      go_wp2_with fail
      go_quiet (fail)
      go_wp2
      go_ret
      exact ⟨rfl, _, #[_], by first | exact alloc_eq_grow _ _ | rfl⟩

end Go.Proofs.Ytbphljnncbiddaa.Bk
