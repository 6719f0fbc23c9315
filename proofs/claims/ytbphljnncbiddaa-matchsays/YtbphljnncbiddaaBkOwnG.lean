/-
  A row of orders that the call owns, written order by order; 'clear' of its end.
-/
import Derived.Test.YtbphljnncbiddaaBkSame
import Derived.Lib.SliceRun
namespace Go.Proofs.Ytbphljnncbiddaa.Bk
open Go.RowKit Go.Sort Go.Maps Go.Proofs.Ytbphljnncbiddaa.Mix

/-- block g is a row of cap orders of which the first are these; it may be written. -/
def OwnG (w : World) (g cap : Nat) (ys : List Odr) : Prop := ys.length ≤ cap ∧ ∃ cur, w.heap[g]? = some (.cells cur 44 (0, 0)) ∧ cur.size = cap * 5 ∧ cur.toList.take (ys.length * 5) = flat ys

theorem ownG_lt {w : World} {g cap : Nat} {ys : List Odr} (h : OwnG w g cap ys) : g < w.heap.size := by
  obtain ⟨_, _, h, _⟩ := h
  exact (Array.getElem?_eq_some_iff.1 h).1
theorem ownG_below {w w' : World} {S g cap : Nat} {ys : List Odr} (h : OwnG w g cap ys) (hb : Below S w w') (hg : g < S) : OwnG w' g cap ys := by
  obtain ⟨h0, cur, h1, h2⟩ := h
  exact ⟨h0, cur, (hb.block g hg).trans h1, h2⟩
theorem ownG_cells {w : World} {g cap : Nat} {ys : List Odr} (h : OwnG w g cap ys) : ∀ j, j < ys.length → ∀ i v, (enc ys[j]!)[i]? = some v → w.cell? ⟨g, 0 + j * 5 + i, none⟩ = some v := by
  obtain ⟨h0, cur, h1, h2, h3⟩ := h
  refine cells_flat fun j u hu => ?_
  rw [← h3, List.getElem?_take] at hu
  split at hu
  · rw [Nat.zero_add]
    simp only [World.cell?, h1]
    simpa using hu
  · cases hu
theorem ownG_some {w : World} {g cap : Nat} {ys : List Odr} (h : OwnG w g cap ys) {k : Nat} (hk : k < cap * 5) : (w.cell? ⟨g, k, none⟩).isSome = true ∧ w.frozen? ⟨g, k, none⟩ = false := by
  obtain ⟨h0, cur, h1, h2, h3⟩ := h
  simp [World.cell?, World.frozen?, h1, h2, hk]

theorem set5 (x : Odr) (l : List Value) (k : Nat) (v : Value) : (enc x ++ l).set (5 + k) v = enc x ++ l.set k v := by
  rw [List.set_append_right _ _ (by rw [enc_length]; omega), enc_length, Nat.add_sub_cancel_left]
theorem flat_set : ∀ (ys : List Odr) (i : Nat) (y : Odr), i < ys.length → flat (ys.set i y) = (((((flat ys).set (i * 5) (.int .i64 y.1)).set (i * 5 + 1) (.int .i64 y.2.1)).set (i * 5 + 2) (.int .i64 y.2.2.1)).set (i * 5 + 3) (.int .i64 y.2.2.2.1)).set (i * 5 + 4) (.int .i64 y.2.2.2.2)
  | [], i, y, h => absurd h (by simp)
  | x :: ys, 0, y, h => by simp [flat_cons, enc]
  | x :: ys, i + 1, y, h => by
    rw [List.set_cons_succ, flat_cons, flat_cons, flat_set ys i y (by simpa using h)]
    rw [show (i + 1) * 5 = 5 + i * 5 by omega, show 5 + i * 5 + 1 = 5 + (i * 5 + 1) by omega, show 5 + i * 5 + 2 = 5 + (i * 5 + 2) by omega, show 5 + i * 5 + 3 = 5 + (i * 5 + 3) by omega, show 5 + i * 5 + 4 = 5 + (i * 5 + 4) by omega]
    rw [set5, set5, set5, set5, set5]

abbrev fiveAt (x : World) (g i : Nat) (y : Odr) : World := ((((x.setCell ⟨g, i * 5, none⟩ (.int .i64 y.1)).setCell ⟨g, i * 5 + 1, none⟩ (.int .i64 y.2.1)).setCell ⟨g, i * 5 + 2, none⟩ (.int .i64 y.2.2.1)).setCell ⟨g, i * 5 + 3, none⟩ (.int .i64 y.2.2.2.1)).setCell ⟨g, i * 5 + 4, none⟩ (.int .i64 y.2.2.2.2)
theorem ownG_set {w : World} {g cap i : Nat} {ys : List Odr} (h : OwnG w g cap ys) (hi : i < ys.length) (y : Odr) : OwnG (fiveAt w g i y) g cap (ys.set i y) := by
  obtain ⟨h0, cur, h1, h2, h3⟩ := h
  refine ⟨by rw [List.length_set]; exact h0, (((((cur.setIfInBounds (i * 5) (.int .i64 y.1)).setIfInBounds (i * 5 + 1) (.int .i64 y.2.1)).setIfInBounds (i * 5 + 2) (.int .i64 y.2.2.1)).setIfInBounds (i * 5 + 3) (.int .i64 y.2.2.2.1)).setIfInBounds (i * 5 + 4) (.int .i64 y.2.2.2.2)), ?_, by simpa using h2, ?_⟩
  · simp [fiveAt, World.setCell, Array.getElem?_modify, h1]
  · rw [List.length_set, flat_set ys i y hi, ← h3]
    simp [List.take_set]
theorem fiveAt_below {B g i : Nat} {w x : World} (h : Below B w x) (hg : B ≤ g) (y : Odr) : Below B w (fiveAt x g i y) := ((((h.setCell hg _).setCell hg _).setCell hg _).setCell hg _).setCell hg _
theorem fiveAt_other {x : World} {g i : Nat} {y : Odr} {a : Addr} (h : a.block ≠ g) : (fiveAt x g i y).cell? a = x.cell? a := by
  have : ∀ (w : World) (o : Nat) (v : Value), (w.setCell ⟨g, o, none⟩ v).cell? a = w.cell? a := fun w o v => World.cell?_of_block (Below.heap_setCell w ⟨g, o, none⟩ v a.block h)
  simp only [fiveAt, this]

theorem setCells_heap (g : Nat) : ∀ (vs : List Value) (o : Nat) (w : World) (cur : Array Value) (t : TypeId), w.heap[g]? = some (.cells cur t (0, 0)) →
    ∃ cur', (w.setCells g o vs).heap[g]? = some (.cells cur' t (0, 0)) ∧ cur'.size = cur.size ∧ ∀ k, k ≤ o → cur'.toList.take k = cur.toList.take k
  | [], o, w, cur, t, h => ⟨cur, h, rfl, fun _ _ => rfl⟩
  | v :: r, o, w, cur, t, h => by
    obtain ⟨cur', h1, h2, h3⟩ := setCells_heap g r (o + 1) (w.setCell ⟨g, o, none⟩ v) (cur.setIfInBounds o v) t (by simp [World.setCell, Array.getElem?_modify, h])
    refine ⟨cur', h1, by simpa using h2, fun k hk => ?_⟩
    rw [h3 k (by omega)]
    simp only [Array.toList_setIfInBounds]
    rw [List.take_set, List.set_eq_of_length_le (by simp; omega)]
theorem setCells_below {B g : Nat} (hg : B ≤ g) {a : World} : ∀ (vs : List Value) (o : Nat) (w : World), Below B a w → Below B a (w.setCells g o vs)
  | [], _, _, h => h
  | v :: r, o, _, h => setCells_below hg r (o + 1) _ (h.setCell hg v)

theorem ownG_clear {w : World} {g cap : Nat} {ys : List Odr} (h : OwnG w g cap ys) (i : Nat) (hi : i ≤ ys.length) (vs : List Value) : OwnG (w.setCells g (i * 5) vs) g cap (ys.take i) := by
  obtain ⟨h0, cur, h1, h2, h3⟩ := h
  obtain ⟨cur', k1, k2, k3⟩ := setCells_heap g vs (i * 5) w cur _ h1
  have hl : (ys.take i).length = i := by rw [List.length_take]; omega
  refine ⟨by rw [hl]; omega, cur', k1, by rw [k2, h2], ?_⟩
  rw [hl, k3 _ (Nat.le_refl _)]
  have e : flat ys = flat (ys.take i) ++ flat (ys.drop i) := by rw [← flat_append, List.take_append_drop]
  have e2 : (flat ys).take (i * 5) = flat (ys.take i) := by
    rw [e, List.take_append_of_le_length (by rw [flat_length, hl]; exact Nat.le_refl _), List.take_of_length_le (by rw [flat_length, hl]; exact Nat.le_refl _)]
  have h4 := congrArg (List.take (i * 5)) h3
  rw [List.take_take, Nat.min_eq_left (by omega), e2] at h4
  exact h4

theorem run_clear5 (w : World) (g cap : Nat) (ys : List Odr) (h : OwnG w g cap ys) (i n c ty : Nat) (hn : i < n) (hc : n ≤ cap) :
    (Builtin.clear_ #[40] ty #[.slice (some ⟨g, i * 5, none⟩) (n - i) c]).run Try.prog w = .ok (.tuple #[]) (w.setCells g (i * 5) (List.replicate ((n - i) * 5) (.int .i64 0))) := by
  have hv : ∀ w, (zeroValue 44).run Try.prog w = .ok (odrV noOdr) w := Try.zeroValue44
  have hzc : (Builtin.zeroCells (odrV noOdr).cells (n - i)).toList = List.replicate ((n - i) * 5) (.int .i64 0) := by
    rw [show (odrV noOdr).cells = #[.int .i64 0, .int .i64 0, .int .i64 0, .int .i64 0, .int .i64 0] from rfl]
    simp only [Builtin.zeroCells, Array.toList_map, Array.toList_range]
    apply List.ext_getElem
    · simp
    · intro k h1 h2
      simp only [List.getElem_map, List.getElem_range, List.getElem_replicate]
      have hk : k % 5 < 5 := Nat.mod_lt _ (by decide)
      show (#[.int .i64 0, .int .i64 0, .int .i64 0, .int .i64 0, .int .i64 0] : Array Value)[k % 5]! = .int .i64 0
      generalize k % 5 = r at hk
      match r, hk with
      | 0, _ => rfl
      | 1, _ => rfl
      | 2, _ => rfl
      | 3, _ => rfl
      | 4, _ => rfl
  have hst := run_storeCells_cells (P := Try.prog) g (i * 5) (List.replicate ((n - i) * 5) (.int .i64 0)) 0 w
    (by intro j hj; rw [List.length_replicate] at hj; exact (ownG_some h (by omega)).1)
    (by intro j hj; rw [List.length_replicate] at hj; exact (ownG_some h (by omega)).2)
    (by intro v hv'; rw [List.eq_of_mem_replicate hv']; rfl)
  simp only [Nat.add_zero] at hst
  generalize hm : n - i = m at hzc hst ⊢
  obtain ⟨k, rfl⟩ : ∃ k, m = k + 1 := ⟨m - 1, by omega⟩
  simp [Builtin.clear_, run_underlying Try.underlying40, hv, hzc, hst]
end Go.Proofs.Ytbphljnncbiddaa.Bk
