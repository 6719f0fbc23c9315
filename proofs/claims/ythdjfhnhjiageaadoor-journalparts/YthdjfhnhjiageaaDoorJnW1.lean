/-
  Package journal by contracts: bytes copied, joined, compared.
-/
import Derived.Test.YthdjfhnhjiageaaDoorJnM
import Derived.Test.YthdjfhnhjiageaaDoorCopyK
namespace Go.Proofs.YthdjfhnhjiageaaDoor.Tx
open Go.RowKit Go.Lib Go.Sort

set_option maxHeartbeats 1000000 in
theorem usedD_any (p : Option Addr) (n c : Nat) (p' : Option Addr) (n' c' : Nat) (hn : n ≤ 4611686018427387903) (hn' : n' ≤ 4611686018427387903) (w : World) : Calls Tryd.prog 35 #[dkV p n c p' n' c'] w fun e w' => e = .returned (.int .i64 ((n + n' : Nat) : Int)) ∧ Below w.heap.size w w' := by
  go_enter Tryd.func35, Tryd.ntmps35
  go_wp2
  go_ret
  exact ⟨by go_num, below_alloc w _⟩
/-- two slices of the same bytes. -/
theorem equalB_none (p p' : Option Addr) (c c' : Nat) (w : World) : Calls Tryd.prog 38 #[.slice p 0 c, .slice p' 0 c'] w fun e w' => e = .returned (.bool true) ∧ Below w.heap.size w w' := by
  go_enter Tryd.func38, Tryd.ntmps38
  go_wp2
  refine wp_loop_rounds 1 ?_
  rw [rounds_succ]
  go_wp2
  go_ret
  exact ⟨rfl, Below.refl _ _⟩
set_option maxHeartbeats 2000000 in
theorem equalB_same (p : Option Addr) (n c : Nat) (p' : Option Addr) (c' : Nat) (bs : Bs) (w : World) (h : Bt w p n c bs) (h' : Bt w p' n c' bs) (hz : n ≤ 100000) :
    Calls Tryd.prog 38 #[.slice p n c, .slice p' n c'] w fun e w' => e = .returned (.bool true) ∧ Below w.heap.size w w' := by
  by_cases h0 : n = 0
  · subst h0
    exact equalB_none p p' c c' w
  have mixed : Tryd.prog.follows .mixedOrders = true := by kernel_rfl
  obtain ⟨b1, o1, rfl, hc1⟩ := h.row (by omega)
  obtain ⟨b2, o2, rfl, hc2⟩ := h'.row (by omega)
  have HC1 := hide hc1
  have HC2 := hide hc2
  clear hc1 hc2 h h' h0
  go_enter Tryd.func38, Tryd.ntmps38
  go_wp2
  go_loopg [13] n (fun g s13 wr => ∃ k q : Nat, k ≤ n ∧ n - k ≤ g ∧ s13 = .int .i64 k ∧ wr = w.drewN q)
  case atStart => exact ⟨0, 0, Nat.zero_le _, by omega, rfl, rfl⟩
  case round =>
    obtain ⟨k, q, hk, hg, rfl, rfl⟩ := hrel
    by_cases hlt : k < n
    · have g1 := HC1.out k hlt
      have g2 := HC2.out k hlt
      generalize (bs.getD k 0).toNat = x at g1 g2
      clear HC1 HC2
      go_wp2_with fail
      go_region_o
      go_wp2
      go_roundg (n - (k + 1))
      case measure => omega
      case rel => exact ⟨k + 1, q + 1, by omega, by omega, by go_num, rfl⟩
    · have : k = n := by omega
      subst this
      clear HC1 HC2
      go_wp2
      go_ret
      exact ⟨rfl, (Below.refl _ w).trans ⟨rfl, rfl, rfl, Nat.le_refl _, fun _ _ => rfl⟩⟩
/-- what the call owns is bytes. -/
theorem own_bt {w : World} {B n : Nat} {v : Value} {bs : Bs} (h : w.ownsRow B 5 1 v n ((nums bs).map (Value.int .u8))) : ∃ p c, v = .slice p n c ∧ Bt w p n c bs ∧ Nw B p := by
  have hl : bs.length = n := by have := h.1; rw [List.length_map, nums_len] at this; omega
  rcases h.2 with ⟨rfl, rfl⟩ | ⟨g, cap, cur, rfl, hb, hg, hnc, hm, hs, ht⟩
  · obtain rfl : bs = [] := List.length_eq_zero_iff.1 hl
    exact ⟨none, 0, rfl, bt_none w, nw_none B⟩
  · refine ⟨_, _, rfl, ⟨hl, hnc, (fun e => nomatch e), fun _ => ⟨_, _, rfl, fun i hi => ?_⟩⟩, fun a ha => by cases ha; exact hb⟩
    have hx : (cur.toList.take (n * 1))[i]? = some (.int .u8 (bs.getD i 0).toNat) := by
      rw [ht, List.getElem?_map, nums, List.getElem?_map, List.getElem?_eq_getElem (by omega), List.getD_eq_getElem?_getD, List.getElem?_eq_getElem (by omega)]
      rfl
    rw [Nat.mul_one, List.getElem?_take, if_pos hi] at hx
    rw [Nat.zero_add]
    simp only [World.cell?, hg]
    simpa using hx
theorem cloneB_any (p : Option Addr) (n c : Nat) (bs : Bs) (w : World) (h : Bt w p n c bs) (hz : n ≤ 100000) : Calls Tryd.prog 36 #[.slice p n c] w fun e w' => (∃ q m, e = .returned (.slice q n m) ∧ Bt w' q n m bs ∧ Nw w.heap.size q) ∧ Below w.heap.size w w' := by
  cases p with
  | none =>
    have hc := h.nil rfl
    have hn : n = 0 := by have := h.cap; omega
    subst hn
    refine (Tryd.bytes_Clone_nil 0 c w).mono fun e w' ⟨he, hw⟩ => ?_
    subst hw
    obtain rfl : bs = [] := List.length_eq_zero_iff.1 h.len
    exact ⟨⟨none, 0, he, bt_none _, nw_none _⟩, Below.refl _ _⟩
  | some a =>
    refine (Tryd.bytes_Clone_at a n c (nums bs) w (by rw [nums_len]; exact h.len) (by omega) (fun i hi => ?_)).mono fun e w' ⟨v, he, ho, _, hb⟩ => ?_
    · obtain ⟨b, o, e, hc⟩ := h.row (by omega)
      cases e
      rw [Addr.add_lit, nums_get]
      exact hc i hi
    · obtain ⟨q, m, rfl, hbt, hnw⟩ := own_bt ho
      exact ⟨⟨q, m, he, hbt, hnw⟩, hb⟩
theorem makeB (k : Nat) (hk : k ≤ 100000) (W : World) : ∃ cs : List Value, cs.length = k ∧ (Instr.makeSlice 35 (.int .i64 (k : Int)) (.int .i64 (k : Int))).run Tryd.prog W = .ok (.slice (some ⟨W.heap.size, 0, none⟩) k k) (W.alloc (.cells cs.toArray 5)) := by
  obtain ⟨i0, hi, hz0, hz1, hz2⟩ := info_parts (show (Tryd.prog.info? 5).map (fun i => (i.zero, i.size, i.bytes)) = some (some (.int .u8 0), 1, 1) by kernel_rfl)
  have := run_makeSlice W 35 5 i0 (.int .u8 0) Tryd.underlying35 hi hz0 .i64 .i64 k k (by omega) (Int.le_refl _) (by rw [hz1]; simp; omega) (by rw [hz2]; omega) (by omega)
  rw [hz1] at this
  refine ⟨(madeCells (Value.int .u8 0).cells (k * 1)).toList, by rw [Array.length_toList, size_madeCells]; omega, ?_⟩
  simpa only [Int.toNat_natCast] using this
/-- 'copy' of bytes into a row at one place. -/
theorem copyB {W : World} {g o m : Nat} {cur : List Value} {t : TypeId} {p : Option Addr} {n c dc : Nat} {bs : Bs} (hg : W.heap[g]? = some (.cells cur.toArray t (0, 0))) (h : Bt W p n c bs) (hm : n ≤ m) (hfit : o + n ≤ cur.length) (ty : TypeId) (h0 : 0 < n) :
    (Builtin.copy_ #[35, 35] ty #[.slice (some ⟨g, o, none⟩) m dc, .slice p n c]).run Tryd.prog W = .ok (goInt n) (W.setRow g (cur.take o ++ (nums bs).map (Value.int .u8) ++ cur.drop (o + n)).toArray) := by
  obtain ⟨b, ob, rfl, hc⟩ := h.row h0
  have hs : (Tryd.prog.info? 5).map (·.size) = some 1 := by kernel_rfl
  have hl : ((nums bs).map (Value.int .u8)).length = n := by rw [List.length_map, nums_len]; exact h.len
  have := CopyK.run_copy_rowK Tryd.prog W 35 35 ty 5 1 g o m dc ⟨b, ob, none⟩ n c cur.toArray t ((nums bs).map (Value.int .u8)) Tryd.underlying35 hs hg (by rw [hl, Nat.mul_one]; exact (Nat.min_eq_left hm).symm) (fun j v hv => ?_) (by rw [hl]; simpa using hfit) (fun v hv => ?_)
  · rw [hl, show Nat.min n m = n from Nat.min_eq_left hm] at this
    exact this
  · have hj : j < n := by have := (List.getElem?_eq_some_iff.1 hv).1; omega
    rw [List.getElem?_map, nums, List.getElem?_map, List.getElem?_eq_getElem (by rw [h.len]; exact hj)] at hv
    rw [Addr.add_lit, hc j hj, List.getD_eq_getElem?_getD, List.getElem?_eq_getElem (by rw [h.len]; exact hj)]
    exact hv
  · obtain ⟨x, -, rfl⟩ := List.mem_map.1 hv
    rfl
/-- a row that is bytes. -/
theorem row_bt {W : World} {g : Nat} {t : TypeId} {bs : Bs} (hg : W.heap[g]? = some (.cells ((nums bs).map (Value.int .u8)).toArray t (0, 0))) : Bt W (some ⟨g, 0, none⟩) bs.length bs.length bs :=
  ⟨rfl, Nat.le_refl _, (fun e => nomatch e), fun _ => ⟨_, _, rfl, fun i hi => by
    rw [Nat.zero_add]
    simp only [World.cell?, hg]
    simp [nums, hi]⟩⟩
/-- 'copy' of bytes, none among them. -/
theorem copyB_any {W : World} {g o m : Nat} {cur : List Value} {t : TypeId} {p : Option Addr} {n c dc : Nat} {bs : Bs} (hg : W.heap[g]? = some (.cells cur.toArray t (0, 0))) (h : Bt W p n c bs) (hm : n ≤ m) (hfit : o + n ≤ cur.length) (ty : TypeId) :
    ∃ W', (Builtin.copy_ #[35, 35] ty #[.slice (some ⟨g, o, none⟩) m dc, .slice p n c]).run Tryd.prog W = .ok (goInt n) W' ∧ W'.heap[g]? = some (.cells (cur.take o ++ (nums bs).map (Value.int .u8) ++ cur.drop (o + n)).toArray t (0, 0)) ∧ ∀ (B : Nat) (a : World), Below B a W → B ≤ g → Below B a W' := by
  by_cases h0 : 0 < n
  · refine ⟨_, copyB hg h hm hfit ty h0, ?_, fun B a hb hB => below_setRow hb hB _⟩
    rw [setRow_heap W g _ _ _ _ hg]
  · obtain rfl : n = 0 := by omega
    obtain rfl : bs = [] := List.length_eq_zero_iff.1 h.len
    have hs : (Tryd.prog.info? 5).map (·.size) = some 1 := by kernel_rfl
    refine ⟨W, CopyK.run_copy_noneK Tryd.prog W 35 35 ty 5 1 (some ⟨g, o, none⟩) p m dc 0 c Tryd.underlying35 hs (by simp), ?_, fun _ _ h _ => h⟩
    rw [hg]
    simp [nums]
set_option maxHeartbeats 2000000 in
set_option maxRecDepth 100000 in
theorem joined_some (p : Option Addr) (n c : Nat) (p' : Option Addr) (n' c' : Nat) (xs bs : Bs) (w : World) (h : Bt w p n c xs) (h' : Bt w p' n' c' bs) (hz : n + n' ≤ 100000) (h0 : 0 < n') :
    Calls Tryd.prog 37 #[.slice p n c, .slice p' n' c'] w fun e w' => (∃ q m, e = .returned (.slice q (n + n') m) ∧ Bt w' q (n + n') m (xs ++ bs) ∧ Nw w.heap.size q) ∧ Below w.heap.size w w' := by
  obtain ⟨cs, hcs, MK⟩ := makeB (n + n') hz w
  rw [Int.natCast_add] at MK
  obtain ⟨W, hW⟩ : ∃ W, W = w.alloc (.cells cs.toArray 5) := ⟨_, rfl⟩
  have hg : W.heap[w.heap.size]? = some (.cells cs.toArray 5 (0, 0)) := by rw [hW]; exact heap_alloc_new w _
  have bW : Below w.heap.size w W := by rw [hW]; exact below_alloc w _
  rw [← hW] at MK
  obtain ⟨W1, c1, g1, k1⟩ := copyB_any (m := n + n') (dc := n + n') (o := 0) hg (h.below bW) (by omega) (by omega) 3
  have bW1 := k1 _ _ bW (Nat.le_refl _)
  have l1 : ((nums xs).map (Value.int .u8)).length = n := by rw [List.length_map, nums_len]; exact h.len
  rw [List.take_zero, List.nil_append, Nat.zero_add] at g1
  obtain ⟨W2, c2, g2, k2⟩ := copyB_any (m := n') (dc := n') (o := n) g1 (h'.below bW1) (Nat.le_refl _) (by rw [List.length_append, l1, List.length_drop]; omega) 3
  have bW2 := k2 _ _ bW1 (Nat.le_refl _)
  have e2 : ((nums xs).map (Value.int .u8) ++ cs.drop n).take n ++ (nums bs).map (Value.int .u8) ++ ((nums xs).map (Value.int .u8) ++ cs.drop n).drop (n + n') = (nums (xs ++ bs)).map (Value.int .u8) := by
    rw [List.take_left' l1, List.drop_eq_nil_of_le (by rw [List.length_append, l1, List.length_drop]; omega), List.append_nil]
    simp [nums]
  rw [e2] at g2
  have BT := hide (row_bt g2)
  rw [List.length_append, h.len, h'.len] at BT
  have B2 := hide bW2
  have hlt : (n : Int) < (n : Int) + (n' : Int) := by omega
  clear hW hg bW h h' k1 k2 g1 g2 e2 l1 hcs bW1 bW2
  go_enter Tryd.func37, Tryd.ntmps37
  go_wp2_with (at_builtin; refine wpList_copy_eq rfl (.tmp 12) (.tmp 13) 35 35 rfl _ _ rfl rfl c1 ?_)
  go_wp2_with (at_builtin; refine wpList_copy_eq rfl (.tmp 18) (.tmp 19) 35 35 rfl _ _ rfl rfl c2 ?_)
  go_ret
  exact ⟨⟨_, _, rfl, BT.out, fun a ha => by cases ha; exact Nat.le_refl _⟩, B2.out⟩
set_option maxHeartbeats 2000000 in
set_option maxRecDepth 100000 in
theorem joined_none (p : Option Addr) (n c : Nat) (p' : Option Addr) (c' : Nat) (xs : Bs) (w : World) (h : Bt w p n c xs) (hz : n ≤ 100000) :
    Calls Tryd.prog 37 #[.slice p n c, .slice p' 0 c'] w fun e w' => (∃ q m, e = .returned (.slice q n m) ∧ Bt w' q n m xs ∧ Nw w.heap.size q) ∧ Below w.heap.size w w' := by
  obtain ⟨cs, hcs, MK⟩ := makeB n hz w
  obtain ⟨W, hW⟩ : ∃ W, W = w.alloc (.cells cs.toArray 5) := ⟨_, rfl⟩
  have hg : W.heap[w.heap.size]? = some (.cells cs.toArray 5 (0, 0)) := by rw [hW]; exact heap_alloc_new w _
  have bW : Below w.heap.size w W := by rw [hW]; exact below_alloc w _
  rw [← hW] at MK
  obtain ⟨W1, c1, g1, k1⟩ := copyB_any (m := n) (dc := n) (o := 0) hg (h.below bW) (by omega) (by omega) 3
  have bW1 := k1 _ _ bW (Nat.le_refl _)
  have l1 : ((nums xs).map (Value.int .u8)).length = n := by rw [List.length_map, nums_len]; exact h.len
  rw [List.take_zero, List.nil_append, Nat.zero_add, List.drop_eq_nil_of_le (by omega), List.append_nil] at g1
  have hs : (Tryd.prog.info? 5).map (·.size) = some 1 := by kernel_rfl
  have c2 := fun (a : Option Addr) => CopyK.run_copy_noneK Tryd.prog W1 35 35 3 5 1 a p' 0 0 0 c' Tryd.underlying35 hs (by simp)
  have BT := hide (row_bt g1)
  rw [h.len] at BT
  have B1 := hide bW1
  clear hW hg bW h k1 g1 l1 hcs bW1 hs
  go_enter Tryd.func37, Tryd.ntmps37
  go_wp2_with (at_builtin; refine wpList_copy_eq rfl (.tmp 12) (.tmp 13) 35 35 rfl _ _ rfl rfl c1 ?_)
  go_wp2_with (at_builtin; refine wpList_copy_eq rfl (.tmp 18) (.tmp 19) 35 35 rfl _ _ rfl rfl (c2 _) ?_)
  go_ret
  exact ⟨⟨_, _, rfl, BT.out, fun a ha => by cases ha; exact Nat.le_refl _⟩, B1.out⟩
theorem joined_any (p : Option Addr) (n c : Nat) (p' : Option Addr) (n' c' : Nat) (xs bs : Bs) (w : World) (h : Bt w p n c xs) (h' : Bt w p' n' c' bs) (hz : n + n' ≤ 100000) :
    Calls Tryd.prog 37 #[.slice p n c, .slice p' n' c'] w fun e w' => (∃ q m, e = .returned (.slice q (n + n') m) ∧ Bt w' q (n + n') m (xs ++ bs) ∧ Nw w.heap.size q) ∧ Below w.heap.size w w' := by
  by_cases h0 : 0 < n'
  · exact joined_some p n c p' n' c' xs bs w h h' hz h0
  · obtain rfl : n' = 0 := by omega
    obtain rfl : bs = [] := List.length_eq_zero_iff.1 h'.len
    rw [List.append_nil]
    exact joined_none p n c p' c' xs w h hz
end Go.Proofs.YthdjfhnhjiageaaDoor.Tx
