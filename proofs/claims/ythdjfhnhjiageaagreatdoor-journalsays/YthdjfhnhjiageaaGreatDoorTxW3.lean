/-
  Package text by contracts: numbers are written and read.
-/
import Derived.Test.YthdjfhnhjiageaaGreatDoorMgW
import Derived.Test.YthdjfhnhjiageaaGreatDoorShelf
import Derived.Lib.SmallJoins
import Derived.Lib.AtoiErrMem
namespace Go.Proofs.YthdjfhnhjiageaaGreatDoor.Tx
open Go.RowKit Go.Lib Go.Sort

theorem below_grew (w : World) (q : Nat) (os : Array Obj) : Below w.heap.size w (grow (w.drewN q) os) :=
  ⟨rfl, rfl, rfl, by simp [grow], fun k hk => by simp [grow, Array.getElem?_append, hk]⟩
theorem sB_cat (a b : Bs) : sB a ++ sB b = sB (a ++ b) := by
  apply ByteArray.ext
  simp
theorem sB_inj {a b : Bs} (h : sB a = sB b) : a = b := by
  have := congrArg (fun x : ByteArray => x.data.toList) h
  simpa using this
theorem sB_list (a : Bs) : (sB a).toList = a := by rw [ByteArray.toList_eq]
theorem sB_size (a : Bs) : (sB a).size = a.length := by simp [ByteArray.size]
theorem onward {a b c : World} (h : Below a.heap.size a b) (k : Below b.heap.size b c) : Below a.heap.size a c := h.trans (k.mono h.size)
theorem var_below {P : Program} {w w' : World} {name : String} {cs : Array Value} (h : w.var? P name = some cs) (hb : Below w.heap.size w w') : w'.var? P name = some cs := by
  unfold World.var? at h ⊢
  cases hg : P.globalNamed name with
  | none => rw [hg] at h; cases h
  | some g =>
    rw [hg] at h
    simp only [Option.bind_some] at h ⊢
    cases ho : w.heap[g]? with
    | none => rw [ho] at h; cases h
    | some o =>
      rw [hb.block g (Array.getElem?_eq_some_iff.1 ho).1]
      exact h
/-- what the library's own tables hold. -/
structure Env (w : World) : Prop where
  tab : Lib.TabIs Tryz.prog w "internal/strconv.uint64pow10" .u64 Lib.pow10Tab
  syn : ∃ tp p, w.var? Tryz.prog "strconv.ErrSyntax" = some #[.iface tp p]
  rng : ∃ tp p, w.var? Tryz.prog "strconv.ErrRange" = some #[.iface tp p]
theorem Env.below {w w' : World} (h : Env w) (hb : Below w.heap.size w w') : Env w' := by
  obtain ⟨t1, p1, h1⟩ := h.syn
  obtain ⟨t2, p2, h2⟩ := h.rng
  exact ⟨var_below h.tab hb, ⟨t1, p1, var_below h1 hb⟩, ⟨t2, p2, var_below h2 hb⟩⟩
theorem itoa_any (n : Int) (h : i64 n) (w : World) (E : Env w) : Calls Tryz.prog 34 #[.int .i64 n] w fun e w' => e = .returned (sV (itoa n)) ∧ Below w.heap.size w w' := by
  refine (Tryz.strconv_Itoa n h.1 h.2 w E.tab).mono ?_
  rintro e w' ⟨rfl, k, os, rfl⟩
  exact ⟨rfl, below_grew w k os⟩
theorem atoi_any (s : Bs) (hs : s.length ≤ 281474976710656) (w : World) (E : Env w) : Calls Tryz.prog 137 #[sV s] w fun e w' => (∃ v, e = .returned (.tuple #[.int .i64 (numB s), v]) ∧ (v = .nilIface ∨ ∃ t a, v = .iface t (.pointer a))) ∧ Below w.heap.size w w' := by
  have hz : (sB s).size ≤ 281474976710656 := by simpa [ByteArray.size] using hs
  have hd : (sB s).data.toList = s := by simp
  unfold numB
  cases h : atoiAll s with
  | ok v =>
    refine (Tryz.strconv_Atoi_ok (sB s) (by omega) v (by rw [hd]; exact h) w).mono ?_
    rintro e w' ⟨rfl, hw⟩
    refine ⟨⟨_, rfl, .inl rfl⟩, ?_⟩
    rcases hw with rfl | ⟨t, rfl⟩
    · exact Below.refl _ _
    · exact bytesWorld_below w _ t
  | «syntax» =>
    obtain ⟨tp, p, hv⟩ := E.syn
    refine (Tryz.strconv_Atoi_syntax_var (sB s) hz (by rw [hd]; exact h) tp p w hv).mono ?_
    rintro e w' ⟨N, rfl, -, -, hb⟩
    exact ⟨⟨_, rfl, .inr ⟨_, _, rfl⟩⟩, hb⟩
  | range =>
    obtain ⟨tp, p, hv⟩ := E.rng
    refine (Tryz.strconv_Atoi_range_var (sB s) hz (by rw [hd]; exact h) tp p w hv).mono ?_
    rintro e w' ⟨N, rfl, -, -, hb⟩
    rw [hd]
    exact ⟨⟨_, rfl, .inr ⟨_, _, rfl⟩⟩, hb⟩
set_option maxHeartbeats 1000000 in
theorem number_any (s : Bs) (hs : s.length ≤ 281474976710656) (w : World) (E : Env w) : Calls Tryz.prog 100 #[sV s] w fun e w' => e = .returned (.int .i64 (numB s)) ∧ Below w.heap.size w w' := by
  have AT := hide (atoi_any s hs w E)
  generalize numB s = r at *
  clear E hs
  go_enter Tryz.func100, Tryz.ntmps100
  go_wp2_with fail
  refine AT.out.mono ?_
  rintro e w1 ⟨⟨v, rfl, hv⟩, hb⟩
  have B := hide hb
  clear hb AT
  rcases hv with rfl | ⟨t, a, rfl⟩
  · go_wp2
    go_ret
    exact ⟨rfl, B.out⟩
  · go_wp2
    go_ret
    exact ⟨rfl, B.out⟩
theorem idx_is (x : Bs) : ∀ (l : List Bs) (k : Nat), idxFromS (l.map sB) (sB x) k = idxFrom x k l
  | [], k => rfl
  | y :: l, k => by
    rw [List.map_cons]
    unfold idxFromS idxFrom
    by_cases h : y = x
    · rw [if_pos h, if_pos (by rw [h])]
    · rw [if_neg h, if_neg (fun e => h (sB_inj e)), idx_is x l]
set_option maxHeartbeats 1000000 in
theorem find_any (a b c d e f g h x : Bs) (w : World) : Calls Tryz.prog 99 #[words8 a b c d e f g h, sV x] w fun r w' => r = .returned (.int .i64 (idxW [a, b, c, d, e, f, g, h] x)) ∧ Below w.heap.size w w' := by
  obtain ⟨W, hW⟩ : ∃ W, W = w.alloc (.cells #[sV a, sV b, sV c, sV d, sV e, sV f, sV g, sV h] 100) := ⟨_, rfl⟩
  have hc : ∀ j, j < ([a, b, c, d, e, f, g, h].map sB).length → W.cell? ⟨w.heap.size, 0 + j, none⟩ = some (.string (([a, b, c, d, e, f, g, h].map sB).getD j ByteArray.empty)) := fun j hj => by
    rw [hW, Nat.zero_add]
    simp only [List.length_map, List.length_cons, List.length_nil] at hj
    apply new_cell
    match j, hj with
    | 0, _ => rfl
    | 1, _ => rfl
    | 2, _ => rfl
    | 3, _ => rfl
    | 4, _ => rfl
    | 5, _ => rfl
    | 6, _ => rfl
    | 7, _ => rfl
  have IX := Tryz.slices_Index_string w.heap.size 0 8 8 ([a, b, c, d, e, f, g, h].map sB) (sB x) W (by simp) (by decide) hc
  have e2 : idxOfS (([a, b, c, d, e, f, g, h].map sB).take 8) (sB x) = idxW [a, b, c, d, e, f, g, h] x := by
    rw [List.take_of_length_le (by simp)]
    exact idx_is x _ 0
  rw [e2] at IX
  have IX' := hide IX
  have BW : Hid (Below w.heap.size w W) := by rw [hW]; exact below_alloc w _
  have HW := hide hW
  generalize idxW [a, b, c, d, e, f, g, h] x = r at *
  clear hc IX e2 hW
  go_enter Tryz.func99, Tryz.ntmps99
  go_wp2_with (rw [← HW.out])
  refine IX'.out.mono ?_
  rintro e w1 ⟨rfl, hw1⟩
  rw [hw1]
  clear hw1
  go_wp2
  go_ret
  exact ⟨rfl, BW.out⟩
set_option maxHeartbeats 1000000 in
theorem phrase_any (word : Bs) (b : Nat) (x y : Int) (w : World) (hw : word.length ≤ 100) (hx : i64 x) (hy : i64 y) (E : Env w) (c0 : w.cell? ⟨b, 0, none⟩ = some (.int .i64 x)) (c1 : w.cell? ⟨b, 1, none⟩ = some (.int .i64 y)) :
    Calls Tryz.prog 49 #[sV word, .slice (some ⟨b, 0, none⟩) 2 2] w fun e w' => e = .returned (sV (word ++ 32 :: (itoa x ++ 32 :: itoa y))) ∧ Below w.heap.size w w' := by
  have l1 := itoa_len hx
  have l2 := itoa_len hy
  have I1 := hide (itoa_any x hx w E)
  have I2 := hide (fun w' (hb : Below w.heap.size w w') => itoa_any y hy w' (E.below hb))
  clear E hx hy
  go_enter Tryz.func49, Tryz.ntmps49
  go_wp2_with fail
  refine wp_loop_rounds 3 ?_
  rw [rounds_succ]
  go_wp2_with fail
  refine I1.out.mono ?_
  rintro e w1 ⟨rfl, hb⟩
  have c11 := (hb.cell (World.block_lt_of_cell? _ _ c1)).trans c1
  have B1 := hide hb
  have I21 := hide (I2.out w1 hb)
  clear hb I1 I2 c0 c1
  go_wp2_with fail
  rw [rounds_succ]
  go_wp2_with fail
  refine I21.out.mono ?_
  rintro e w2 ⟨rfl, hb⟩
  have B2 := hide (B1.out.trans (hb.mono B1.out.size))
  clear hb I21 c11
  go_wp2_with fail
  rw [rounds_succ]
  go_wp2
  go_ret
  refine ⟨?_, B2.out⟩
  show Ending.returned (Value.string (sB word ++ (sB [32] ++ sB (itoa x)) ++ (sB [32] ++ sB (itoa y)))) = _
  simp only [sB_cat, List.cons_append, List.nil_append, List.append_assoc]
end Go.Proofs.YthdjfhnhjiageaaGreatDoor.Tx
