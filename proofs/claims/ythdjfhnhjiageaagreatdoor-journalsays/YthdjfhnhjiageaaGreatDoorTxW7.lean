/-
  Package text by contracts: the only command that a text may be.
-/
import Derived.Test.YthdjfhnhjiageaaGreatDoorTxW6
import Derived.Test.YthdjfhnhjiageaaGreatDoorCopyK
namespace Go.Proofs.YthdjfhnhjiageaaGreatDoor.Tx
open Go.RowKit Go.Lib Go.Sort Go.Proofs.YthdjfhnhjiageaaGreatDoor.Mix

/-- the first eight words, "" for those that lack. -/
def eightW (ws : List Bs) : List Bs := [ws.getD 0 [], ws.getD 1 [], ws.getD 2 [], ws.getD 3 [], ws.getD 4 [], ws.getD 5 [], ws.getD 6 [], ws.getD 7 []]
theorem split_is (s : Bs) : (splitB (sB [32]) 0 (countB (sB s) (sB [32])) (sB s)) = (splitW s).map sB := by
  have h := splitB_data (sB [32]) 0 (countB (sB s) (sB [32])) (sB s)
  have e : splitW s = splitK [32] 0 (countB (sB s) (sB [32])) s := rfl
  rw [e]
  have h2 : (splitB (sB [32]) 0 (countB (sB s) (sB [32])) (sB s)).map (·.data.toList) = splitK [32] 0 (countB (sB s) (sB [32])) s := h
  rw [← h2, List.map_map]
  conv => lhs; rw [← List.map_id (splitB _ _ _ _)]
  apply List.map_congr_left
  intro x _
  simp
theorem split_len (s : Bs) : (splitW s).length = countB (sB s) (sB [32]) + 1 := by
  have := splitB_all (sB [32]) (by decide) 0 _ (sB s) rfl
  rw [split_is, List.length_map] at this
  exact this
theorem gen_any (s : ByteArray) (N : Nat) (w : World) (hs : s.size < 4294967281) (hN : (N : Int) = min ((countB s (sB [32]) : Int) + 1) ((s.size : Int) + 1)) :
    Calls Tryz.prog 101 #[.string s, .string (sB [32]), .int .i64 0, .int .i64 (-1)] w fun e w' => e = .returned (.slice (some ⟨w.heap.size, 0, none⟩) (splitB (sB [32]) 0 (N - 1) s).length N) ∧ w' = w.alloc (.cells (cellsOf (splitB (sB [32]) 0 (N - 1) s) N) 9) := by
  refine Any.strings_genSplit_core Tryz.lays221 (by kernel_rfl) s (sB [32]) 0 (-1) N w hs (by decide) (by decide) (fun x c _ => ?_) ?_ (by decide) (by decide) (by rw [if_pos (by decide)]; exact hN)
  · refine (Tryz.strings_Index_one x 32 _).mono fun e w' ⟨he, hw⟩ => ⟨?_, hw⟩
    rw [he]
    show _ = Ending.returned (Value.int .i64 (Lib.index x.data.toList [32]))
    rw [index_one]
  · refine (Tryz.strings_Count_one s 32 w).mono fun e w' ⟨he, hw⟩ => ⟨?_, hw⟩
    rw [he]
    show _ = Ending.returned (Value.int .i64 ((Lib.count s.data.toList [32] : Nat) : Int))
    rw [count_one]
    rfl
set_option maxHeartbeats 1000000 in
theorem split_any (s : Bs) (hs : s.length ≤ 20000) (w : World) :
    Calls Tryz.prog 75 #[sV s, .string ⟨#[32]⟩] w fun e w' => e = .returned (.slice (some ⟨w.heap.size, 0, none⟩) (splitW s).length (splitW s).length) ∧ w' = w.alloc (.cells ((splitW s).map sV).toArray 9) := by
  have hle := countB_le (sB [32]) (by decide) (sB s).size (sB s) (Nat.le_refl _)
  have hlen := splitB_all (sB [32]) (by decide) 0 _ (sB s) rfl
  have c := gen_any (sB s) (countB (sB s) (sB [32]) + 1) w (by rw [sB_size]; omega) (by omega)
  rw [Nat.add_sub_cancel, hlen] at c
  have e2 : cellsOf (splitB (sB [32]) 0 (countB (sB s) (sB [32])) (sB s)) (countB (sB s) (sB [32]) + 1) = ((splitB (sB [32]) 0 (countB (sB s) (sB [32])) (sB s)).map Value.string).toArray := by rw [← hlen]; exact cellsOf_full _
  rw [e2, split_is, ← split_len, List.map_map] at c
  have G := hide c
  clear hle hlen e2 c hs
  go_enter Tryz.func75, Tryz.ntmps75
  go_wp2_with fail
  refine G.out.mono ?_
  rintro e w' ⟨rfl, hw'⟩
  rw [hw']
  clear hw' G
  go_wp2
  go_ret
  exact ⟨rfl, rfl⟩
/-- all of a command is laid over one. -/
def putCd (x : World) (r : Nat) (c : Cd) : World := ((((((((((x.setCell ⟨r, 0, none⟩ (.int .i64 c.kind)).setCell ⟨r, 1, none⟩ (.int .i64 c.ac)).setCell ⟨r, 2, none⟩ (.int .i64 c.mkt)).setCell ⟨r, 3, none⟩ (.int .i64 c.n)).setCell ⟨r, 4, none⟩ (.int .i64 c.oi)).setCell ⟨r, 5, none⟩ (.int .i64 c.oa)).setCell ⟨r, 6, none⟩ (.int .i64 c.sd)).setCell ⟨r, 7, none⟩ (.int .i64 c.pr)).setCell ⟨r, 8, none⟩ (.int .i64 c.qt)).setCell ⟨r, 9, none⟩ (.int .i64 c.how)).setCell ⟨r, 10, none⟩ (.bool c.red)
theorem heap_set {w : World} {g : Nat} {cs : Array Value} {t : TypeId} (h : w.heap[g]? = some (.cells cs t (0, 0))) (j : Nat) (v : Value) : (w.setCell ⟨g, j, none⟩ v).heap[g]? = some (.cells (cs.setIfInBounds j v) t (0, 0)) := by
  simp [World.setCell, Array.getElem?_modify, h]
theorem putCd_at {x : World} {r : Nat} {c0 : Cd} (h : CdAt x r c0) (c : Cd) : CdAt (putCd x r c) r c := by
  have := heap_set (heap_set (heap_set (heap_set (heap_set (heap_set (heap_set (heap_set (heap_set (heap_set (heap_set h 0 (.int .i64 c.kind)) 1 (.int .i64 c.ac)) 2 (.int .i64 c.mkt)) 3 (.int .i64 c.n)) 4 (.int .i64 c.oi)) 5 (.int .i64 c.oa)) 6 (.int .i64 c.sd)) 7 (.int .i64 c.pr)) 8 (.int .i64 c.qt)) 9 (.int .i64 c.how)) 10 (.bool c.red)
  show (putCd x r c).heap[r]? = _
  unfold putCd
  rw [this]
  simp
theorem putCd_below {x a : World} {B r : Nat} (h : Below B a x) (hr : B ≤ r) (c : Cd) : Below B a (putCd x r c) := by
  unfold putCd
  iterate 11 (refine Below.setCell ?_ hr _)
  exact h
theorem cd_frozen {W : World} {B : Nat} {c : Cd} (h : CdAt W B c) (i : Nat) : W.frozen? ⟨B, i, none⟩ = false := by
  simp [World.frozen?, h]
theorem eight_row (ws : List Bs) : ((ws.take 8).map sV) ++ ([sV [], sV [], sV [], sV [], sV [], sV [], sV [], sV []] : List Value).drop ((ws.take 8).map sV).length = (eightW ws).map sV := by
  match ws with
  | [] => rfl
  | [_] => rfl
  | [_, _] => rfl
  | [_, _, _] => rfl
  | [_, _, _, _] => rfl
  | [_, _, _, _, _] => rfl
  | [_, _, _, _, _, _] => rfl
  | [_, _, _, _, _, _, _] => rfl
  | _ :: _ :: _ :: _ :: _ :: _ :: _ :: _ :: _ => rfl
theorem wpList_copy_eq {P : Program} {w : World} {ops : Array Oper} {rest : List Oper} {o : Oper} {a : Act} {Q : Exit → Act → World → Prop} (hgd : o.guard = none) (d s : Operand) (dT sT : TypeId)
    (ho : o.op = .call { callee := .builtin .copy, args := #[d, s], argTypes := #[dT, sT] }) (v u : Value) (hd : a.eval d = v) (hs : a.eval s = u) {v' : Value} {w' : World}
    (hr : (Builtin.copy_ #[dT, sT] o.type #[v, u]).run P w = .ok v' w') (h : wpList P ops Q rest (a.put o.dst v') w') : wpList P ops Q (o :: rest) a w := by
  refine wpList_plain hgd fun K hK => ?_
  unfold Oper.wp
  simp [execOp, ho, resolve, invoke, builtin, hd, hs, hr, Result.andThen]
  exact hK _ _ h
/-- the words in memory. -/
abbrev LAt (X : World) (b : Nat) (l : List Bs) : Prop := X.heap[b]? = some (.cells (l.map sV).toArray 99 (0, 0))
theorem lat_below {W X : World} {b : Nat} {l : List Bs} (h : LAt W b l) (hb : Below W.heap.size W X) : LAt X b l := by
  show X.heap[b]? = _
  rw [hb.block b (Array.getElem?_eq_some_iff.1 h).1]
  exact h
theorem lat_cell {X : World} {b : Nat} {l : List Bs} (h : LAt X b l) (i : Nat) {x : Bs} (hx : l[i]? = some x) : X.cell? ⟨b, i, none⟩ = some (sV x) := by
  simp [World.cell?, h, hx]
theorem copied {X : World} {lb N : Nat} {ws : List Bs} (h : LAt X lb [[], [], [], [], [], [], [], []]) (hc : ∀ j v, (ws.map sV)[j]? = some v → X.cell? ⟨N, j, none⟩ = some v) (ty : TypeId) :
    ∃ Y, (Builtin.copy_ #[76, 76] ty #[.slice (some ⟨lb, 0, none⟩) 8 8, .slice (some ⟨N, 0, none⟩) ws.length ws.length]).run Tryz.prog X = .ok (goInt (Nat.min ws.length 8)) Y ∧ LAt Y lb (eightW ws) ∧ ∀ (B : Nat) (a : World), Below B a X → B ≤ lb → Below B a Y := by
  have hu := Tryz.underlying76
  have hs : (Tryz.prog.info? 9).map (·.size) = some 1 := by kernel_rfl
  have hrun := CopyK.run_copy_rowK Tryz.prog X 76 76 ty 9 1 lb 0 8 8 ⟨N, 0, none⟩ ws.length ws.length _ _ ((ws.take 8).map sV) hu hs h (by simp only [List.length_map, List.length_take, Nat.mul_one]; exact Nat.min_comm _ _) (fun j v hv => ?_) (by simp; omega) (fun v hv => ?_)
  · refine ⟨_, hrun, ?_, fun B a hb hB => below_setRow hb hB _⟩
    show _ = _
    rw [setRow_heap X lb _ _ _ _ h]
    have e := eight_row ws
    simp only [List.map_cons, List.map_nil, List.take_zero, List.nil_append, Nat.zero_add] at e ⊢
    rw [e]
  · rw [Addr.add_lit, Nat.zero_add]
    refine hc j v ?_
    rw [List.map_take, List.getElem?_take] at hv
    split at hv
    · exact hv
    · cases hv
  · obtain ⟨x, -, rfl⟩ := List.mem_map.1 hv
    rfl
end Go.Proofs.YthdjfhnhjiageaaGreatDoor.Tx
