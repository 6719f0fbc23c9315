/-
  Package text by contracts: guess.
-/
import Derived.Test.YthdjfhnhjiageaaGreatDoorTxW7
import Derived.Deep.RegionLaw
namespace Go.Proofs.YthdjfhnhjiageaaGreatDoor.Tx
open Go.RowKit Go.Lib Go.Sort Go.Proofs.YthdjfhnhjiageaaGreatDoor.Mix

theorem step_copy_eq {P : Program} {ops : Array Oper} {o : Oper} {a : Act} {w : World} {K : Act → World → Prop} {Q : Exit → Act → World → Prop} {E : Prop}
    (hg : o.guard = none) (d x : Operand) (dT sT : TypeId) (hop : o.op = Op.call { callee := Callee.builtin Builtin.copy, args := #[d, x], argTypes := #[dT, sT] })
    (v u : Value) (hd : a.eval d = v) (hx : a.eval x = u) {v' : Value} {w' : World} (hr : (Builtin.copy_ #[dT, sT] o.type #[v, u]).run P w = .ok v' w') (hK : K (a.put o.dst v') w') :
    if Region.wanted o (yielded ops a.tmps) = true then Oper.wp P o a w K Q else E := by
  have hw : Region.wanted o (yielded ops a.tmps) = true := by simp [Region.wanted, hg]
  rw [if_pos hw]
  unfold Oper.wp
  simp [execOp, hop, resolve, invoke, builtin, hd, hx, hr, Result.andThen]
  exact hK
theorem cdAt_ac {x : World} {b : Nat} {c : Cd} (h : CdAt x b c) (v : Int) : CdAt (x.setCell ⟨b, 1, none⟩ (.int .i64 v)) b { c with ac := v } := by
  have := heap_set h 1 (.int .i64 v)
  show _ = _
  rw [this]
  simp
theorem cdAt_mkt {x : World} {b : Nat} {c : Cd} (h : CdAt x b c) (v : Int) : CdAt (x.setCell ⟨b, 2, none⟩ (.int .i64 v)) b { c with mkt := v } := by
  have := heap_set h 2 (.int .i64 v)
  show _ = _
  rw [this]
  simp
theorem cdAt_n {x : World} {b : Nat} {c : Cd} (h : CdAt x b c) (v : Int) : CdAt (x.setCell ⟨b, 3, none⟩ (.int .i64 v)) b { c with n := v } := by
  have := heap_set h 3 (.int .i64 v)
  show _ = _
  rw [this]
  simp
theorem cdAt_how {x : World} {b : Nat} {c : Cd} (h : CdAt x b c) (v : Int) : CdAt (x.setCell ⟨b, 9, none⟩ (.int .i64 v)) b { c with how := v } := by
  have := heap_set h 9 (.int .i64 v)
  show _ = _
  rw [this]
  simp
theorem cdAt_red {x : World} {b : Nat} {c : Cd} (h : CdAt x b c) (v : Bool) : CdAt (x.setCell ⟨b, 10, none⟩ (.bool v)) b { c with red := v } := by
  have := heap_set h 10 (.bool v)
  show _ = _
  rw [this]
  simp
theorem cdAt_o {x : World} {b : Nat} {c : Cd} (h : CdAt x b c) (v1 v2 v3 v4 v5 : Int) : CdAt (((((x.setCell ⟨b, 4, none⟩ (.int .i64 v1)).setCell ⟨b, 5, none⟩ (.int .i64 v2)).setCell ⟨b, 6, none⟩ (.int .i64 v3)).setCell ⟨b, 7, none⟩ (.int .i64 v4)).setCell ⟨b, 8, none⟩ (.int .i64 v5)) b { c with oi := v1, oa := v2, sd := v3, pr := v4, qt := v5 } := by
  have := heap_set (heap_set (heap_set (heap_set (heap_set h 4 (.int .i64 v1)) 5 (.int .i64 v2)) 6 (.int .i64 v3)) 7 (.int .i64 v4)) 8 (.int .i64 v5)
  show _ = _
  rw [this]
  simp
/-- the worlds from X on, in which a command lies at bk. -/
def AtP (X : World) (bk : Nat) (P : Cd → Prop) (x : World) : Prop := Below X.heap.size X x ∧ ∃ c, P c ∧ CdAt x bk c
theorem atP_shut (X : World) (bk : Nat) (P : Cd → Prop) : ∀ x y, AtP X bk P x → Below x.heap.size x y → AtP X bk P y := fun _ _ h hb => ⟨onward h.1 hb, h.2.imp fun _ hc => ⟨hc.1, cdAt_below hc.2 hb⟩⟩
theorem atP_mono {X : World} {bk : Nat} {P Q : Cd → Prop} (h : ∀ c, P c → Q c) : ∀ x, AtP X bk P x → AtP X bk Q x := fun _ hx => ⟨hx.1, hx.2.imp fun c hc => ⟨h c hc.1, hc.2⟩⟩
theorem split_short (sep : Bs) : ∀ (k : Nat) (s : Bs), ∀ x, x ∈ splitK sep 0 k s → x.length ≤ s.length
  | 0, s, x, hx => by rw [splitK, List.mem_singleton] at hx; rw [hx]; exact Nat.le_refl _
  | k + 1, s, x, hx => by
    unfold splitK at hx
    split at hx
    · rw [List.mem_singleton] at hx; rw [hx]; exact Nat.le_refl _
    · rcases List.mem_cons.1 hx with rfl | hx
      · rw [List.length_take]; omega
      · have := split_short sep k _ x hx
        rw [List.length_drop] at this
        omega
theorem word_short (s : Bs) (i : Nat) : ((splitW s).getD i []).length ≤ s.length := by
  rw [List.getD_eq_getElem?_getD]
  cases h : (splitW s)[i]? with
  | none => simp
  | some x => exact split_short _ _ _ x (List.mem_of_getElem? h)
/-- where guess stands when the words are laid: the block of the answer, of the words. -/
structure GIn (w X : World) (l : List Bs) : Prop where
  low : Below w.heap.size w X
  ret : CdAt X w.heap.size noCd
  l : LAt X (w.heap.size + 1) l
  big : w.heap.size + 1 < X.heap.size
end Go.Proofs.YthdjfhnhjiageaaGreatDoor.Tx
