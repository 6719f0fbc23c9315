/-
  Package journal by contracts: Check, Sync.
-/
import Derived.Test.YthdjfhnhjiageaaDoorJnW3
namespace Go.Proofs.YthdjfhnhjiageaaDoor.Tx
open Go.RowKit Go.Lib Go.Sort

abbrev dkO (a b : Value) : Obj := .cells #[a, b] 37
theorem dk_cell {W : World} {r : Nat} {a b : Value} (h : W.heap[r]? = some (dkO a b)) : W.cell? ⟨r, 0, none⟩ = some a ∧ W.cell? ⟨r, 1, none⟩ = some b ∧ W.frozen? ⟨r, 0, none⟩ = false ∧ W.frozen? ⟨r, 1, none⟩ = false := by
  simp [World.cell?, World.frozen?, h]
theorem dk_put {W : World} {r : Nat} {a b : Value} (h : W.heap[r]? = some (dkO a b)) (x y : Value) : ((W.setCell ⟨r, 0, none⟩ x).setCell ⟨r, 1, none⟩ y).heap[r]? = some (dkO x y) := by
  have := heap_set (heap_set h 0 x) 1 y
  rw [this]
  simp
theorem dk_below {W X : World} {r : Nat} {a b : Value} (h : W.heap[r]? = some (dkO a b)) (hb : Below W.heap.size W X) : X.heap[r]? = some (dkO a b) := by
  rw [hb.block r (Array.getElem?_eq_some_iff.1 h).1]
  exact h
set_option maxHeartbeats 2000000 in
set_option maxRecDepth 100000 in
theorem checkD_any (p : Option Addr) (n c : Nat) (p' : Option Addr) (n' c' : Nat) (d : Dk) (w : World) (h : Bt w p n c d.safe) (h' : Bt w p' n' c' d.wait) (hn : n ≤ 140737488351232) (hn' : n' ≤ 140737488351232) (E : Env w) :
    Calls Tryd.prog 34 #[dkV p n c p' n' c'] w fun e w' => e = .returned (.int .i64 (checkD d)) ∧ Below w.heap.size w w' := by
  have hl := h.len
  have hl' := h'.len
  obtain ⟨W, hW⟩ : ∃ W, W = w.alloc (dkO (.slice p n c) (.slice p' n' c')) := ⟨_, rfl⟩
  have bW : Below w.heap.size w W := by rw [hW]; exact below_alloc w _
  have gW : W.heap[w.heap.size]? = some (dkO (.slice p n c) (.slice p' n' c')) := by rw [hW]; exact heap_alloc_new w _
  obtain ⟨c0, c1, -, -⟩ := dk_cell gW
  have US := hide (usedD_any p n c p' n' c' (by omega) (by omega) W)
  have HW := hide hW
  have BW := hide bW
  have GW := hide gW
  unfold checkD
  by_cases hz : 20000 < d.safe.length + d.wait.length
  · rw [if_pos hz]
    have hzz : (20000 : Int) < ((n + n' : Nat) : Int) := by omega
    generalize n + n' = m at *
    clear hW bW gW h h' hl hl' hz hn hn'
    go_enter Tryd.func34, Tryd.ntmps34
    go_wp2_with (rw [← HW.out])
    refine US.out.mono ?_
    rintro e X ⟨rfl, bX⟩
    have BX := hide (onward BW.out bX)
    clear US bX c0 c1
    go_wp2
    go_ret
    exact ⟨rfl, BX.out⟩
  · rw [if_neg hz]
    have hzz : ¬ (20000 : Int) < ((n + n' : Nat) : Int) := by omega
    have RD := fun X (bX : Below w.heap.size w X) => read_any p n c d.safe X (h.below bX) (by omega) (E.below bX)
    have RDH := hide RD
    generalize n + n' = m at *
    clear hW bW gW h h' hl hl' hz hn hn' RD E
    go_enter Tryd.func34, Tryd.ntmps34
    go_wp2_with (rw [← HW.out])
    refine US.out.mono ?_
    rintro e X ⟨rfl, bX⟩
    have BX := hide (onward BW.out bX)
    obtain ⟨x0, x1, -, -⟩ := dk_cell (dk_below GW.out bX)
    have RX := hide (RDH.out X BX.out)
    clear US bX c0 c1 RDH
    go_wp2_with fail
    refine RX.out.mono ?_
    rintro e Y ⟨⟨lv, rfl, ho⟩, bY⟩
    obtain ⟨pl, cl, rfl⟩ := ownC_slice ho
    have BY := hide (onward BX.out bY)
    clear RX bY ho x0 x1
    go_wp2
    go_ret
    exact ⟨rfl, BY.out⟩
end Go.Proofs.YthdjfhnhjiageaaDoor.Tx
