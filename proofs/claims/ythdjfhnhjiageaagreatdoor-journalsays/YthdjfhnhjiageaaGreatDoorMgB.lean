/-
  Package journal by contracts: Check, Sync.
-/
import Derived.Test.YthdjfhnhjiageaaGreatDoorMgA
import Derived.Test.YthdjfhnhjiageaaGreatDoorMgX
import Derived.Below
namespace Go.Proofs.YthdjfhnhjiageaaGreatDoor.Tx
open Go.RowKit Go.Lib Go.Sort

abbrev dkO (a b : Value) : Obj := .cells #[a, b] 24
theorem dk_cell {W : World} {r : Nat} {a b : Value} (h : W.heap[r]? = some (dkO a b)) : W.cell? ⟨r, 0, none⟩ = some a ∧ W.cell? ⟨r, 1, none⟩ = some b ∧ W.frozen? ⟨r, 0, none⟩ = false ∧ W.frozen? ⟨r, 1, none⟩ = false := by
  simp [World.cell?, World.frozen?, h]
theorem dk_put {W : World} {r : Nat} {a b : Value} (h : W.heap[r]? = some (dkO a b)) (x y : Value) : ((W.setCell ⟨r, 0, none⟩ x).setCell ⟨r, 1, none⟩ y).heap[r]? = some (dkO x y) := by
  have := heap_set (heap_set h 0 x) 1 y
  rw [this]
  simp
theorem dk_below {W X : World} {r : Nat} {a b : Value} (h : W.heap[r]? = some (dkO a b)) (hb : Below W.heap.size W X) : X.heap[r]? = some (dkO a b) := by
  rw [hb.block r (Array.getElem?_eq_some_iff.1 h).1]
  exact h
set_option maxHeartbeats 2000000 in
set_option maxRecDepth 100000 in
theorem checkD_any (p : Option Addr) (n c : Nat) (p' : Option Addr) (n' c' : Nat) (d : Dk) (w : World) (h : Bt w p n c d.safe) (h' : Bt w p' n' c' d.wait) (hn : n ≤ 140737488351232) (hn' : n' ≤ 140737488351232) (E : Env w) :
    Calls Tryz.prog 11 #[dkV p n c p' n' c'] w fun e w' => e = .returned (.int .i64 (checkD d)) ∧ Below w.heap.size w w' := by
  have hl := h.len
  have hl' := h'.len
  obtain ⟨W, hW⟩ : ∃ W, W = w.alloc (dkO (.slice p n c) (.slice p' n' c')) := ⟨_, rfl⟩
  have bW : Below w.heap.size w W := by rw [hW]; exact below_alloc w _
  have gW : W.heap[w.heap.size]? = some (dkO (.slice p n c) (.slice p' n' c')) := by rw [hW]; exact heap_alloc_new w _
  obtain ⟨c0, c1, -, -⟩ := dk_cell gW
  have US := hide (usedD_any p n c p' n' c' (by omega) (by omega) W)
  have HW := hide hW
  have BW := hide bW
  have GW := hide gW
  unfold checkD
  by_cases hz : 20000 < d.safe.length + d.wait.length
  · rw [if_pos hz]
    have hzz : (20000 : Int) < ((n + n' : Nat) : Int) := by omega
    generalize n + n' = m at *
    clear hW bW gW h h' hl hl' hz hn hn'
    go_enter Tryz.func11, Tryz.ntmps11
    go_wp2_with (rw [← HW.out])
    refine US.out.mono ?_
    rintro e X ⟨rfl, bX⟩
    have BX := hide (onward BW.out bX)
    clear US bX c0 c1
    go_wp2
    go_ret
    exact ⟨rfl, BX.out⟩
  · rw [if_neg hz]
    have hzz : ¬ (20000 : Int) < ((n + n' : Nat) : Int) := by omega
    have RD := fun X (bX : Below w.heap.size w X) => read_any p n c d.safe X (h.below bX) (by omega) (E.below bX)
    have RDH := hide RD
    generalize n + n' = m at *
    clear hW bW gW h h' hl hl' hz hn hn' RD E
    go_enter Tryz.func11, Tryz.ntmps11
    go_wp2_with (rw [← HW.out])
    refine US.out.mono ?_
    rintro e X ⟨rfl, bX⟩
    have BX := hide (onward BW.out bX)
    obtain ⟨x0, x1, -, -⟩ := dk_cell (dk_below GW.out bX)
    have RX := hide (RDH.out X BX.out)
    clear US bX c0 c1 RDH
    go_wp2_with fail
    refine RX.out.mono ?_
    rintro e Y ⟨⟨lv, rfl, ho⟩, bY⟩
    obtain ⟨pl, cl, rfl⟩ := ownC_slice ho
    have BY := hide (onward BX.out bY)
    clear RX bY ho x0 x1
    go_wp2
    go_ret
    exact ⟨rfl, BY.out⟩
end Go.Proofs.YthdjfhnhjiageaaGreatDoor.Tx
namespace Go.Proofs.YthdjfhnhjiageaaGreatDoor.Tx
open Go.RowKit Go.Lib Go.Sort

/-- a disk is answered, and an error. -/
abbrev DPost (d : Dk) (r : Int) (w : World) (e : Ending) (w' : World) : Prop := (∃ v, e = .returned (.tuple #[v, .int .i64 r]) ∧ Dv w.heap.size w' v d) ∧ Below w.heap.size w w'
theorem dk_opq {W : World} {r : Nat} {a b : Value} (h : W.heap[r]? = some (dkO a b)) : (∃ u, W.cell? ⟨r, 0, none⟩ = some u) ∧ (∃ u, W.cell? ⟨r, 1, none⟩ = some u) ∧ W.frozen? ⟨r, 0, none⟩ = false ∧ W.frozen? ⟨r, 1, none⟩ = false := by
  obtain ⟨h0, h1, h2, h3⟩ := dk_cell h
  exact ⟨⟨_, h0⟩, ⟨_, h1⟩, h2, h3⟩
set_option maxHeartbeats 4000000 in
set_option maxRecDepth 100000 in
theorem sync_any (p : Option Addr) (n c : Nat) (p' : Option Addr) (n' c' : Nat) (d : Dk) (w : World) (h : Bt w p n c d.safe) (h' : Bt w p' n' c' d.wait) (hn : n ≤ 140737488351232) (hn' : n' ≤ 140737488351232) (E : Env w) :
    Calls Tryz.prog 6 #[dkV p n c p' n' c'] w (DPost (syncD d).1 (syncD d).2 w) := by
  have hl := h.len
  have hl' := h'.len
  obtain ⟨W, hW⟩ : ∃ W, W = (w.alloc (dkO (.slice p n c) (.slice p' n' c'))).alloc (dkO (.slice none 0 0) (.slice none 0 0)) := ⟨_, rfl⟩
  have bW : Below w.heap.size w W := by rw [hW]; exact ((Below.refl _ w).alloc (Nat.le_refl _) _).alloc (by simp) _
  have gW : W.heap[w.heap.size]? = some (dkO (.slice p n c) (.slice p' n' c')) := by rw [hW]; exact dk_below (heap_alloc_new w _) (below_alloc _ _)
  have rW : W.heap[w.heap.size + 1]? = some (dkO (.slice none 0 0) (.slice none 0 0)) := by
    rw [hW]
    have := heap_alloc_new (w.alloc (dkO (.slice p n c) (.slice p' n' c'))) (dkO (.slice none 0 0) (.slice none 0 0))
    simp only [World.size_alloc] at this
    exact this
  have sW : W.heap.size = w.heap.size + 2 := by rw [hW]; simp
  obtain ⟨c0, c1, -, -⟩ := dk_cell gW
  have HW := hide hW
  have BW := hide bW
  have GW := hide gW
  have RW := hide rW
  have SW := hide sW
  have CH := hide (checkD_any p n c p' n' c' d W (h.below bW) (h'.below bW) hn hn' (E.below bW))
  clear hW bW gW rW sW
  unfold syncD
  by_cases he : checkD d = 0
  · rw [if_neg (fun x => x he)]
    have hs := (check_zero he).1
    rw [he] at CH
    have JO := fun X (bX : Below w.heap.size w X) => joined_any p n c p' n' c' d.safe d.wait X (h.below bX) (h'.below bX) (by omega)
    have JH := hide JO
    have CK : Hid (∀ X q m, Below w.heap.size w X → Bt X q (n + n') m (d.safe ++ d.wait) → Calls Tryz.prog 11 #[dkV q (n + n') m none 0 0] X fun e w' => e = .returned (.int .i64 (checkD ⟨d.safe ++ d.wait, []⟩)) ∧ Below X.heap.size X w') := fun X q m bX hb => checkD_any q (n + n') m none 0 0 ⟨d.safe ++ d.wait, []⟩ X hb (bt_none X) (by omega) (by omega) (E.below bX)
    generalize checkD ⟨d.safe ++ d.wait, []⟩ = ce at *
    by_cases hce : ce = 0
    · rw [if_neg (fun x => x hce)]
      subst hce
      generalize n + n' = nn at *
      generalize d.safe ++ d.wait = al at *
      clear h h' hl hl' hn hn' E he hs JO
      go_enter Tryz.func6, Tryz.ntmps6
      go_wp2_with (rw [← HW.out])
      refine CH.out.mono ?_
      rintro e X ⟨rfl, bX⟩
      have BX := hide (onward BW.out bX)
      have GX := hide (dk_below GW.out bX)
      have RX := hide (dk_below RW.out bX)
      have SX : Hid (w.heap.size + 2 ≤ X.heap.size) := by have := bX.size; rw [SW.out] at this; exact this
      clear CH bX c0 c1 HW BW GW RW SW
      obtain ⟨x0, x1, -, -⟩ := dk_cell GX.out
      have JX := hide (JH.out X BX.out)
      clear JH
      go_wp2_with fail
      refine JX.out.mono ?_
      rintro e Y ⟨⟨q, m, rfl, hq, hnw⟩, bY⟩
      have BY := hide (onward BX.out bY)
      have RY := hide (dk_below RX.out bY)
      have SY : Hid (w.heap.size + 2 ≤ Y.heap.size) := Nat.le_trans SX.out bY.size
      have HNW := hide (hnw.mono SX.out)
      clear JX bY x0 x1 GX RX hnw BX
      obtain ⟨Z, hZ⟩ : ∃ Z, Z = Y.alloc (dkO (.slice q nn m) (.slice none 0 0)) := ⟨_, rfl⟩
      have bZ : Below Y.heap.size Y Z := by rw [hZ]; exact below_alloc Y _
      have gZ : Z.heap[Y.heap.size]? = some (dkO (.slice q nn m) (.slice none 0 0)) := by rw [hZ]; exact heap_alloc_new Y _
      have HZ := hide hZ
      have BZ := hide (onward BY.out bZ)
      have RZ := hide (dk_below RY.out bZ)
      have HQ := hide (hq.below bZ)
      have CZ := hide (CK.out Z q m BZ.out HQ.out)
      have GZ := hide gZ
      obtain ⟨y0, y1, -, -⟩ := dk_cell gZ
      clear hZ bZ gZ CK hq BY RY
      go_wp2_with (rw [← HZ.out])
      refine CZ.out.mono ?_
      rintro e V ⟨rfl, bV⟩
      have BV := hide (onward BZ.out bV)
      have RV := hide (dk_below RZ.out bV)
      have HV := hide (HQ.out.below bV)
      obtain ⟨v0, v1, -, -⟩ := dk_cell (dk_below GZ.out bV)
      clear CZ bV BZ RZ HQ GZ y0 y1 HZ
      obtain ⟨⟨u0, k0⟩, ⟨u1, k1⟩, f0, f1⟩ := dk_opq RV.out
      go_wp2
      clear k0 k1 f0 f1
      have HB := dk_put RV.out (.slice q nn m) (.slice none 0 0)
      obtain ⟨z0, z1, -, -⟩ := dk_cell HB
      refine bodyPost_ret (v := .tuple #[.agg #[(.slice q nn m), (.slice none 0 0)], .int .i64 0]) (by simp [results, Tryz.results6, go_sem, z0, z1]) rfl ⟨⟨_, rfl, ⟨_, _, _, _, _, _, rfl, ((HV.out.set HNW.out _ _).set HNW.out _ _), (bt_none _), (HNW.out.mono (by omega)), (nw_none _)⟩⟩, (BV.out.setCell (by simp) _).setCell (by simp) _⟩
    · rw [if_pos hce]
      generalize n + n' = nn at *
      generalize d.safe ++ d.wait = al at *
      clear h h' hl hl' hn hn' E he hs JO
      go_enter Tryz.func6, Tryz.ntmps6
      go_wp2_with (rw [← HW.out])
      refine CH.out.mono ?_
      rintro e X ⟨rfl, bX⟩
      have BX := hide (onward BW.out bX)
      have GX := hide (dk_below GW.out bX)
      have RX := hide (dk_below RW.out bX)
      have SX : Hid (w.heap.size + 2 ≤ X.heap.size) := by have := bX.size; rw [SW.out] at this; exact this
      clear CH bX c0 c1 HW BW GW RW SW
      obtain ⟨x0, x1, -, -⟩ := dk_cell GX.out
      have JX := hide (JH.out X BX.out)
      clear JH
      go_wp2_with fail
      refine JX.out.mono ?_
      rintro e Y ⟨⟨q, m, rfl, hq, hnw⟩, bY⟩
      have BY := hide (onward BX.out bY)
      have RY := hide (dk_below RX.out bY)
      have SY : Hid (w.heap.size + 2 ≤ Y.heap.size) := Nat.le_trans SX.out bY.size
      have HNW := hide (hnw.mono SX.out)
      clear JX bY x0 x1 GX RX hnw BX
      obtain ⟨Z, hZ⟩ : ∃ Z, Z = Y.alloc (dkO (.slice q nn m) (.slice none 0 0)) := ⟨_, rfl⟩
      have bZ : Below Y.heap.size Y Z := by rw [hZ]; exact below_alloc Y _
      have gZ : Z.heap[Y.heap.size]? = some (dkO (.slice q nn m) (.slice none 0 0)) := by rw [hZ]; exact heap_alloc_new Y _
      have HZ := hide hZ
      have BZ := hide (onward BY.out bZ)
      have RZ := hide (dk_below RY.out bZ)
      have HQ := hide (hq.below bZ)
      have CZ := hide (CK.out Z q m BZ.out HQ.out)
      have GZ := hide gZ
      obtain ⟨y0, y1, -, -⟩ := dk_cell gZ
      clear hZ bZ gZ CK hq BY RY
      go_wp2_with (rw [← HZ.out])
      refine CZ.out.mono ?_
      rintro e V ⟨rfl, bV⟩
      have BV := hide (onward BZ.out bV)
      have RV := hide (dk_below RZ.out bV)
      have HV := hide (HQ.out.below bV)
      obtain ⟨v0, v1, -, -⟩ := dk_cell (dk_below GZ.out bV)
      clear CZ bV BZ RZ HQ GZ y0 y1 HZ
      clear v0 v1
      obtain ⟨⟨u0, k0⟩, ⟨u1, k1⟩, f0, f1⟩ := dk_opq RV.out
      go_wp2
      clear k0 k1 f0 f1
      have HB := dk_put RV.out (.slice none 0 0) (.slice none 0 0)
      obtain ⟨z0, z1, -, -⟩ := dk_cell HB
      refine bodyPost_ret (v := .tuple #[dk0, .int .i64 ce]) (by simp [results, Tryz.results6, go_sem, z0, z1]) rfl ⟨⟨_, rfl, dv_none _ _⟩, (BV.out.setCell (by simp <;> omega) _).setCell (by simp <;> omega) _⟩
  · rw [if_pos he]
    generalize checkD d = ce at *
    clear h h' hl hl' hn hn' E
    go_enter Tryz.func6, Tryz.ntmps6
    go_wp2_with (rw [← HW.out])
    refine CH.out.mono ?_
    rintro e X ⟨rfl, bX⟩
    have BX := hide (onward BW.out bX)
    have GX := hide (dk_below GW.out bX)
    have RX := hide (dk_below RW.out bX)
    have SX : Hid (w.heap.size + 2 ≤ X.heap.size) := by have := bX.size; rw [SW.out] at this; exact this
    clear CH bX c0 c1 HW BW GW RW SW
    clear GX
    obtain ⟨⟨u0, k0⟩, ⟨u1, k1⟩, f0, f1⟩ := dk_opq RX.out
    go_wp2
    clear k0 k1 f0 f1
    have HB := dk_put RX.out (.slice none 0 0) (.slice none 0 0)
    obtain ⟨z0, z1, -, -⟩ := dk_cell HB
    refine bodyPost_ret (v := .tuple #[dk0, .int .i64 ce]) (by simp [results, Tryz.results6, go_sem, z0, z1]) rfl ⟨⟨_, rfl, dv_none _ _⟩, (BX.out.setCell (by simp <;> omega) _).setCell (by simp <;> omega) _⟩
end Go.Proofs.YthdjfhnhjiageaaGreatDoor.Tx
namespace Go.Proofs.YthdjfhnhjiageaaGreatDoor.Tx
open Go.RowKit Go.Lib Go.Sort Go.Proofs.YthdjfhnhjiageaaGreatDoor.Mix
/-- worlds in which what lies ahead of block r is as it was, and block r holds a disk. -/
def Rc (X : World) (r : Nat) (x : World) : Prop := Below r X x ∧ r < x.heap.size ∧ ∃ a b, x.heap[r]? = some (dkO a b)
theorem rc_shut {X : World} {r : Nat} : ∀ x y, Rc X r x → Below x.heap.size x y → Rc X r y := fun _ _ h hb => by
  obtain ⟨h1, h2, a, b, h3⟩ := h
  exact ⟨h1.trans (hb.mono (Nat.le_of_lt h2)), Nat.lt_of_lt_of_le h2 hb.size, a, b, dk_below h3 hb⟩
theorem rc_set {X : World} {r : Nat} {x : World} (h : Rc X r x) (u v : Value) : Rc X r ((x.setCell ⟨r, 0, none⟩ u).setCell ⟨r, 1, none⟩ v) := by
  obtain ⟨h1, h2, a, b, h3⟩ := h
  exact ⟨(h1.setCell (Nat.le_refl _) _).setCell (Nat.le_refl _) _, by simpa [World.setCell] using h2, u, v, dk_put h3 u v⟩
def Having (C : World → Prop) (q : Option Addr) (n m : Nat) (bs : Bs) (x : World) : Prop := C x ∧ Bt x q n m bs
theorem having_shut {C : World → Prop} (h : ∀ x y, C x → Below x.heap.size x y → C y) (q : Option Addr) (n m : Nat) (bs : Bs) : ∀ x y, Having C q n m bs x → Below x.heap.size x y → Having C q n m bs y := fun x y hx hb => ⟨h x y hx.1 hb, hx.2.below hb⟩
def At (C : World → Prop) (r : Nat) (u v : Value) (x : World) : Prop := C x ∧ x.heap[r]? = some (dkO u v)
set_option maxHeartbeats 4000000 in
set_option maxRecDepth 100000 in
theorem crash_any (p : Option Addr) (n c : Nat) (p' : Option Addr) (n' c' : Nat) (d : Dk) (k : Int) (w : World) (h : Bt w p n c d.safe) (h' : Bt w p' n' c' d.wait) (hn : n ≤ 140737488351232) (hn' : n' ≤ 140737488351232) (E : Env w) :
    Calls Tryz.prog 7 #[dkV p n c p' n' c', .int .i64 k] w (DPost (crashD d k).1 (crashD d k).2 w) := by
  have mixed : Tryz.prog.follows .mixedOrders = true := by kernel_rfl
  have hl := h.len
  have hl' := h'.len
  obtain ⟨W, hW⟩ : ∃ W, W = (w.alloc (dkO (.slice p n c) (.slice p' n' c'))).alloc (dkO (.slice none 0 0) (.slice none 0 0)) := ⟨_, rfl⟩
  have bW : Below w.heap.size w W := by rw [hW]; exact ((Below.refl _ w).alloc (Nat.le_refl _) _).alloc (by simp) _
  have gW : W.heap[w.heap.size]? = some (dkO (.slice p n c) (.slice p' n' c')) := by rw [hW]; exact dk_below (heap_alloc_new w _) (below_alloc _ _)
  have rW : W.heap[w.heap.size + 1]? = some (dkO (.slice none 0 0) (.slice none 0 0)) := by
    rw [hW]
    have := heap_alloc_new (w.alloc (dkO (.slice p n c) (.slice p' n' c'))) (dkO (.slice none 0 0) (.slice none 0 0))
    simp only [World.size_alloc] at this
    exact this
  have sW : W.heap.size = w.heap.size + 2 := by rw [hW]; simp
  obtain ⟨c0, c1, -, -⟩ := dk_cell gW
  have HW := hide hW
  have BW := hide bW
  have GW := hide gW
  have RW := hide rW
  have SW := hide sW
  have CH := hide (checkD_any p n c p' n' c' d W (h.below bW) (h'.below bW) hn hn' (E.below bW))
  clear hW bW gW rW sW
  unfold crashD
  by_cases he : checkD d = 0
  · rw [if_neg (fun x => x he)]
    have hs := (check_zero he).1
    rw [he] at CH
    by_cases hk0 : k < 0
    · rw [if_pos (.inl hk0)]
      clear h h' hl hl' hn hn' E he hs
      go_enter Tryz.func7, Tryz.ntmps7
      go_wp2_with (rw [← HW.out])
      refine CH.out.mono ?_
      rintro e X ⟨rfl, bX⟩
      have BX := hide (onward BW.out bX)
      have GX := hide (dk_below GW.out bX)
      have RX := hide (dk_below RW.out bX)
      have SX : Hid (w.heap.size + 2 ≤ X.heap.size) := by have := bX.size; rw [SW.out] at this; exact this
      clear CH bX c0 c1 HW BW GW RW SW
      clear GX
      obtain ⟨⟨u0, k0⟩, ⟨u1, k1⟩, f0, f1⟩ := dk_opq RX.out
      go_wp2
      clear k0 k1 f0 f1
      have HB := dk_put RX.out (.slice none 0 0) (.slice none 0 0)
      obtain ⟨z0, z1, -, -⟩ := dk_cell HB
      refine bodyPost_ret (v := .tuple #[dk0, .int .i64 3]) (by simp [results, Tryz.results7, go_sem, z0, z1]) rfl ⟨⟨_, rfl, dv_none _ _⟩, (BX.out.setCell (by simp <;> omega) _).setCell (by simp <;> omega) _⟩
    · obtain ⟨j, rfl⟩ : ∃ j : Nat, k = j := ⟨k.toNat, by omega⟩
      by_cases hk1 : (d.wait.length : Int) < (j : Int)
      · rw [if_pos (.inr hk1)]
        rw [hl'] at hk1
        clear h h' hl hl' hn hn' E he hs
        go_enter Tryz.func7, Tryz.ntmps7
        go_wp2_with (rw [← HW.out])
        refine CH.out.mono ?_
        rintro e X ⟨rfl, bX⟩
        have BX := hide (onward BW.out bX)
        have GX := hide (dk_below GW.out bX)
        have RX := hide (dk_below RW.out bX)
        have SX : Hid (w.heap.size + 2 ≤ X.heap.size) := by have := bX.size; rw [SW.out] at this; exact this
        clear CH bX c0 c1 HW BW GW RW SW
        obtain ⟨x0, x1, -, -⟩ := dk_cell GX.out
        clear GX
        obtain ⟨⟨u0, k0⟩, ⟨u1, k1⟩, f0, f1⟩ := dk_opq RX.out
        go_wp2
        clear k0 k1 f0 f1
        have HB := dk_put RX.out (.slice none 0 0) (.slice none 0 0)
        obtain ⟨z0, z1, -, -⟩ := dk_cell HB
        refine bodyPost_ret (v := .tuple #[dk0, .int .i64 3]) (by simp [results, Tryz.results7, go_sem, z0, z1]) rfl ⟨⟨_, rfl, dv_none _ _⟩, (BX.out.setCell (by simp <;> omega) _).setCell (by simp <;> omega) _⟩
      · rw [if_neg (fun x => x.elim (by omega) hk1), Int.toNat_natCast]
        rw [hl'] at hk1
        have hj : j ≤ n' := by omega
        have hcap := h'.cap
        have CL : Hid (∀ y, Below w.heap.size w y → _) := fun y hy => cloneB_any p n c d.safe y (h.below hy) (by omega)
        have SE : Hid (∀ y, Below w.heap.size w y → _) := fun y hy => cloneB_any p' j c' (d.wait.take j) y ((h'.below hy).take hj) (by omega)
        clear h h' hl hl' hn hn' E he hs hk0
        go_enter Tryz.func7, Tryz.ntmps7
        go_wp2_with (rw [← HW.out])
        refine CH.out.mono ?_
        rintro e X ⟨rfl, bX⟩
        have BX := hide (onward BW.out bX)
        have GX := hide (dk_below GW.out bX)
        have RX := hide (dk_below RW.out bX)
        have SX : Hid (w.heap.size + 2 ≤ X.heap.size) := by have := bX.size; rw [SW.out] at this; exact this
        clear CH bX c0 c1 HW BW GW RW SW
        obtain ⟨x0, x1, -, -⟩ := dk_cell GX.out
        clear GX SX
        obtain ⟨RR, hRR⟩ : ∃ RR, RR = w.heap.size + 1 := ⟨_, rfl⟩
        have HRR := hide hRR
        go_wp2_with fail
        rw [← hRR] at RX ⊢
        clear hRR
        have rX : Hid (RR < X.heap.size) := (Array.getElem?_eq_some_iff.1 RX.out).1
        obtain ⟨C, hCC⟩ : ∃ C, C = Rc X RR := ⟨_, rfl⟩
        have CR : Hid (∀ x, C x → Rc X RR x) := fun x hx => by rw [hCC] at hx; exact hx
        have CQ : Hid (∀ x, Rc X RR x → C x) := fun x hx => by rw [hCC]; exact hx
        have CSET : Hid (∀ x u v, C x → C ((x.setCell ⟨RR, 0, none⟩ u).setCell ⟨RR, 1, none⟩ v)) := fun x u v hx => CQ.out _ (rc_set (CR.out x hx) u v)
        have CS : Hid (∀ x y, C x → Below x.heap.size x y → C y) := by rw [hCC]; exact rc_shut
        have C0 : Hid (C { X with drawn := X.drawn + 1 }) := by rw [hCC]; exact ⟨⟨rfl, rfl, rfl, Nat.le_refl _, fun _ _ => rfl⟩, rX.out, ⟨_, _, RX.out⟩⟩
        have hC : ∀ p1 : InC C, ∀ a v, a.block < RR → X.cell? a = some v → p1.w.cell? a = some v := fun p1 a v ha hv => ((CR.out p1.w p1.h).1.cell ha).trans hv
        have g0 := fun p1 => hC p1 ⟨w.heap.size, 0, none⟩ _ (HRR.out ▸ by simp) x0
        have g1 := fun p1 => hC p1 ⟨w.heap.size, 1, none⟩ _ (HRR.out ▸ by simp) x1
        have HBX : Hid (∀ x, C x → Below w.heap.size w x ∧ RR + 1 ≤ x.heap.size) := fun x hx => ⟨BX.out.trans ((CR.out x hx).1.mono (by rw [HRR.out]; omega)), (CR.out x hx).2.1⟩
        clear hC hCC x0 x1
        refine wp_region_mix [(0, true), (1, true), (3, true), (4, true), (5, true), (6, true), (2, false), (7, false), (8, true), (9, false), (10, true)] C mixed (by kernel_rfl) C0.out ?_
        repeat (refine mix_still (by rfl) ?_; go_big_quiet_step (exact rfl); refine wpQuiet_nil ?_)
        refine mix_main (by rfl) ?_
        rintro ⟨y1, hy1⟩
        dsimp only
        have hcon := CL.out y1 (HBX.out y1 hy1).1
        have hsz1 : Hid (RR + 1 ≤ y1.heap.size) := (HBX.out y1 hy1).2
        have HY1 := hide hy1
        go_wp2_with (go_at_call 29; refine hcon.mono ?_; rintro e w1 ⟨⟨q1, m1, rfl, hq1, hn1⟩, hb1⟩)
        refine ⟨Having C q1 n m1 d.safe, ⟨CS.out y1 w1 HY1.out hb1, hq1⟩, fun x hx => hx.1, ?_⟩
        have N1 := hide (hn1.mono hsz1.out)
        have CS1 := hide (having_shut CS.out q1 n m1 d.safe)
        have K1 : Hid (∀ x, Having C q1 n m1 d.safe x → C x ∧ Bt x q1 n m1 d.safe) := fun x hx => hx
        have K1' : Hid (∀ x, C x → Bt x q1 n m1 d.safe → Having C q1 n m1 d.safe x) := fun x hx hy => ⟨hx, hy⟩
        generalize Having C q1 n m1 d.safe = C1 at CS1 K1 K1' ⊢
        clear hcon hq1 hn1 hb1 w1 HY1 hsz1 hy1
        clear y1
        refine mix_main (by rfl) ?_
        rintro ⟨y2, hy2⟩
        dsimp only
        have hcon := SE.out y2 (HBX.out y2 (K1.out y2 hy2).1).1
        have hsz2 : Hid (RR + 1 ≤ y2.heap.size) := (HBX.out y2 (K1.out y2 hy2).1).2
        have HY2 := hide hy2
        go_wp2_with (go_at_call 29; refine hcon.mono ?_; rintro e w2 ⟨⟨q2, m2, rfl, hq2, hn2⟩, hb2⟩)
        refine ⟨Having C1 q2 j m2 (d.wait.take j), ⟨CS1.out y2 w2 HY2.out hb2, hq2⟩, fun x hx => hx.1, ?_⟩
        have N2 := hide (hn2.mono hsz2.out)
        have K2 : Hid (∀ x, Having C1 q2 j m2 (d.wait.take j) x → C1 x ∧ Bt x q2 j m2 (d.wait.take j)) := fun x hx => hx
        have K2' : Hid (∀ x, C1 x → Bt x q2 j m2 (d.wait.take j) → Having C1 q2 j m2 (d.wait.take j) x) := fun x hx hy => ⟨hx, hy⟩
        generalize Having C1 q2 j m2 (d.wait.take j) = C2 at K2 K2' ⊢
        clear hcon hq2 hn2 hb2 w2 HY2 hsz2 hy2
        clear y2
        repeat (refine mix_still (by rfl) ?_; go_big_quiet_step (exact rfl); refine wpQuiet_nil ?_)
        refine mix_main (by rfl) ?_
        rintro ⟨y3, hy3⟩
        dsimp only
        obtain ⟨a1, a2⟩ := K2.out y3 hy3
        obtain ⟨b1, b2⟩ := K1.out y3 a1
        have cr := CR.out y3 b1
        obtain ⟨bel, szr, o1, o2, hr⟩ := cr
        obtain ⟨⟨u0, k0⟩, ⟨u1, k1⟩, f0, f1⟩ := dk_opq hr
        have HS := hide (dk_put hr (.slice q1 n m1) (.slice q2 j m2))
        have HC2 : Hid (C2 ((y3.setCell ⟨RR, 0, none⟩ (.slice q1 n m1)).setCell ⟨RR, 1, none⟩ (.slice q2 j m2))) := K2'.out _ (K1'.out _ (CSET.out y3 _ _ b1) ((b2.set N1.out _ _).set N1.out _ _)) ((a2.set N2.out _ _).set N2.out _ _)
        clear a1 a2 b1 b2 bel szr hr hy3
        go_wp2
        refine ⟨At C2 RR (.slice q1 n m1) (.slice q2 j m2), ⟨HC2.out, HS.out⟩, fun x hx => hx.1, ?_⟩
        have K3 : Hid (∀ x, At C2 RR (.slice q1 n m1) (.slice q2 j m2) x → C2 x ∧ x.heap[RR]? = some (dkO (.slice q1 n m1) (.slice q2 j m2))) := fun x hx => hx
        generalize At C2 RR (.slice q1 n m1) (.slice q2 j m2) = C3 at K3 ⊢
        clear k0 k1 f0 f1 HS HC2
        clear y3
        repeat (refine mix_still (by rfl) ?_; go_big_quiet_step (exact rfl); refine wpQuiet_nil ?_)
        refine mix_end ?_
        rintro ⟨z, hz⟩
        dsimp only
        obtain ⟨a1, hr⟩ := K3.out z hz
        obtain ⟨a1, a2⟩ := K2.out z a1
        obtain ⟨b1, b2⟩ := K1.out z a1
        have hbz := (HBX.out z b1).1
        obtain ⟨z0, z1, -, -⟩ := dk_cell hr
        go_wp2
        refine bodyPost_ret (v := .tuple #[.agg #[.slice q1 n m1, .slice q2 j m2], .int .i64 0]) (by simp [results, Tryz.results7, go_sem, z0, z1]) rfl ⟨⟨_, rfl, ⟨_, _, _, _, _, _, rfl, b2, a2, N1.out.mono (by rw [HRR.out]; omega), N2.out.mono (by rw [HRR.out]; omega)⟩⟩, hbz⟩
  · rw [if_pos he]
    generalize checkD d = ce at *
    clear h h' hl hl' hn hn' E
    go_enter Tryz.func7, Tryz.ntmps7
    go_wp2_with (rw [← HW.out])
    refine CH.out.mono ?_
    rintro e X ⟨rfl, bX⟩
    have BX := hide (onward BW.out bX)
    have GX := hide (dk_below GW.out bX)
    have RX := hide (dk_below RW.out bX)
    have SX : Hid (w.heap.size + 2 ≤ X.heap.size) := by have := bX.size; rw [SW.out] at this; exact this
    clear CH bX c0 c1 HW BW GW RW SW
    clear GX
    obtain ⟨⟨u0, k0⟩, ⟨u1, k1⟩, f0, f1⟩ := dk_opq RX.out
    go_wp2
    clear k0 k1 f0 f1
    have HB := dk_put RX.out (.slice none 0 0) (.slice none 0 0)
    obtain ⟨z0, z1, -, -⟩ := dk_cell HB
    refine bodyPost_ret (v := .tuple #[dk0, .int .i64 ce]) (by simp [results, Tryz.results7, go_sem, z0, z1]) rfl ⟨⟨_, rfl, dv_none _ _⟩, (BX.out.setCell (by simp <;> omega) _).setCell (by simp <;> omega) _⟩
end Go.Proofs.YthdjfhnhjiageaaGreatDoor.Tx
namespace Go.Proofs.YthdjfhnhjiageaaGreatDoor.Tx
open Go.RowKit Go.Lib Go.Sort Go.Proofs.YthdjfhnhjiageaaGreatDoor.Mix
set_option maxHeartbeats 4000000 in
set_option maxRecDepth 100000 in
theorem put_any (p : Option Addr) (n c : Nat) (p' : Option Addr) (n' c' : Nat) (d : Dk) (cm : Cd) (w : World) (h : Bt w p n c d.safe) (h' : Bt w p' n' c' d.wait) (hn : n ≤ 140737488351232) (hn' : n' ≤ 140737488351232) (hf : cm.fits) (E : Env w) :
    Calls Tryz.prog 5 #[dkV p n c p' n' c', cdV cm] w (DPost (putD d cm).1 (putD d cm).2 w) := by
  have mixed : Tryz.prog.follows .mixedOrders = true := by kernel_rfl
  have hl := h.len
  have hl' := h'.len
  obtain ⟨W, hW⟩ : ∃ W, W = ((w.alloc (dkO (.slice p n c) (.slice p' n' c'))).alloc (cdO cm)).alloc (dkO (.slice none 0 0) (.slice none 0 0)) := ⟨_, rfl⟩
  have bW : Below w.heap.size w W := by rw [hW]; exact below3 w _ _ _
  have gW : W.heap[w.heap.size]? = some (dkO (.slice p n c) (.slice p' n' c')) := by
    rw [hW]
    exact dk_below (dk_below (heap_alloc_new w _) (below_alloc _ _)) (below_alloc _ _)
  have rW : W.heap[w.heap.size + 1 + 1]? = some (dkO (.slice none 0 0) (.slice none 0 0)) := by
    rw [hW]
    have := heap_alloc_new ((w.alloc (dkO (.slice p n c) (.slice p' n' c'))).alloc (cdO cm)) (dkO (.slice none 0 0) (.slice none 0 0))
    simp only [World.size_alloc] at this
    exact this
  have tW : CdAt W (w.heap.size + 1) cm := by
    rw [hW]
    have := heap_alloc_new (w.alloc (dkO (.slice p n c) (.slice p' n' c'))) (cdO cm)
    simp only [World.size_alloc] at this
    exact cdAt_below this (below_alloc _ _)
  obtain ⟨c0, c1, -, -⟩ := dk_cell gW
  have HW := hide hW
  have BW := hide bW
  have GW := hide gW
  have RW := hide rW
  have TW := hide tW
  have CH := hide (checkD_any p n c p' n' c' d W (h.below bW) (h'.below bW) hn hn' (E.below bW))
  clear hW bW gW rW tW
  unfold putD
  by_cases he : checkD d = 0
  · rw [if_neg (fun x => x he)]
    have hs := (check_zero he).1
    rw [he] at CH
    have PR0 := fun X (bX : Below w.heap.size w X) => print_any cm X hf (E.below bX)
    unfold printS at PR0
    by_cases hc : checkC cm = 0
    · rw [if_neg (fun x => x hc)]
      rw [if_pos hc, hc] at PR0
      have PR := hide PR0
      have pl := print_len hf
      have hlen : (lineC cm).length = (printC cm).length + 1 := by simp
      rw [hlen, hl, hl']
      unfold lineC
      generalize printC cm = s at *
      have UD : Hid (∀ V, _) := fun V => usedD_any p n c p' n' c' (by omega) (by omega) V
      have JO0 := fun X lb lc (bX : Below w.heap.size w X) (hb : Bt X (some ⟨lb, 0, none⟩) (s.length + 1) lc (s ++ [10])) => fun hz => joined_any p' n' c' (some ⟨lb, 0, none⟩) (s.length + 1) lc d.wait (s ++ [10]) X (h'.below bX) hb hz
      have mz : n + n' ≤ 20000 := by omega
      have mn : n ≤ n + n' ∧ n' ≤ n + n' := ⟨by omega, by omega⟩
      have CL0 : Hid (∀ y, Below w.heap.size w y → _) := fun y hy => cloneB_any p n c d.safe y (h.below hy) (by omega)
      obtain ⟨ll, HL⟩ : ∃ ll, s.length + 1 = ll := ⟨_, rfl⟩
      have lz : ll ≤ 201 := by omega
      have HLL := hide HL
      rw [HL] at JO0 ⊢
      have JOH := hide JO0
      generalize n + n' = mm at *
      by_cases hz : 20000 < mm + ll
      · rw [if_pos hz]
        have hzz : (20000 : Int) < (mm : Int) + (ll : Int) := by omega
        clear h h' hl hl' hn hn' E he hs PR0 hf hc hlen HL JO0 JOH CL0 mn
        obtain ⟨kind, ac, mkt, nn, oi, oa, sd, pr, qt, how, red⟩ := cm
        go_enter Tryz.func5, Tryz.ntmps5
        go_wp2_with (rw [← HW.out])
        refine CH.out.mono ?_
        rintro e X ⟨rfl, bX⟩
        have BX := hide (onward BW.out bX)
        have GX := hide (dk_below GW.out bX)
        have RX := hide (dk_below RW.out bX)
        have TX := hide (cdAt_below TW.out bX)
        clear CH bX c0 c1 HW BW GW RW TW
        clear W
        have PX := hide (PR.out X BX.out)
        have at1 := TX.out
        have c0 := cd_cells at1 (Below.refl _ X) 0 rfl
        have c1 := cd_cells at1 (Below.refl _ X) 1 rfl
        have c2 := cd_cells at1 (Below.refl _ X) 2 rfl
        have c3 := cd_cells at1 (Below.refl _ X) 3 rfl
        have c4 := cd_cells at1 (Below.refl _ X) 4 rfl
        have c5 := cd_cells at1 (Below.refl _ X) 5 rfl
        have c6 := cd_cells at1 (Below.refl _ X) 6 rfl
        have c7 := cd_cells at1 (Below.refl _ X) 7 rfl
        have c8 := cd_cells at1 (Below.refl _ X) 8 rfl
        have c9 := cd_cells at1 (Below.refl _ X) 9 rfl
        have c10 := cd_cells at1 (Below.refl _ X) 10 rfl
        simp only [List.getElem_toArray, List.getElem_cons_zero, List.getElem_cons_succ] at c0 c1 c2 c3 c4 c5 c6 c7 c8 c9 c10
        clear at1 PR
        go_wp2_with fail
        refine PX.out.mono ?_
        rintro e Y ⟨rfl, bY⟩
        have BY := hide (onward BX.out bY)
        have GY := hide (dk_below GX.out bY)
        have RY := hide (dk_below RX.out bY)
        clear PX bY BX GX RX TX c0 c1 c2 c3 c4 c5 c6 c7 c8 c9 c10
        clear X
        obtain ⟨lc, V, cv, lb, bV, sV⟩ := conv_bt (s ++ [10]) Y
        rw [List.length_append, List.length_singleton, HLL.out] at cv lb
        rw [← sB_cat] at cv
        have BV := hide (onward BY.out bV)
        have GV := hide (dk_below GY.out bV)
        have RV := hide (dk_below RY.out bV)
        have LB := hide lb
        have US := hide (UD.out V)
        obtain ⟨v0, v1, -, -⟩ := dk_cell GV.out
        clear bV sV lb BY GY UD
        have YB : Hid (w.heap.size + 1 + 1 < Y.heap.size) := (Array.getElem?_eq_some_iff.1 RY.out).1
        clear RY
        generalize Y.heap.size = yb at *
        go_wp2_with fail
        refine US.out.mono ?_
        rintro e X ⟨rfl, bX⟩
        have BX := hide (onward BV.out bX)
        have GX := hide (dk_below GV.out bX)
        have RX := hide (dk_below RV.out bX)
        have LX := hide (LB.out.below bX)
        clear US bX BV GV RV LB cv v0 v1
        clear V Y
        clear GX LX
        obtain ⟨⟨u0, k0⟩, ⟨u1, k1⟩, f0, f1⟩ := dk_opq RX.out
        go_wp2
        clear k0 k1 f0 f1
        have HB := dk_put RX.out (.slice none 0 0) (.slice none 0 0)
        obtain ⟨z0, z1, -, -⟩ := dk_cell HB
        refine bodyPost_ret (v := .tuple #[dk0, .int .i64 7]) (by simp [results, Tryz.results5, go_sem, z0, z1]) rfl ⟨⟨_, rfl, dv_none _ _⟩, (BX.out.setCell (by simp <;> omega) _).setCell (by simp <;> omega) _⟩
      · rw [if_neg hz]
        have hzz : ¬ (20000 : Int) < (mm : Int) + (ll : Int) := by omega
        have JO1 : Hid (n' + ll ≤ 100000) := by show n' + ll ≤ 100000; omega
        clear h h' hl hl' hn hn' E he hs PR0 hf hc hlen HL JO0 mn
        obtain ⟨kind, ac, mkt, nn, oi, oa, sd, pr, qt, how, red⟩ := cm
        go_enter Tryz.func5, Tryz.ntmps5
        go_wp2_with (rw [← HW.out])
        refine CH.out.mono ?_
        rintro e X ⟨rfl, bX⟩
        have BX := hide (onward BW.out bX)
        have GX := hide (dk_below GW.out bX)
        have RX := hide (dk_below RW.out bX)
        have TX := hide (cdAt_below TW.out bX)
        clear CH bX c0 c1 HW BW GW RW TW
        clear W
        have PX := hide (PR.out X BX.out)
        have at1 := TX.out
        have c0 := cd_cells at1 (Below.refl _ X) 0 rfl
        have c1 := cd_cells at1 (Below.refl _ X) 1 rfl
        have c2 := cd_cells at1 (Below.refl _ X) 2 rfl
        have c3 := cd_cells at1 (Below.refl _ X) 3 rfl
        have c4 := cd_cells at1 (Below.refl _ X) 4 rfl
        have c5 := cd_cells at1 (Below.refl _ X) 5 rfl
        have c6 := cd_cells at1 (Below.refl _ X) 6 rfl
        have c7 := cd_cells at1 (Below.refl _ X) 7 rfl
        have c8 := cd_cells at1 (Below.refl _ X) 8 rfl
        have c9 := cd_cells at1 (Below.refl _ X) 9 rfl
        have c10 := cd_cells at1 (Below.refl _ X) 10 rfl
        simp only [List.getElem_toArray, List.getElem_cons_zero, List.getElem_cons_succ] at c0 c1 c2 c3 c4 c5 c6 c7 c8 c9 c10
        clear at1 PR
        go_wp2_with fail
        refine PX.out.mono ?_
        rintro e Y ⟨rfl, bY⟩
        have BY := hide (onward BX.out bY)
        have GY := hide (dk_below GX.out bY)
        have RY := hide (dk_below RX.out bY)
        clear PX bY BX GX RX TX c0 c1 c2 c3 c4 c5 c6 c7 c8 c9 c10
        clear X
        obtain ⟨lc, V, cv, lb, bV, sV⟩ := conv_bt (s ++ [10]) Y
        rw [List.length_append, List.length_singleton, HLL.out] at cv lb
        rw [← sB_cat] at cv
        have BV := hide (onward BY.out bV)
        have GV := hide (dk_below GY.out bV)
        have RV := hide (dk_below RY.out bV)
        have LB := hide lb
        have US := hide (UD.out V)
        obtain ⟨v0, v1, -, -⟩ := dk_cell GV.out
        clear bV sV lb BY GY UD
        have YB : Hid (w.heap.size + 1 + 1 < Y.heap.size) := (Array.getElem?_eq_some_iff.1 RY.out).1
        clear RY
        generalize Y.heap.size = yb at *
        go_wp2_with fail
        refine US.out.mono ?_
        rintro e X ⟨rfl, bX⟩
        have BX := hide (onward BV.out bX)
        have GX := hide (dk_below GV.out bX)
        have RX := hide (dk_below RV.out bX)
        have LX := hide (LB.out.below bX)
        clear US bX BV GV RV LB cv v0 v1
        clear V Y
        have CL := CL0
        obtain ⟨x0, x1, -, -⟩ := dk_cell GX.out
        clear GX
        obtain ⟨RR, hRR⟩ : ∃ RR, RR = w.heap.size + 1 + 1 := ⟨_, rfl⟩
        have HRR := hide hRR
        go_wp2_with fail
        rw [← hRR] at RX YB ⊢
        clear hRR
        have LNW : Hid (Nw (RR + 1) (some ⟨yb, 0, none⟩)) := fun a ha => by cases ha; exact YB.out
        have rX : Hid (RR < X.heap.size) := (Array.getElem?_eq_some_iff.1 RX.out).1
        obtain ⟨C, hCC⟩ : ∃ C, C = Having (Rc X RR) (some ⟨yb, 0, none⟩) ll lc (s ++ [10]) := ⟨_, rfl⟩
        have CR : Hid (∀ x, C x → Rc X RR x) := fun x hx => by rw [hCC] at hx; exact hx.1
        have CB : Hid (∀ x, C x → Bt x (some ⟨yb, 0, none⟩) ll lc (s ++ [10])) := fun x hx => by rw [hCC] at hx; exact hx.2
        have CSET : Hid (∀ x u v, C x → C ((x.setCell ⟨RR, 0, none⟩ u).setCell ⟨RR, 1, none⟩ v)) := fun x u v hx => by rw [hCC] at hx ⊢; exact ⟨rc_set hx.1 u v, (hx.2.set LNW.out _ _).set LNW.out _ _⟩
        have CS : Hid (∀ x y, C x → Below x.heap.size x y → C y) := by rw [hCC]; exact having_shut rc_shut _ _ _ _
        have C0 : Hid (C { X with drawn := X.drawn + 1 }) := by rw [hCC]; exact ⟨⟨⟨rfl, rfl, rfl, Nat.le_refl _, fun _ _ => rfl⟩, rX.out, ⟨_, _, RX.out⟩⟩, LX.out.below ⟨rfl, rfl, rfl, Nat.le_refl _, fun _ _ => rfl⟩⟩
        have hC : ∀ p1 : InC C, ∀ a v, a.block < RR → X.cell? a = some v → p1.w.cell? a = some v := fun p1 a v ha hv => ((CR.out p1.w p1.h).1.cell ha).trans hv
        have g0 := fun p1 => hC p1 ⟨w.heap.size, 0, none⟩ _ (HRR.out ▸ by simp; omega) x0
        have g1 := fun p1 => hC p1 ⟨w.heap.size, 1, none⟩ _ (HRR.out ▸ by simp; omega) x1
        have HBX : Hid (∀ x, C x → Below w.heap.size w x ∧ RR + 1 ≤ x.heap.size) := fun x hx => ⟨BX.out.trans ((CR.out x hx).1.mono (by rw [HRR.out]; omega)), (CR.out x hx).2.1⟩
        clear hC hCC x0 x1
        refine wp_region_mix [(0, true), (1, true), (3, true), (4, true), (5, true), (2, false), (6, false), (7, true), (8, false), (9, true)] C mixed (by kernel_rfl) C0.out ?_
        repeat (refine mix_still (by rfl) ?_; go_big_quiet_step (exact rfl); refine wpQuiet_nil ?_)
        refine mix_main (by rfl) ?_
        rintro ⟨y1, hy1⟩
        dsimp only
        have hcon := CL.out y1 (HBX.out y1 hy1).1
        have hsz1 : Hid (RR + 1 ≤ y1.heap.size) := (HBX.out y1 hy1).2
        have HY1 := hide hy1
        go_wp2_with (go_at_call 29; refine hcon.mono ?_; rintro e w1 ⟨⟨q1, m1, rfl, hq1, hn1⟩, hb1⟩)
        refine ⟨Having C q1 n m1 d.safe, ⟨CS.out y1 w1 HY1.out hb1, hq1⟩, fun x hx => hx.1, ?_⟩
        have N1 := hide (hn1.mono hsz1.out)
        have CS1 := hide (having_shut CS.out q1 n m1 d.safe)
        have K1 : Hid (∀ x, Having C q1 n m1 d.safe x → C x ∧ Bt x q1 n m1 d.safe) := fun x hx => hx
        have K1' : Hid (∀ x, C x → Bt x q1 n m1 d.safe → Having C q1 n m1 d.safe x) := fun x hx hy => ⟨hx, hy⟩
        generalize Having C q1 n m1 d.safe = C1 at CS1 K1 K1' ⊢
        clear hcon hq1 hn1 hb1 w1 HY1 hsz1 hy1
        clear y1
        have SE : Hid (∀ y, C1 y → _) := fun y hy => JOH.out y yb lc (HBX.out y (K1.out y hy).1).1 (CB.out y (K1.out y hy).1) JO1.out
        refine mix_main (by rfl) ?_
        rintro ⟨y2, hy2⟩
        dsimp only
        have hcon := SE.out y2 hy2
        have hsz2 : Hid (RR + 1 ≤ y2.heap.size) := (HBX.out y2 (K1.out y2 hy2).1).2
        have HY2 := hide hy2
        go_wp2_with (go_at_call 30; refine hcon.mono ?_; rintro e w2 ⟨⟨q2, m2, rfl, hq2, hn2⟩, hb2⟩)
        refine ⟨Having C1 q2 (n' + ll) m2 (d.wait ++ (s ++ [10])), ⟨CS1.out y2 w2 HY2.out hb2, hq2⟩, fun x hx => hx.1, ?_⟩
        have N2 := hide (hn2.mono hsz2.out)
        have K2 : Hid (∀ x, Having C1 q2 (n' + ll) m2 (d.wait ++ (s ++ [10])) x → C1 x ∧ Bt x q2 (n' + ll) m2 (d.wait ++ (s ++ [10]))) := fun x hx => hx
        have K2' : Hid (∀ x, C1 x → Bt x q2 (n' + ll) m2 (d.wait ++ (s ++ [10])) → Having C1 q2 (n' + ll) m2 (d.wait ++ (s ++ [10])) x) := fun x hx hy => ⟨hx, hy⟩
        generalize Having C1 q2 (n' + ll) m2 (d.wait ++ (s ++ [10])) = C2 at K2 K2' ⊢
        clear hcon hq2 hn2 hb2 w2 HY2 hsz2 hy2
        clear y2
        repeat (refine mix_still (by rfl) ?_; go_big_quiet_step (exact rfl); refine wpQuiet_nil ?_)
        refine mix_main (by rfl) ?_
        rintro ⟨y3, hy3⟩
        dsimp only
        obtain ⟨a1, a2⟩ := K2.out y3 hy3
        obtain ⟨b1, b2⟩ := K1.out y3 a1
        have cr := CR.out y3 b1
        obtain ⟨bel, szr, o1, o2, hr⟩ := cr
        obtain ⟨⟨u0, k0⟩, ⟨u1, k1⟩, f0, f1⟩ := dk_opq hr
        have HS := hide (dk_put hr (.slice q1 n m1) (.slice q2 (n' + ll) m2))
        have HC2 : Hid (C2 ((y3.setCell ⟨RR, 0, none⟩ (.slice q1 n m1)).setCell ⟨RR, 1, none⟩ (.slice q2 (n' + ll) m2))) := K2'.out _ (K1'.out _ (CSET.out y3 _ _ b1) ((b2.set N1.out _ _).set N1.out _ _)) ((a2.set N2.out _ _).set N2.out _ _)
        clear a1 a2 b1 b2 bel szr hr hy3
        go_wp2
        refine ⟨At C2 RR (.slice q1 n m1) (.slice q2 (n' + ll) m2), ⟨HC2.out, HS.out⟩, fun x hx => hx.1, ?_⟩
        have K3 : Hid (∀ x, At C2 RR (.slice q1 n m1) (.slice q2 (n' + ll) m2) x → C2 x ∧ x.heap[RR]? = some (dkO (.slice q1 n m1) (.slice q2 (n' + ll) m2))) := fun x hx => hx
        generalize At C2 RR (.slice q1 n m1) (.slice q2 (n' + ll) m2) = C3 at K3 ⊢
        clear k0 k1 f0 f1 HS HC2
        clear y3
        repeat (refine mix_still (by rfl) ?_; go_big_quiet_step (exact rfl); refine wpQuiet_nil ?_)
        refine mix_end ?_
        rintro ⟨z, hz⟩
        dsimp only
        obtain ⟨a1, hr⟩ := K3.out z hz
        obtain ⟨a1, a2⟩ := K2.out z a1
        obtain ⟨b1, b2⟩ := K1.out z a1
        have hbz := (HBX.out z b1).1
        obtain ⟨z0, z1, -, -⟩ := dk_cell hr
        go_wp2
        refine bodyPost_ret (v := .tuple #[.agg #[.slice q1 n m1, .slice q2 (n' + ll) m2], .int .i64 0]) (by simp [results, Tryz.results5, go_sem, z0, z1]) rfl ⟨⟨_, rfl, ⟨_, _, _, _, _, _, rfl, b2, a2, N1.out.mono (by rw [HRR.out]; omega), N2.out.mono (by rw [HRR.out]; omega)⟩⟩, hbz⟩
    · rw [if_pos hc]
      rw [if_neg hc] at PR0
      have PR := hide PR0
      generalize checkC cm = ce at *
      clear h h' hl hl' hn hn' E he hs PR0 hf
      obtain ⟨kind, ac, mkt, nn, oi, oa, sd, pr, qt, how, red⟩ := cm
      go_enter Tryz.func5, Tryz.ntmps5
      go_wp2_with (rw [← HW.out])
      refine CH.out.mono ?_
      rintro e X ⟨rfl, bX⟩
      have BX := hide (onward BW.out bX)
      have GX := hide (dk_below GW.out bX)
      have RX := hide (dk_below RW.out bX)
      have TX := hide (cdAt_below TW.out bX)
      clear CH bX c0 c1 HW BW GW RW TW
      clear W
      have PX := hide (PR.out X BX.out)
      have at1 := TX.out
      have c0 := cd_cells at1 (Below.refl _ X) 0 rfl
      have c1 := cd_cells at1 (Below.refl _ X) 1 rfl
      have c2 := cd_cells at1 (Below.refl _ X) 2 rfl
      have c3 := cd_cells at1 (Below.refl _ X) 3 rfl
      have c4 := cd_cells at1 (Below.refl _ X) 4 rfl
      have c5 := cd_cells at1 (Below.refl _ X) 5 rfl
      have c6 := cd_cells at1 (Below.refl _ X) 6 rfl
      have c7 := cd_cells at1 (Below.refl _ X) 7 rfl
      have c8 := cd_cells at1 (Below.refl _ X) 8 rfl
      have c9 := cd_cells at1 (Below.refl _ X) 9 rfl
      have c10 := cd_cells at1 (Below.refl _ X) 10 rfl
      simp only [List.getElem_toArray, List.getElem_cons_zero, List.getElem_cons_succ] at c0 c1 c2 c3 c4 c5 c6 c7 c8 c9 c10
      clear at1 PR
      go_wp2_with fail
      refine PX.out.mono ?_
      rintro e Y ⟨rfl, bY⟩
      have BY := hide (onward BX.out bY)
      have GY := hide (dk_below GX.out bY)
      have RY := hide (dk_below RX.out bY)
      clear PX bY BX GX RX TX c0 c1 c2 c3 c4 c5 c6 c7 c8 c9 c10
      clear X
      clear GY
      obtain ⟨⟨u0, k0⟩, ⟨u1, k1⟩, f0, f1⟩ := dk_opq RY.out
      go_wp2
      clear k0 k1 f0 f1
      have HB := dk_put RY.out (.slice none 0 0) (.slice none 0 0)
      obtain ⟨z0, z1, -, -⟩ := dk_cell HB
      refine bodyPost_ret (v := .tuple #[dk0, .int .i64 ce]) (by simp [results, Tryz.results5, go_sem, z0, z1]) rfl ⟨⟨_, rfl, dv_none _ _⟩, (BY.out.setCell (by simp <;> omega) _).setCell (by simp <;> omega) _⟩
  · rw [if_pos he]
    generalize checkD d = ce at *
    clear h h' hl hl' hn hn' E hf
    obtain ⟨kind, ac, mkt, nn, oi, oa, sd, pr, qt, how, red⟩ := cm
    go_enter Tryz.func5, Tryz.ntmps5
    go_wp2_with (rw [← HW.out])
    refine CH.out.mono ?_
    rintro e X ⟨rfl, bX⟩
    have BX := hide (onward BW.out bX)
    have GX := hide (dk_below GW.out bX)
    have RX := hide (dk_below RW.out bX)
    have TX := hide (cdAt_below TW.out bX)
    clear CH bX c0 c1 HW BW GW RW TW
    clear W
    clear GX TX
    obtain ⟨⟨u0, k0⟩, ⟨u1, k1⟩, f0, f1⟩ := dk_opq RX.out
    go_wp2
    clear k0 k1 f0 f1
    have HB := dk_put RX.out (.slice none 0 0) (.slice none 0 0)
    obtain ⟨z0, z1, -, -⟩ := dk_cell HB
    refine bodyPost_ret (v := .tuple #[dk0, .int .i64 ce]) (by simp [results, Tryz.results5, go_sem, z0, z1]) rfl ⟨⟨_, rfl, dv_none _ _⟩, (BX.out.setCell (by simp <;> omega) _).setCell (by simp <;> omega) _⟩
end Go.Proofs.YthdjfhnhjiageaaGreatDoor.Tx
namespace Go.Proofs.YthdjfhnhjiageaaGreatDoor.Tx
open Go.RowKit Go.Lib Go.Sort Go.Proofs.YthdjfhnhjiageaaGreatDoor.Mix
theorem own_low {w : World} {B B' : Nat} {e : TypeId} {s : Nat} {v : Value} {n : Nat} {xs : List Value} (h : w.ownsRow B e s v n xs) (hB : B' ≤ B) : w.ownsRow B' e s v n xs := by
  refine ⟨h.1, ?_⟩
  rcases h.2 with h | ⟨g, cap, cur, e1, e2, e3⟩
  · exact .inl h
  · exact .inr ⟨g, cap, cur, e1, Nat.le_trans hB e2, e3⟩
/-- a disk is answered, commands, and an error. -/
abbrev RPost (d : Dk) (L : List Cd) (r : Int) (w : World) (e : Ending) (w' : World) : Prop := (∃ v lv, e = .returned (.tuple #[v, lv, .int .i64 r]) ∧ Dv w.heap.size w' v d ∧ OwnC w.heap.size w' lv L) ∧ Below w.heap.size w w'
set_option maxHeartbeats 4000000 in
set_option maxRecDepth 100000 in
theorem recover_any (p : Option Addr) (n c : Nat) (p' : Option Addr) (n' c' : Nat) (d : Dk) (w : World) (h : Bt w p n c d.safe) (h' : Bt w p' n' c' d.wait) (hn : n ≤ 140737488351232) (hn' : n' ≤ 140737488351232) (E : Env w) :
    Calls Tryz.prog 8 #[dkV p n c p' n' c'] w (RPost (recD d).1 (recD d).2.1 (recD d).2.2 w) := by
  have hl := h.len
  have hl' := h'.len
  obtain ⟨W, hW⟩ : ∃ W, W = (w.alloc (dkO (.slice p n c) (.slice p' n' c'))).alloc (dkO (.slice none 0 0) (.slice none 0 0)) := ⟨_, rfl⟩
  have bW : Below w.heap.size w W := by rw [hW]; exact ((Below.refl _ w).alloc (Nat.le_refl _) _).alloc (by simp) _
  have gW : W.heap[w.heap.size]? = some (dkO (.slice p n c) (.slice p' n' c')) := by rw [hW]; exact dk_below (heap_alloc_new w _) (below_alloc _ _)
  have rW : W.heap[w.heap.size + 1]? = some (dkO (.slice none 0 0) (.slice none 0 0)) := by
    rw [hW]
    have := heap_alloc_new (w.alloc (dkO (.slice p n c) (.slice p' n' c'))) (dkO (.slice none 0 0) (.slice none 0 0))
    simp only [World.size_alloc] at this
    exact this
  have sW : W.heap.size = w.heap.size + 2 := by rw [hW]; simp
  obtain ⟨c0, c1, -, -⟩ := dk_cell gW
  have HW := hide hW
  have BW := hide bW
  have GW := hide gW
  have RW := hide rW
  have SW := hide sW
  have CH := hide (checkD_any p n c p' n' c' d W (h.below bW) (h'.below bW) hn hn' (E.below bW))
  clear hW bW gW rW sW
  unfold recD
  by_cases he : checkD d = 0
  · rw [if_neg (fun x => x he)]
    have hs := (check_zero he).1
    rw [he] at CH
    have JH : Hid (∀ X, Below w.heap.size w X → _) := fun X (bX : Below w.heap.size w X) => joined_any p n c p' n' c' d.safe d.wait X (h.below bX) (h'.below bX) (by omega)
    have RE : Hid (∀ X q m, Below w.heap.size w X → Bt X q (n + n') m (d.safe ++ d.wait) → _) := fun X q m bX hb => read_any q (n + n') m (d.safe ++ d.wait) X hb (by omega) (E.below bX)
    have rn := (read_num (d.safe ++ d.wait).length 0 (d.safe ++ d.wait) (by omega)).2
    have rn2 : (readL (d.safe ++ d.wait)).2.1 ≤ n + n' := by rw [List.length_append, hl, hl'] at rn; unfold readL; rw [List.length_append, hl, hl']; exact rn
    have hz : n + n' ≤ 20000 := by omega
    generalize n + n' = nn at *
    generalize d.safe ++ d.wait = al at *
    unfold ReadPost at RE
    generalize (readL al).1 = L at *
    generalize (readL al).2.1 = k at *
    generalize (readL al).2.2 = re at *
    clear h h' hl hl' hn hn' E he hs rn
    go_enter Tryz.func8, Tryz.ntmps8
    go_wp2_with (rw [← HW.out])
    refine CH.out.mono ?_
    rintro e X ⟨rfl, bX⟩
    have BX := hide (onward BW.out bX)
    have GX := hide (dk_below GW.out bX)
    have RX := hide (dk_below RW.out bX)
    have SX : Hid (w.heap.size + 2 ≤ X.heap.size) := by have := bX.size; rw [SW.out] at this; exact this
    clear CH bX c0 c1 HW BW GW RW SW
    obtain ⟨x0, x1, -, -⟩ := dk_cell GX.out
    have JX := hide (JH.out X BX.out)
    clear JH
    go_wp2_with fail
    refine JX.out.mono ?_
    rintro e Y ⟨⟨q, m, rfl, hq, hnw⟩, bY⟩
    have BY := hide (onward BX.out bY)
    have RY := hide (dk_below RX.out bY)
    have SY : Hid (w.heap.size + 2 ≤ Y.heap.size) := Nat.le_trans SX.out bY.size
    have RD := hide (RE.out Y q m BY.out hq)
    have HQ := hide hq
    have hqc := hq.cap
    clear JX bY x0 x1 GX RX hnw BX SX RE hq
    go_wp2_with fail
    refine RD.out.mono ?_
    rintro e Z ⟨⟨lv, rfl, ho⟩, bZ⟩
    obtain ⟨pl, cl, rfl⟩ := ownC_slice ho
    have OZ := hide (own_low ho SY.out)
    have BZ := hide (onward BY.out bZ)
    have RZ := hide (dk_below RY.out bZ)
    have SZ : Hid (w.heap.size + 2 ≤ Z.heap.size) := Nat.le_trans SY.out bZ.size
    have CLZ := hide (cloneB_any q k m (al.take k) Z ((HQ.out.below bZ).take rn2) (by omega))
    clear RD bZ BY RY SY HQ ho
    go_wp2_with fail
    refine CLZ.out.mono ?_
    rintro e V ⟨⟨q2, m2, rfl, hq2, hn2⟩, bV⟩
    have OV := hide (own_on OZ.out bV (Nat.le_refl _))
    have BV := hide (onward BZ.out bV)
    have RV := hide (dk_below RZ.out bV)
    have HV := hide hq2
    have HNW := hide (hn2.mono SZ.out)
    clear CLZ bV hq2 hn2 OZ BZ RZ SZ
    obtain ⟨⟨u0, k0⟩, ⟨u1, k1⟩, f0, f1⟩ := dk_opq RV.out
    go_wp2
    clear k0 k1 f0 f1
    have HB := dk_put RV.out (.slice q2 k m2) (.slice none 0 0)
    obtain ⟨z0, z1, -, -⟩ := dk_cell HB
    refine bodyPost_ret (v := .tuple #[.agg #[.slice q2 k m2, .slice none 0 0], .slice pl L.length cl, .int .i64 0]) (by simp [results, Tryz.results8, go_sem, z0, z1]) rfl ⟨⟨_, _, rfl, ⟨_, _, _, _, _, _, rfl, (HV.out.set HNW.out _ _).set HNW.out _ _, bt_none _, HNW.out.mono (by omega), nw_none _⟩, own_low (ownsRow_setCell_below (ownsRow_setCell_below OV.out (by simp) _) (by simp) _) (by omega)⟩, (BV.out.setCell (by simp) _).setCell (by simp) _⟩
  · rw [if_pos he]
    generalize checkD d = ce at *
    clear h h' hl hl' hn hn' E
    go_enter Tryz.func8, Tryz.ntmps8
    go_wp2_with (rw [← HW.out])
    refine CH.out.mono ?_
    rintro e X ⟨rfl, bX⟩
    have BX := hide (onward BW.out bX)
    have GX := hide (dk_below GW.out bX)
    have RX := hide (dk_below RW.out bX)
    have SX : Hid (w.heap.size + 2 ≤ X.heap.size) := by have := bX.size; rw [SW.out] at this; exact this
    clear CH bX c0 c1 HW BW GW RW SW
    clear GX
    obtain ⟨⟨u0, k0⟩, ⟨u1, k1⟩, f0, f1⟩ := dk_opq RX.out
    go_wp2
    clear k0 k1 f0 f1
    have HB := dk_put RX.out (.slice none 0 0) (.slice none 0 0)
    obtain ⟨z0, z1, -, -⟩ := dk_cell HB
    refine bodyPost_ret (v := .tuple #[dk0, .slice none 0 0, .int .i64 ce]) (by simp [results, Tryz.results8, go_sem, z0, z1]) rfl ⟨⟨_, _, rfl, dv_none _ _, World.ownsRow_nil _ _ _ _⟩, (BX.out.setCell (by simp) _).setCell (by simp) _⟩
set_option maxHeartbeats 2000000 in
set_option maxRecDepth 100000 in
theorem sameDisk_any (p : Option Addr) (n c : Nat) (p' : Option Addr) (n' c' : Nat) (q : Option Addr) (m : Nat) (q' : Option Addr) (m' : Nat) (d : Dk) (w : World) (h : Bt w p n c d.safe) (h' : Bt w p' n' c' d.wait) (g : Bt w q n m d.safe) (g' : Bt w q' n' m' d.wait) (hz : n ≤ 100000) (hz' : n' ≤ 100000) :
    Calls Tryz.prog 12 #[dkV p n c p' n' c', dkV q n m q' n' m'] w fun e w' => e = .returned (.bool true) ∧ Below w.heap.size w w' := by
  obtain ⟨W, hW⟩ : ∃ W, W = (w.alloc (dkO (.slice p n c) (.slice p' n' c'))).alloc (dkO (.slice q n m) (.slice q' n' m')) := ⟨_, rfl⟩
  have bW : Below w.heap.size w W := by rw [hW]; exact ((Below.refl _ w).alloc (Nat.le_refl _) _).alloc (by simp) _
  have gW : W.heap[w.heap.size]? = some (dkO (.slice p n c) (.slice p' n' c')) := by rw [hW]; exact dk_below (heap_alloc_new w _) (below_alloc _ _)
  have rW : W.heap[w.heap.size + 1]? = some (dkO (.slice q n m) (.slice q' n' m')) := by
    rw [hW]
    have := heap_alloc_new (w.alloc (dkO (.slice p n c) (.slice p' n' c'))) (dkO (.slice q n m) (.slice q' n' m'))
    simp only [World.size_alloc] at this
    exact this
  obtain ⟨c0, c1, -, -⟩ := dk_cell gW
  obtain ⟨d0, d1, -, -⟩ := dk_cell rW
  have HW := hide hW
  have BW := hide bW
  have GW := hide gW
  have RW := hide rW
  have E1 := hide (equalB_same p n c q m d.safe W (h.below bW) (g.below bW) hz)
  have E2 : Hid (∀ X, Below w.heap.size w X → _) := fun X bX => equalB_same p' n' c' q' m' d.wait X (h'.below bX) (g'.below bX) hz'
  clear hW bW gW rW h h' g g' hz hz'
  go_enter Tryz.func12, Tryz.ntmps12
  go_wp2_with (rw [← HW.out])
  refine E1.out.mono ?_
  rintro e X ⟨rfl, bX⟩
  have BX := hide (onward BW.out bX)
  obtain ⟨x0, x1, -, -⟩ := dk_cell (dk_below GW.out bX)
  obtain ⟨y0, y1, -, -⟩ := dk_cell (dk_below RW.out bX)
  have EX := hide (E2.out X BX.out)
  clear E1 E2 bX BW GW RW c0 c1 d0 d1 HW
  go_wp2_with fail
  refine EX.out.mono ?_
  rintro e Y ⟨rfl, bY⟩
  have BY := hide (onward BX.out bY)
  clear EX bY BX x0 x1 y0 y1
  go_wp2
  go_ret
  exact ⟨rfl, BY.out⟩
end Go.Proofs.YthdjfhnhjiageaaGreatDoor.Tx
