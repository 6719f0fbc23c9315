/-
  Package journal by contracts: Sync, Crash.
-/
import Derived.Test.YthdjfhnhjiageaaDoorJnW4
namespace Go.Proofs.YthdjfhnhjiageaaDoor.Tx
open Go.RowKit Go.Lib Go.Sort

/-- a disk is answered, and an error. -/
abbrev DPost (d : Dk) (r : Int) (w : World) (e : Ending) (w' : World) : Prop := (∃ v, e = .returned (.tuple #[v, .int .i64 r]) ∧ Dv w.heap.size w' v d) ∧ Below w.heap.size w w'
theorem dk_opq {W : World} {r : Nat} {a b : Value} (h : W.heap[r]? = some (dkO a b)) : (∃ u, W.cell? ⟨r, 0, none⟩ = some u) ∧ (∃ u, W.cell? ⟨r, 1, none⟩ = some u) ∧ W.frozen? ⟨r, 0, none⟩ = false ∧ W.frozen? ⟨r, 1, none⟩ = false := by
  obtain ⟨h0, h1, h2, h3⟩ := dk_cell h
  exact ⟨⟨_, h0⟩, ⟨_, h1⟩, h2, h3⟩
set_option maxHeartbeats 4000000 in
set_option maxRecDepth 100000 in
theorem sync_any (p : Option Addr) (n c : Nat) (p' : Option Addr) (n' c' : Nat) (d : Dk) (w : World) (h : Bt w p n c d.safe) (h' : Bt w p' n' c' d.wait) (hn : n ≤ 140737488351232) (hn' : n' ≤ 140737488351232) (E : Env w) :
    Calls Tryd.prog 14 #[dkV p n c p' n' c'] w (DPost (syncD d).1 (syncD d).2 w) := by
  have hl := h.len
  have hl' := h'.len
  obtain ⟨W, hW⟩ : ∃ W, W = (w.alloc (dkO (.slice p n c) (.slice p' n' c'))).alloc (dkO (.slice none 0 0) (.slice none 0 0)) := ⟨_, rfl⟩
  have bW : Below w.heap.size w W := by rw [hW]; exact ((Below.refl _ w).alloc (Nat.le_refl _) _).alloc (by simp) _
  have gW : W.heap[w.heap.size]? = some (dkO (.slice p n c) (.slice p' n' c')) := by rw [hW]; exact dk_below (heap_alloc_new w _) (below_alloc _ _)
  have rW : W.heap[w.heap.size + 1]? = some (dkO (.slice none 0 0) (.slice none 0 0)) := by
    rw [hW]
    have := heap_alloc_new (w.alloc (dkO (.slice p n c) (.slice p' n' c'))) (dkO (.slice none 0 0) (.slice none 0 0))
    simp only [World.size_alloc] at this
    exact this
  have sW : W.heap.size = w.heap.size + 2 := by rw [hW]; simp
  obtain ⟨c0, c1, -, -⟩ := dk_cell gW
  have HW := hide hW
  have BW := hide bW
  have GW := hide gW
  have RW := hide rW
  have SW := hide sW
  have CH := hide (checkD_any p n c p' n' c' d W (h.below bW) (h'.below bW) hn hn' (E.below bW))
  clear hW bW gW rW sW
  unfold syncD
  by_cases he : checkD d = 0
  · rw [if_neg (fun x => x he)]
    have hs := (check_zero he).1
    rw [he] at CH
    have JO := fun X (bX : Below w.heap.size w X) => joined_any p n c p' n' c' d.safe d.wait X (h.below bX) (h'.below bX) (by omega)
    have JH := hide JO
    have CK : Hid (∀ X q m, Below w.heap.size w X → Bt X q (n + n') m (d.safe ++ d.wait) → Calls Tryd.prog 34 #[dkV q (n + n') m none 0 0] X fun e w' => e = .returned (.int .i64 (checkD ⟨d.safe ++ d.wait, []⟩)) ∧ Below X.heap.size X w') := fun X q m bX hb => checkD_any q (n + n') m none 0 0 ⟨d.safe ++ d.wait, []⟩ X hb (bt_none X) (by omega) (by omega) (E.below bX)
    generalize checkD ⟨d.safe ++ d.wait, []⟩ = ce at *
    by_cases hce : ce = 0
    · rw [if_neg (fun x => x hce)]
      subst hce
      generalize n + n' = nn at *
      generalize d.safe ++ d.wait = al at *
      clear h h' hl hl' hn hn' E he hs JO
      go_enter Tryd.func14, Tryd.ntmps14
      go_wp2_with (rw [← HW.out])
      refine CH.out.mono ?_
      rintro e X ⟨rfl, bX⟩
      have BX := hide (onward BW.out bX)
      have GX := hide (dk_below GW.out bX)
      have RX := hide (dk_below RW.out bX)
      have SX : Hid (w.heap.size + 2 ≤ X.heap.size) := by have := bX.size; rw [SW.out] at this; exact this
      clear CH bX c0 c1 HW BW GW RW SW
      obtain ⟨x0, x1, -, -⟩ := dk_cell GX.out
      have JX := hide (JH.out X BX.out)
      clear JH
      go_wp2_with fail
      refine JX.out.mono ?_
      rintro e Y ⟨⟨q, m, rfl, hq, hnw⟩, bY⟩
      have BY := hide (onward BX.out bY)
      have RY := hide (dk_below RX.out bY)
      have SY : Hid (w.heap.size + 2 ≤ Y.heap.size) := Nat.le_trans SX.out bY.size
      have HNW := hide (hnw.mono SX.out)
      clear JX bY x0 x1 GX RX hnw BX
      obtain ⟨Z, hZ⟩ : ∃ Z, Z = Y.alloc (dkO (.slice q nn m) (.slice none 0 0)) := ⟨_, rfl⟩
      have bZ : Below Y.heap.size Y Z := by rw [hZ]; exact below_alloc Y _
      have gZ : Z.heap[Y.heap.size]? = some (dkO (.slice q nn m) (.slice none 0 0)) := by rw [hZ]; exact heap_alloc_new Y _
      have HZ := hide hZ
      have BZ := hide (onward BY.out bZ)
      have RZ := hide (dk_below RY.out bZ)
      have HQ := hide (hq.below bZ)
      have CZ := hide (CK.out Z q m BZ.out HQ.out)
      have GZ := hide gZ
      obtain ⟨y0, y1, -, -⟩ := dk_cell gZ
      clear hZ bZ gZ CK hq BY RY
      go_wp2_with (rw [← HZ.out])
      refine CZ.out.mono ?_
      rintro e V ⟨rfl, bV⟩
      have BV := hide (onward BZ.out bV)
      have RV := hide (dk_below RZ.out bV)
      have HV := hide (HQ.out.below bV)
      obtain ⟨v0, v1, -, -⟩ := dk_cell (dk_below GZ.out bV)
      clear CZ bV BZ RZ HQ GZ y0 y1 HZ
      obtain ⟨⟨u0, k0⟩, ⟨u1, k1⟩, f0, f1⟩ := dk_opq RV.out
      go_wp2
      clear k0 k1 f0 f1
      have HB := dk_put RV.out (.slice q nn m) (.slice none 0 0)
      obtain ⟨z0, z1, -, -⟩ := dk_cell HB
      refine bodyPost_ret (v := .tuple #[.agg #[(.slice q nn m), (.slice none 0 0)], .int .i64 0]) (by simp [results, Tryd.results14, go_sem, z0, z1]) rfl ⟨⟨_, rfl, ⟨_, _, _, _, _, _, rfl, ((HV.out.set HNW.out _ _).set HNW.out _ _), (bt_none _), (HNW.out.mono (by omega)), (nw_none _)⟩⟩, (BV.out.setCell (by simp) _).setCell (by simp) _⟩
    · rw [if_pos hce]
      generalize n + n' = nn at *
      generalize d.safe ++ d.wait = al at *
      clear h h' hl hl' hn hn' E he hs JO
      go_enter Tryd.func14, Tryd.ntmps14
      go_wp2_with (rw [← HW.out])
      refine CH.out.mono ?_
      rintro e X ⟨rfl, bX⟩
      have BX := hide (onward BW.out bX)
      have GX := hide (dk_below GW.out bX)
      have RX := hide (dk_below RW.out bX)
      have SX : Hid (w.heap.size + 2 ≤ X.heap.size) := by have := bX.size; rw [SW.out] at this; exact this
      clear CH bX c0 c1 HW BW GW RW SW
      obtain ⟨x0, x1, -, -⟩ := dk_cell GX.out
      have JX := hide (JH.out X BX.out)
      clear JH
      go_wp2_with fail
      refine JX.out.mono ?_
      rintro e Y ⟨⟨q, m, rfl, hq, hnw⟩, bY⟩
      have BY := hide (onward BX.out bY)
      have RY := hide (dk_below RX.out bY)
      have SY : Hid (w.heap.size + 2 ≤ Y.heap.size) := Nat.le_trans SX.out bY.size
      have HNW := hide (hnw.mono SX.out)
      clear JX bY x0 x1 GX RX hnw BX
      obtain ⟨Z, hZ⟩ : ∃ Z, Z = Y.alloc (dkO (.slice q nn m) (.slice none 0 0)) := ⟨_, rfl⟩
      have bZ : Below Y.heap.size Y Z := by rw [hZ]; exact below_alloc Y _
      have gZ : Z.heap[Y.heap.size]? = some (dkO (.slice q nn m) (.slice none 0 0)) := by rw [hZ]; exact heap_alloc_new Y _
      have HZ := hide hZ
      have BZ := hide (onward BY.out bZ)
      have RZ := hide (dk_below RY.out bZ)
      have HQ := hide (hq.below bZ)
      have CZ := hide (CK.out Z q m BZ.out HQ.out)
      have GZ := hide gZ
      obtain ⟨y0, y1, -, -⟩ := dk_cell gZ
      clear hZ bZ gZ CK hq BY RY
      go_wp2_with (rw [← HZ.out])
      refine CZ.out.mono ?_
      rintro e V ⟨rfl, bV⟩
      have BV := hide (onward BZ.out bV)
      have RV := hide (dk_below RZ.out bV)
      have HV := hide (HQ.out.below bV)
      obtain ⟨v0, v1, -, -⟩ := dk_cell (dk_below GZ.out bV)
      clear CZ bV BZ RZ HQ GZ y0 y1 HZ
      clear v0 v1
      obtain ⟨⟨u0, k0⟩, ⟨u1, k1⟩, f0, f1⟩ := dk_opq RV.out
      go_wp2
      clear k0 k1 f0 f1
      have HB := dk_put RV.out (.slice none 0 0) (.slice none 0 0)
      obtain ⟨z0, z1, -, -⟩ := dk_cell HB
      refine bodyPost_ret (v := .tuple #[dk0, .int .i64 ce]) (by simp [results, Tryd.results14, go_sem, z0, z1]) rfl ⟨⟨_, rfl, dv_none _ _⟩, (BV.out.setCell (by simp <;> omega) _).setCell (by simp <;> omega) _⟩
  · rw [if_pos he]
    generalize checkD d = ce at *
    clear h h' hl hl' hn hn' E
    go_enter Tryd.func14, Tryd.ntmps14
    go_wp2_with (rw [← HW.out])
    refine CH.out.mono ?_
    rintro e X ⟨rfl, bX⟩
    have BX := hide (onward BW.out bX)
    have GX := hide (dk_below GW.out bX)
    have RX := hide (dk_below RW.out bX)
    have SX : Hid (w.heap.size + 2 ≤ X.heap.size) := by have := bX.size; rw [SW.out] at this; exact this
    clear CH bX c0 c1 HW BW GW RW SW
    clear GX
    obtain ⟨⟨u0, k0⟩, ⟨u1, k1⟩, f0, f1⟩ := dk_opq RX.out
    go_wp2
    clear k0 k1 f0 f1
    have HB := dk_put RX.out (.slice none 0 0) (.slice none 0 0)
    obtain ⟨z0, z1, -, -⟩ := dk_cell HB
    refine bodyPost_ret (v := .tuple #[dk0, .int .i64 ce]) (by simp [results, Tryd.results14, go_sem, z0, z1]) rfl ⟨⟨_, rfl, dv_none _ _⟩, (BX.out.setCell (by simp <;> omega) _).setCell (by simp <;> omega) _⟩
end Go.Proofs.YthdjfhnhjiageaaDoor.Tx
