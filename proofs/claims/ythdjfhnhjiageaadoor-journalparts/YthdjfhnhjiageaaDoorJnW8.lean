/-
  Package journal by contracts: Recover; two disks compared.
-/
import Derived.Test.YthdjfhnhjiageaaDoorJnW7
import Derived.Below
namespace Go.Proofs.YthdjfhnhjiageaaDoor.Tx
open Go.RowKit Go.Lib Go.Sort Go.Proofs.YthdjfhnhjiageaaDoor.Mix
theorem own_low {w : World} {B B' : Nat} {e : TypeId} {s : Nat} {v : Value} {n : Nat} {xs : List Value} (h : w.ownsRow B e s v n xs) (hB : B' ≤ B) : w.ownsRow B' e s v n xs := by
  refine ⟨h.1, ?_⟩
  rcases h.2 with h | ⟨g, cap, cur, e1, e2, e3⟩
  · exact .inl h
  · exact .inr ⟨g, cap, cur, e1, Nat.le_trans hB e2, e3⟩
/-- a disk is answered, commands, and an error. -/
abbrev RPost (d : Dk) (L : List Cd) (r : Int) (w : World) (e : Ending) (w' : World) : Prop := (∃ v lv, e = .returned (.tuple #[v, lv, .int .i64 r]) ∧ Dv w.heap.size w' v d ∧ OwnC w.heap.size w' lv L) ∧ Below w.heap.size w w'
set_option maxHeartbeats 4000000 in
set_option maxRecDepth 100000 in
theorem recover_any (p : Option Addr) (n c : Nat) (p' : Option Addr) (n' c' : Nat) (d : Dk) (w : World) (h : Bt w p n c d.safe) (h' : Bt w p' n' c' d.wait) (hn : n ≤ 140737488351232) (hn' : n' ≤ 140737488351232) (E : Env w) :
    Calls Tryd.prog 17 #[dkV p n c p' n' c'] w (RPost (recD d).1 (recD d).2.1 (recD d).2.2 w) := by
  have hl := h.len
  have hl' := h'.len
  obtain ⟨W, hW⟩ : ∃ W, W = (w.alloc (dkO (.slice p n c) (.slice p' n' c'))).alloc (dkO (.slice none 0 0) (.slice none 0 0)) := ⟨_, rfl⟩
  have bW : Below w.heap.size w W := by rw [hW]; exact ((Below.refl _ w).alloc (Nat.le_refl _) _).alloc (by simp) _
  have gW : W.heap[w.heap.size]? = some (dkO (.slice p n c) (.slice p' n' c')) := by rw [hW]; exact dk_below (heap_alloc_new w _) (below_alloc _ _)
  have rW : W.heap[w.heap.size + 1]? = some (dkO (.slice none 0 0) (.slice none 0 0)) := by
    rw [hW]
    have := heap_alloc_new (w.alloc (dkO (.slice p n c) (.slice p' n' c'))) (dkO (.slice none 0 0) (.slice none 0 0))
    simp only [World.size_alloc] at this
    exact this
  have sW : W.heap.size = w.heap.size + 2 := by rw [hW]; simp
  obtain ⟨c0, c1, -, -⟩ := dk_cell gW
  have HW := hide hW
  have BW := hide bW
  have GW := hide gW
  have RW := hide rW
  have SW := hide sW
  have CH := hide (checkD_any p n c p' n' c' d W (h.below bW) (h'.below bW) hn hn' (E.below bW))
  clear hW bW gW rW sW
  unfold recD
  by_cases he : checkD d = 0
  · rw [if_neg (fun x => x he)]
    have hs := (check_zero he).1
    rw [he] at CH
    have JH : Hid (∀ X, Below w.heap.size w X → _) := fun X (bX : Below w.heap.size w X) => joined_any p n c p' n' c' d.safe d.wait X (h.below bX) (h'.below bX) (by omega)
    have RE : Hid (∀ X q m, Below w.heap.size w X → Bt X q (n + n') m (d.safe ++ d.wait) → _) := fun X q m bX hb => read_any q (n + n') m (d.safe ++ d.wait) X hb (by omega) (E.below bX)
    have rn := (read_num (d.safe ++ d.wait).length 0 (d.safe ++ d.wait) (by omega)).2
    have rn2 : (readL (d.safe ++ d.wait)).2.1 ≤ n + n' := by rw [List.length_append, hl, hl'] at rn; unfold readL; rw [List.length_append, hl, hl']; exact rn
    have hz : n + n' ≤ 20000 := by omega
    generalize n + n' = nn at *
    generalize d.safe ++ d.wait = al at *
    unfold ReadPost at RE
    generalize (readL al).1 = L at *
    generalize (readL al).2.1 = k at *
    generalize (readL al).2.2 = re at *
    clear h h' hl hl' hn hn' E he hs rn
    go_enter Tryd.func17, Tryd.ntmps17
    go_wp2_with (rw [← HW.out])
    refine CH.out.mono ?_
    rintro e X ⟨rfl, bX⟩
    have BX := hide (onward BW.out bX)
    have GX := hide (dk_below GW.out bX)
    have RX := hide (dk_below RW.out bX)
    have SX : Hid (w.heap.size + 2 ≤ X.heap.size) := by have := bX.size; rw [SW.out] at this; exact this
    clear CH bX c0 c1 HW BW GW RW SW
    obtain ⟨x0, x1, -, -⟩ := dk_cell GX.out
    have JX := hide (JH.out X BX.out)
    clear JH
    go_wp2_with fail
    refine JX.out.mono ?_
    rintro e Y ⟨⟨q, m, rfl, hq, hnw⟩, bY⟩
    have BY := hide (onward BX.out bY)
    have RY := hide (dk_below RX.out bY)
    have SY : Hid (w.heap.size + 2 ≤ Y.heap.size) := Nat.le_trans SX.out bY.size
    have RD := hide (RE.out Y q m BY.out hq)
    have HQ := hide hq
    have hqc := hq.cap
    clear JX bY x0 x1 GX RX hnw BX SX RE hq
    go_wp2_with fail
    refine RD.out.mono ?_
    rintro e Z ⟨⟨lv, rfl, ho⟩, bZ⟩
    obtain ⟨pl, cl, rfl⟩ := ownC_slice ho
    have OZ := hide (own_low ho SY.out)
    have BZ := hide (onward BY.out bZ)
    have RZ := hide (dk_below RY.out bZ)
    have SZ : Hid (w.heap.size + 2 ≤ Z.heap.size) := Nat.le_trans SY.out bZ.size
    have CLZ := hide (cloneB_any q k m (al.take k) Z ((HQ.out.below bZ).take rn2) (by omega))
    clear RD bZ BY RY SY HQ ho
    go_wp2_with fail
    refine CLZ.out.mono ?_
    rintro e V ⟨⟨q2, m2, rfl, hq2, hn2⟩, bV⟩
    have OV := hide (own_on OZ.out bV (Nat.le_refl _))
    have BV := hide (onward BZ.out bV)
    have RV := hide (dk_below RZ.out bV)
    have HV := hide hq2
    have HNW := hide (hn2.mono SZ.out)
    clear CLZ bV hq2 hn2 OZ BZ RZ SZ
    obtain ⟨⟨u0, k0⟩, ⟨u1, k1⟩, f0, f1⟩ := dk_opq RV.out
    go_wp2
    clear k0 k1 f0 f1
    have HB := dk_put RV.out (.slice q2 k m2) (.slice none 0 0)
    obtain ⟨z0, z1, -, -⟩ := dk_cell HB
    refine bodyPost_ret (v := .tuple #[.agg #[.slice q2 k m2, .slice none 0 0], .slice pl L.length cl, .int .i64 0]) (by simp [results, Tryd.results17, go_sem, z0, z1]) rfl ⟨⟨_, _, rfl, ⟨_, _, _, _, _, _, rfl, (HV.out.set HNW.out _ _).set HNW.out _ _, bt_none _, HNW.out.mono (by omega), nw_none _⟩, own_low (ownsRow_setCell_below (ownsRow_setCell_below OV.out (by simp) _) (by simp) _) (by omega)⟩, (BV.out.setCell (by simp) _).setCell (by simp) _⟩
  · rw [if_pos he]
    generalize checkD d = ce at *
    clear h h' hl hl' hn hn' E
    go_enter Tryd.func17, Tryd.ntmps17
    go_wp2_with (rw [← HW.out])
    refine CH.out.mono ?_
    rintro e X ⟨rfl, bX⟩
    have BX := hide (onward BW.out bX)
    have GX := hide (dk_below GW.out bX)
    have RX := hide (dk_below RW.out bX)
    have SX : Hid (w.heap.size + 2 ≤ X.heap.size) := by have := bX.size; rw [SW.out] at this; exact this
    clear CH bX c0 c1 HW BW GW RW SW
    clear GX
    obtain ⟨⟨u0, k0⟩, ⟨u1, k1⟩, f0, f1⟩ := dk_opq RX.out
    go_wp2
    clear k0 k1 f0 f1
    have HB := dk_put RX.out (.slice none 0 0) (.slice none 0 0)
    obtain ⟨z0, z1, -, -⟩ := dk_cell HB
    refine bodyPost_ret (v := .tuple #[dk0, .slice none 0 0, .int .i64 ce]) (by simp [results, Tryd.results17, go_sem, z0, z1]) rfl ⟨⟨_, _, rfl, dv_none _ _, World.ownsRow_nil _ _ _ _⟩, (BX.out.setCell (by simp) _).setCell (by simp) _⟩
set_option maxHeartbeats 2000000 in
set_option maxRecDepth 100000 in
theorem sameDisk_any (p : Option Addr) (n c : Nat) (p' : Option Addr) (n' c' : Nat) (q : Option Addr) (m : Nat) (q' : Option Addr) (m' : Nat) (d : Dk) (w : World) (h : Bt w p n c d.safe) (h' : Bt w p' n' c' d.wait) (g : Bt w q n m d.safe) (g' : Bt w q' n' m' d.wait) (hz : n ≤ 100000) (hz' : n' ≤ 100000) :
    Calls Tryd.prog 15 #[dkV p n c p' n' c', dkV q n m q' n' m'] w fun e w' => e = .returned (.bool true) ∧ Below w.heap.size w w' := by
  obtain ⟨W, hW⟩ : ∃ W, W = (w.alloc (dkO (.slice p n c) (.slice p' n' c'))).alloc (dkO (.slice q n m) (.slice q' n' m')) := ⟨_, rfl⟩
  have bW : Below w.heap.size w W := by rw [hW]; exact ((Below.refl _ w).alloc (Nat.le_refl _) _).alloc (by simp) _
  have gW : W.heap[w.heap.size]? = some (dkO (.slice p n c) (.slice p' n' c')) := by rw [hW]; exact dk_below (heap_alloc_new w _) (below_alloc _ _)
  have rW : W.heap[w.heap.size + 1]? = some (dkO (.slice q n m) (.slice q' n' m')) := by
    rw [hW]
    have := heap_alloc_new (w.alloc (dkO (.slice p n c) (.slice p' n' c'))) (dkO (.slice q n m) (.slice q' n' m'))
    simp only [World.size_alloc] at this
    exact this
  obtain ⟨c0, c1, -, -⟩ := dk_cell gW
  obtain ⟨d0, d1, -, -⟩ := dk_cell rW
  have HW := hide hW
  have BW := hide bW
  have GW := hide gW
  have RW := hide rW
  have E1 := hide (equalB_same p n c q m d.safe W (h.below bW) (g.below bW) hz)
  have E2 : Hid (∀ X, Below w.heap.size w X → _) := fun X bX => equalB_same p' n' c' q' m' d.wait X (h'.below bX) (g'.below bX) hz'
  clear hW bW gW rW h h' g g' hz hz'
  go_enter Tryd.func15, Tryd.ntmps15
  go_wp2_with (rw [← HW.out])
  refine E1.out.mono ?_
  rintro e X ⟨rfl, bX⟩
  have BX := hide (onward BW.out bX)
  obtain ⟨x0, x1, -, -⟩ := dk_cell (dk_below GW.out bX)
  obtain ⟨y0, y1, -, -⟩ := dk_cell (dk_below RW.out bX)
  have EX := hide (E2.out X BX.out)
  clear E1 E2 bX BW GW RW c0 c1 d0 d1 HW
  go_wp2_with fail
  refine EX.out.mono ?_
  rintro e Y ⟨rfl, bY⟩
  have BY := hide (onward BX.out bY)
  clear EX bY BX x0 x1 y0 y1
  go_wp2
  go_ret
  exact ⟨rfl, BY.out⟩
end Go.Proofs.YthdjfhnhjiageaaDoor.Tx
