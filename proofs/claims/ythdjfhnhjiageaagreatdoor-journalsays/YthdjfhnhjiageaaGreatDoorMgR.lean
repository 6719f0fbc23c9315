/-
  The reference's chapter 9: what is recovered.
-/
import Derived.Test.YthdjfhnhjiageaaGreatDoorMgL
import Derived.Test.YthdjfhnhjiageaaGreatDoorMgC
import Derived.Test.YthdjfhnhjiageaaGreatDoorMgX
import Derived.Laws.AppendOwnNone
namespace Go.Proofs.YthdjfhnhjiageaaGreatDoor.Tx
open Go.RowKit Go.Lib Go.Sort Go.Proofs.YthdjfhnhjiageaaGreatDoor.Mix
theorem bt_cells {w : World} {ad : Addr} {m c : Nat} {bs : Bs} (hb : Bt w (some ad) m c bs) : ∀ jj u, (fB bs)[jj]? = some u → w.cell? (ad.add jj) = some u := by
  intro jj u hu
  have hjj : jj < bs.length := by have := (List.getElem?_eq_some_iff.1 hu).1; rw [fB_len] at this; omega
  obtain ⟨b, off, he, hc⟩ := hb.row (by have := hb.len; omega)
  cases he
  rw [Addr.add_lit, hc jj (by have := hb.len; omega)]
  unfold fB at hu
  rw [List.getElem?_map, nums, List.getElem?_map, List.getElem?_eq_getElem hjj] at hu
  rw [List.getD_eq_getElem?_getD, List.getElem?_eq_getElem hjj]
  exact hu
/-- bytes that can be read, behind a row of one's own. -/
theorem wpList_appB {w : World} {ops : Array Oper} {rest : List Oper} {o : Oper} {a : Act} {Q : Exit → Act → World → Prop} (hgd : o.guard = none) (s x : Operand) (ho : o.op = .call { callee := .builtin .append, args := #[s, x], argTypes := #[22, 22] })
    (base : Nat) (v : Value) (n : Nat) (xs : List Value) (hs : a.eval s = v) (hown : w.ownsRow base 5 1 v n xs) (p : Option Addr) (m c : Nat) (bs : Bs) (hx : a.eval x = .slice p m c) (hb : Bt w p m c bs) (hz : n + m ≤ 100000) (hbase : base ≤ w.heap.size)
    (h : ∀ v' w', w'.ownsRow base 5 1 v' (n + m) (xs ++ fB bs) → w.grownBy w' v.ownBlock → wpList Tryz.prog ops Q rest (a.put o.dst v') w') : wpList Tryz.prog ops Q (o :: rest) a w := by
  obtain ⟨i0, hi, hz0, hz1, hz2⟩ := info_parts (show (Tryz.prog.info? 5).map (fun i => (i.zero, i.size, i.bytes)) = some (some (.int .u8 0), 1, 1) by kernel_rfl)
  cases p with
  | none =>
    have hc := hb.nil rfl
    have hm : m = 0 := by have := hb.cap; omega
    subst hm hc
    obtain rfl : bs = [] := List.length_eq_zero_iff.1 hb.len
    exact wpList_append_own_none hgd s x 22 ho base 5 i0 1 Tryz.underlying22 hi v n xs hs hown hx (h v w (by simpa [fB, nums] using hown) ⟨rfl, rfl, rfl, Nat.le_refl _, fun _ _ _ => rfl⟩)
  | some ad =>
    exact wpList_append_own _ hgd s x 22 ho base 5 i0 (.int .u8 0) 1 1 Tryz.underlying22 hi hz0 hz1 hz2 rfl (by decide) v n xs hs hown ad m c (fB bs) hx (by rw [fB_len, hb.len]) (bt_cells hb) (fB_one bs) (by unfold maxLen; omega) (by omega) hbase (fun v' w' h1 h2 _ => h v' w' h1 h2)
/-- commands of one's own, behind commands of one's own. -/
theorem wpList_appC {w : World} {ops : Array Oper} {rest : List Oper} {o : Oper} {a : Act} {Q : Exit → Act → World → Prop} (hgd : o.guard = none) (s x : Operand) (ho : o.op = .call { callee := .builtin .append, args := #[s, x], argTypes := #[34, 34] })
    (base : Nat) (v : Value) (L : List Cd) (hs : a.eval s = v) (hown : OwnC base w v L) (v2 : Value) (B2 : Nat) (M : List Cd) (hx : a.eval x = v2) (hb : OwnC B2 w v2 M) (hz : L.length + M.length ≤ 1000) (hbase : base ≤ w.heap.size)
    (h : ∀ v' w', OwnC base w' v' (L ++ M) → w.grownBy w' v.ownBlock → wpList Tryz.prog ops Q rest (a.put o.dst v') w') : wpList Tryz.prog ops Q (o :: rest) a w := by
  obtain ⟨i0, hi, hz0, hz1, hz2⟩ := info_parts (show (Tryz.prog.info? 28).map (fun i => (i.zero, i.size, i.bytes)) = some (some (cdV noCd), 11, 88) by kernel_rfl)
  have cells1 : ∀ u ∈ M.flatMap encD, u.oneCell' = true := fun u hu => by
    obtain ⟨y, -, hy⟩ := List.mem_flatMap.1 hu
    exact encD_cell y u hy
  have hl := hb.1
  rcases hb.2 with ⟨e, e0⟩ | ⟨g, cap, cur, e, hg, hc, h1, h2, h3, h4⟩
  · obtain rfl : M = [] := List.length_eq_zero_iff.1 e0
    exact wpList_append_own_none hgd s x 34 ho base 28 i0 11 Tryz.underlying34 hi v _ _ hs hown (hx.trans e) (h v w (by rw [List.append_nil]; exact hown) ⟨rfl, rfl, rfl, Nat.le_refl _, fun _ _ _ => rfl⟩)
  · refine wpList_append_own _ hgd s x 34 ho base 28 i0 (cdV noCd) 11 88 Tryz.underlying34 hi hz0 hz1 hz2 rfl (by decide) v _ _ hs hown ⟨g, 0, none⟩ M.length cap (M.flatMap encD) (hx.trans e) hl ?_ cells1 (by unfold maxLen; omega) (by omega) hbase (fun v' w' k1 k2 _ => h v' w' ?_ k2)
    · intro j u hj
      rw [← h4] at hj
      have hlt := (List.getElem?_eq_some_iff.1 hj).1
      rw [List.getElem?_take_of_lt (by rw [List.length_take] at hlt; omega)] at hj
      rw [Addr.add_lit]
      simp only [World.cell?, hc, Nat.zero_add]
      simpa using hj
    · show w'.ownsRow _ _ _ _ _ _
      rw [List.length_append, List.flatMap_append]
      exact k1
theorem rec_is {d : Dk} (he : checkD d = 0) : (readF d.safe.length 0 d.safe).1.length ≤ 60 ∧ (recD d).1 = ⟨d.safe ++ d.wait.take (readF d.wait.length (readF d.safe.length 0 d.safe).1.length d.wait).2.1, []⟩ ∧
    (recD d).2.1 = (readF d.safe.length 0 d.safe).1 ++ (readF d.wait.length (readF d.safe.length 0 d.safe).1.length d.wait).1 := by
  have hs := (check_zero he).2
  obtain ⟨h1, h2⟩ := readL_app (B := d.wait) hs
  have h3 := (read_num d.safe.length 0 d.safe (by omega)).1
  have e : ∀ x, readF (d.safe ++ d.wait).length x d.wait = readF d.wait.length x d.wait := fun x => read_fuel _ _ x d.wait (by rw [List.length_append]; omega) (Nat.le_refl _)
  refine ⟨by omega, ?_, ?_⟩
  · unfold recD
    rw [if_neg (fun x => x he), h2, e]
    show Dk.mk _ _ = _
    rw [List.take_length_add_append]
    rfl
  · unfold recD
    rw [if_neg (fun x => x he), h2, e]
    rfl
end Go.Proofs.YthdjfhnhjiageaaGreatDoor.Tx
namespace Go.Proofs.YthdjfhnhjiageaaGreatDoor.Tx
open Go.RowKit Go.Lib Go.Sort Go.Proofs.YthdjfhnhjiageaaGreatDoor.Mix
structure Behind (w Z : World) (pl : Option Addr) (cl : Nat) (pm : Option Addr) (cm : Nat) (L M : List Cd) : Prop where
  own : OwnC (w.heap.size + 2) Z (.slice pl L.length cl) L
  more : OwnC (w.heap.size + 2) Z (.slice pm M.length cm) M
  below : Below w.heap.size w Z
  res : Z.heap[w.heap.size + 1]? = some (dkO (.slice none 0 0) (.slice none 0 0))
  box : ∃ u v, Z.heap[w.heap.size]? = some (dkO u v)
theorem own_lt {B : Nat} {w : World} {e : TypeId} {s n : Nat} {v : Value} {xs : List Value} (h : w.ownsRow B e s v n xs) : ∀ q, v.ownBlock = some q → B ≤ q ∧ q < w.heap.size := by
  intro q hq
  rcases h.2 with ⟨e, -⟩ | ⟨g, cap, cur, e, hb, hg, -⟩
  · rw [e] at hq; cases hq
  · rw [e] at hq; cases hq; exact ⟨hb, (Array.getElem?_eq_some_iff.1 hg).1⟩
theorem own_but {B : Nat} {w w' : World} {e : TypeId} {s n : Nat} {v : Value} {xs : List Value} {row : Option Nat} (h : w.ownsRow B e s v n xs) (hg : w.grownBy w' row) (hr : ∀ q, row = some q → q < B) : w'.ownsRow B e s v n xs := by
  refine ⟨h.1, ?_⟩
  rcases h.2 with h | ⟨g, cap, cur, e1, e2, e3, e4⟩
  · exact .inl h
  · exact .inr ⟨g, cap, cur, e1, e2, (hg.block g (Array.getElem?_eq_some_iff.1 e3).1 (fun e => by have := hr g e.symm; omega)).trans e3, e4⟩
abbrev RecPost (d : Dk) (L : List Cd) (w : World) (e : Ending) (w' : World) : Prop := (∃ v lv, e = .returned (.tuple #[v, lv]) ∧ Dv w.heap.size w' v d ∧ OwnC w.heap.size w' lv L) ∧ Below w.heap.size w w'
set_option maxHeartbeats 4000000 in
set_option maxRecDepth 100000 in
theorem recovered_any (p : Option Addr) (n c : Nat) (p' : Option Addr) (n' c' : Nat) (d : Dk) (w : World) (h : Bt w p n c d.safe) (h' : Bt w p' n' c' d.wait) (he : checkD d = 0) (E : EnvS w) :
    Calls Tryz.prog 17 #[dkV p n c p' n' c'] w (RecPost (recD d).1 (recD d).2.1 w) := by
  have mixed : Tryz.prog.follows .mixedOrders = true := by kernel_rfl
  have hl := h.len
  have hl' := h'.len
  have hs := (check_zero he).1
  obtain ⟨W, hW⟩ : ∃ W, W = (w.alloc (dkO (.slice p n c) (.slice p' n' c'))).alloc (dkO (.slice none 0 0) (.slice none 0 0)) := ⟨_, rfl⟩
  have bW : Below w.heap.size w W := by rw [hW]; exact ((Below.refl _ w).alloc (Nat.le_refl _) _).alloc (by simp) _
  have gW : W.heap[w.heap.size]? = some (dkO (.slice p n c) (.slice p' n' c')) := by rw [hW]; exact dk_below (heap_alloc_new w _) (below_alloc _ _)
  have rW : W.heap[w.heap.size + 1]? = some (dkO (.slice none 0 0) (.slice none 0 0)) := by
    rw [hW]
    have := heap_alloc_new (w.alloc (dkO (.slice p n c) (.slice p' n' c'))) (dkO (.slice none 0 0) (.slice none 0 0))
    simp only [World.size_alloc] at this
    exact this
  have sW : W.heap.size = w.heap.size + 2 := by rw [hW]; simp
  obtain ⟨c0, c1, -, -⟩ := dk_cell gW
  obtain ⟨r1, r2, r3⟩ := rec_is he
  rw [r2, r3]
  have LN := hide (lines_any p n c d.safe 0 60 (by show (60 : Int) = 60 - ((0 : Nat) : Int); rfl) (by omega) W (h.below bW) (by omega) (E.below bW))
  have k2n := (read_num d.wait.length (readF d.safe.length 0 d.safe).1.length d.wait r1).2
  have mn := (read_num d.wait.length (readF d.safe.length 0 d.safe).1.length d.wait r1).1
  rw [hl'] at k2n mn
  have LM : Hid (∀ y, Below w.heap.size w y → _) := fun y (hy : Below w.heap.size w y) => lines_any p' n' c' d.wait (readF d.safe.length 0 d.safe).1.length (60 - ((readF d.safe.length 0 d.safe).1.length : Int)) rfl r1 y (h'.below hy) (by omega) (E.below hy)
  unfold LinesPost at LN LM
  rw [hl] at LN r1 mn k2n LM ⊢
  rw [hl'] at LM ⊢
  generalize readF n 0 d.safe = R1 at *
  obtain ⟨L, x1, x2⟩ := R1
  dsimp only at *
  generalize readF n' L.length d.wait = R2 at *
  obtain ⟨M, k, x3⟩ := R2
  dsimp only at *
  have HB := hide h
  have HB' := hide h'
  have hcap := h'.cap
  have hz : n + n' ≤ 20000 := by omega
  have HW := hide hW
  have BW := hide bW
  have GW := hide gW
  have RW := hide rW
  have SW := hide sW
  clear hW bW gW rW sW r2 r3 h h' hl hl' hs he E
  go_enter Tryz.func17, Tryz.ntmps17
  go_wp2_with (rw [← HW.out])
  refine LN.out.mono ?_
  rintro e X ⟨⟨lv, rfl, ho⟩, bX⟩
  obtain ⟨pl, cl, rfl⟩ := ownC_slice ho
  have OX : Hid (OwnC (w.heap.size + 2) X (.slice pl L.length cl) L) := own_low ho (by rw [SW.out]; exact Nat.le_refl _)
  have BX := hide (onward BW.out bX)
  have GX := hide (dk_below GW.out bX)
  have RX := hide (dk_below RW.out bX)
  have SX : Hid (w.heap.size + 2 ≤ X.heap.size) := by have := bX.size; rw [SW.out] at this; exact this
  clear LN bX ho c0 c1 HW BW GW RW SW
  obtain ⟨c0, c1, -, -⟩ := dk_cell GX.out
  have LX := hide (LM.out X BX.out)
  clear LM
  go_wp2_with fail
  refine LX.out.mono ?_
  rintro e Z ⟨⟨lv, rfl, ho⟩, bZ⟩
  obtain ⟨pm, cm, rfl⟩ := ownC_slice ho
  have GZ := hide (dk_below GX.out bZ)
  have BH : Hid (Behind w Z pl cl pm cm L M) := ⟨own_on OX.out bZ (Nat.le_refl _), own_low ho SX.out, onward BX.out bZ, dk_below RX.out bZ, _, _, GZ.out⟩
  clear LX bZ ho c0 c1 OX BX GX RX SX
  obtain ⟨S, hS⟩ : ∃ S : World → Prop, S = fun x => x.heap[w.heap.size]? = some (dkO (.slice p n c) (.slice p' n' c')) := ⟨_, rfl⟩
  have KS : Hid (∀ x, x.heap[w.heap.size]? = some (dkO (.slice p n c) (.slice p' n' c')) → S x) := fun x hx => by rw [hS]; exact hx
  have KO : ∀ x, S x → x.heap[w.heap.size]? = some (dkO (.slice p n c) (.slice p' n' c')) := fun x hx => by rw [hS] at hx; exact hx
  have g0 : ∀ q : InC S, q.w.cell? ⟨w.heap.size, 0, none⟩ = some (.slice p n c) := fun q => (dk_cell (KO q.w q.h)).1
  have g1 : ∀ q : InC S, q.w.cell? ⟨w.heap.size, 1, none⟩ = some (.slice p' n' c') := fun q => (dk_cell (KO q.w q.h)).2.1
  have KO := hide KO
  clear hS
  go_wp2_with fail
  refine wp_region_mixS [(1, true), (2, true), (4, true), (5, true), (6, true), (7, true), (10, true), (11, true), (0, false), (3, false), (8, false), (9, true), (12, false), (13, false), (14, true)] S (Below Z.heap.size Z) mixed (by kernel_rfl) (KS.out _ GZ.out) ⟨rfl, rfl, rfl, Nat.le_refl _, fun _ _ => rfl⟩ ?_
  repeat (refine mixS_still (by rfl) ?_; go_big_quiet_step (exact rfl); refine wpQuiet_nil ?_)
  have KB : Hid (∀ x, Below Z.heap.size Z x → S x) := fun x hx => KS.out x (dk_below GZ.out hx)
  refine mixS_main (by rfl) ?_
  rintro ⟨y, hy⟩ hD
  dsimp only at hD ⊢
  have HD := hide hD
  have hb1 := hide (HD.out.alloc HD.out.size (.cells #[] 5))
  have ho1 : Hid ((y.alloc (.cells #[] 5)).ownsRow Z.heap.size 5 1 (.slice (some ⟨y.heap.size, 0, none⟩) 0 0) 0 []) := World.ownsRow_made y #[] 0 HD.out.size (Nat.zero_le _) rfl
  clear hD HD
  go_wp2
  generalize Value.slice (some ⟨y.heap.size, 0, none⟩) 0 0 = v1 at ho1 ⊢
  refine ⟨KB.out _ hb1.out, fun x => Hid (Below Z.heap.size Z x ∧ x.ownsRow Z.heap.size 5 1 v1 0 []), ⟨hb1.out, ho1.out⟩, ?_⟩
  clear hb1 ho1 hy
  clear y
  refine mixS_main (by rfl) ?_
  rintro ⟨y, hy⟩ hD
  dsimp only at hD ⊢
  have BT := hide (HB.out.below (onward BH.out.below hD.out.1))
  go_wp2_with (at_builtin; refine wpList_appB rfl _ _ rfl Z.heap.size v1 0 [] rfl hD.out.2 p n c d.safe rfl BT.out (by omega) hD.out.1.size ?_; intro v2 w1 hown1 hgrow1)
  have hb2 := hide (hD.out.1.grown hgrow1 hD.out.1.size (fun q hq => (own_lt hD.out.2 q hq).1))
  rw [Nat.zero_add, List.nil_append] at hown1
  refine ⟨KB.out _ hb2.out, fun x => Hid (Below Z.heap.size Z x ∧ x.ownsRow Z.heap.size 5 1 v2 n (fB d.safe)), ⟨hb2.out, hown1⟩, ?_⟩
  clear hb2 hown1 hgrow1 hD hy BT
  clear w1 y
  refine mixS_main (by rfl) ?_
  rintro ⟨y, hy⟩ hD
  dsimp only at hD ⊢
  have BT := hide ((HB'.out.below (onward BH.out.below hD.out.1)).take k2n)
  go_wp2_with (at_builtin; refine wpList_appB rfl _ _ rfl Z.heap.size v2 n (fB d.safe) rfl hD.out.2 p' k c' (d.wait.take k) rfl BT.out (by omega) hD.out.1.size ?_; intro v3 w1 hown1 hgrow1)
  have hb2 := hide (hD.out.1.grown hgrow1 hD.out.1.size (fun q hq => (own_lt hD.out.2 q hq).1))
  rw [← fB_app] at hown1
  obtain ⟨q3, m3, rfl, -, -⟩ := own_bt hown1
  refine ⟨KB.out _ hb2.out, fun x => Hid (Below Z.heap.size Z x ∧ x.ownsRow Z.heap.size 5 1 (.slice q3 (n + k) m3) (n + k) (fB (d.safe ++ d.wait.take k))), ⟨hb2.out, hown1⟩, ?_⟩
  clear hb2 hown1 hgrow1 hD hy BT
  clear w1 y
  generalize d.safe ++ d.wait.take k = bs at *
  refine mixS_still (by rfl) ?_; go_big_quiet_step (exact rfl); refine wpQuiet_nil ?_
  refine mixS_main (by rfl) ?_
  rintro ⟨y, hy⟩ hD
  dsimp only at hD ⊢
  have OY := hide (own_on BH.out.own hD.out.1 (Nat.le_refl _))
  have MY := hide (own_on BH.out.more hD.out.1 (Nat.le_refl _))
  have SZ : Hid (w.heap.size + 2 ≤ Z.heap.size) := (Array.getElem?_eq_some_iff.1 BH.out.res).1
  go_wp2_with (at_builtin; refine wpList_appC rfl _ _ rfl (w.heap.size + 2) (.slice pl L.length cl) L rfl OY.out (.slice pm M.length cm) (w.heap.size + 2) M rfl MY.out (by omega) (Nat.le_trans SZ.out hD.out.1.size) ?_; intro v4 w1 hown1 hgrow1)
  have hlow : ∀ q, (Value.slice pl L.length cl).ownBlock = some q → w.heap.size + 2 ≤ q ∧ q < Z.heap.size := own_lt BH.out.own
  have hbl : ∀ b, b < w.heap.size + 2 → w1.heap[b]? = Z.heap[b]? := fun b hb => (hgrow1.block b (Nat.lt_of_lt_of_le hb (Nat.le_trans SZ.out hD.out.1.size)) (fun e => by have := hlow b e.symm; omega)).trans (hD.out.1.block b (Nat.lt_of_lt_of_le hb SZ.out))
  refine ⟨KS.out _ ((hbl _ (by omega)).trans GZ.out), fun x => Hid (Below w.heap.size w x ∧ x.heap[w.heap.size + 1]? = some (dkO (.slice none 0 0) (.slice none 0 0)) ∧ x.ownsRow Z.heap.size 5 1 (.slice q3 (n + k) m3) (n + k) (fB bs) ∧ OwnC (w.heap.size + 2) x v4 (L ++ M)), ⟨?_, (hbl _ (by omega)).trans BH.out.res, own_but hD.out.2 hgrow1 (fun q hq => (hlow q hq).2), hown1⟩, ?_⟩
  · exact (onward BH.out.below hD.out.1).grown hgrow1 (by have := SZ.out; have := hD.out.1.size; omega) (fun q hq => by have := hlow q hq; omega)
  clear hown1 hgrow1 hD hy hlow hbl OY MY
  clear w1 y
  have HSZ := hide SZ.out
  clear SZ
  refine mixS_main (by rfl) ?_
  rintro ⟨y, hy⟩ hD
  dsimp only at hD ⊢
  obtain ⟨⟨u0, k0⟩, ⟨u1, k1⟩, f0, f1⟩ := dk_opq hD.out.2.1
  have HR := hide (dk_put hD.out.2.1 (.slice q3 (n + k) m3) (.slice none 0 0))
  have HBL := hide (((Below.refl (w.heap.size + 1) y).setCell (p := ⟨w.heap.size + 1, 0, none⟩) (Nat.le_refl _) (.slice q3 (n + k) m3)).setCell (p := ⟨w.heap.size + 1, 1, none⟩) (Nat.le_refl _) (.slice none 0 0))
  have HO3 := hide (ownsRow_setCell_below (a := ⟨w.heap.size + 1, 1, none⟩) (ownsRow_setCell_below (a := ⟨w.heap.size + 1, 0, none⟩) hD.out.2.2.1 (Nat.lt_of_lt_of_le (by simp) HSZ.out) (.slice q3 (n + k) m3)) (Nat.lt_of_lt_of_le (by simp) HSZ.out) (.slice none 0 0))
  have HO4 := hide (ownsRow_setCell_below (a := ⟨w.heap.size + 1, 1, none⟩) (ownsRow_setCell_below (a := ⟨w.heap.size + 1, 0, none⟩) hD.out.2.2.2 (by simp) (.slice q3 (n + k) m3)) (by simp) (.slice none 0 0))
  have HB1 := hide ((hD.out.1.setCell (p := ⟨w.heap.size + 1, 0, none⟩) (by simp) (.slice q3 (n + k) m3)).setCell (p := ⟨w.heap.size + 1, 1, none⟩) (by simp) (.slice none 0 0))
  have HS1 := hide (KS.out _ ((HBL.out.block w.heap.size (by omega)).trans (KO.out _ hy)))
  go_wp2
  refine ⟨HS1.out, fun x => Hid (Below w.heap.size w x ∧ x.heap[w.heap.size + 1]? = some (dkO (.slice q3 (n + k) m3) (.slice none 0 0)) ∧ x.ownsRow Z.heap.size 5 1 (.slice q3 (n + k) m3) (n + k) (fB bs) ∧ OwnC (w.heap.size + 2) x v4 (L ++ M)), ⟨HB1.out, HR.out, HO3.out, HO4.out⟩, ?_⟩
  clear HS1 HB1 HR HO3 HO4 HBL k0 k1 f0 f1 hD hy
  clear y
  refine mixS_still (by rfl) ?_; go_big_quiet_step (exact rfl); refine wpQuiet_nil ?_
  refine mixS_end ?_
  rintro ⟨z, hz2⟩ hD
  dsimp only at hD ⊢
  obtain ⟨b1, b2, b3, b4⟩ := hD.out
  obtain ⟨z0, z1, -, -⟩ := dk_cell b2
  obtain ⟨q4, m4, e4, bt, nw⟩ := own_bt b3
  cases e4
  go_wp2
  refine bodyPost_ret (v := .tuple #[.agg #[.slice q3 (n + k) m3, .slice none 0 0], v4]) (by simp [results, Tryz.results17, go_sem, z0, z1]) rfl ⟨⟨_, _, rfl, ⟨_, _, _, _, _, _, rfl, bt, bt_none _, nw.mono (by have := HSZ.out; omega), nw_none _⟩, own_low b4 (by omega)⟩, b1⟩
end Go.Proofs.YthdjfhnhjiageaaGreatDoor.Tx
