/-
  BookSays, by a contract.
-/
import Derived.Test.YtbphljnncbiddaaBkSaysA
namespace Go.Proofs.Ytbphljnncbiddaa.Rk
open Go.RowKit Go.Sort Go.Maps Go.Proofs.Ytbphljnncbiddaa.Mix Go.Proofs.Ytbphljnncbiddaa.Bk

theorem ov_small {bids asks : List Odr} {o : Odr} {mr : Int} {RB RA : List Odr} (_hR : Right bids asks) (_hmr : mayRest bids asks o = mr) (hRB : restedB bids asks o = RB) (hRA : restedA bids asks o = RA) : RB.length ≤ 140737488351232 ∧ RA.length ≤ 140737488351232 := by
  rw [← hRB, ← hRA]
  unfold restedB restedA
  by_cases hm : mayRest bids asks o = 0
  · rw [if_pos hm, if_pos hm]
    have := (rest_right hm).few
    omega
  · rw [if_neg hm, if_neg hm]; simp
theorem rem_small {bids asks : List Odr} {id : Int} {MB MA : List Odr} (hR : Right bids asks) (hMB : remB bids asks id = MB) (hMA : remA bids asks id = MA) : MB.length ≤ 140737488351232 ∧ MA.length ≤ 140737488351232 := by
  have hf := hR.few
  have h1 := List.length_filter_le (fun x => !hasId id x) bids
  have h2 := List.length_filter_le (fun x => !hasId id x) asks
  rw [← hMB, ← hMA]
  unfold remB remA without
  split
  · omega
  · simp
theorem price_fact {w : World} {p : Option Addr} {c : Nat} {xs : List Odr} (h : OV w p c xs) : (xs.length = 0 ∧ firstPrice xs = 0) ∨ (0 < xs.length ∧ ∃ b off, p = some ⟨b, off, none⟩ ∧ w.cell? ⟨b, off + 3, none⟩ = some (.int .i64 (firstPrice xs))) := by
  cases xs with
  | nil => exact .inl ⟨rfl, rfl⟩
  | cons x l =>
    refine .inr ⟨by simp, ?_⟩
    rcases h.row with e | ⟨b, off, hp, hc⟩
    · cases e
    · have := (orow_cells (w := w) (b := b) (off := off) (xs := x :: l) hc (j := 0) (by simp)).2.2.2.1
      simp only [Nat.zero_mul, Nat.add_zero] at this
      exact ⟨b, off, hp, this⟩

theorem found_facts {bids asks : List Odr} {id fa fc fd fp fq fe : Int} {MB MA : List Odr} (hR : Right bids asks) (hfo : findO bids asks id = (fa, fc, fd, fp, fq)) (hfe : findE bids asks id = fe) (hMB : remB bids asks id = MB) (hMA : remA bids asks id = MA) :
    (findIn id bids asks).getD noOdr = (fa, fc, fd, fp, fq) ∧ ((fa = 0 ∧ fc = 0 ∧ fd = 0 ∧ fp = 0 ∧ fq = 0 ∧ fe = 5 ∧ MB = [] ∧ MA = []) ∨ (id = fa ∧ 1 ≤ fa ∧ fe = 0 ∧ without id bids = MB ∧ without id asks = MA)) := by
  have hb := bookErr_zero.2 hR
  have h1 : (findIn id bids asks).getD noOdr = (fa, fc, fd, fp, fq) := by rw [← hfo]; unfold findO; rw [if_pos hb]
  refine ⟨h1, ?_⟩
  unfold findE at hfe
  rw [if_pos hb] at hfe
  unfold remB at hMB
  unfold remA at hMA
  unfold findE at hMB hMA
  rw [if_pos hb] at hMB hMA
  cases hf : findIn id bids asks with
  | none =>
    rw [hf] at h1 hfe hMB hMA
    simp at h1 hfe hMB hMA
    obtain ⟨r1, r2, r3, r4, r5⟩ := h1
    exact .inl ⟨r1.symm, r2.symm, r3.symm, r4.symm, r5.symm, hfe.symm, hMB, hMA⟩
  | some o =>
    rw [hf] at h1 hfe hMB hMA
    simp at hfe hMB hMA
    have ho : o = (fa, fc, fd, fp, fq) := h1
    have hid : oid o = id := by simpa [hasId] using List.find?_some hf
    have hmem : o ∈ bids ++ asks := List.mem_of_find?_eq_some hf
    have hok : okOrder o = 0 := by
      rcases List.mem_append.1 hmem with h | h
      · exact hR.b.ok o h
      · exact hR.a.ok o h
    have h2 := okOrder_id hok
    have h3 : oid o = fa := by rw [ho]
    exact .inr ⟨by rw [← hid, h3], by omega, hfe.symm, hMB, hMA⟩

set_option maxHeartbeats 8000000 in
set_option maxRecDepth 100000 in
theorem says_any (p p' r r' : Option Addr) (c c' d d' : Nat) (bids asks bids2 asks2 : List Odr) (a ac sd pr q a2 ac2 sd2 pr2 q2 id : Int) (w : World) (h : OV w p c bids) (h' : OV w p' c' asks) (k : OV w r d bids2) (k' : OV w r' d' asks2)
    (n1 : bids.length ≤ 140737488351232) (n2 : asks.length ≤ 140737488351232) (n3 : bids2.length ≤ 140737488351232) (n4 : asks2.length ≤ 140737488351232) :
    Calls Try.prog 7 #[.agg #[.slice p bids.length c, .slice p' asks.length c'], .agg #[.int .i64 a, .int .i64 ac, .int .i64 sd, .int .i64 pr, .int .i64 q], .agg #[.int .i64 a2, .int .i64 ac2, .int .i64 sd2, .int .i64 pr2, .int .i64 q2], .int .i64 id, .agg #[.slice r bids2.length d, .slice r' asks2.length d']] w fun e w' => e = .returned (.bool true) ∧ Below w.heap.size w w' := by
  have mixed : Try.prog.follows .mixedOrders = true := by kernel_rfl
  have RE := hide (fun W (hW : Below w.heap.size w W) => rest_all p p' c c' bids asks a ac sd pr q W (h.below hW) (h'.below hW) n1 n2)
  have FI := hide (fun W (hW : Below w.heap.size w W) => find_any p p' c c' bids asks id W (h.below hW).row (h'.below hW).row n1 n2)
  have RM := hide (fun W (hW : Below w.heap.size w W) => remove_all p p' c c' bids asks id W (h.below hW) (h'.below hW) n1 n2)
  have BE := hide (fun W (hW : Below w.heap.size w W) => best_all p p' c c' bids asks W (h.below hW).row (h'.below hW).row n1 n2)
  have CB := hide (fun W (hW : Below w.heap.size w W) => refCheckBook_any p p' c c' bids asks W (h.below hW).row (h'.below hW).row n1 n2)
  have CK := hide (fun W (hW : Below w.heap.size w W) => check_any p p' c c' bids asks W (h.below hW).row (h'.below hW).row n1 n2)
  have SA := hide (fun W (hW : Below w.heap.size w W) => same_any p p' r r' c c' d d' bids asks bids2 asks2 W (h.below hW).row (h'.below hW).row (k.below hW).row (k'.below hW).row n1 n2 n3 n4)
  have SA' := hide (fun W (hW : Below w.heap.size w W) => refSame_any p p' r r' c c' d d' bids asks bids2 asks2 W (h.below hW).row (h'.below hW).row (k.below hW).row (k'.below hW).row n1 n2 n3 n4)
  have RD := hide (fun (hR : Right bids asks) W (hW : Below w.heap.size w W) => rested_any p p' c c' bids asks a ac sd pr q W (h.below hW) (h'.below hW) hR)
  have FD := hide (fun (hR : Right bids asks) W (hW : Below w.heap.size w W) => found_any p p' c c' bids asks id W (h.below hW) (h'.below hW) hR.few)
  have RV := hide (fun (hR : Right bids asks) W (hW : Below w.heap.size w W) => removed_any p p' c c' bids asks id W (h.below hW) (h'.below hW) hR)
  obtain ⟨nb, hnb⟩ : ∃ n, bids.length = n := ⟨_, rfl⟩
  obtain ⟨na, hna⟩ : ∃ n, asks.length = n := ⟨_, rfl⟩
  obtain ⟨mb, hmb⟩ : ∃ n, bids2.length = n := ⟨_, rfl⟩
  obtain ⟨ma, hma⟩ : ∃ n, asks2.length = n := ⟨_, rfl⟩
  rw [hnb, hna] at RE FI RM BE CB CK SA SA' RD FD RV
  rw [hmb, hma] at SA SA'
  rw [hnb, hna, hmb, hma]
  obtain ⟨fo, hfo⟩ : ∃ fo, findO bids asks id = fo := ⟨_, rfl⟩
  rw [hfo] at FI RM
  obtain ⟨fa, fc, fd, fp, fq⟩ := fo
  obtain ⟨fe, hfe⟩ : ∃ fe, findE bids asks id = fe := ⟨_, rfl⟩
  rw [hfe] at FI RM
  obtain ⟨mr, hmr⟩ : ∃ mr, mayRest bids asks (a, ac, sd, pr, q) = mr := ⟨_, rfl⟩
  rw [hmr] at RE RD
  obtain ⟨RB, hRB⟩ : ∃ l, restedB bids asks (a, ac, sd, pr, q) = l := ⟨_, rfl⟩
  obtain ⟨RA, hRA⟩ : ∃ l, restedA bids asks (a, ac, sd, pr, q) = l := ⟨_, rfl⟩
  rw [hRB, hRA] at RE RD
  obtain ⟨MB, hMB⟩ : ∃ l, remB bids asks id = l := ⟨_, rfl⟩
  obtain ⟨MA, hMA⟩ : ∃ l, remA bids asks id = l := ⟨_, rfl⟩
  rw [hMB, hMA] at RM
  obtain ⟨bb, hbb⟩ : ∃ x, bestB bids asks = x := ⟨_, rfl⟩
  obtain ⟨ba, hba⟩ : ∃ x, bestA bids asks = x := ⟨_, rfl⟩
  rw [hbb, hba] at BE
  obtain ⟨be, hbe⟩ : ∃ x, bookErr bids asks = x := ⟨_, rfl⟩
  rw [hbe] at BE CB CK
  have ALL := hide (And.intro hfo (And.intro hfe (And.intro hmr (And.intro hRB (And.intro hRA (And.intro hMB (And.intro hMA (And.intro hbb (And.intro hba hbe)))))))))
  have HB := hide h
  have HA := hide h'
  have LEN := hide (And.intro hnb (And.intro hna (And.intro hmb hma)))
  clear h h' k k' hfo hfe hmr hRB hRA hMB hMA hbb hba hbe n1 n2 n3 n4 hnb hna hmb hma
  go_enter Try.func7, Try.ntmps7
  go_wp2_with fail
  obtain ⟨W0, hW0⟩ : ∃ W0, W0 = (((w.alloc (.cells #[.slice p nb c, .slice p' na c'] 42)).alloc (.cells #[.int .i64 a, .int .i64 ac, .int .i64 sd, .int .i64 pr, .int .i64 q] 44)).alloc (.cells #[.int .i64 a2, .int .i64 ac2, .int .i64 sd2, .int .i64 pr2, .int .i64 q2] 44)).alloc (.cells #[.slice r mb d, .slice r' ma d'] 42) := ⟨_, rfl⟩
  have BW0 : Hid (Below w.heap.size w W0) := by rw [hW0]; exact below_alloc (below_alloc (below_alloc (below_alloc (Below.refl _ _) _) _) _) _
  have KEEP : Hid (∀ x, Below W0.heap.size W0 x → x.cell? ⟨w.heap.size, 0, none⟩ = some (.slice p nb c) ∧ x.cell? ⟨w.heap.size, 1, none⟩ = some (.slice p' na c') ∧ x.cell? ⟨w.heap.size + 1, 0, none⟩ = some (.int .i64 a) ∧ x.cell? ⟨w.heap.size + 1, 1, none⟩ = some (.int .i64 ac) ∧ x.cell? ⟨w.heap.size + 1, 2, none⟩ = some (.int .i64 sd) ∧ x.cell? ⟨w.heap.size + 1, 3, none⟩ = some (.int .i64 pr) ∧ x.cell? ⟨w.heap.size + 1, 4, none⟩ = some (.int .i64 q) ∧ x.cell? ⟨w.heap.size + 1 + 1, 0, none⟩ = some (.int .i64 a2) ∧ x.cell? ⟨w.heap.size + 1 + 1, 1, none⟩ = some (.int .i64 ac2) ∧ x.cell? ⟨w.heap.size + 1 + 1, 2, none⟩ = some (.int .i64 sd2) ∧ x.cell? ⟨w.heap.size + 1 + 1, 3, none⟩ = some (.int .i64 pr2) ∧ x.cell? ⟨w.heap.size + 1 + 1, 4, none⟩ = some (.int .i64 q2) ∧ x.cell? ⟨w.heap.size + 1 + 1 + 1, 0, none⟩ = some (.slice r mb d) ∧ x.cell? ⟨w.heap.size + 1 + 1 + 1, 1, none⟩ = some (.slice r' ma d')) := fun x hx => by
    have hk := fun ad v (he : W0.cell? ad = some v) => (hx.cell (World.block_lt_of_cell? _ _ he)).trans he
    rw [hW0] at hk
    have zz1 := fun (w : World) o1 cs t o3 o4 i v (hv : cs[i]? = some v) => cell_alloc (cell_alloc (new_cell2 w o1 cs t i v hv) o3) o4
    have zz3 := new_cell ((((w.alloc (.cells #[.slice p nb c, .slice p' na c'] 42)).alloc (.cells #[.int .i64 a, .int .i64 ac, .int .i64 sd, .int .i64 pr, .int .i64 q] 44)).alloc (.cells #[.int .i64 a2, .int .i64 ac2, .int .i64 sd2, .int .i64 pr2, .int .i64 q2] 44))) #[.slice r mb d, .slice r' ma d'] 42
    have zz2 := fun i v hv => cell_alloc (new_cell2 (w.alloc (.cells #[.slice p nb c, .slice p' na c'] 42)) (.cells #[.int .i64 a, .int .i64 ac, .int .i64 sd, .int .i64 pr, .int .i64 q] 44) #[.int .i64 a2, .int .i64 ac2, .int .i64 sd2, .int .i64 pr2, .int .i64 q2] 44 i v hv) (.cells #[.slice r mb d, .slice r' ma d'] 42)
    have zz0 := fun i v hv => cell_alloc (cell_alloc (cell_alloc (new_cell w #[.slice p nb c, .slice p' na c'] 42 i v hv) (.cells #[.int .i64 a, .int .i64 ac, .int .i64 sd, .int .i64 pr, .int .i64 q] 44)) (.cells #[.int .i64 a2, .int .i64 ac2, .int .i64 sd2, .int .i64 pr2, .int .i64 q2] 44)) (.cells #[.slice r mb d, .slice r' ma d'] 42)
    simp only [World.size_alloc] at zz2 zz3
    exact ⟨hk _ _ (zz0 0 _ rfl), hk _ _ (zz0 1 _ rfl), hk _ _ (zz1 _ _ _ _ _ _ 0 _ rfl), hk _ _ (zz1 _ _ _ _ _ _ 1 _ rfl), hk _ _ (zz1 _ _ _ _ _ _ 2 _ rfl), hk _ _ (zz1 _ _ _ _ _ _ 3 _ rfl), hk _ _ (zz1 _ _ _ _ _ _ 4 _ rfl), hk _ _ (zz2 0 _ rfl), hk _ _ (zz2 1 _ rfl), hk _ _ (zz2 2 _ rfl), hk _ _ (zz2 3 _ rfl), hk _ _ (zz2 4 _ rfl), hk _ _ (zz3 0 _ rfl), hk _ _ (zz3 1 _ rfl)⟩
  rw [← hW0]
  clear hW0
  refine (RE.out _ BW0.out).mono ?_
  rintro e w1 ⟨v, rfl, ⟨px, cx, px', cx', rfl, ox, ox', -, -⟩, hb1⟩
  have B1 := hide hb1
  have OX := hide (And.intro ox ox')
  obtain ⟨e0, e1, -⟩ := KEEP.out _ hb1
  have e0' := fun o => cell_alloc e0 o
  have e1' := fun o => cell_alloc e1 o
  clear hb1 ox ox' e0 e1 RE
  go_wp2_with fail
  have HW1 := hide (below_on B1.out rfl ((Below.refl _ w1).alloc (Nat.le_refl _) (.cells #[.slice px RB.length cx, .slice px' RA.length cx'] 42)))
  refine (FI.out _ (below_on BW0.out rfl HW1.out)).mono ?_
  rintro e w2 ⟨he, hb2⟩
  rw [show e = Ending.returned (.tuple #[.agg #[.int .i64 fa, .int .i64 fc, .int .i64 fd, .int .i64 fp, .int .i64 fq], .int .i64 fe]) from he]
  clear he e
  have B2 := hide (below_on HW1.out rfl hb2)
  have x0 : w2.cell? ⟨w1.heap.size, 0, none⟩ = some (.slice px RB.length cx) := new_kept hb2 rfl
  have x1 : w2.cell? ⟨w1.heap.size, 1, none⟩ = some (.slice px' RA.length cx') := new_kept hb2 rfl
  have CX := hide (And.intro x0 x1)
  obtain ⟨e0, e1, -⟩ := KEEP.out _ B2.out
  have e0' := fun o => cell_alloc e0 o
  have e1' := fun o => cell_alloc e1 o
  have OX2 := hide (And.intro ((OX.out.1.below ((Below.refl _ w1).alloc (Nat.le_refl _) _)).below hb2) ((OX.out.2.below ((Below.refl _ w1).alloc (Nat.le_refl _) _)).below hb2))
  clear hb2 x0 x1 e0 e1 HW1 OX B1 FI
  go_wp2_with fail
  have HW2 := hide (below_on B2.out rfl ((Below.refl _ w2).alloc (Nat.le_refl _) (.cells #[.int .i64 fa, .int .i64 fc, .int .i64 fd, .int .i64 fp, .int .i64 fq] 44)))
  refine (RM.out _ (below_on BW0.out rfl HW2.out)).mono ?_
  rintro e w3 ⟨v, he, ⟨pz, cz, pz', cz', hv, oz, oz', -, -⟩, hb3⟩
  rw [show e = Ending.returned (.tuple #[v, .agg #[.int .i64 fa, .int .i64 fc, .int .i64 fd, .int .i64 fp, .int .i64 fq], .int .i64 fe]) from he, hv]
  clear he e hv v
  have B3 := hide (below_on HW2.out rfl hb3)
  have OZ := hide (And.intro oz oz')
  have CY : Hid (∀ i v, (#[.int .i64 fa, .int .i64 fc, .int .i64 fd, .int .i64 fp, .int .i64 fq] : Array Value)[i]? = some v → w3.cell? ⟨w2.heap.size, i, none⟩ = some v) := fun i v hv => new_kept hb3 hv
  have KX : Hid (∀ y, Below w2.heap.size w2 y → y.cell? ⟨w1.heap.size, 0, none⟩ = some (.slice px RB.length cx) ∧ y.cell? ⟨w1.heap.size, 1, none⟩ = some (.slice px' RA.length cx') ∧ OV y px cx RB ∧ OV y px' cx' RA) := fun y hy =>
    ⟨(hy.cell (World.block_lt_of_cell? _ _ CX.out.1)).trans CX.out.1, (hy.cell (World.block_lt_of_cell? _ _ CX.out.2)).trans CX.out.2, OX2.out.1.below hy, OX2.out.2.below hy⟩
  have B23 := hide (((Below.refl _ w2).alloc (Nat.le_refl _) (.cells #[.int .i64 fa, .int .i64 fc, .int .i64 fd, .int .i64 fp, .int .i64 fq] 44)).trans (hb3.mono (by simp)))
  obtain ⟨e0, e1, -⟩ := KEEP.out _ B3.out
  have e0' := fun o1 o2 => cell_alloc (cell_alloc e0 o1) o2
  have e1' := fun o1 o2 => cell_alloc (cell_alloc e1 o1) o2
  clear hb3 oz oz' e0 e1 HW2 B2 RM CX OX2
  go_wp2_with fail
  have HW3 := hide (below_on B3.out rfl (below_alloc ((Below.refl _ w3).alloc (Nat.le_refl _) (.cells #[.slice pz MB.length cz, .slice pz' MA.length cz'] 42)) (.cells #[.int .i64 fa, .int .i64 fc, .int .i64 fd, .int .i64 fp, .int .i64 fq] 44)))
  refine (BE.out _ (below_on BW0.out rfl HW3.out)).mono ?_
  rintro e w4 ⟨rfl, hb4⟩
  have B4 := hide (below_on HW3.out rfl hb4)
  have B34 := hide ((below_alloc ((Below.refl _ w3).alloc (Nat.le_refl _) (.cells #[.slice pz MB.length cz, .slice pz' MA.length cz'] 42)) (.cells #[.int .i64 fa, .int .i64 fc, .int .i64 fd, .int .i64 fp, .int .i64 fq] 44)).trans (hb4.mono (by simp; omega)))
  have CZ : Hid (∀ i v, (#[.slice pz MB.length cz, .slice pz' MA.length cz'] : Array Value)[i]? = some v → w4.cell? ⟨w3.heap.size, i, none⟩ = some v) := fun i v hv =>
    (hb4.cell (World.block_lt_of_cell? _ _ (cell_alloc (new_cell w3 _ 42 i v hv) _))).trans (cell_alloc (new_cell w3 _ 42 i v hv) _)
  have CW : Hid (∀ i v, (#[.int .i64 fa, .int .i64 fc, .int .i64 fd, .int .i64 fp, .int .i64 fq] : Array Value)[i]? = some v → w4.cell? ⟨w3.heap.size + 1, i, none⟩ = some v) := fun i v hv =>
    (hb4.cell (World.block_lt_of_cell? _ _ (new_cell2 w3 _ _ 44 i v hv))).trans (new_cell2 w3 _ _ 44 i v hv)
  obtain ⟨e0, e1, -⟩ := KEEP.out _ B4.out
  have e0' := fun o => cell_alloc e0 o
  have e1' := fun o => cell_alloc e1 o
  clear hb4 e0 e1 HW3 BE
  go_wp2_with fail
  have HW4 := hide (below_on B4.out rfl ((Below.refl _ w4).alloc (Nat.le_refl _) (.cells #[.slice none 0 0, .slice none 0 0] 42)))
  refine (CB.out _ (below_on BW0.out rfl HW4.out)).mono ?_
  rintro e w5 ⟨rfl, hb5⟩
  have B5 := hide (below_on HW4.out rfl hb5)
  have B45 := hide (((Below.refl _ w4).alloc (Nat.le_refl _) (.cells #[.slice none 0 0, .slice none 0 0] 42)).trans (hb5.mono (by simp)))
  have CN : Hid (∀ i v, (#[.slice none 0 0, .slice none 0 0] : Array Value)[i]? = some v → w5.cell? ⟨w4.heap.size, i, none⟩ = some v) := fun i v hv => new_kept hb5 hv
  clear hb5 HW4 CB
  -- all that lies behind, in every world from here on
  have KEPT : Hid (∀ y, Below w5.heap.size w5 y → Below W0.heap.size W0 y ∧ Below w2.heap.size w2 y ∧ (∀ i v, (#[.int .i64 fa, .int .i64 fc, .int .i64 fd, .int .i64 fp, .int .i64 fq] : Array Value)[i]? = some v → y.cell? ⟨w2.heap.size, i, none⟩ = some v) ∧ (∀ i v, (#[.slice pz MB.length cz, .slice pz' MA.length cz'] : Array Value)[i]? = some v → y.cell? ⟨w3.heap.size, i, none⟩ = some v) ∧ (∀ i v, (#[.int .i64 fa, .int .i64 fc, .int .i64 fd, .int .i64 fp, .int .i64 fq] : Array Value)[i]? = some v → y.cell? ⟨w3.heap.size + 1, i, none⟩ = some v) ∧ (∀ i v, (#[.slice none 0 0, .slice none 0 0] : Array Value)[i]? = some v → y.cell? ⟨w4.heap.size, i, none⟩ = some v) ∧ OV y pz cz MB ∧ OV y pz' cz' MA) := fun y hy => by
    have b4y := below_on B45.out rfl hy
    have b3y := below_on B34.out rfl b4y
    refine ⟨below_on B5.out rfl hy, below_on B23.out rfl b3y, fun i v hv => ?_, fun i v hv => ?_, fun i v hv => ?_, fun i v hv => ?_, OZ.out.1.below b3y, OZ.out.2.below b3y⟩
    · exact (b3y.cell (World.block_lt_of_cell? _ _ (CY.out i v hv))).trans (CY.out i v hv)
    · exact (b4y.cell (World.block_lt_of_cell? _ _ (CZ.out i v hv))).trans (CZ.out i v hv)
    · exact (b4y.cell (World.block_lt_of_cell? _ _ (CW.out i v hv))).trans (CW.out i v hv)
    · exact (hy.cell (World.block_lt_of_cell? _ _ (CN.out i v hv))).trans (CN.out i v hv)
  clear B3 B4 B5 B34 B45 B23 CY CZ CW CN OZ
  go_wp2_with fail
  have hC : ∀ q1 : InC (fun x => Below w5.heap.size w5 x), Below W0.heap.size W0 q1.w := fun q1 => (KEPT.out q1.w q1.h).1
  generalize hCC : (fun x => Below w5.heap.size w5 x) = C at hC
  have CE := hide hCC
  have CS : Hid (Shut C) := by rw [← CE.out]; exact shut_below w5
  have CW : Hid (∀ x, C x → Below w5.heap.size w5 x) := fun x hx => by rw [← CE.out] at hx; exact hx
  have CT : Hid (∀ x, C x → Below w.heap.size w x) := fun x hx => below_on BW0.out rfl (KEPT.out x (CW.out x hx)).1
  have C0 : Hid (C { w5 with drawn := w5.drawn + 1 }) := by rw [← CE.out]; exact below_drawn _
  have g0 := fun q1 => (KEEP.out _ (hC q1)).1
  have g1 := fun q1 => (KEEP.out _ (hC q1)).2.1
  have o0 := fun q1 => (KEEP.out _ (hC q1)).2.2.1
  have o1 := fun q1 => (KEEP.out _ (hC q1)).2.2.2.1
  have o2 := fun q1 => (KEEP.out _ (hC q1)).2.2.2.2.1
  have o3 := fun q1 => (KEEP.out _ (hC q1)).2.2.2.2.2.1
  have o4 := fun q1 => (KEEP.out _ (hC q1)).2.2.2.2.2.2.1
  have p0 := fun q1 => (KEEP.out _ (hC q1)).2.2.2.2.2.2.2.1
  have p1 := fun q1 => (KEEP.out _ (hC q1)).2.2.2.2.2.2.2.2.1
  have p2 := fun q1 => (KEEP.out _ (hC q1)).2.2.2.2.2.2.2.2.2.1
  have p3 := fun q1 => (KEEP.out _ (hC q1)).2.2.2.2.2.2.2.2.2.2.1
  have p4 := fun q1 => (KEEP.out _ (hC q1)).2.2.2.2.2.2.2.2.2.2.2.1
  have k0 := fun q1 => (KEEP.out _ (hC q1)).2.2.2.2.2.2.2.2.2.2.2.2.1
  have k1 := fun q1 => (KEEP.out _ (hC q1)).2.2.2.2.2.2.2.2.2.2.2.2.2
  clear hC hCC
  refine wp_region_mix [(0, false), (1, false), (2, false), (3, true), (5, true), (4, false), (6, false), (7, false), (8, false), (9, true), (11, true), (10, false), (12, false), (13, false), (14, false), (15, false), (16, true), (17, true), (19, true), (20, true), (18, false), (21, false), (22, false), (23, false), (24, false), (25, true), (26, true), (28, true), (29, true), (27, false), (30, false), (31, false), (32, false)] C mixed (by kernel_rfl) C0.out ?_
  refine mix_main (by rfl) ?_
  rintro ⟨x1, hx1⟩
  have FX := hide (shelved_any x1)
  go_wp2_with (go_at_call 35; refine FX.out.mono ?_; rintro e w' ⟨rfl, hb'⟩)
  refine ⟨C, CS.out x1 _ hx1 hb', fun _ h => h, ?_⟩
  clear hx1 hb' FX x1
  refine mix_main (by rfl) ?_
  rintro ⟨x1, hx1⟩
  go_wp2
  refine ⟨C, hx1, fun _ h => h, ?_⟩
  clear hx1 x1
  refine mix_main (by rfl) ?_
  rintro ⟨x1, hx1⟩
  go_wp2
  refine ⟨C, hx1, fun _ h => h, ?_⟩
  clear hx1 x1
  repeat (refine mix_still (by rfl) ?_; go_big_quiet_step (exact rfl); refine wpQuiet_nil ?_)
  refine mix_main (by rfl) ?_
  rintro ⟨x1, hx1⟩
  have FX := hide (CK.out x1 (CT.out x1 hx1))
  go_wp2_with (go_at_call 36; refine FX.out.mono ?_; rintro e w' ⟨rfl, hb'⟩)
  refine ⟨C, CS.out x1 _ hx1 hb', fun _ h => h, ?_⟩
  clear hx1 hb' FX x1
  refine mix_main (by rfl) ?_
  rintro ⟨x1, hx1⟩
  go_wp2
  refine ⟨C, hx1, fun _ h => h, ?_⟩
  clear hx1 x1
  refine mix_main (by rfl) ?_
  rintro ⟨x1, hx1⟩
  go_wp2
  refine ⟨C, hx1, fun _ h => h, ?_⟩
  clear hx1 x1
  refine mix_main (by rfl) ?_
  rintro ⟨x1, hx1⟩
  go_wp2
  refine ⟨C, hx1, fun _ h => h, ?_⟩
  clear hx1 x1
  repeat (refine mix_still (by rfl) ?_; go_big_quiet_step (exact rfl); refine wpQuiet_nil ?_)
  refine mix_main (by rfl) ?_
  rintro ⟨x1, hx1⟩
  have FX := hide (grow_calls (checkOrder_grow a ac sd pr q x1))
  go_wp2_with (go_at_call 37; refine FX.out.mono ?_; rintro e w' ⟨rfl, hb'⟩)
  refine ⟨C, CS.out x1 _ hx1 hb', fun _ h => h, ?_⟩
  clear hx1 hb' FX x1
  refine mix_main (by rfl) ?_
  rintro ⟨x1, hx1⟩
  have FX := hide (grow_calls (refCheckOrder_grow a ac sd pr q x1))
  go_wp2_with (go_at_call 38; refine FX.out.mono ?_; rintro e w' ⟨rfl, hb'⟩)
  refine ⟨C, CS.out x1 _ hx1 hb', fun _ h => h, ?_⟩
  clear hx1 hb' FX x1
  refine mix_main (by rfl) ?_
  rintro ⟨x1, hx1⟩
  go_wp2
  refine ⟨C, hx1, fun _ h => h, ?_⟩
  clear hx1 x1
  refine mix_main (by rfl) ?_
  rintro ⟨x1, hx1⟩
  go_wp2
  refine ⟨C, hx1, fun _ h => h, ?_⟩
  clear hx1 x1
  refine mix_main (by rfl) ?_
  rintro ⟨x1, hx1⟩
  go_wp2
  refine ⟨C, hx1, fun _ h => h, ?_⟩
  clear hx1 x1
  repeat (refine mix_still (by rfl) ?_; go_big_quiet_step (exact rfl); refine wpQuiet_nil ?_)
  refine mix_main (by rfl) ?_
  rintro ⟨x1, hx1⟩
  have FX := hide (grow_calls (ahead_grow a ac sd pr q a2 ac2 sd2 pr2 q2 x1))
  go_wp2_with (go_at_call 39; refine FX.out.mono ?_; rintro e w' ⟨rfl, hb'⟩)
  refine ⟨C, CS.out x1 _ hx1 hb', fun _ h => h, ?_⟩
  clear hx1 hb' FX x1
  refine mix_main (by rfl) ?_
  rintro ⟨x1, hx1⟩
  have FX := hide (grow_calls (St.isAhead_grow a ac sd pr q a2 ac2 sd2 pr2 q2 x1))
  go_wp2_with (go_at_call 40; refine FX.out.mono ?_; rintro e w' ⟨rfl, hb'⟩)
  refine ⟨C, CS.out x1 _ hx1 hb', fun _ h => h, ?_⟩
  clear hx1 hb' FX x1
  refine mix_main (by rfl) ?_
  rintro ⟨x1, hx1⟩
  go_wp2
  refine ⟨C, hx1, fun _ h => h, ?_⟩
  clear hx1 x1
  refine mix_main (by rfl) ?_
  rintro ⟨x1, hx1⟩
  go_wp2
  refine ⟨C, hx1, fun _ h => h, ?_⟩
  clear hx1 x1
  refine mix_main (by rfl) ?_
  rintro ⟨x1, hx1⟩
  go_wp2
  refine ⟨C, hx1, fun _ h => h, ?_⟩
  clear hx1 x1
  repeat (refine mix_still (by rfl) ?_; go_big_quiet_step (exact rfl); refine wpQuiet_nil ?_)
  refine mix_main (by rfl) ?_
  rintro ⟨x1, hx1⟩
  have FX := hide (SA.out x1 (CT.out x1 hx1))
  go_wp2_with (go_at_call 41; refine FX.out.mono ?_; rintro e w' ⟨rfl, hb'⟩)
  refine ⟨C, CS.out x1 _ hx1 hb', fun _ h => h, ?_⟩
  clear hx1 hb' FX x1
  refine mix_main (by rfl) ?_
  rintro ⟨x1, hx1⟩
  have FX := hide (SA'.out x1 (CT.out x1 hx1))
  go_wp2_with (go_at_call 42; refine FX.out.mono ?_; rintro e w' ⟨rfl, hb'⟩)
  refine ⟨C, CS.out x1 _ hx1 hb', fun _ h => h, ?_⟩
  clear hx1 hb' FX x1
  refine mix_main (by rfl) ?_
  rintro ⟨x1, hx1⟩
  go_wp2
  refine ⟨C, hx1, fun _ h => h, ?_⟩
  clear hx1 x1
  refine mix_main (by rfl) ?_
  rintro ⟨x1, hx1⟩
  go_wp2
  refine ⟨C, hx1, fun _ h => h, ?_⟩
  clear hx1 x1
  refine mix_end ?_
  rintro ⟨x9, hx9⟩
  dsimp only
  have B9 := hide (CW.out x9 hx9)
  clear hx9 g0 g1 o0 o1 o2 o3 o4 p0 p1 p2 p3 p4 k0 k1 C0 CS CW CT CE CK SA SA'
  by_cases hbe : be = 0
  · have hR : Right bids asks := bookErr_zero.1 (ALL.out.2.2.2.2.2.2.2.2.2.trans hbe)
    have RD' := hide (RD.out hR)
    have FD' := hide (FD.out hR)
    have RV' := hide (RV.out hR)
    have HR := hide hR
    subst hbe
    clear hR RD FD RV
    obtain ⟨b0, b2, -⟩ := KEPT.out x9 B9.out
    obtain ⟨e0, e1, f0, f1, f2, f3, f4, -⟩ := KEEP.out x9 b0
    have BX9 := hide (below_on BW0.out rfl b0)
    clear b0 b2
    go_wp2_with fail
    refine (RD'.out _ BX9.out).mono ?_
    rintro e w12 ⟨v, rfl, ⟨pX, cX, pX', cX', rfl, oX, oX', -, -⟩, hb12⟩
    have B12 := hide (below_on B9.out rfl hb12)
    have B12' := hide (below_on B12.out rfl ((Below.refl _ w12).alloc (Nat.le_refl _) (.cells #[.slice pX RB.length cX, .slice pX' RA.length cX'] 42)))
    obtain ⟨b0, b2, -⟩ := KEPT.out _ B12'.out
    obtain ⟨x0, x1, ox, ox'⟩ := KX.out _ b2
    have nB := ov_small HR.out ALL.out.2.2.1 ALL.out.2.2.2.1 ALL.out.2.2.2.2.1
    have SX := hide (refSame_any px px' pX pX' cx cx' cX cX' RB RA RB RA _ ox.row ox'.row (oX.below ((Below.refl _ w12).alloc (Nat.le_refl _) (.cells #[.slice pX RB.length cX, .slice pX' RA.length cX'] 42))).row (oX'.below ((Below.refl _ w12).alloc (Nat.le_refl _) (.cells #[.slice pX RB.length cX, .slice pX' RA.length cX'] 42))).row nB.1 nB.2 nB.1 nB.2)
    rw [decide_eq_true ⟨rfl, rfl⟩] at SX
    clear b0 b2 oX oX' ox ox' hb12 e0 e1 f0 f1 f2 f3 f4 RD' nB
    go_wp2_with fail
    refine SX.out.mono ?_
    rintro e w13 ⟨rfl, hb13⟩
    have B13 := hide (below_on B12'.out rfl hb13)
    obtain ⟨b0, b2, -⟩ := KEPT.out w13 B13.out
    obtain ⟨e0, e1, -⟩ := KEEP.out w13 b0
    have BX13 := hide (below_on BW0.out rfl b0)
    clear b0 b2 hb13 x0 x1 SX B12 B12'
    have PB := price_fact (HB.out.below BX13.out)
    have PA := price_fact (HA.out.below BX13.out)
    have hbb : firstPrice bids = bb := by rw [← ALL.out.2.2.2.2.2.2.2.1]; unfold bestB; rw [if_pos (bookErr_zero.2 HR.out)]
    have hba : firstPrice asks = ba := by rw [← ALL.out.2.2.2.2.2.2.2.2.1]; unfold bestA; rw [if_pos (bookErr_zero.2 HR.out)]
    rw [hbb, LEN.out.1] at PB
    rw [hba, LEN.out.2.1] at PA
    obtain ⟨hff, hfc⟩ := found_facts HR.out ALL.out.1 ALL.out.2.1 ALL.out.2.2.2.2.2.1 ALL.out.2.2.2.2.2.2.1
    rw [hff] at FD'
    have FC := hide hfc
    have NM : Hid (MB.length ≤ 140737488351232 ∧ MA.length ≤ 140737488351232) := rem_small HR.out ALL.out.2.2.2.2.2.1 ALL.out.2.2.2.2.2.2.1
    have SN : Hid (∀ (u u' : Option Addr) (x x' : Nat) (W : World), Calls Try.prog 42 #[.agg #[.slice u 0 x, .slice u' 0 x'], .agg #[.slice none 0 0, .slice none 0 0]] W fun e w' => e = .returned (.bool true) ∧ Below W.heap.size W w') := fun u u' x x' W => (refSame_any u u' none none x x' 0 0 [] [] [] [] W (.inl rfl) (.inl rfl) (.inl rfl) (.inl rfl) (by simp) (by simp) (by simp) (by simp)).mono fun _ _ ⟨he, hb⟩ => ⟨by rw [he]; simp, hb⟩
    clear hbb hba LEN ALL HB HA hff hfc KX HR
    rcases PB with ⟨hb1, hb2⟩ | ⟨hb1, bB, offB, hpB, hcB⟩
    · subst hb1 hb2
      rcases PA with ⟨ha1, ha2⟩ | ⟨ha1, bA, offA, hpA, hcA⟩
      · subst ha1 ha2
        go_wp2_with fail
        refine (FD'.out _ BX13.out).mono ?_
        rintro e w14 ⟨he, hb14⟩
        rw [show e = Ending.returned (.agg #[.int .i64 fa, .int .i64 fc, .int .i64 fd, .int .i64 fp, .int .i64 fq]) from he]
        clear he e
        have B14 := hide (below_on B13.out rfl hb14)
        have B15 := hide (below_on B14.out rfl ((Below.refl _ w14).alloc (Nat.le_refl _) (.cells #[.int .i64 fa, .int .i64 fc, .int .i64 fd, .int .i64 fp, .int .i64 fq] 44)))
        clear hb14
        rcases FC.out with ⟨h1, h2, h3, h4, h5, h6, h7, h8⟩ | ⟨h1, h2, h3, h4, h5⟩
        · subst h1 h2 h3 h4 h5 h6 h7 h8
          simp only [List.length_nil] at KEPT
          obtain ⟨b0, b2, y5, z5, w5', n5, -⟩ := KEPT.out _ B15.out
          have y0 := y5 0 _ rfl
          have y1 := y5 1 _ rfl
          have y2 := y5 2 _ rfl
          have y3 := y5 3 _ rfl
          have y4 := y5 4 _ rfl
          have v0 := w5' 0 _ rfl
          have v1 := w5' 1 _ rfl
          have v2 := w5' 2 _ rfl
          have v3 := w5' 3 _ rfl
          have v4 := w5' 4 _ rfl
          have z0 := z5 0 _ rfl
          have z1 := z5 1 _ rfl
          have n0 := n5 0 _ rfl
          have n1 := n5 1 _ rfl
          have S1 := hide (SN.out pz pz' cz cz' (w14.alloc (.cells #[.int .i64 0, .int .i64 0, .int .i64 0, .int .i64 0, .int .i64 0] 44)))
          have BX15 := hide (below_on BW0.out rfl b0)
          clear b0 b2 y5 z5 w5' n5 FC e0 e1
          by_cases hid : id = 0
          · have hidz : (id == 0) = true := by simp [hid]
            clear hid
            go_wp2_with fail
            refine S1.out.mono ?_
            rintro e w16 ⟨rfl, hb16⟩
            have BX16 := hide (below_on BX15.out rfl hb16)
            clear hb16
            go_wp2
            go_ret
            exact ⟨rfl, BX16.out⟩
          · have hidz : (id == 0) = false := by simp [hid]
            have hidn : ¬ (0 : Int) = id := fun e => hid e.symm
            have hidm : ((0 : Int) == id) = false := by simp [hidn]
            clear hid
            go_wp2_with fail
            refine S1.out.mono ?_
            rintro e w16 ⟨rfl, hb16⟩
            have BX16 := hide (below_on BX15.out rfl hb16)
            clear hb16
            go_wp2
            go_ret
            exact ⟨rfl, BX16.out⟩
        · subst h1 h3
          have RV2 := hide (fun W (hW : Below w.heap.size w W) => RV'.out W hW)
          rw [h4, h5] at RV2
          clear h4 h5 RV'
          have hidz : (id == 0) = false := by simp; omega
          have h6 : ¬ id = 0 := by omega
          clear FC e0 e1
          go_wp2_with fail
          obtain ⟨W15, hW15⟩ : ∃ W15, W15 = w14.alloc (.cells #[.int .i64 id, .int .i64 fc, .int .i64 fd, .int .i64 fp, .int .i64 fq] 44) := ⟨_, rfl⟩
          rw [← hW15]
          rw [← hW15] at B15
          have CT5 : Hid (∀ i v, (#[.int .i64 id, .int .i64 fc, .int .i64 fd, .int .i64 fp, .int .i64 fq] : Array Value)[i]? = some v → W15.cell? ⟨w14.heap.size, i, none⟩ = some v) := fun i v hv => by rw [hW15]; exact new_cell w14 _ _ i v hv
          clear hW15
          have hC : ∀ q1 : InC (fun x => Below W15.heap.size W15 x), Below w5.heap.size w5 q1.w := fun q1 => below_on B15.out rfl q1.h
          have t5 : ∀ (q1 : InC (fun x => Below W15.heap.size W15 x)) i v, (#[.int .i64 id, .int .i64 fc, .int .i64 fd, .int .i64 fp, .int .i64 fq] : Array Value)[i]? = some v → q1.w.cell? ⟨w14.heap.size, i, none⟩ = some v := fun q1 i v hv => (q1.h.cell (World.block_lt_of_cell? _ _ (CT5.out i v hv))).trans (CT5.out i v hv)
          generalize hCC : (fun x => Below W15.heap.size W15 x) = C at hC t5
          have CE := hide hCC
          have CS : Hid (Shut C) := by rw [← CE.out]; exact shut_below W15
          have CW : Hid (∀ x, C x → Below w5.heap.size w5 x) := fun x hx => by rw [← CE.out] at hx; exact below_on B15.out rfl hx
          have CT : Hid (∀ x, C x → Below w.heap.size w x) := fun x hx => below_on BW0.out rfl (KEPT.out x (CW.out x hx)).1
          have C0 : Hid (C { W15 with drawn := W15.drawn + 1 }) := by rw [← CE.out]; exact below_drawn _
          have g0 := fun q1 => (KEEP.out _ (KEPT.out _ (hC q1)).1).1
          have g1 := fun q1 => (KEEP.out _ (KEPT.out _ (hC q1)).1).2.1
          have y0 := fun q1 => (KEPT.out _ (hC q1)).2.2.1 0 _ rfl
          have y1 := fun q1 => (KEPT.out _ (hC q1)).2.2.1 1 _ rfl
          have y2 := fun q1 => (KEPT.out _ (hC q1)).2.2.1 2 _ rfl
          have y3 := fun q1 => (KEPT.out _ (hC q1)).2.2.1 3 _ rfl
          have y4 := fun q1 => (KEPT.out _ (hC q1)).2.2.1 4 _ rfl
          have z0 := fun q1 => (KEPT.out _ (hC q1)).2.2.2.1 0 _ rfl
          have z1 := fun q1 => (KEPT.out _ (hC q1)).2.2.2.1 1 _ rfl
          have v0 := fun q1 => (KEPT.out _ (hC q1)).2.2.2.2.1 0 _ rfl
          have v1 := fun q1 => (KEPT.out _ (hC q1)).2.2.2.2.1 1 _ rfl
          have v2 := fun q1 => (KEPT.out _ (hC q1)).2.2.2.2.1 2 _ rfl
          have v3 := fun q1 => (KEPT.out _ (hC q1)).2.2.2.2.1 3 _ rfl
          have v4 := fun q1 => (KEPT.out _ (hC q1)).2.2.2.2.1 4 _ rfl
          have t0 := fun q1 => t5 q1 0 _ rfl
          have t1 := fun q1 => t5 q1 1 _ rfl
          have t2 := fun q1 => t5 q1 2 _ rfl
          have t3 := fun q1 => t5 q1 3 _ rfl
          have t4 := fun q1 => t5 q1 4 _ rfl
          have OZ : Hid (∀ x, C x → OV x pz cz MB ∧ OV x pz' cz' MA) := fun x hx => (KEPT.out x (CW.out x hx)).2.2.2.2.2.2
          clear hC hCC t5 CT5
          refine wp_region_mix [(0, false), (1, false), (2, false), (3, false), (4, false), (5, false), (6, false), (7, true), (8, true), (9, false), (10, false), (11, false), (12, true), (13, true), (14, false), (15, false), (16, false), (17, true), (18, true), (19, true), (20, false), (21, false), (22, false), (23, false)] C mixed (by kernel_rfl) C0.out ?_
          refine mix_main (by rfl) ?_
          rintro ⟨x1, hx1⟩
          go_wp2
          refine ⟨C, hx1, fun _ h => h, ?_⟩
          clear hx1 x1
          refine mix_main (by rfl) ?_
          rintro ⟨x1, hx1⟩
          go_wp2
          refine ⟨C, hx1, fun _ h => h, ?_⟩
          clear hx1 x1
          refine mix_main (by rfl) ?_
          rintro ⟨x1, hx1⟩
          go_wp2
          refine ⟨C, hx1, fun _ h => h, ?_⟩
          clear hx1 x1
          refine mix_main (by rfl) ?_
          rintro ⟨x1, hx1⟩
          go_wp2
          refine ⟨C, hx1, fun _ h => h, ?_⟩
          clear hx1 x1
          refine mix_main (by rfl) ?_
          rintro ⟨x1, hx1⟩
          go_wp2
          refine ⟨C, hx1, fun _ h => h, ?_⟩
          clear hx1 x1
          refine mix_main (by rfl) ?_
          rintro ⟨x1, hx1⟩
          go_wp2
          refine ⟨C, hx1, fun _ h => h, ?_⟩
          clear hx1 x1
          refine mix_main (by rfl) ?_
          rintro ⟨x1, hx1⟩
          go_wp2
          refine ⟨C, hx1, fun _ h => h, ?_⟩
          clear hx1 x1
          repeat (refine mix_still (by rfl) ?_; go_big_quiet_step (exact rfl); refine wpQuiet_nil ?_)
          refine mix_main (by rfl) ?_
          rintro ⟨x1, hx1⟩
          go_wp2
          refine ⟨C, hx1, fun _ h => h, ?_⟩
          clear hx1 x1
          refine mix_main (by rfl) ?_
          rintro ⟨x1, hx1⟩
          go_wp2
          refine ⟨C, hx1, fun _ h => h, ?_⟩
          clear hx1 x1
          refine mix_main (by rfl) ?_
          rintro ⟨x1, hx1⟩
          go_wp2
          refine ⟨C, hx1, fun _ h => h, ?_⟩
          clear hx1 x1
          repeat (refine mix_still (by rfl) ?_; go_big_quiet_step (exact rfl); refine wpQuiet_nil ?_)
          refine mix_main (by rfl) ?_
          rintro ⟨x1, hx1⟩
          go_wp2
          refine ⟨C, hx1, fun _ h => h, ?_⟩
          clear hx1 x1
          refine mix_main (by rfl) ?_
          rintro ⟨x1, hx1⟩
          go_wp2
          refine ⟨C, hx1, fun _ h => h, ?_⟩
          clear hx1 x1
          refine mix_main (by rfl) ?_
          rintro ⟨x1, hx1⟩
          go_wp2
          refine ⟨C, hx1, fun _ h => h, ?_⟩
          clear hx1 x1
          repeat (refine mix_still (by rfl) ?_; go_big_quiet_step (exact rfl); refine wpQuiet_nil ?_)
          refine mix_main (by rfl) ?_
          rintro ⟨x1, hx1⟩
          have FX := hide (RV2.out x1 (CT.out x1 hx1))
          go_wp2_with (go_at_call 45; refine FX.out.mono ?_; rintro e w16 ⟨pR, cR, pR', cR', rfl, oR, oR', -, -, hb'⟩)
          refine ⟨From C w16, ⟨CS.out x1 _ hx1 hb', Below.refl _ _⟩, fun _ h => h.1, ?_⟩
          have OR := hide (And.intro oR oR')
          clear hx1 hb' FX x1 oR oR'
          refine mix_main (by rfl) ?_
          rintro ⟨x2, hx2⟩
          have SX2 := hide (refSame_any pz pz' pR pR' cz cz' cR cR' MB MA MB MA x2 (OZ.out x2 hx2.1).1.row (OZ.out x2 hx2.1).2.row (OR.out.1.below hx2.2).row (OR.out.2.below hx2.2).row NM.out.1 NM.out.2 NM.out.1 NM.out.2)
          rw [decide_eq_true ⟨rfl, rfl⟩] at SX2
          go_wp2_with (go_at_call 42; refine SX2.out.mono ?_; rintro e w17 ⟨rfl, hb'⟩)
          refine ⟨From C w16, from_shut CS.out w16 x2 _ hx2 hb', fun _ h => h, ?_⟩
          clear hx2 hb' SX2 x2
          refine mix_main (by rfl) ?_
          rintro ⟨x1, hx1⟩
          go_wp2
          refine ⟨From C w16, hx1, fun _ h => h, ?_⟩
          clear hx1 x1
          refine mix_main (by rfl) ?_
          rintro ⟨x1, hx1⟩
          go_wp2
          refine ⟨From C w16, hx1, fun _ h => h, ?_⟩
          clear hx1 x1
          refine mix_end ?_
          rintro ⟨x3, hx3⟩
          dsimp only
          have BZ := hide (CT.out x3 hx3.1)
          clear hx3
          go_wp2
          go_ret
          exact ⟨rfl, BZ.out⟩
      · subst hpA
        have ha3 : (0 : Int) < na := by omega
        have ha4 : ¬ (na : Int) = 0 := by omega
        go_wp2_with fail
        refine (FD'.out _ BX13.out).mono ?_
        rintro e w14 ⟨he, hb14⟩
        rw [show e = Ending.returned (.agg #[.int .i64 fa, .int .i64 fc, .int .i64 fd, .int .i64 fp, .int .i64 fq]) from he]
        clear he e
        have B14 := hide (below_on B13.out rfl hb14)
        have B15 := hide (below_on B14.out rfl ((Below.refl _ w14).alloc (Nat.le_refl _) (.cells #[.int .i64 fa, .int .i64 fc, .int .i64 fd, .int .i64 fp, .int .i64 fq] 44)))
        clear hb14
        rcases FC.out with ⟨h1, h2, h3, h4, h5, h6, h7, h8⟩ | ⟨h1, h2, h3, h4, h5⟩
        · subst h1 h2 h3 h4 h5 h6 h7 h8
          simp only [List.length_nil] at KEPT
          obtain ⟨b0, b2, y5, z5, w5', n5, -⟩ := KEPT.out _ B15.out
          have y0 := y5 0 _ rfl
          have y1 := y5 1 _ rfl
          have y2 := y5 2 _ rfl
          have y3 := y5 3 _ rfl
          have y4 := y5 4 _ rfl
          have v0 := w5' 0 _ rfl
          have v1 := w5' 1 _ rfl
          have v2 := w5' 2 _ rfl
          have v3 := w5' 3 _ rfl
          have v4 := w5' 4 _ rfl
          have z0 := z5 0 _ rfl
          have z1 := z5 1 _ rfl
          have n0 := n5 0 _ rfl
          have n1 := n5 1 _ rfl
          have S1 := hide (SN.out pz pz' cz cz' (w14.alloc (.cells #[.int .i64 0, .int .i64 0, .int .i64 0, .int .i64 0, .int .i64 0] 44)))
          have BX15 := hide (below_on BW0.out rfl b0)
          clear b0 b2 y5 z5 w5' n5 FC e0 e1
          by_cases hid : id = 0
          · have hidz : (id == 0) = true := by simp [hid]
            clear hid
            go_wp2_with fail
            refine S1.out.mono ?_
            rintro e w16 ⟨rfl, hb16⟩
            have BX16 := hide (below_on BX15.out rfl hb16)
            clear hb16
            go_wp2
            go_ret
            exact ⟨rfl, BX16.out⟩
          · have hidz : (id == 0) = false := by simp [hid]
            have hidn : ¬ (0 : Int) = id := fun e => hid e.symm
            have hidm : ((0 : Int) == id) = false := by simp [hidn]
            clear hid
            go_wp2_with fail
            refine S1.out.mono ?_
            rintro e w16 ⟨rfl, hb16⟩
            have BX16 := hide (below_on BX15.out rfl hb16)
            clear hb16
            go_wp2
            go_ret
            exact ⟨rfl, BX16.out⟩
        · subst h1 h3
          have RV2 := hide (fun W (hW : Below w.heap.size w W) => RV'.out W hW)
          rw [h4, h5] at RV2
          clear h4 h5 RV'
          have hidz : (id == 0) = false := by simp; omega
          have h6 : ¬ id = 0 := by omega
          clear FC e0 e1
          go_wp2_with fail
          obtain ⟨W15, hW15⟩ : ∃ W15, W15 = w14.alloc (.cells #[.int .i64 id, .int .i64 fc, .int .i64 fd, .int .i64 fp, .int .i64 fq] 44) := ⟨_, rfl⟩
          rw [← hW15]
          rw [← hW15] at B15
          have CT5 : Hid (∀ i v, (#[.int .i64 id, .int .i64 fc, .int .i64 fd, .int .i64 fp, .int .i64 fq] : Array Value)[i]? = some v → W15.cell? ⟨w14.heap.size, i, none⟩ = some v) := fun i v hv => by rw [hW15]; exact new_cell w14 _ _ i v hv
          clear hW15
          have hC : ∀ q1 : InC (fun x => Below W15.heap.size W15 x), Below w5.heap.size w5 q1.w := fun q1 => below_on B15.out rfl q1.h
          have t5 : ∀ (q1 : InC (fun x => Below W15.heap.size W15 x)) i v, (#[.int .i64 id, .int .i64 fc, .int .i64 fd, .int .i64 fp, .int .i64 fq] : Array Value)[i]? = some v → q1.w.cell? ⟨w14.heap.size, i, none⟩ = some v := fun q1 i v hv => (q1.h.cell (World.block_lt_of_cell? _ _ (CT5.out i v hv))).trans (CT5.out i v hv)
          generalize hCC : (fun x => Below W15.heap.size W15 x) = C at hC t5
          have CE := hide hCC
          have CS : Hid (Shut C) := by rw [← CE.out]; exact shut_below W15
          have CW : Hid (∀ x, C x → Below w5.heap.size w5 x) := fun x hx => by rw [← CE.out] at hx; exact below_on B15.out rfl hx
          have CT : Hid (∀ x, C x → Below w.heap.size w x) := fun x hx => below_on BW0.out rfl (KEPT.out x (CW.out x hx)).1
          have C0 : Hid (C { W15 with drawn := W15.drawn + 1 }) := by rw [← CE.out]; exact below_drawn _
          have g0 := fun q1 => (KEEP.out _ (KEPT.out _ (hC q1)).1).1
          have g1 := fun q1 => (KEEP.out _ (KEPT.out _ (hC q1)).1).2.1
          have y0 := fun q1 => (KEPT.out _ (hC q1)).2.2.1 0 _ rfl
          have y1 := fun q1 => (KEPT.out _ (hC q1)).2.2.1 1 _ rfl
          have y2 := fun q1 => (KEPT.out _ (hC q1)).2.2.1 2 _ rfl
          have y3 := fun q1 => (KEPT.out _ (hC q1)).2.2.1 3 _ rfl
          have y4 := fun q1 => (KEPT.out _ (hC q1)).2.2.1 4 _ rfl
          have z0 := fun q1 => (KEPT.out _ (hC q1)).2.2.2.1 0 _ rfl
          have z1 := fun q1 => (KEPT.out _ (hC q1)).2.2.2.1 1 _ rfl
          have v0 := fun q1 => (KEPT.out _ (hC q1)).2.2.2.2.1 0 _ rfl
          have v1 := fun q1 => (KEPT.out _ (hC q1)).2.2.2.2.1 1 _ rfl
          have v2 := fun q1 => (KEPT.out _ (hC q1)).2.2.2.2.1 2 _ rfl
          have v3 := fun q1 => (KEPT.out _ (hC q1)).2.2.2.2.1 3 _ rfl
          have v4 := fun q1 => (KEPT.out _ (hC q1)).2.2.2.2.1 4 _ rfl
          have t0 := fun q1 => t5 q1 0 _ rfl
          have t1 := fun q1 => t5 q1 1 _ rfl
          have t2 := fun q1 => t5 q1 2 _ rfl
          have t3 := fun q1 => t5 q1 3 _ rfl
          have t4 := fun q1 => t5 q1 4 _ rfl
          have OZ : Hid (∀ x, C x → OV x pz cz MB ∧ OV x pz' cz' MA) := fun x hx => (KEPT.out x (CW.out x hx)).2.2.2.2.2.2
          clear hC hCC t5 CT5
          refine wp_region_mix [(0, false), (1, false), (2, false), (3, false), (4, false), (5, false), (6, false), (7, true), (8, true), (9, false), (10, false), (11, false), (12, true), (13, true), (14, false), (15, false), (16, false), (17, true), (18, true), (19, true), (20, false), (21, false), (22, false), (23, false)] C mixed (by kernel_rfl) C0.out ?_
          refine mix_main (by rfl) ?_
          rintro ⟨x1, hx1⟩
          go_wp2
          refine ⟨C, hx1, fun _ h => h, ?_⟩
          clear hx1 x1
          refine mix_main (by rfl) ?_
          rintro ⟨x1, hx1⟩
          go_wp2
          refine ⟨C, hx1, fun _ h => h, ?_⟩
          clear hx1 x1
          refine mix_main (by rfl) ?_
          rintro ⟨x1, hx1⟩
          go_wp2
          refine ⟨C, hx1, fun _ h => h, ?_⟩
          clear hx1 x1
          refine mix_main (by rfl) ?_
          rintro ⟨x1, hx1⟩
          go_wp2
          refine ⟨C, hx1, fun _ h => h, ?_⟩
          clear hx1 x1
          refine mix_main (by rfl) ?_
          rintro ⟨x1, hx1⟩
          go_wp2
          refine ⟨C, hx1, fun _ h => h, ?_⟩
          clear hx1 x1
          refine mix_main (by rfl) ?_
          rintro ⟨x1, hx1⟩
          go_wp2
          refine ⟨C, hx1, fun _ h => h, ?_⟩
          clear hx1 x1
          refine mix_main (by rfl) ?_
          rintro ⟨x1, hx1⟩
          go_wp2
          refine ⟨C, hx1, fun _ h => h, ?_⟩
          clear hx1 x1
          repeat (refine mix_still (by rfl) ?_; go_big_quiet_step (exact rfl); refine wpQuiet_nil ?_)
          refine mix_main (by rfl) ?_
          rintro ⟨x1, hx1⟩
          go_wp2
          refine ⟨C, hx1, fun _ h => h, ?_⟩
          clear hx1 x1
          refine mix_main (by rfl) ?_
          rintro ⟨x1, hx1⟩
          go_wp2
          refine ⟨C, hx1, fun _ h => h, ?_⟩
          clear hx1 x1
          refine mix_main (by rfl) ?_
          rintro ⟨x1, hx1⟩
          go_wp2
          refine ⟨C, hx1, fun _ h => h, ?_⟩
          clear hx1 x1
          repeat (refine mix_still (by rfl) ?_; go_big_quiet_step (exact rfl); refine wpQuiet_nil ?_)
          refine mix_main (by rfl) ?_
          rintro ⟨x1, hx1⟩
          go_wp2
          refine ⟨C, hx1, fun _ h => h, ?_⟩
          clear hx1 x1
          refine mix_main (by rfl) ?_
          rintro ⟨x1, hx1⟩
          go_wp2
          refine ⟨C, hx1, fun _ h => h, ?_⟩
          clear hx1 x1
          refine mix_main (by rfl) ?_
          rintro ⟨x1, hx1⟩
          go_wp2
          refine ⟨C, hx1, fun _ h => h, ?_⟩
          clear hx1 x1
          repeat (refine mix_still (by rfl) ?_; go_big_quiet_step (exact rfl); refine wpQuiet_nil ?_)
          refine mix_main (by rfl) ?_
          rintro ⟨x1, hx1⟩
          have FX := hide (RV2.out x1 (CT.out x1 hx1))
          go_wp2_with (go_at_call 45; refine FX.out.mono ?_; rintro e w16 ⟨pR, cR, pR', cR', rfl, oR, oR', -, -, hb'⟩)
          refine ⟨From C w16, ⟨CS.out x1 _ hx1 hb', Below.refl _ _⟩, fun _ h => h.1, ?_⟩
          have OR := hide (And.intro oR oR')
          clear hx1 hb' FX x1 oR oR'
          refine mix_main (by rfl) ?_
          rintro ⟨x2, hx2⟩
          have SX2 := hide (refSame_any pz pz' pR pR' cz cz' cR cR' MB MA MB MA x2 (OZ.out x2 hx2.1).1.row (OZ.out x2 hx2.1).2.row (OR.out.1.below hx2.2).row (OR.out.2.below hx2.2).row NM.out.1 NM.out.2 NM.out.1 NM.out.2)
          rw [decide_eq_true ⟨rfl, rfl⟩] at SX2
          go_wp2_with (go_at_call 42; refine SX2.out.mono ?_; rintro e w17 ⟨rfl, hb'⟩)
          refine ⟨From C w16, from_shut CS.out w16 x2 _ hx2 hb', fun _ h => h, ?_⟩
          clear hx2 hb' SX2 x2
          refine mix_main (by rfl) ?_
          rintro ⟨x1, hx1⟩
          go_wp2
          refine ⟨From C w16, hx1, fun _ h => h, ?_⟩
          clear hx1 x1
          refine mix_main (by rfl) ?_
          rintro ⟨x1, hx1⟩
          go_wp2
          refine ⟨From C w16, hx1, fun _ h => h, ?_⟩
          clear hx1 x1
          refine mix_end ?_
          rintro ⟨x3, hx3⟩
          dsimp only
          have BZ := hide (CT.out x3 hx3.1)
          clear hx3
          go_wp2
          go_ret
          exact ⟨rfl, BZ.out⟩
    · subst hpB
      have hb3 : (0 : Int) < nb := by omega
      have hb4 : ¬ (nb : Int) = 0 := by omega
      rcases PA with ⟨ha1, ha2⟩ | ⟨ha1, bA, offA, hpA, hcA⟩
      · subst ha1 ha2
        go_wp2_with fail
        refine (FD'.out _ BX13.out).mono ?_
        rintro e w14 ⟨he, hb14⟩
        rw [show e = Ending.returned (.agg #[.int .i64 fa, .int .i64 fc, .int .i64 fd, .int .i64 fp, .int .i64 fq]) from he]
        clear he e
        have B14 := hide (below_on B13.out rfl hb14)
        have B15 := hide (below_on B14.out rfl ((Below.refl _ w14).alloc (Nat.le_refl _) (.cells #[.int .i64 fa, .int .i64 fc, .int .i64 fd, .int .i64 fp, .int .i64 fq] 44)))
        clear hb14
        rcases FC.out with ⟨h1, h2, h3, h4, h5, h6, h7, h8⟩ | ⟨h1, h2, h3, h4, h5⟩
        · subst h1 h2 h3 h4 h5 h6 h7 h8
          simp only [List.length_nil] at KEPT
          obtain ⟨b0, b2, y5, z5, w5', n5, -⟩ := KEPT.out _ B15.out
          have y0 := y5 0 _ rfl
          have y1 := y5 1 _ rfl
          have y2 := y5 2 _ rfl
          have y3 := y5 3 _ rfl
          have y4 := y5 4 _ rfl
          have v0 := w5' 0 _ rfl
          have v1 := w5' 1 _ rfl
          have v2 := w5' 2 _ rfl
          have v3 := w5' 3 _ rfl
          have v4 := w5' 4 _ rfl
          have z0 := z5 0 _ rfl
          have z1 := z5 1 _ rfl
          have n0 := n5 0 _ rfl
          have n1 := n5 1 _ rfl
          have S1 := hide (SN.out pz pz' cz cz' (w14.alloc (.cells #[.int .i64 0, .int .i64 0, .int .i64 0, .int .i64 0, .int .i64 0] 44)))
          have BX15 := hide (below_on BW0.out rfl b0)
          clear b0 b2 y5 z5 w5' n5 FC e0 e1
          by_cases hid : id = 0
          · have hidz : (id == 0) = true := by simp [hid]
            clear hid
            go_wp2_with fail
            refine S1.out.mono ?_
            rintro e w16 ⟨rfl, hb16⟩
            have BX16 := hide (below_on BX15.out rfl hb16)
            clear hb16
            go_wp2
            go_ret
            exact ⟨rfl, BX16.out⟩
          · have hidz : (id == 0) = false := by simp [hid]
            have hidn : ¬ (0 : Int) = id := fun e => hid e.symm
            have hidm : ((0 : Int) == id) = false := by simp [hidn]
            clear hid
            go_wp2_with fail
            refine S1.out.mono ?_
            rintro e w16 ⟨rfl, hb16⟩
            have BX16 := hide (below_on BX15.out rfl hb16)
            clear hb16
            go_wp2
            go_ret
            exact ⟨rfl, BX16.out⟩
        · subst h1 h3
          have RV2 := hide (fun W (hW : Below w.heap.size w W) => RV'.out W hW)
          rw [h4, h5] at RV2
          clear h4 h5 RV'
          have hidz : (id == 0) = false := by simp; omega
          have h6 : ¬ id = 0 := by omega
          clear FC e0 e1
          go_wp2_with fail
          obtain ⟨W15, hW15⟩ : ∃ W15, W15 = w14.alloc (.cells #[.int .i64 id, .int .i64 fc, .int .i64 fd, .int .i64 fp, .int .i64 fq] 44) := ⟨_, rfl⟩
          rw [← hW15]
          rw [← hW15] at B15
          have CT5 : Hid (∀ i v, (#[.int .i64 id, .int .i64 fc, .int .i64 fd, .int .i64 fp, .int .i64 fq] : Array Value)[i]? = some v → W15.cell? ⟨w14.heap.size, i, none⟩ = some v) := fun i v hv => by rw [hW15]; exact new_cell w14 _ _ i v hv
          clear hW15
          have hC : ∀ q1 : InC (fun x => Below W15.heap.size W15 x), Below w5.heap.size w5 q1.w := fun q1 => below_on B15.out rfl q1.h
          have t5 : ∀ (q1 : InC (fun x => Below W15.heap.size W15 x)) i v, (#[.int .i64 id, .int .i64 fc, .int .i64 fd, .int .i64 fp, .int .i64 fq] : Array Value)[i]? = some v → q1.w.cell? ⟨w14.heap.size, i, none⟩ = some v := fun q1 i v hv => (q1.h.cell (World.block_lt_of_cell? _ _ (CT5.out i v hv))).trans (CT5.out i v hv)
          generalize hCC : (fun x => Below W15.heap.size W15 x) = C at hC t5
          have CE := hide hCC
          have CS : Hid (Shut C) := by rw [← CE.out]; exact shut_below W15
          have CW : Hid (∀ x, C x → Below w5.heap.size w5 x) := fun x hx => by rw [← CE.out] at hx; exact below_on B15.out rfl hx
          have CT : Hid (∀ x, C x → Below w.heap.size w x) := fun x hx => below_on BW0.out rfl (KEPT.out x (CW.out x hx)).1
          have C0 : Hid (C { W15 with drawn := W15.drawn + 1 }) := by rw [← CE.out]; exact below_drawn _
          have g0 := fun q1 => (KEEP.out _ (KEPT.out _ (hC q1)).1).1
          have g1 := fun q1 => (KEEP.out _ (KEPT.out _ (hC q1)).1).2.1
          have y0 := fun q1 => (KEPT.out _ (hC q1)).2.2.1 0 _ rfl
          have y1 := fun q1 => (KEPT.out _ (hC q1)).2.2.1 1 _ rfl
          have y2 := fun q1 => (KEPT.out _ (hC q1)).2.2.1 2 _ rfl
          have y3 := fun q1 => (KEPT.out _ (hC q1)).2.2.1 3 _ rfl
          have y4 := fun q1 => (KEPT.out _ (hC q1)).2.2.1 4 _ rfl
          have z0 := fun q1 => (KEPT.out _ (hC q1)).2.2.2.1 0 _ rfl
          have z1 := fun q1 => (KEPT.out _ (hC q1)).2.2.2.1 1 _ rfl
          have v0 := fun q1 => (KEPT.out _ (hC q1)).2.2.2.2.1 0 _ rfl
          have v1 := fun q1 => (KEPT.out _ (hC q1)).2.2.2.2.1 1 _ rfl
          have v2 := fun q1 => (KEPT.out _ (hC q1)).2.2.2.2.1 2 _ rfl
          have v3 := fun q1 => (KEPT.out _ (hC q1)).2.2.2.2.1 3 _ rfl
          have v4 := fun q1 => (KEPT.out _ (hC q1)).2.2.2.2.1 4 _ rfl
          have t0 := fun q1 => t5 q1 0 _ rfl
          have t1 := fun q1 => t5 q1 1 _ rfl
          have t2 := fun q1 => t5 q1 2 _ rfl
          have t3 := fun q1 => t5 q1 3 _ rfl
          have t4 := fun q1 => t5 q1 4 _ rfl
          have OZ : Hid (∀ x, C x → OV x pz cz MB ∧ OV x pz' cz' MA) := fun x hx => (KEPT.out x (CW.out x hx)).2.2.2.2.2.2
          clear hC hCC t5 CT5
          refine wp_region_mix [(0, false), (1, false), (2, false), (3, false), (4, false), (5, false), (6, false), (7, true), (8, true), (9, false), (10, false), (11, false), (12, true), (13, true), (14, false), (15, false), (16, false), (17, true), (18, true), (19, true), (20, false), (21, false), (22, false), (23, false)] C mixed (by kernel_rfl) C0.out ?_
          refine mix_main (by rfl) ?_
          rintro ⟨x1, hx1⟩
          go_wp2
          refine ⟨C, hx1, fun _ h => h, ?_⟩
          clear hx1 x1
          refine mix_main (by rfl) ?_
          rintro ⟨x1, hx1⟩
          go_wp2
          refine ⟨C, hx1, fun _ h => h, ?_⟩
          clear hx1 x1
          refine mix_main (by rfl) ?_
          rintro ⟨x1, hx1⟩
          go_wp2
          refine ⟨C, hx1, fun _ h => h, ?_⟩
          clear hx1 x1
          refine mix_main (by rfl) ?_
          rintro ⟨x1, hx1⟩
          go_wp2
          refine ⟨C, hx1, fun _ h => h, ?_⟩
          clear hx1 x1
          refine mix_main (by rfl) ?_
          rintro ⟨x1, hx1⟩
          go_wp2
          refine ⟨C, hx1, fun _ h => h, ?_⟩
          clear hx1 x1
          refine mix_main (by rfl) ?_
          rintro ⟨x1, hx1⟩
          go_wp2
          refine ⟨C, hx1, fun _ h => h, ?_⟩
          clear hx1 x1
          refine mix_main (by rfl) ?_
          rintro ⟨x1, hx1⟩
          go_wp2
          refine ⟨C, hx1, fun _ h => h, ?_⟩
          clear hx1 x1
          repeat (refine mix_still (by rfl) ?_; go_big_quiet_step (exact rfl); refine wpQuiet_nil ?_)
          refine mix_main (by rfl) ?_
          rintro ⟨x1, hx1⟩
          go_wp2
          refine ⟨C, hx1, fun _ h => h, ?_⟩
          clear hx1 x1
          refine mix_main (by rfl) ?_
          rintro ⟨x1, hx1⟩
          go_wp2
          refine ⟨C, hx1, fun _ h => h, ?_⟩
          clear hx1 x1
          refine mix_main (by rfl) ?_
          rintro ⟨x1, hx1⟩
          go_wp2
          refine ⟨C, hx1, fun _ h => h, ?_⟩
          clear hx1 x1
          repeat (refine mix_still (by rfl) ?_; go_big_quiet_step (exact rfl); refine wpQuiet_nil ?_)
          refine mix_main (by rfl) ?_
          rintro ⟨x1, hx1⟩
          go_wp2
          refine ⟨C, hx1, fun _ h => h, ?_⟩
          clear hx1 x1
          refine mix_main (by rfl) ?_
          rintro ⟨x1, hx1⟩
          go_wp2
          refine ⟨C, hx1, fun _ h => h, ?_⟩
          clear hx1 x1
          refine mix_main (by rfl) ?_
          rintro ⟨x1, hx1⟩
          go_wp2
          refine ⟨C, hx1, fun _ h => h, ?_⟩
          clear hx1 x1
          repeat (refine mix_still (by rfl) ?_; go_big_quiet_step (exact rfl); refine wpQuiet_nil ?_)
          refine mix_main (by rfl) ?_
          rintro ⟨x1, hx1⟩
          have FX := hide (RV2.out x1 (CT.out x1 hx1))
          go_wp2_with (go_at_call 45; refine FX.out.mono ?_; rintro e w16 ⟨pR, cR, pR', cR', rfl, oR, oR', -, -, hb'⟩)
          refine ⟨From C w16, ⟨CS.out x1 _ hx1 hb', Below.refl _ _⟩, fun _ h => h.1, ?_⟩
          have OR := hide (And.intro oR oR')
          clear hx1 hb' FX x1 oR oR'
          refine mix_main (by rfl) ?_
          rintro ⟨x2, hx2⟩
          have SX2 := hide (refSame_any pz pz' pR pR' cz cz' cR cR' MB MA MB MA x2 (OZ.out x2 hx2.1).1.row (OZ.out x2 hx2.1).2.row (OR.out.1.below hx2.2).row (OR.out.2.below hx2.2).row NM.out.1 NM.out.2 NM.out.1 NM.out.2)
          rw [decide_eq_true ⟨rfl, rfl⟩] at SX2
          go_wp2_with (go_at_call 42; refine SX2.out.mono ?_; rintro e w17 ⟨rfl, hb'⟩)
          refine ⟨From C w16, from_shut CS.out w16 x2 _ hx2 hb', fun _ h => h, ?_⟩
          clear hx2 hb' SX2 x2
          refine mix_main (by rfl) ?_
          rintro ⟨x1, hx1⟩
          go_wp2
          refine ⟨From C w16, hx1, fun _ h => h, ?_⟩
          clear hx1 x1
          refine mix_main (by rfl) ?_
          rintro ⟨x1, hx1⟩
          go_wp2
          refine ⟨From C w16, hx1, fun _ h => h, ?_⟩
          clear hx1 x1
          refine mix_end ?_
          rintro ⟨x3, hx3⟩
          dsimp only
          have BZ := hide (CT.out x3 hx3.1)
          clear hx3
          go_wp2
          go_ret
          exact ⟨rfl, BZ.out⟩
      · subst hpA
        have ha3 : (0 : Int) < na := by omega
        have ha4 : ¬ (na : Int) = 0 := by omega
        go_wp2_with fail
        refine (FD'.out _ BX13.out).mono ?_
        rintro e w14 ⟨he, hb14⟩
        rw [show e = Ending.returned (.agg #[.int .i64 fa, .int .i64 fc, .int .i64 fd, .int .i64 fp, .int .i64 fq]) from he]
        clear he e
        have B14 := hide (below_on B13.out rfl hb14)
        have B15 := hide (below_on B14.out rfl ((Below.refl _ w14).alloc (Nat.le_refl _) (.cells #[.int .i64 fa, .int .i64 fc, .int .i64 fd, .int .i64 fp, .int .i64 fq] 44)))
        clear hb14
        rcases FC.out with ⟨h1, h2, h3, h4, h5, h6, h7, h8⟩ | ⟨h1, h2, h3, h4, h5⟩
        · subst h1 h2 h3 h4 h5 h6 h7 h8
          simp only [List.length_nil] at KEPT
          obtain ⟨b0, b2, y5, z5, w5', n5, -⟩ := KEPT.out _ B15.out
          have y0 := y5 0 _ rfl
          have y1 := y5 1 _ rfl
          have y2 := y5 2 _ rfl
          have y3 := y5 3 _ rfl
          have y4 := y5 4 _ rfl
          have v0 := w5' 0 _ rfl
          have v1 := w5' 1 _ rfl
          have v2 := w5' 2 _ rfl
          have v3 := w5' 3 _ rfl
          have v4 := w5' 4 _ rfl
          have z0 := z5 0 _ rfl
          have z1 := z5 1 _ rfl
          have n0 := n5 0 _ rfl
          have n1 := n5 1 _ rfl
          have S1 := hide (SN.out pz pz' cz cz' (w14.alloc (.cells #[.int .i64 0, .int .i64 0, .int .i64 0, .int .i64 0, .int .i64 0] 44)))
          have BX15 := hide (below_on BW0.out rfl b0)
          clear b0 b2 y5 z5 w5' n5 FC e0 e1
          by_cases hid : id = 0
          · have hidz : (id == 0) = true := by simp [hid]
            clear hid
            go_wp2_with fail
            refine S1.out.mono ?_
            rintro e w16 ⟨rfl, hb16⟩
            have BX16 := hide (below_on BX15.out rfl hb16)
            clear hb16
            go_wp2
            go_ret
            exact ⟨rfl, BX16.out⟩
          · have hidz : (id == 0) = false := by simp [hid]
            have hidn : ¬ (0 : Int) = id := fun e => hid e.symm
            have hidm : ((0 : Int) == id) = false := by simp [hidn]
            clear hid
            go_wp2_with fail
            refine S1.out.mono ?_
            rintro e w16 ⟨rfl, hb16⟩
            have BX16 := hide (below_on BX15.out rfl hb16)
            clear hb16
            go_wp2
            go_ret
            exact ⟨rfl, BX16.out⟩
        · subst h1 h3
          have RV2 := hide (fun W (hW : Below w.heap.size w W) => RV'.out W hW)
          rw [h4, h5] at RV2
          clear h4 h5 RV'
          have hidz : (id == 0) = false := by simp; omega
          have h6 : ¬ id = 0 := by omega
          clear FC e0 e1
          go_wp2_with fail
          obtain ⟨W15, hW15⟩ : ∃ W15, W15 = w14.alloc (.cells #[.int .i64 id, .int .i64 fc, .int .i64 fd, .int .i64 fp, .int .i64 fq] 44) := ⟨_, rfl⟩
          rw [← hW15]
          rw [← hW15] at B15
          have CT5 : Hid (∀ i v, (#[.int .i64 id, .int .i64 fc, .int .i64 fd, .int .i64 fp, .int .i64 fq] : Array Value)[i]? = some v → W15.cell? ⟨w14.heap.size, i, none⟩ = some v) := fun i v hv => by rw [hW15]; exact new_cell w14 _ _ i v hv
          clear hW15
          have hC : ∀ q1 : InC (fun x => Below W15.heap.size W15 x), Below w5.heap.size w5 q1.w := fun q1 => below_on B15.out rfl q1.h
          have t5 : ∀ (q1 : InC (fun x => Below W15.heap.size W15 x)) i v, (#[.int .i64 id, .int .i64 fc, .int .i64 fd, .int .i64 fp, .int .i64 fq] : Array Value)[i]? = some v → q1.w.cell? ⟨w14.heap.size, i, none⟩ = some v := fun q1 i v hv => (q1.h.cell (World.block_lt_of_cell? _ _ (CT5.out i v hv))).trans (CT5.out i v hv)
          generalize hCC : (fun x => Below W15.heap.size W15 x) = C at hC t5
          have CE := hide hCC
          have CS : Hid (Shut C) := by rw [← CE.out]; exact shut_below W15
          have CW : Hid (∀ x, C x → Below w5.heap.size w5 x) := fun x hx => by rw [← CE.out] at hx; exact below_on B15.out rfl hx
          have CT : Hid (∀ x, C x → Below w.heap.size w x) := fun x hx => below_on BW0.out rfl (KEPT.out x (CW.out x hx)).1
          have C0 : Hid (C { W15 with drawn := W15.drawn + 1 }) := by rw [← CE.out]; exact below_drawn _
          have g0 := fun q1 => (KEEP.out _ (KEPT.out _ (hC q1)).1).1
          have g1 := fun q1 => (KEEP.out _ (KEPT.out _ (hC q1)).1).2.1
          have y0 := fun q1 => (KEPT.out _ (hC q1)).2.2.1 0 _ rfl
          have y1 := fun q1 => (KEPT.out _ (hC q1)).2.2.1 1 _ rfl
          have y2 := fun q1 => (KEPT.out _ (hC q1)).2.2.1 2 _ rfl
          have y3 := fun q1 => (KEPT.out _ (hC q1)).2.2.1 3 _ rfl
          have y4 := fun q1 => (KEPT.out _ (hC q1)).2.2.1 4 _ rfl
          have z0 := fun q1 => (KEPT.out _ (hC q1)).2.2.2.1 0 _ rfl
          have z1 := fun q1 => (KEPT.out _ (hC q1)).2.2.2.1 1 _ rfl
          have v0 := fun q1 => (KEPT.out _ (hC q1)).2.2.2.2.1 0 _ rfl
          have v1 := fun q1 => (KEPT.out _ (hC q1)).2.2.2.2.1 1 _ rfl
          have v2 := fun q1 => (KEPT.out _ (hC q1)).2.2.2.2.1 2 _ rfl
          have v3 := fun q1 => (KEPT.out _ (hC q1)).2.2.2.2.1 3 _ rfl
          have v4 := fun q1 => (KEPT.out _ (hC q1)).2.2.2.2.1 4 _ rfl
          have t0 := fun q1 => t5 q1 0 _ rfl
          have t1 := fun q1 => t5 q1 1 _ rfl
          have t2 := fun q1 => t5 q1 2 _ rfl
          have t3 := fun q1 => t5 q1 3 _ rfl
          have t4 := fun q1 => t5 q1 4 _ rfl
          have OZ : Hid (∀ x, C x → OV x pz cz MB ∧ OV x pz' cz' MA) := fun x hx => (KEPT.out x (CW.out x hx)).2.2.2.2.2.2
          clear hC hCC t5 CT5
          refine wp_region_mix [(0, false), (1, false), (2, false), (3, false), (4, false), (5, false), (6, false), (7, true), (8, true), (9, false), (10, false), (11, false), (12, true), (13, true), (14, false), (15, false), (16, false), (17, true), (18, true), (19, true), (20, false), (21, false), (22, false), (23, false)] C mixed (by kernel_rfl) C0.out ?_
          refine mix_main (by rfl) ?_
          rintro ⟨x1, hx1⟩
          go_wp2
          refine ⟨C, hx1, fun _ h => h, ?_⟩
          clear hx1 x1
          refine mix_main (by rfl) ?_
          rintro ⟨x1, hx1⟩
          go_wp2
          refine ⟨C, hx1, fun _ h => h, ?_⟩
          clear hx1 x1
          refine mix_main (by rfl) ?_
          rintro ⟨x1, hx1⟩
          go_wp2
          refine ⟨C, hx1, fun _ h => h, ?_⟩
          clear hx1 x1
          refine mix_main (by rfl) ?_
          rintro ⟨x1, hx1⟩
          go_wp2
          refine ⟨C, hx1, fun _ h => h, ?_⟩
          clear hx1 x1
          refine mix_main (by rfl) ?_
          rintro ⟨x1, hx1⟩
          go_wp2
          refine ⟨C, hx1, fun _ h => h, ?_⟩
          clear hx1 x1
          refine mix_main (by rfl) ?_
          rintro ⟨x1, hx1⟩
          go_wp2
          refine ⟨C, hx1, fun _ h => h, ?_⟩
          clear hx1 x1
          refine mix_main (by rfl) ?_
          rintro ⟨x1, hx1⟩
          go_wp2
          refine ⟨C, hx1, fun _ h => h, ?_⟩
          clear hx1 x1
          repeat (refine mix_still (by rfl) ?_; go_big_quiet_step (exact rfl); refine wpQuiet_nil ?_)
          refine mix_main (by rfl) ?_
          rintro ⟨x1, hx1⟩
          go_wp2
          refine ⟨C, hx1, fun _ h => h, ?_⟩
          clear hx1 x1
          refine mix_main (by rfl) ?_
          rintro ⟨x1, hx1⟩
          go_wp2
          refine ⟨C, hx1, fun _ h => h, ?_⟩
          clear hx1 x1
          refine mix_main (by rfl) ?_
          rintro ⟨x1, hx1⟩
          go_wp2
          refine ⟨C, hx1, fun _ h => h, ?_⟩
          clear hx1 x1
          repeat (refine mix_still (by rfl) ?_; go_big_quiet_step (exact rfl); refine wpQuiet_nil ?_)
          refine mix_main (by rfl) ?_
          rintro ⟨x1, hx1⟩
          go_wp2
          refine ⟨C, hx1, fun _ h => h, ?_⟩
          clear hx1 x1
          refine mix_main (by rfl) ?_
          rintro ⟨x1, hx1⟩
          go_wp2
          refine ⟨C, hx1, fun _ h => h, ?_⟩
          clear hx1 x1
          refine mix_main (by rfl) ?_
          rintro ⟨x1, hx1⟩
          go_wp2
          refine ⟨C, hx1, fun _ h => h, ?_⟩
          clear hx1 x1
          repeat (refine mix_still (by rfl) ?_; go_big_quiet_step (exact rfl); refine wpQuiet_nil ?_)
          refine mix_main (by rfl) ?_
          rintro ⟨x1, hx1⟩
          have FX := hide (RV2.out x1 (CT.out x1 hx1))
          go_wp2_with (go_at_call 45; refine FX.out.mono ?_; rintro e w16 ⟨pR, cR, pR', cR', rfl, oR, oR', -, -, hb'⟩)
          refine ⟨From C w16, ⟨CS.out x1 _ hx1 hb', Below.refl _ _⟩, fun _ h => h.1, ?_⟩
          have OR := hide (And.intro oR oR')
          clear hx1 hb' FX x1 oR oR'
          refine mix_main (by rfl) ?_
          rintro ⟨x2, hx2⟩
          have SX2 := hide (refSame_any pz pz' pR pR' cz cz' cR cR' MB MA MB MA x2 (OZ.out x2 hx2.1).1.row (OZ.out x2 hx2.1).2.row (OR.out.1.below hx2.2).row (OR.out.2.below hx2.2).row NM.out.1 NM.out.2 NM.out.1 NM.out.2)
          rw [decide_eq_true ⟨rfl, rfl⟩] at SX2
          go_wp2_with (go_at_call 42; refine SX2.out.mono ?_; rintro e w17 ⟨rfl, hb'⟩)
          refine ⟨From C w16, from_shut CS.out w16 x2 _ hx2 hb', fun _ h => h, ?_⟩
          clear hx2 hb' SX2 x2
          refine mix_main (by rfl) ?_
          rintro ⟨x1, hx1⟩
          go_wp2
          refine ⟨From C w16, hx1, fun _ h => h, ?_⟩
          clear hx1 x1
          refine mix_main (by rfl) ?_
          rintro ⟨x1, hx1⟩
          go_wp2
          refine ⟨From C w16, hx1, fun _ h => h, ?_⟩
          clear hx1 x1
          refine mix_end ?_
          rintro ⟨x3, hx3⟩
          dsimp only
          have BZ := hide (CT.out x3 hx3.1)
          clear hx3
          go_wp2
          go_ret
          exact ⟨rfl, BZ.out⟩
  · have HN := bad_facts (fo := (fa, fc, fd, fp, fq)) ALL.out.2.2.2.2.2.2.2.2.2 hbe ALL.out.1 ALL.out.2.1 ALL.out.2.2.1 ALL.out.2.2.2.1 ALL.out.2.2.2.2.1 ALL.out.2.2.2.2.2.1 ALL.out.2.2.2.2.2.2.1 ALL.out.2.2.2.2.2.2.2.1 ALL.out.2.2.2.2.2.2.2.2.1
    obtain ⟨h1, h2, h3, h4, h5, h6, h7, h8, h9⟩ := HN
    cases h1
    subst h2 h3 h4 h5 h6 h7 h8 h9
    clear ALL RD FD RV LEN HB HA
    have SN : Hid (∀ (u u' : Option Addr) (x x' : Nat) (W : World), Calls Try.prog 42 #[.agg #[.slice u 0 x, .slice u' 0 x'], .agg #[.slice none 0 0, .slice none 0 0]] W fun e w' => e = .returned (.bool true) ∧ Below W.heap.size W w') := fun u u' x x' W => (refSame_any u u' none none x x' 0 0 [] [] [] [] W (.inl rfl) (.inl rfl) (.inl rfl) (.inl rfl) (by simp) (by simp) (by simp) (by simp)).mono fun _ _ ⟨he, hb⟩ => ⟨by rw [he]; simp, hb⟩
    simp only [List.length_nil] at KX KEPT
    obtain ⟨b0, b2, y5, z5, w5', n5, -⟩ := KEPT.out x9 B9.out
    obtain ⟨x0, x1, -⟩ := KX.out x9 b2
    have n0 := n5 0 _ rfl
    have n1 := n5 1 _ rfl
    have S1 := hide (SN.out px px' cx cx' x9)
    clear b0 b2 y5 z5 w5' n5
    go_wp2_with fail
    refine S1.out.mono ?_
    rintro e w10 ⟨rfl, hb10⟩
    have B10 := hide (below_on B9.out rfl hb10)
    obtain ⟨b0, b2, y5, z5, w5', n5, -⟩ := KEPT.out w10 B10.out
    have n0' := n5 0 _ rfl
    have n1' := n5 1 _ rfl
    have z0 := z5 0 _ rfl
    have z1 := z5 1 _ rfl
    have S2 := hide (SN.out pz pz' cz cz' w10)
    clear hb10 b0 b2 y5 z5 w5' n5 SN n0 n1 x0 x1
    go_wp2_with fail
    refine S2.out.mono ?_
    rintro e w11 ⟨rfl, hb11⟩
    have B11 := hide (below_on B10.out rfl hb11)
    obtain ⟨b0, b2, y5, z5, w5', n5, -⟩ := KEPT.out w11 B11.out
    have y0 := y5 0 _ rfl
    have y1 := y5 1 _ rfl
    have y2 := y5 2 _ rfl
    have y3 := y5 3 _ rfl
    have y4 := y5 4 _ rfl
    have v0 := w5' 0 _ rfl
    have v1 := w5' 1 _ rfl
    have v2 := w5' 2 _ rfl
    have v3 := w5' 3 _ rfl
    have v4 := w5' 4 _ rfl
    have BX := hide (below_on BW0.out rfl b0)
    clear hb11 b0 b2 y5 z5 w5' n5 n0' n1' z0 z1
    go_wp2
    go_ret
    exact ⟨rfl, BX.out⟩
end Go.Proofs.Ytbphljnncbiddaa.Rk
