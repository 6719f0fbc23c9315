/-
  Package text by contracts: Check.
-/
import Derived.Test.YthdjfhnhjiageaaGreatDoorTxW3
import Derived.Test.YthdjfhnhjiageaaGreatDoorMgX
namespace Go.Proofs.YthdjfhnhjiageaaGreatDoor.Tx
open Go.RowKit Go.Lib Go.Sort Go.Proofs.YthdjfhnhjiageaaGreatDoor.Mix

theorem wp_region_inC {P : Program} {id : Nat} {Q : Exit → Act → World → Prop} {a : Act} {w : World} {l : List Oper} (C : World → Prop) (hm : P.follows .mixedOrders = true) (hB : Region.lexB .any l.toArray = true) (hC : C w.drew)
    (h : wpQuiet P l.toArray (fun x => ∃ p : InC C, x = p.w) (fun a' => ∀ w', (∃ p : InC C, w' = p.w) → Q .normal a' w') l a) : (Code.region id l.toArray true).wp P Q a w :=
  wp_region_quiet (C := fun x => ∃ p : InC C, x = p.w) hm hB ⟨⟨_, hC⟩, rfl⟩ (by simpa using h)
theorem calls_inC {P : Program} {f : FuncId} {args : Array Value} {C : World → Prop} {v : Value} (hs : ∀ x y, C x → Below x.heap.size x y → C y) (p : InC C)
    (h : Calls P f args p.w fun e w' => e = .returned v ∧ Below p.w.heap.size p.w w') : Calls P f args p.w fun e w'' => e = .returned v ∧ ∃ p' : InC C, w'' = p'.w :=
  h.mono fun _ w' ⟨he, hb⟩ => ⟨he, ⟨w', hs _ _ p.h hb⟩, rfl⟩
/-- the cells of a command's own block stay. -/
theorem cd_cells {c : Cd} {B : Nat} {W X : World} (h : W.heap[B]? = some (.cells #[.int .i64 c.kind, .int .i64 c.ac, .int .i64 c.mkt, .int .i64 c.n, .int .i64 c.oi, .int .i64 c.oa, .int .i64 c.sd, .int .i64 c.pr, .int .i64 c.qt, .int .i64 c.how, .bool c.red] 28 (0, 0))) (hb : Below W.heap.size W X) (i : Nat) {v : Value}
    (hv : #[Value.int .i64 c.kind, .int .i64 c.ac, .int .i64 c.mkt, .int .i64 c.n, .int .i64 c.oi, .int .i64 c.oa, .int .i64 c.sd, .int .i64 c.pr, .int .i64 c.qt, .int .i64 c.how, .bool c.red][i]? = some v) : X.cell? ⟨B, i, none⟩ = some v := by
  have h2 : X.heap[B]? = W.heap[B]? := hb.block B (Array.getElem?_eq_some_iff.1 h).1
  rw [h] at h2
  simp only [World.cell?, h2]
  exact hv
abbrev CdAt (W : World) (B : Nat) (c : Cd) : Prop := W.heap[B]? = some (.cells #[.int .i64 c.kind, .int .i64 c.ac, .int .i64 c.mkt, .int .i64 c.n, .int .i64 c.oi, .int .i64 c.oa, .int .i64 c.sd, .int .i64 c.pr, .int .i64 c.qt, .int .i64 c.how, .bool c.red] 28 (0, 0))
theorem cdAt_below {W X : World} {B : Nat} {c : Cd} (h : CdAt W B c) (hb : Below W.heap.size W X) : CdAt X B c := by
  show X.heap[B]? = _
  rw [hb.block B (Array.getElem?_eq_some_iff.1 h).1]
  exact h
theorem bs_cases (x : Bs) : x = [] ∨ ∃ a l, x = a :: l := by
  cases x with
  | nil => exact .inl rfl
  | cons a l => exact .inr ⟨a, l, rfl⟩
theorem side_wrap {sd : Int} (h : i64 sd) : atW [wSell, [], wBuy, [], [], [], [], []] (IntKind.i64.wrap (sd + 1)) = atW sidesL (sd + 1) := by
  unfold i64 at h
  by_cases hm : sd = 9223372036854775807
  · subst hm; rfl
  · rw [IntWalk.i64_in (sd + 1) ⟨by omega, by omega⟩]; rfl
set_option maxHeartbeats 4000000 in
set_option maxRecDepth 100000 in
theorem check_any (c : Cd) (w : World) (hf : i64 c.sd) : Calls Tryz.prog 46 #[cdV c] w fun e w' => e = .returned (.int .i64 (checkC c)) ∧ Below w.heap.size w w' := by
  have mixed : Tryz.prog.follows .mixedOrders = true := by kernel_rfl
  obtain ⟨R, hR⟩ : ∃ R, R = checkC c := ⟨_, rfl⟩
  rw [← hR]
  unfold checkC at hR
  have eq := eqC c (usedC c)
  obtain ⟨kind, ac, mkt, n, oi, oa, sd, pr, qt, how, red⟩ := c
  obtain ⟨u, hu⟩ : ∃ u, u = usedC ⟨kind, ac, mkt, n, oi, oa, sd, pr, qt, how, red⟩ := ⟨_, rfl⟩
  have US := hide (fun w => used_any ⟨kind, ac, mkt, n, oi, oa, sd, pr, qt, how, red⟩ w)
  rw [← hu] at eq hR US
  obtain ⟨W, hW⟩ : ∃ W, W = w.alloc (cdO ⟨kind, ac, mkt, n, oi, oa, sd, pr, qt, how, red⟩) := ⟨_, rfl⟩
  have AT : CdAt W w.heap.size ⟨kind, ac, mkt, n, oi, oa, sd, pr, qt, how, red⟩ := by show W.heap[w.heap.size]? = _; rw [hW]; exact heap_alloc_new w _
  have BW : Hid (Below w.heap.size w W) := by rw [hW]; exact below_alloc w _
  have HW := hide hW
  have HR := hide hR
  clear hu hW hR
  dsimp only at HR
  have hC : ∀ q : InC (fun x => Below W.heap.size W x), Below W.heap.size W q.w := fun q => q.h
  generalize hCC : (fun x => Below W.heap.size W x) = C at hC
  have CS : ∀ x y, C x → Below x.heap.size x y → C y := by rw [← hCC]; exact fun x y hx hy => onward hx hy
  have C0 : Hid (C W.drew) := by rw [← hCC]; exact (Below.refl _ W).drew
  have CB := hide hC
  have k0 : ∀ q : InC C, q.w.cell? ⟨w.heap.size, 0, none⟩ = some (.int .i64 kind) := fun q => cd_cells AT (hC q) 0 rfl
  have k1 : ∀ q : InC C, q.w.cell? ⟨w.heap.size, 1, none⟩ = some (.int .i64 ac) := fun q => cd_cells AT (hC q) 1 rfl
  have k2 : ∀ q : InC C, q.w.cell? ⟨w.heap.size, 2, none⟩ = some (.int .i64 mkt) := fun q => cd_cells AT (hC q) 2 rfl
  have k3 : ∀ q : InC C, q.w.cell? ⟨w.heap.size, 3, none⟩ = some (.int .i64 n) := fun q => cd_cells AT (hC q) 3 rfl
  have k4 : ∀ q : InC C, q.w.cell? ⟨w.heap.size, 4, none⟩ = some (.int .i64 oi) := fun q => cd_cells AT (hC q) 4 rfl
  have k5 : ∀ q : InC C, q.w.cell? ⟨w.heap.size, 5, none⟩ = some (.int .i64 oa) := fun q => cd_cells AT (hC q) 5 rfl
  have k6 : ∀ q : InC C, q.w.cell? ⟨w.heap.size, 6, none⟩ = some (.int .i64 sd) := fun q => cd_cells AT (hC q) 6 rfl
  have k7 : ∀ q : InC C, q.w.cell? ⟨w.heap.size, 7, none⟩ = some (.int .i64 pr) := fun q => cd_cells AT (hC q) 7 rfl
  have k8 : ∀ q : InC C, q.w.cell? ⟨w.heap.size, 8, none⟩ = some (.int .i64 qt) := fun q => cd_cells AT (hC q) 8 rfl
  have k9 : ∀ q : InC C, q.w.cell? ⟨w.heap.size, 9, none⟩ = some (.int .i64 how) := fun q => cd_cells AT (hC q) 9 rfl
  have k10 : ∀ q : InC C, q.w.cell? ⟨w.heap.size, 10, none⟩ = some (.bool red) := fun q => cd_cells AT (hC q) 10 rfl
  have K1 := hide (fun q : InC C => calls_inC CS q (kinds_any q.w))
  have K2 := hide (fun q : InC C => calls_inC CS q (at_any [] wDeposit wWithdraw wPlace wCancel wIndex wFund wSweep kind q.w))
  obtain ⟨kw, hkw⟩ : ∃ kw, kw = atW kindsL kind := ⟨_, rfl⟩
  have e1 : atW [[], wDeposit, wWithdraw, wPlace, wCancel, wIndex, wFund, wSweep] kind = kw := hkw.symm
  rw [e1] at K2
  rw [← hkw] at HR
  clear hC hCC CS hkw e1
  go_enter Tryz.func46, Tryz.ntmps46
  go_wp2_with (rw [← HW.out])
  refine wp_region_inC C mixed (by kernel_rfl) C0.out ?_
  repeat (go_big_quiet_step (first | (go_at_call 47; refine K1.out _) | (go_at_call 48; refine K2.out _) | exact rfl))
  refine wpQuiet_nil ?_
  intro _ hwq
  obtain ⟨q6, hwq'⟩ := hwq
  subst hwq'
  have HC1 := hide (CB.out q6)
  obtain ⟨X, hX⟩ : ∃ X, X = q6.w := ⟨_, rfl⟩
  rw [← hX] at HC1 ⊢
  clear hX k0 k1 k2 k3 k4 k5 k6 k7 k8 k9 k10 K1 K2 CB C0
  clear q6
  clear C
  rcases bs_cases kw with rfl | ⟨ka, kl, rfl⟩
  · have hR4 : Hid (R = 4) := by have := HR.out; rw [if_pos rfl] at this; exact this
    clear HR
    go_wp2
    go_ret
    exact ⟨by rw [hR4.out]; rfl, onward BW.out HC1.out⟩
  have HR1 : Hid (R = if kind = 3 ∧ (atW howsL how = [] ∨ atW sidesL (sd + 1) = []) then 4 else if sameC ⟨kind, ac, mkt, n, oi, oa, sd, pr, qt, how, red⟩ u = true then 0 else 3) := by have := HR.out; rw [if_neg (by simp)] at this; exact this
  have AX := cdAt_below AT HC1.out
  have BX := hide (onward BW.out HC1.out)
  clear HR AT BW HC1
  by_cases h3 : kind = 3
  · subst h3
    obtain ⟨hw, hhw⟩ : ∃ hw, hw = atW howsL how := ⟨_, rfl⟩
    obtain ⟨t, ht⟩ : ∃ t, IntKind.i64.wrap (sd + 1) = t := ⟨_, rfl⟩
    obtain ⟨sw, hsw⟩ : ∃ sw, sw = atW sidesL (sd + 1) := ⟨_, rfl⟩
    have e2 : atW [wSell, [], wBuy, [], [], [], [], []] t = sw := by rw [← ht, side_wrap hf, hsw]
    have e3 : atW [[], wLimit, wNow, wWhole, wPost, [], [], []] how = hw := hhw.symm
    rw [← hhw, ← hsw] at HR1
    have hC : ∀ q : InC (fun x => Below X.heap.size X x), Below X.heap.size X q.w := fun q => q.h
    generalize hCC : (fun x => Below X.heap.size X x) = C at hC
    have CS : ∀ x y, C x → Below x.heap.size x y → C y := by rw [← hCC]; exact fun x y hx hy => onward hx hy
    have C0 : Hid (C X.drew) := by rw [← hCC]; exact (Below.refl _ X).drew
    have CB := hide hC
    obtain ⟨kind, hkind⟩ : ∃ kind : Int, kind = 3 := ⟨_, rfl⟩
    rw [← hkind] at AX
    have k0 : ∀ q : InC C, q.w.cell? ⟨w.heap.size, 0, none⟩ = some (.int .i64 kind) := fun q => cd_cells AX (hC q) 0 rfl
    have k1 : ∀ q : InC C, q.w.cell? ⟨w.heap.size, 1, none⟩ = some (.int .i64 ac) := fun q => cd_cells AX (hC q) 1 rfl
    have k2 : ∀ q : InC C, q.w.cell? ⟨w.heap.size, 2, none⟩ = some (.int .i64 mkt) := fun q => cd_cells AX (hC q) 2 rfl
    have k3 : ∀ q : InC C, q.w.cell? ⟨w.heap.size, 3, none⟩ = some (.int .i64 n) := fun q => cd_cells AX (hC q) 3 rfl
    have k4 : ∀ q : InC C, q.w.cell? ⟨w.heap.size, 4, none⟩ = some (.int .i64 oi) := fun q => cd_cells AX (hC q) 4 rfl
    have k5 : ∀ q : InC C, q.w.cell? ⟨w.heap.size, 5, none⟩ = some (.int .i64 oa) := fun q => cd_cells AX (hC q) 5 rfl
    have k6 : ∀ q : InC C, q.w.cell? ⟨w.heap.size, 6, none⟩ = some (.int .i64 sd) := fun q => cd_cells AX (hC q) 6 rfl
    have k7 : ∀ q : InC C, q.w.cell? ⟨w.heap.size, 7, none⟩ = some (.int .i64 pr) := fun q => cd_cells AX (hC q) 7 rfl
    have k8 : ∀ q : InC C, q.w.cell? ⟨w.heap.size, 8, none⟩ = some (.int .i64 qt) := fun q => cd_cells AX (hC q) 8 rfl
    have k9 : ∀ q : InC C, q.w.cell? ⟨w.heap.size, 9, none⟩ = some (.int .i64 how) := fun q => cd_cells AX (hC q) 9 rfl
    have k10 : ∀ q : InC C, q.w.cell? ⟨w.heap.size, 10, none⟩ = some (.bool red) := fun q => cd_cells AX (hC q) 10 rfl
    rw [hkind] at AX
    simp only [hkind] at k0
    clear hkind
    have K1 := hide (fun q : InC C => calls_inC CS q (hows_any q.w))
    have K2 := hide (fun q : InC C => calls_inC CS q (at_any [] wLimit wNow wWhole wPost [] [] [] how q.w))
    have K3 := hide (fun q : InC C => calls_inC CS q (sides_any q.w))
    have K4 := hide (fun q : InC C => calls_inC CS q (at_any wSell [] wBuy [] [] [] [] [] t q.w))
    rw [e3] at K2
    rw [e2] at K4
    clear hC hCC CS hhw hsw e2 e3 hf
    rcases bs_cases hw with rfl | ⟨ha, hl, rfl⟩
    · have hR4 : Hid (R = 4) := by have := HR1.out; rw [if_pos ⟨rfl, .inl rfl⟩] at this; exact this
      go_wp2_with fail
      refine wp_region_inC C mixed (by kernel_rfl) C0.out ?_
      iterate 8 (go_big_quiet_step (first | (go_at_call 69; refine K1.out _) | (go_at_call 48; refine K2.out _) | exact rfl))
      repeat (go_big_quiet_step (first | (go_at_call 70; refine K3.out _) | (go_at_call 48; refine K4.out _) | exact rfl))
      refine wpQuiet_nil ?_
      rintro _ ⟨q6, rfl⟩
      have B2 := hide (onward BX.out (CB.out q6))
      clear HR1
      go_wp2
      go_ret
      exact ⟨by rw [hR4.out]; rfl, B2.out⟩
    rcases bs_cases sw with rfl | ⟨sa, sl, rfl⟩
    · have hR4 : Hid (R = 4) := by have := HR1.out; rw [if_pos ⟨rfl, .inr rfl⟩] at this; exact this
      go_wp2_with fail
      refine wp_region_inC C mixed (by kernel_rfl) C0.out ?_
      iterate 8 (go_big_quiet_step (first | (go_at_call 69; refine K1.out _) | (go_at_call 48; refine K2.out _) | exact rfl))
      repeat (go_big_quiet_step (first | (go_at_call 70; refine K3.out _) | (go_at_call 48; refine K4.out _) | exact rfl))
      refine wpQuiet_nil ?_
      rintro _ ⟨q6, rfl⟩
      have B2 := hide (onward BX.out (CB.out q6))
      clear HR1
      go_wp2
      go_ret
      exact ⟨by rw [hR4.out]; rfl, B2.out⟩
    have HR2 : Hid (R = if sameC ⟨3, ac, mkt, n, oi, oa, sd, pr, qt, how, red⟩ u = true then 0 else 3) := by have := HR1.out; rw [if_neg (by simp)] at this; exact this
    clear HR1
    go_wp2_with fail
    refine wp_region_inC C mixed (by kernel_rfl) C0.out ?_
    iterate 8 (go_big_quiet_step (first | (go_at_call 69; refine K1.out _) | (go_at_call 48; refine K2.out _) | exact rfl))
    repeat (go_big_quiet_step (first | (go_at_call 70; refine K3.out _) | (go_at_call 48; refine K4.out _) | exact rfl))
    refine wpQuiet_nil ?_
    rintro _ ⟨q6, rfl⟩
    have HC1 := hide (CB.out q6)
    obtain ⟨Y, hY⟩ : ∃ Y, Y = q6.w := ⟨_, rfl⟩
    rw [← hY] at HC1 ⊢
    have AY := cdAt_below AX HC1.out
    have BY := hide (onward BX.out HC1.out)
    clear hY k0 k1 k2 k3 k4 k5 k6 k7 k8 k9 k10 K1 K2 K3 K4 CB C0 AX BX HC1 ht
    clear q6
    clear C
    clear X
    obtain ⟨X, hX⟩ : ∃ X, X = Y := ⟨_, rfl⟩
    subst hX
    have AX := AY
    have BX := BY
    clear AY BY
    obtain ⟨kind, hkind⟩ : ∃ kind : Int, kind = 3 := ⟨_, rfl⟩
    rw [← hkind] at AX eq US
    have HR3 : Hid (R = if sameC ⟨kind, ac, mkt, n, oi, oa, sd, pr, qt, how, red⟩ u = true then 0 else 3) := by rw [hkind]; exact HR2.out
    clear hkind HR2
    have HR2 := HR3
    clear HR3
    have hC : ∀ q : InC (fun x => Below X.heap.size X x), Below X.heap.size X q.w := fun q => q.h
    generalize hCC : (fun x => Below X.heap.size X x) = C at hC
    have CS : ∀ x y, C x → Below x.heap.size x y → C y := by rw [← hCC]; exact fun x y hx hy => onward hx hy
    have C0 : Hid (C X.drew) := by rw [← hCC]; exact (Below.refl _ X).drew
    have CB := hide hC
    have k0 : ∀ q : InC C, q.w.cell? ⟨w.heap.size, 0, none⟩ = some (.int .i64 kind) := fun q => cd_cells AX (hC q) 0 rfl
    have k1 : ∀ q : InC C, q.w.cell? ⟨w.heap.size, 1, none⟩ = some (.int .i64 ac) := fun q => cd_cells AX (hC q) 1 rfl
    have k2 : ∀ q : InC C, q.w.cell? ⟨w.heap.size, 2, none⟩ = some (.int .i64 mkt) := fun q => cd_cells AX (hC q) 2 rfl
    have k3 : ∀ q : InC C, q.w.cell? ⟨w.heap.size, 3, none⟩ = some (.int .i64 n) := fun q => cd_cells AX (hC q) 3 rfl
    have k4 : ∀ q : InC C, q.w.cell? ⟨w.heap.size, 4, none⟩ = some (.int .i64 oi) := fun q => cd_cells AX (hC q) 4 rfl
    have k5 : ∀ q : InC C, q.w.cell? ⟨w.heap.size, 5, none⟩ = some (.int .i64 oa) := fun q => cd_cells AX (hC q) 5 rfl
    have k6 : ∀ q : InC C, q.w.cell? ⟨w.heap.size, 6, none⟩ = some (.int .i64 sd) := fun q => cd_cells AX (hC q) 6 rfl
    have k7 : ∀ q : InC C, q.w.cell? ⟨w.heap.size, 7, none⟩ = some (.int .i64 pr) := fun q => cd_cells AX (hC q) 7 rfl
    have k8 : ∀ q : InC C, q.w.cell? ⟨w.heap.size, 8, none⟩ = some (.int .i64 qt) := fun q => cd_cells AX (hC q) 8 rfl
    have k9 : ∀ q : InC C, q.w.cell? ⟨w.heap.size, 9, none⟩ = some (.int .i64 how) := fun q => cd_cells AX (hC q) 9 rfl
    have k10 : ∀ q : InC C, q.w.cell? ⟨w.heap.size, 10, none⟩ = some (.bool red) := fun q => cd_cells AX (hC q) 10 rfl
    have K5 := hide (fun q : InC C => calls_inC CS q (US.out q.w))
    clear hC hCC CS US
    cases hs : sameC ⟨kind, ac, mkt, n, oi, oa, sd, pr, qt, how, red⟩ u
    · have hR3 : Hid (R = 3) := by have := HR2.out; rw [hs] at this; exact this
      rw [hs] at eq
      clear HR2 hs
      go_wp2_with fail
      refine wp_region_inC C mixed (by kernel_rfl) C0.out ?_
      repeat (go_big_quiet_step (first | (go_at_call 71; refine K5.out _) | exact rfl))
      refine wpQuiet_nil ?_
      rintro _ ⟨q6, rfl⟩
      have B2 := hide (onward BX.out (CB.out q6))
      go_wp2
      go_ret
      exact ⟨by rw [hR3.out]; rfl, B2.out⟩
    · have hR3 : Hid (R = 0) := by have := HR2.out; rw [hs] at this; exact this
      rw [hs] at eq
      clear HR2 hs
      go_wp2_with fail
      refine wp_region_inC C mixed (by kernel_rfl) C0.out ?_
      repeat (go_big_quiet_step (first | (go_at_call 71; refine K5.out _) | exact rfl))
      refine wpQuiet_nil ?_
      rintro _ ⟨q6, rfl⟩
      have B2 := hide (onward BX.out (CB.out q6))
      go_wp2
      go_ret
      exact ⟨by rw [hR3.out]; rfl, B2.out⟩
  · have h3b : (kind == 3) = false := by simpa using h3
    have HR2 : Hid (R = if sameC ⟨kind, ac, mkt, n, oi, oa, sd, pr, qt, how, red⟩ u = true then 0 else 3) := by have := HR1.out; rw [if_neg (fun h => h3 h.1)] at this; exact this
    clear HR1
    have hC : ∀ q : InC (fun x => Below X.heap.size X x), Below X.heap.size X q.w := fun q => q.h
    generalize hCC : (fun x => Below X.heap.size X x) = C at hC
    have CS : ∀ x y, C x → Below x.heap.size x y → C y := by rw [← hCC]; exact fun x y hx hy => onward hx hy
    have C0 : Hid (C X.drew) := by rw [← hCC]; exact (Below.refl _ X).drew
    have CB := hide hC
    have k0 : ∀ q : InC C, q.w.cell? ⟨w.heap.size, 0, none⟩ = some (.int .i64 kind) := fun q => cd_cells AX (hC q) 0 rfl
    have k1 : ∀ q : InC C, q.w.cell? ⟨w.heap.size, 1, none⟩ = some (.int .i64 ac) := fun q => cd_cells AX (hC q) 1 rfl
    have k2 : ∀ q : InC C, q.w.cell? ⟨w.heap.size, 2, none⟩ = some (.int .i64 mkt) := fun q => cd_cells AX (hC q) 2 rfl
    have k3 : ∀ q : InC C, q.w.cell? ⟨w.heap.size, 3, none⟩ = some (.int .i64 n) := fun q => cd_cells AX (hC q) 3 rfl
    have k4 : ∀ q : InC C, q.w.cell? ⟨w.heap.size, 4, none⟩ = some (.int .i64 oi) := fun q => cd_cells AX (hC q) 4 rfl
    have k5 : ∀ q : InC C, q.w.cell? ⟨w.heap.size, 5, none⟩ = some (.int .i64 oa) := fun q => cd_cells AX (hC q) 5 rfl
    have k6 : ∀ q : InC C, q.w.cell? ⟨w.heap.size, 6, none⟩ = some (.int .i64 sd) := fun q => cd_cells AX (hC q) 6 rfl
    have k7 : ∀ q : InC C, q.w.cell? ⟨w.heap.size, 7, none⟩ = some (.int .i64 pr) := fun q => cd_cells AX (hC q) 7 rfl
    have k8 : ∀ q : InC C, q.w.cell? ⟨w.heap.size, 8, none⟩ = some (.int .i64 qt) := fun q => cd_cells AX (hC q) 8 rfl
    have k9 : ∀ q : InC C, q.w.cell? ⟨w.heap.size, 9, none⟩ = some (.int .i64 how) := fun q => cd_cells AX (hC q) 9 rfl
    have k10 : ∀ q : InC C, q.w.cell? ⟨w.heap.size, 10, none⟩ = some (.bool red) := fun q => cd_cells AX (hC q) 10 rfl
    clear hC hCC CS
    go_wp2_with fail
    refine wp_region_inC C mixed (by kernel_rfl) C0.out ?_
    repeat (go_big_quiet_step (exact rfl))
    refine wpQuiet_nil ?_
    rintro _ ⟨q6, rfl⟩
    have HC1 := hide (CB.out q6)
    obtain ⟨Y, hY⟩ : ∃ Y, Y = q6.w := ⟨_, rfl⟩
    rw [← hY] at HC1 ⊢
    have AY := cdAt_below AX HC1.out
    have BY := hide (onward BX.out HC1.out)
    clear hY k0 k1 k2 k3 k4 k5 k6 k7 k8 k9 k10 CB C0 AX BX HC1
    clear q6
    clear C
    clear X
    obtain ⟨X, hX⟩ : ∃ X, X = Y := ⟨_, rfl⟩
    subst hX
    have AX := AY
    have BX := BY
    clear AY BY
    have hC : ∀ q : InC (fun x => Below X.heap.size X x), Below X.heap.size X q.w := fun q => q.h
    generalize hCC : (fun x => Below X.heap.size X x) = C at hC
    have CS : ∀ x y, C x → Below x.heap.size x y → C y := by rw [← hCC]; exact fun x y hx hy => onward hx hy
    have C0 : Hid (C X.drew) := by rw [← hCC]; exact (Below.refl _ X).drew
    have CB := hide hC
    have k0 : ∀ q : InC C, q.w.cell? ⟨w.heap.size, 0, none⟩ = some (.int .i64 kind) := fun q => cd_cells AX (hC q) 0 rfl
    have k1 : ∀ q : InC C, q.w.cell? ⟨w.heap.size, 1, none⟩ = some (.int .i64 ac) := fun q => cd_cells AX (hC q) 1 rfl
    have k2 : ∀ q : InC C, q.w.cell? ⟨w.heap.size, 2, none⟩ = some (.int .i64 mkt) := fun q => cd_cells AX (hC q) 2 rfl
    have k3 : ∀ q : InC C, q.w.cell? ⟨w.heap.size, 3, none⟩ = some (.int .i64 n) := fun q => cd_cells AX (hC q) 3 rfl
    have k4 : ∀ q : InC C, q.w.cell? ⟨w.heap.size, 4, none⟩ = some (.int .i64 oi) := fun q => cd_cells AX (hC q) 4 rfl
    have k5 : ∀ q : InC C, q.w.cell? ⟨w.heap.size, 5, none⟩ = some (.int .i64 oa) := fun q => cd_cells AX (hC q) 5 rfl
    have k6 : ∀ q : InC C, q.w.cell? ⟨w.heap.size, 6, none⟩ = some (.int .i64 sd) := fun q => cd_cells AX (hC q) 6 rfl
    have k7 : ∀ q : InC C, q.w.cell? ⟨w.heap.size, 7, none⟩ = some (.int .i64 pr) := fun q => cd_cells AX (hC q) 7 rfl
    have k8 : ∀ q : InC C, q.w.cell? ⟨w.heap.size, 8, none⟩ = some (.int .i64 qt) := fun q => cd_cells AX (hC q) 8 rfl
    have k9 : ∀ q : InC C, q.w.cell? ⟨w.heap.size, 9, none⟩ = some (.int .i64 how) := fun q => cd_cells AX (hC q) 9 rfl
    have k10 : ∀ q : InC C, q.w.cell? ⟨w.heap.size, 10, none⟩ = some (.bool red) := fun q => cd_cells AX (hC q) 10 rfl
    have K5 := hide (fun q : InC C => calls_inC CS q (US.out q.w))
    clear hC hCC CS US
    cases hs : sameC ⟨kind, ac, mkt, n, oi, oa, sd, pr, qt, how, red⟩ u
    · have hR3 : Hid (R = 3) := by have := HR2.out; rw [hs] at this; exact this
      rw [hs] at eq
      clear HR2 hs
      go_wp2_with fail
      refine wp_region_inC C mixed (by kernel_rfl) C0.out ?_
      repeat (go_big_quiet_step (first | (go_at_call 71; refine K5.out _) | exact rfl))
      refine wpQuiet_nil ?_
      rintro _ ⟨q6, rfl⟩
      have B2 := hide (onward BX.out (CB.out q6))
      go_wp2
      go_ret
      exact ⟨by rw [hR3.out]; rfl, B2.out⟩
    · have hR3 : Hid (R = 0) := by have := HR2.out; rw [hs] at this; exact this
      rw [hs] at eq
      clear HR2 hs
      go_wp2_with fail
      refine wp_region_inC C mixed (by kernel_rfl) C0.out ?_
      repeat (go_big_quiet_step (first | (go_at_call 71; refine K5.out _) | exact rfl))
      refine wpQuiet_nil ?_
      rintro _ ⟨q6, rfl⟩
      have B2 := hide (onward BX.out (CB.out q6))
      go_wp2
      go_ret
      exact ⟨by rw [hR3.out]; rfl, B2.out⟩
end Go.Proofs.YthdjfhnhjiageaaGreatDoor.Tx
