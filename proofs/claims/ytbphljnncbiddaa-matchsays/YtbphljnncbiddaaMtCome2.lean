/-
  Package match by contracts: Come.
-/
import Derived.Test.YtbphljnncbiddaaMtCome
namespace Go.Proofs.Ytbphljnncbiddaa.Bk
open Go.RowKit Go.Sort Go.Maps Go.Proofs.Ytbphljnncbiddaa.Mix

abbrev ComePost (w : World) (B A : List Odr) (F : List Fil) (left : Int) (e : Ending) (w' : World) : Prop :=
  ∃ p1 c1 p2 c2 vF, e = .returned (.tuple #[.agg #[.slice p1 B.length c1, .slice p2 A.length c2], vF, .int .i64 left, .int .i64 0]) ∧ OV w' p1 c1 B ∧ OV w' p2 c2 A ∧ w'.ownsRow w.heap.size 74 7 vF F.length (flatF F) ∧ Below w.heap.size w w' ∧ (∀ a, p1 = some a → w.heap.size ≤ a.block) ∧ (∀ a, p2 = some a → w.heap.size ≤ a.block)
abbrev ComeFail (w : World) (r : Int) (e : Ending) (w' : World) : Prop :=
  e = .returned (.tuple #[.agg #[.slice none 0 0, .slice none 0 0], .slice none 0 0, .int .i64 0, .int .i64 r]) ∧ Below w.heap.size w w'

theorem made3_five2 (w : World) (o1 o3 : Obj) (u0 u1 u2 u3 u4 : Value) : Five (((w.alloc o1).alloc (.cells #[u0, u1, u2, u3, u4] 44)).alloc o3) (w.heap.size + 1) :=
  ⟨u0, u1, u2, u3, u4, by
    rw [Below.heap_alloc _ _ _ (by simp)]
    have := heap_alloc_new (w.alloc o1) (.cells #[u0, u1, u2, u3, u4] 44)
    simpa using this⟩

set_option maxHeartbeats 1000000 in
set_option maxRecDepth 100000 in
theorem come_A (p p' : Option Addr) (c c' nb na : Nat) (a ac sd pr q how r : Int) (w : World) (hr : ¬ r = 0)
    (MCm : Hid (∀ X, Below w.heap.size w X → Calls Try.prog 93 #[.agg #[.slice p nb c, .slice p' na c'], .int .i64 a, .int .i64 how] X fun e w' => e = .returned (.int .i64 r) ∧ Below X.heap.size X w')) :
    Calls Try.prog 50 #[.agg #[.slice p nb c, .slice p' na c'], .agg #[.int .i64 a, .int .i64 ac, .int .i64 sd, .int .i64 pr, .int .i64 q], .int .i64 how] w (ComeFail w r) := by
  have er : (r == 0) = false := by simp [hr]
  have hb0 : ∀ o1 o2 o3, Below w.heap.size w (((w.alloc o1).alloc o2).alloc o3) := fun o1 o2 o3 => (((Below.refl _ w).alloc (Nat.le_refl _) _).alloc (by simp) _).alloc (by simp; omega) _
  have F1 := hide come1_any
  go_enter Try.func50, Try.ntmps50
  go_wp2_with fail
  refine (MCm.out _ (hb0 _ _ _)).mono ?_
  rintro e W ⟨rfl, hb⟩
  have BW := hide ((hb0 _ _ _).trans (hb.mono (by simp; omega)))
  have T := hide (two_below (two_made _ _ _ _ _) hb)
  have e0 : W.cell? ⟨w.heap.size, 0, none⟩ = some (.slice p nb c) := box3_a hb rfl
  have e1 : W.cell? ⟨w.heap.size, 1, none⟩ = some (.slice p' na c') := box3_a hb rfl
  have f0 : W.cell? ⟨w.heap.size + 1, 0, none⟩ = some (.int .i64 a) := box3_b hb rfl
  have f1 : W.cell? ⟨w.heap.size + 1, 1, none⟩ = some (.int .i64 ac) := box3_b hb rfl
  have f2 : W.cell? ⟨w.heap.size + 1, 2, none⟩ = some (.int .i64 sd) := box3_b hb rfl
  have f3 : W.cell? ⟨w.heap.size + 1, 3, none⟩ = some (.int .i64 pr) := box3_b hb rfl
  have f4 : W.cell? ⟨w.heap.size + 1, 4, none⟩ = some (.int .i64 q) := box3_b hb rfl
  have FV := hide (five_below (made3_five2 _ _ _ _ _ _ _ _) hb)
  clear hb hb0 MCm
  clear e0 e1 f0 f1 f2 f3 f4 FV
  go_wp2_with fail
  refine (F1.out _ _).mono ?_
  rintro e WF ⟨rfl, hbF⟩
  have TF := hide (two_below T.out hbF)
  have BF := hide (BW.out.trans (hbF.mono BW.out.size))
  obtain ⟨uf0, uf1, tf0, tf1, tf2, tf3⟩ := two_facts TF.out
  clear hbF
  go_wp2
  obtain ⟨sf0, sf1⟩ := two_set TF.out (.slice none 0 0) (.slice none 0 0)
  refine bodyPost_ret (v := .tuple #[.agg #[.slice none 0 0, .slice none 0 0], .slice none 0 0, .int .i64 0, .int .i64 r]) (by simp [results, Try.results50, go_sem, sf0, sf1]) rfl ⟨rfl, two_below_set BF.out (by omega) _ _⟩

set_option maxHeartbeats 1000000 in
set_option maxRecDepth 100000 in
theorem come_B (p p' : Option Addr) (c c' nb na : Nat) (a ac sd pr q how r : Int) (w : World) (hr : ¬ r = 0)
    (MCm : Hid (∀ X, Below w.heap.size w X → Calls Try.prog 93 #[.agg #[.slice p nb c, .slice p' na c'], .int .i64 a, .int .i64 how] X fun e w' => e = .returned (.int .i64 0) ∧ Below X.heap.size X w'))
    (TK : Hid (∀ X, Below w.heap.size w X → Calls Try.prog 49 #[.agg #[.slice p nb c, .slice p' na c'], .agg #[.int .i64 a, .int .i64 ac, .int .i64 sd, .int .i64 pr, .int .i64 q]] X fun e w' => e = .returned (.tuple #[.agg #[.slice none 0 0, .slice none 0 0], .slice none 0 0, .int .i64 0, .bool false, .int .i64 r]) ∧ Below X.heap.size X w')) :
    Calls Try.prog 50 #[.agg #[.slice p nb c, .slice p' na c'], .agg #[.int .i64 a, .int .i64 ac, .int .i64 sd, .int .i64 pr, .int .i64 q], .int .i64 how] w (ComeFail w r) := by
  have er : (r == 0) = false := by simp [hr]
  have hb0 : ∀ o1 o2 o3, Below w.heap.size w (((w.alloc o1).alloc o2).alloc o3) := fun o1 o2 o3 => (((Below.refl _ w).alloc (Nat.le_refl _) _).alloc (by simp) _).alloc (by simp; omega) _
  have F1 := hide come1_any
  go_enter Try.func50, Try.ntmps50
  go_wp2_with fail
  refine (MCm.out _ (hb0 _ _ _)).mono ?_
  rintro e W ⟨rfl, hb⟩
  have BW := hide ((hb0 _ _ _).trans (hb.mono (by simp; omega)))
  have T := hide (two_below (two_made _ _ _ _ _) hb)
  have e0 : W.cell? ⟨w.heap.size, 0, none⟩ = some (.slice p nb c) := box3_a hb rfl
  have e1 : W.cell? ⟨w.heap.size, 1, none⟩ = some (.slice p' na c') := box3_a hb rfl
  have f0 : W.cell? ⟨w.heap.size + 1, 0, none⟩ = some (.int .i64 a) := box3_b hb rfl
  have f1 : W.cell? ⟨w.heap.size + 1, 1, none⟩ = some (.int .i64 ac) := box3_b hb rfl
  have f2 : W.cell? ⟨w.heap.size + 1, 2, none⟩ = some (.int .i64 sd) := box3_b hb rfl
  have f3 : W.cell? ⟨w.heap.size + 1, 3, none⟩ = some (.int .i64 pr) := box3_b hb rfl
  have f4 : W.cell? ⟨w.heap.size + 1, 4, none⟩ = some (.int .i64 q) := box3_b hb rfl
  have FV := hide (five_below (made3_five2 _ _ _ _ _ _ _ _) hb)
  clear hb hb0 MCm
  go_wp2_with fail
  refine (TK.out _ BW.out).mono ?_
  rintro e W2 ⟨rfl, hb2⟩
  have T2 := hide (two_below T.out hb2)
  have B2 := hide (BW.out.trans (hb2.mono BW.out.size))
  obtain ⟨u0, u1, t0, t1, t2, t3⟩ := two_facts T2.out
  have T3 := hide (two_again T2.out (.slice none 0 0) (.slice none 0 0))
  have B3 := hide (two_below_set B2.out (show w.heap.size ≤ w.heap.size + 1 + 1 by omega) (.slice none 0 0) (.slice none 0 0))
  clear hb2 e0 e1 f0 f1 f2 f3 f4 FV TK
  go_wp2_with fail
  refine (F1.out _ _).mono ?_
  rintro e WF ⟨rfl, hbF⟩
  have TF := hide (two_below T3.out hbF)
  have BF := hide (B3.out.trans (hbF.mono B3.out.size))
  obtain ⟨uf0, uf1, tf0, tf1, tf2, tf3⟩ := two_facts TF.out
  clear hbF
  go_wp2
  obtain ⟨sf0, sf1⟩ := two_set TF.out (.slice none 0 0) (.slice none 0 0)
  refine bodyPost_ret (v := .tuple #[.agg #[.slice none 0 0, .slice none 0 0], .slice none 0 0, .int .i64 0, .int .i64 r]) (by simp [results, Try.results50, go_sem, sf0, sf1]) rfl ⟨rfl, two_below_set BF.out (by omega) _ _⟩

/-- behind Take's answer: what Come keeps. -/
structure Taked (w : World) (X : World) (p1 p2 : Option Addr) (c1 c2 : Nat) (vF : Value) (B A : List Odr) (F : List Fil) : Prop where
  bel : Below w.heap.size w X
  b : OV X p1 c1 B
  a : OV X p2 c2 A
  f : X.ownsRow (w.heap.size + 1 + 1 + 1) 74 7 vF F.length (flatF F)
  g1 : ∀ ad, p1 = some ad → w.heap.size + 1 + 1 + 1 ≤ ad.block
  g2 : ∀ ad, p2 = some ad → w.heap.size + 1 + 1 + 1 ≤ ad.block
  two : Two X (w.heap.size + 1 + 1)
  c0 : X.cell? ⟨w.heap.size + 1 + 1, 0, none⟩ = some (.slice p1 B.length c1)
  c1 : X.cell? ⟨w.heap.size + 1 + 1, 1, none⟩ = some (.slice p2 A.length c2)

theorem Taked.made {w X Y : World} {p1 p2 : Option Addr} {c1 c2 : Nat} {vF : Value} {B A : List Odr} {F : List Fil} (hX : Below w.heap.size w X) (hT : Two X (w.heap.size + 1 + 1))
    (hb : Below X.heap.size X Y) (o1 : OV Y p1 c1 B) (o2 : OV Y p2 c2 A) (of : Y.ownsRow X.heap.size 74 7 vF F.length (flatF F)) (g1 : ∀ a, p1 = some a → X.heap.size ≤ a.block) (g2 : ∀ a, p2 = some a → X.heap.size ≤ a.block) :
    Taked w ((Y.setCell ⟨w.heap.size + 1 + 1, 0, none⟩ (.slice p1 B.length c1)).setCell ⟨w.heap.size + 1 + 1, 1, none⟩ (.slice p2 A.length c2)) p1 p2 c1 c2 vF B A F := by
  have ht := two_lt hT
  have hY := two_below hT hb
  have hs := two_set hY (.slice p1 B.length c1) (.slice p2 A.length c2)
  refine ⟨two_below_set (hX.trans (hb.mono hX.size)) (by omega) _ _, ?_, ?_, ?_, ?_, ?_, two_again hY _ _, hs.1, hs.2⟩
  · exact ov_two o1 (fun ad ha => by have := g1 ad ha; omega) _ _
  · exact ov_two o2 (fun ad ha => by have := g2 ad ha; omega) _ _
  · exact own_base (ownsRow_setCell_below (ownsRow_setCell_below of ht _) ht _) ht
  · intro ad ha; have := g1 ad ha; omega
  · intro ad ha; have := g2 ad ha; omega

theorem ownF_form {w : World} {B : Nat} {v : Value} {F : List Fil} (h : w.ownsRow B 74 7 v F.length (flatF F)) : ∃ p c, v = .slice p F.length c := by
  rcases h.2 with ⟨rfl, h0⟩ | ⟨g, cap, cur, rfl, _⟩
  · exact ⟨none, 0, by rw [h0]⟩
  · exact ⟨_, _, rfl⟩
theorem five_last {x : World} {t : Nat} {v0 v1 v2 v3 : Value} (h : Five x t) (h0 : x.cell? ⟨t, 0, none⟩ = some v0) (h1 : x.cell? ⟨t, 1, none⟩ = some v1) (h2 : x.cell? ⟨t, 2, none⟩ = some v2) (h3 : x.cell? ⟨t, 3, none⟩ = some v3) (v : Value) :
    (x.setCell ⟨t, 4, none⟩ v).cell? ⟨t, 0, none⟩ = some v0 ∧ (x.setCell ⟨t, 4, none⟩ v).cell? ⟨t, 1, none⟩ = some v1 ∧ (x.setCell ⟨t, 4, none⟩ v).cell? ⟨t, 2, none⟩ = some v2 ∧ (x.setCell ⟨t, 4, none⟩ v).cell? ⟨t, 3, none⟩ = some v3 ∧ (x.setCell ⟨t, 4, none⟩ v).cell? ⟨t, 4, none⟩ = some v := by
  obtain ⟨u0, u1, u2, u3, u4, h⟩ := h
  have hh : (x.setCell ⟨t, 4, none⟩ v).heap[t]? = some (.cells #[u0, u1, u2, u3, v] 44 (0, 0)) := by simp [World.setCell, Array.getElem?_modify, h]
  have e0 : u0 = v0 := by simpa [World.cell?, h] using h0
  have e1 : u1 = v1 := by simpa [World.cell?, h] using h1
  have e2 : u2 = v2 := by simpa [World.cell?, h] using h2
  have e3 : u3 = v3 := by simpa [World.cell?, h] using h3
  subst e0 e1 e2 e3
  refine ⟨?_, ?_, ?_, ?_, ?_⟩ <;> simp [World.cell?, hh]

set_option maxHeartbeats 1000000 in
set_option maxRecDepth 100000 in
theorem come_C (p p' : Option Addr) (c c' nb na : Nat) (a ac sd pr q how r : Int) (w : World) (B A : List Odr) (F : List Fil) (left : Int) (met : Bool) (hr : ¬ r = 0) (hal : allowsE how F.length left met = r)
    (MCm : Hid (∀ X, Below w.heap.size w X → Calls Try.prog 93 #[.agg #[.slice p nb c, .slice p' na c'], .int .i64 a, .int .i64 how] X fun e w' => e = .returned (.int .i64 0) ∧ Below X.heap.size X w'))
    (TK : Hid (∀ X, Below w.heap.size w X → Calls Try.prog 49 #[.agg #[.slice p nb c, .slice p' na c'], .agg #[.int .i64 a, .int .i64 ac, .int .i64 sd, .int .i64 pr, .int .i64 q]] X (TakePost X B A F left met))) :
    Calls Try.prog 50 #[.agg #[.slice p nb c, .slice p' na c'], .agg #[.int .i64 a, .int .i64 ac, .int .i64 sd, .int .i64 pr, .int .i64 q], .int .i64 how] w (ComeFail w r) := by
  have er : (r == 0) = false := by simp [hr]
  have AL := fun W => allows_any how F.length left met W
  rw [hal] at AL
  clear hal
  have hb0 : ∀ o1 o2 o3, Below w.heap.size w (((w.alloc o1).alloc o2).alloc o3) := fun o1 o2 o3 => (((Below.refl _ w).alloc (Nat.le_refl _) _).alloc (by simp) _).alloc (by simp; omega) _
  have F1 := hide come1_any
  go_enter Try.func50, Try.ntmps50
  go_wp2_with fail
  refine (MCm.out _ (hb0 _ _ _)).mono ?_
  rintro e W ⟨rfl, hb⟩
  have BW := hide ((hb0 _ _ _).trans (hb.mono (by simp; omega)))
  have T := hide (two_below (two_made _ _ _ _ _) hb)
  have e0 : W.cell? ⟨w.heap.size, 0, none⟩ = some (.slice p nb c) := box3_a hb rfl
  have e1 : W.cell? ⟨w.heap.size, 1, none⟩ = some (.slice p' na c') := box3_a hb rfl
  have f0 : W.cell? ⟨w.heap.size + 1, 0, none⟩ = some (.int .i64 a) := box3_b hb rfl
  have f1 : W.cell? ⟨w.heap.size + 1, 1, none⟩ = some (.int .i64 ac) := box3_b hb rfl
  have f2 : W.cell? ⟨w.heap.size + 1, 2, none⟩ = some (.int .i64 sd) := box3_b hb rfl
  have f3 : W.cell? ⟨w.heap.size + 1, 3, none⟩ = some (.int .i64 pr) := box3_b hb rfl
  have f4 : W.cell? ⟨w.heap.size + 1, 4, none⟩ = some (.int .i64 q) := box3_b hb rfl
  have FV := hide (five_below (made3_five2 _ _ _ _ _ _ _ _) hb)
  clear hb hb0 MCm
  go_wp2_with fail
  refine (TK.out _ BW.out).mono ?_
  rintro e W2 ⟨p1, c1, p2, c2, vF, rfl, o1, o2, of, hb2, g1, g2⟩
  have TD := hide (Taked.made BW.out T.out hb2 o1 o2 of g1 g2)
  have T2 := hide (two_below T.out hb2)
  obtain ⟨u0, u1, t0, t1, t2, t3⟩ := two_facts T2.out
  obtain ⟨pF, cF, rfl⟩ := ownF_form of
  have n6 : (⟨w.heap.size + 1, 0, none⟩ : Addr).block ≠ w.heap.size + 1 + 1 := by simp
  have i0 := (hb2.cell (World.block_lt_of_cell? _ _ f0)).trans f0
  have i1 := (hb2.cell (World.block_lt_of_cell? _ _ f1)).trans f1
  have i2 := (hb2.cell (World.block_lt_of_cell? _ _ f2)).trans f2
  have i3 := (hb2.cell (World.block_lt_of_cell? _ _ f3)).trans f3
  have FV2 := hide (five_below FV.out hb2)
  obtain ⟨X3, hX3⟩ : ∃ X3, X3 = (W2.setCell ⟨w.heap.size + 1 + 1, 0, none⟩ (.slice p1 B.length c1)).setCell ⟨w.heap.size + 1 + 1, 1, none⟩ (.slice p2 A.length c2) := ⟨_, rfl⟩
  have j0 : Hid (X3.cell? ⟨w.heap.size + 1, 0, none⟩ = some (.int .i64 a)) := by rw [hX3]; exact (set_other _ (by simp) _ _).trans ((set_other _ (by simp) _ _).trans i0)
  have j1 : Hid (X3.cell? ⟨w.heap.size + 1, 1, none⟩ = some (.int .i64 ac)) := by rw [hX3]; exact (set_other _ (by simp) _ _).trans ((set_other _ (by simp) _ _).trans i1)
  have j2 : Hid (X3.cell? ⟨w.heap.size + 1, 2, none⟩ = some (.int .i64 sd)) := by rw [hX3]; exact (set_other _ (by simp) _ _).trans ((set_other _ (by simp) _ _).trans i2)
  have j3 : Hid (X3.cell? ⟨w.heap.size + 1, 3, none⟩ = some (.int .i64 pr)) := by rw [hX3]; exact (set_other _ (by simp) _ _).trans ((set_other _ (by simp) _ _).trans i3)
  have FV3 : Hid (Five X3 (w.heap.size + 1)) := by rw [hX3]; exact five_two FV2.out (by omega) _ _
  rw [← hX3] at TD
  have EX := hide hX3
  clear hb2 o1 o2 of g1 g2 e0 e1 f0 f1 f2 f3 f4 i0 i1 i2 i3 hX3 n6 FV FV2 TK
  go_wp2_with fail
  rw [← EX.out]
  clear EX t0 t1 t2 t3 T2
  refine (AL _).mono ?_
  rintro e WA ⟨rfl, hWA⟩
  rw [hWA]
  clear hWA WA
  obtain ⟨d0, d1⟩ : X3.cell? ⟨w.heap.size + 1 + 1, 0, none⟩ = some (.slice p1 B.length c1) ∧ X3.cell? ⟨w.heap.size + 1 + 1, 1, none⟩ = some (.slice p2 A.length c2) := ⟨TD.out.c0, TD.out.c1⟩
  clear d0 d1 j0 j1 j2 j3 FV3
  go_wp2_with fail
  refine (F1.out _ _).mono ?_
  rintro e WF ⟨rfl, hbF⟩
  have TF := hide (two_below TD.out.two hbF)
  have BF := hide (TD.out.bel.trans (hbF.mono TD.out.bel.size))
  obtain ⟨uf0, uf1, tf0, tf1, tf2, tf3⟩ := two_facts TF.out
  clear hbF
  go_wp2
  obtain ⟨sf0, sf1⟩ := two_set TF.out (.slice none 0 0) (.slice none 0 0)
  refine bodyPost_ret (v := .tuple #[.agg #[.slice none 0 0, .slice none 0 0], .slice none 0 0, .int .i64 0, .int .i64 r]) (by simp [results, Try.results50, go_sem, sf0, sf1]) rfl ⟨rfl, two_below_set BF.out (by omega) _ _⟩

set_option maxHeartbeats 1000000 in
set_option maxRecDepth 100000 in
theorem come_D (p p' : Option Addr) (c c' nb na : Nat) (a ac sd pr q how : Int) (w : World) (B A : List Odr) (F : List Fil) (left : Int) (met : Bool) (hal : allowsE how F.length left met = 0) (hst : stays how left = true)
    (MCm : Hid (∀ X, Below w.heap.size w X → Calls Try.prog 93 #[.agg #[.slice p nb c, .slice p' na c'], .int .i64 a, .int .i64 how] X fun e w' => e = .returned (.int .i64 0) ∧ Below X.heap.size X w'))
    (TK : Hid (∀ X, Below w.heap.size w X → Calls Try.prog 49 #[.agg #[.slice p nb c, .slice p' na c'], .agg #[.int .i64 a, .int .i64 ac, .int .i64 sd, .int .i64 pr, .int .i64 q]] X (TakePost X B A F left met))) :
    Calls Try.prog 50 #[.agg #[.slice p nb c, .slice p' na c'], .agg #[.int .i64 a, .int .i64 ac, .int .i64 sd, .int .i64 pr, .int .i64 q], .int .i64 how] w (ComePost w B A F left) := by
  have AL := fun W => allows_any how F.length left met W
  rw [hal] at AL
  have hst' : left = 0 ∨ (¬ left = 0 ∧ how = 2) := by
    unfold stays at hst
    simp only [Bool.or_eq_true, decide_eq_true_eq] at hst
    omega
  clear hal hst
  rcases hst' with rfl | ⟨hl0, rfl⟩
  · have hb0 : ∀ o1 o2 o3, Below w.heap.size w (((w.alloc o1).alloc o2).alloc o3) := fun o1 o2 o3 => (((Below.refl _ w).alloc (Nat.le_refl _) _).alloc (by simp) _).alloc (by simp; omega) _
    have F1 := hide come1_any
    go_enter Try.func50, Try.ntmps50
    go_wp2_with fail
    refine (MCm.out _ (hb0 _ _ _)).mono ?_
    rintro e W ⟨rfl, hb⟩
    have BW := hide ((hb0 _ _ _).trans (hb.mono (by simp; omega)))
    have T := hide (two_below (two_made _ _ _ _ _) hb)
    have e0 : W.cell? ⟨w.heap.size, 0, none⟩ = some (.slice p nb c) := box3_a hb rfl
    have e1 : W.cell? ⟨w.heap.size, 1, none⟩ = some (.slice p' na c') := box3_a hb rfl
    have f0 : W.cell? ⟨w.heap.size + 1, 0, none⟩ = some (.int .i64 a) := box3_b hb rfl
    have f1 : W.cell? ⟨w.heap.size + 1, 1, none⟩ = some (.int .i64 ac) := box3_b hb rfl
    have f2 : W.cell? ⟨w.heap.size + 1, 2, none⟩ = some (.int .i64 sd) := box3_b hb rfl
    have f3 : W.cell? ⟨w.heap.size + 1, 3, none⟩ = some (.int .i64 pr) := box3_b hb rfl
    have f4 : W.cell? ⟨w.heap.size + 1, 4, none⟩ = some (.int .i64 q) := box3_b hb rfl
    have FV := hide (five_below (made3_five2 _ _ _ _ _ _ _ _) hb)
    clear hb hb0 MCm
    go_wp2_with fail
    refine (TK.out _ BW.out).mono ?_
    rintro e W2 ⟨p1, c1, p2, c2, vF, rfl, o1, o2, of, hb2, g1, g2⟩
    have TD := hide (Taked.made BW.out T.out hb2 o1 o2 of g1 g2)
    have T2 := hide (two_below T.out hb2)
    obtain ⟨u0, u1, t0, t1, t2, t3⟩ := two_facts T2.out
    obtain ⟨pF, cF, rfl⟩ := ownF_form of
    have n6 : (⟨w.heap.size + 1, 0, none⟩ : Addr).block ≠ w.heap.size + 1 + 1 := by simp
    have i0 := (hb2.cell (World.block_lt_of_cell? _ _ f0)).trans f0
    have i1 := (hb2.cell (World.block_lt_of_cell? _ _ f1)).trans f1
    have i2 := (hb2.cell (World.block_lt_of_cell? _ _ f2)).trans f2
    have i3 := (hb2.cell (World.block_lt_of_cell? _ _ f3)).trans f3
    have FV2 := hide (five_below FV.out hb2)
    obtain ⟨X3, hX3⟩ : ∃ X3, X3 = (W2.setCell ⟨w.heap.size + 1 + 1, 0, none⟩ (.slice p1 B.length c1)).setCell ⟨w.heap.size + 1 + 1, 1, none⟩ (.slice p2 A.length c2) := ⟨_, rfl⟩
    have j0 : Hid (X3.cell? ⟨w.heap.size + 1, 0, none⟩ = some (.int .i64 a)) := by rw [hX3]; exact (set_other _ (by simp) _ _).trans ((set_other _ (by simp) _ _).trans i0)
    have j1 : Hid (X3.cell? ⟨w.heap.size + 1, 1, none⟩ = some (.int .i64 ac)) := by rw [hX3]; exact (set_other _ (by simp) _ _).trans ((set_other _ (by simp) _ _).trans i1)
    have j2 : Hid (X3.cell? ⟨w.heap.size + 1, 2, none⟩ = some (.int .i64 sd)) := by rw [hX3]; exact (set_other _ (by simp) _ _).trans ((set_other _ (by simp) _ _).trans i2)
    have j3 : Hid (X3.cell? ⟨w.heap.size + 1, 3, none⟩ = some (.int .i64 pr)) := by rw [hX3]; exact (set_other _ (by simp) _ _).trans ((set_other _ (by simp) _ _).trans i3)
    have FV3 : Hid (Five X3 (w.heap.size + 1)) := by rw [hX3]; exact five_two FV2.out (by omega) _ _
    rw [← hX3] at TD
    have EX := hide hX3
    clear hb2 o1 o2 of g1 g2 e0 e1 f0 f1 f2 f3 f4 i0 i1 i2 i3 hX3 n6 FV FV2 TK
    go_wp2_with fail
    rw [← EX.out]
    clear EX t0 t1 t2 t3 T2
    refine (AL _).mono ?_
    rintro e WA ⟨rfl, hWA⟩
    rw [hWA]
    clear hWA WA
    obtain ⟨d0, d1⟩ : X3.cell? ⟨w.heap.size + 1 + 1, 0, none⟩ = some (.slice p1 B.length c1) ∧ X3.cell? ⟨w.heap.size + 1 + 1, 1, none⟩ = some (.slice p2 A.length c2) := ⟨TD.out.c0, TD.out.c1⟩
    clear j0 j1 j2 j3 FV3
    obtain ⟨-, -, -, -, z2, z3⟩ := two_facts TD.out.two
    go_wp2
    obtain ⟨s0, s1⟩ := two_set TD.out.two (.slice p1 B.length c1) (.slice p2 A.length c2)
    refine bodyPost_ret (v := .tuple #[.agg #[.slice p1 B.length c1, .slice p2 A.length c2], .slice pF F.length cF, _, .int .i64 0]) (by simp [results, Try.results50, go_sem, s0, s1]; try rfl) rfl ⟨p1, c1, p2, c2, _, rfl, ?_, ?_, ?_, ?_, fun ad ha => by have := TD.out.g1 ad ha; omega, fun ad ha => by have := TD.out.g2 ad ha; omega⟩
    · exact ov_two TD.out.b (fun ad ha => by have := TD.out.g1 ad ha; omega) _ _
    · exact ov_two TD.out.a (fun ad ha => by have := TD.out.g2 ad ha; omega) _ _
    · exact own_base (ownsRow_setCell_below (ownsRow_setCell_below TD.out.f (Nat.lt_succ_self (w.heap.size + 1 + 1)) _) (Nat.lt_succ_self (w.heap.size + 1 + 1)) _) (by omega)
    · exact two_below_set TD.out.bel (by omega) _ _
  · have hlb : (left == 0) = false := by simp [hl0]
    have hb0 : ∀ o1 o2 o3, Below w.heap.size w (((w.alloc o1).alloc o2).alloc o3) := fun o1 o2 o3 => (((Below.refl _ w).alloc (Nat.le_refl _) _).alloc (by simp) _).alloc (by simp; omega) _
    have F1 := hide come1_any
    go_enter Try.func50, Try.ntmps50
    go_wp2_with fail
    refine (MCm.out _ (hb0 _ _ _)).mono ?_
    rintro e W ⟨rfl, hb⟩
    have BW := hide ((hb0 _ _ _).trans (hb.mono (by simp; omega)))
    have T := hide (two_below (two_made _ _ _ _ _) hb)
    have e0 : W.cell? ⟨w.heap.size, 0, none⟩ = some (.slice p nb c) := box3_a hb rfl
    have e1 : W.cell? ⟨w.heap.size, 1, none⟩ = some (.slice p' na c') := box3_a hb rfl
    have f0 : W.cell? ⟨w.heap.size + 1, 0, none⟩ = some (.int .i64 a) := box3_b hb rfl
    have f1 : W.cell? ⟨w.heap.size + 1, 1, none⟩ = some (.int .i64 ac) := box3_b hb rfl
    have f2 : W.cell? ⟨w.heap.size + 1, 2, none⟩ = some (.int .i64 sd) := box3_b hb rfl
    have f3 : W.cell? ⟨w.heap.size + 1, 3, none⟩ = some (.int .i64 pr) := box3_b hb rfl
    have f4 : W.cell? ⟨w.heap.size + 1, 4, none⟩ = some (.int .i64 q) := box3_b hb rfl
    have FV := hide (five_below (made3_five2 _ _ _ _ _ _ _ _) hb)
    clear hb hb0 MCm
    go_wp2_with fail
    refine (TK.out _ BW.out).mono ?_
    rintro e W2 ⟨p1, c1, p2, c2, vF, rfl, o1, o2, of, hb2, g1, g2⟩
    have TD := hide (Taked.made BW.out T.out hb2 o1 o2 of g1 g2)
    have T2 := hide (two_below T.out hb2)
    obtain ⟨u0, u1, t0, t1, t2, t3⟩ := two_facts T2.out
    obtain ⟨pF, cF, rfl⟩ := ownF_form of
    have n6 : (⟨w.heap.size + 1, 0, none⟩ : Addr).block ≠ w.heap.size + 1 + 1 := by simp
    have i0 := (hb2.cell (World.block_lt_of_cell? _ _ f0)).trans f0
    have i1 := (hb2.cell (World.block_lt_of_cell? _ _ f1)).trans f1
    have i2 := (hb2.cell (World.block_lt_of_cell? _ _ f2)).trans f2
    have i3 := (hb2.cell (World.block_lt_of_cell? _ _ f3)).trans f3
    have FV2 := hide (five_below FV.out hb2)
    obtain ⟨X3, hX3⟩ : ∃ X3, X3 = (W2.setCell ⟨w.heap.size + 1 + 1, 0, none⟩ (.slice p1 B.length c1)).setCell ⟨w.heap.size + 1 + 1, 1, none⟩ (.slice p2 A.length c2) := ⟨_, rfl⟩
    have j0 : Hid (X3.cell? ⟨w.heap.size + 1, 0, none⟩ = some (.int .i64 a)) := by rw [hX3]; exact (set_other _ (by simp) _ _).trans ((set_other _ (by simp) _ _).trans i0)
    have j1 : Hid (X3.cell? ⟨w.heap.size + 1, 1, none⟩ = some (.int .i64 ac)) := by rw [hX3]; exact (set_other _ (by simp) _ _).trans ((set_other _ (by simp) _ _).trans i1)
    have j2 : Hid (X3.cell? ⟨w.heap.size + 1, 2, none⟩ = some (.int .i64 sd)) := by rw [hX3]; exact (set_other _ (by simp) _ _).trans ((set_other _ (by simp) _ _).trans i2)
    have j3 : Hid (X3.cell? ⟨w.heap.size + 1, 3, none⟩ = some (.int .i64 pr)) := by rw [hX3]; exact (set_other _ (by simp) _ _).trans ((set_other _ (by simp) _ _).trans i3)
    have FV3 : Hid (Five X3 (w.heap.size + 1)) := by rw [hX3]; exact five_two FV2.out (by omega) _ _
    rw [← hX3] at TD
    have EX := hide hX3
    clear hb2 o1 o2 of g1 g2 e0 e1 f0 f1 f2 f3 f4 i0 i1 i2 i3 hX3 n6 FV FV2 TK
    go_wp2_with fail
    rw [← EX.out]
    clear EX t0 t1 t2 t3 T2
    refine (AL _).mono ?_
    rintro e WA ⟨rfl, hWA⟩
    rw [hWA]
    clear hWA WA
    obtain ⟨d0, d1⟩ : X3.cell? ⟨w.heap.size + 1 + 1, 0, none⟩ = some (.slice p1 B.length c1) ∧ X3.cell? ⟨w.heap.size + 1 + 1, 1, none⟩ = some (.slice p2 A.length c2) := ⟨TD.out.c0, TD.out.c1⟩
    clear j0 j1 j2 j3 FV3
    obtain ⟨-, -, -, -, z2, z3⟩ := two_facts TD.out.two
    go_wp2
    obtain ⟨s0, s1⟩ := two_set TD.out.two (.slice p1 B.length c1) (.slice p2 A.length c2)
    refine bodyPost_ret (v := .tuple #[.agg #[.slice p1 B.length c1, .slice p2 A.length c2], .slice pF F.length cF, _, .int .i64 0]) (by simp [results, Try.results50, go_sem, s0, s1]; try rfl) rfl ⟨p1, c1, p2, c2, _, rfl, ?_, ?_, ?_, ?_, fun ad ha => by have := TD.out.g1 ad ha; omega, fun ad ha => by have := TD.out.g2 ad ha; omega⟩
    · exact ov_two TD.out.b (fun ad ha => by have := TD.out.g1 ad ha; omega) _ _
    · exact ov_two TD.out.a (fun ad ha => by have := TD.out.g2 ad ha; omega) _ _
    · exact own_base (ownsRow_setCell_below (ownsRow_setCell_below TD.out.f (Nat.lt_succ_self (w.heap.size + 1 + 1)) _) (Nat.lt_succ_self (w.heap.size + 1 + 1)) _) (by omega)
    · exact two_below_set TD.out.bel (by omega) _ _
end Go.Proofs.Ytbphljnncbiddaa.Bk
