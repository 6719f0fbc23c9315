/-
  MatchSays is true of every book, every order and every kind: an order comes, and takes, as the reference says, errors too. No condition.
-/
import Derived.Test.YtbphljnncbiddaaCaAll
import Derived.Test.YtbphljnncbiddaaRefQ
import Derived.Test.YtbphljnncbiddaaRows
import Derived.Test.YtbphljnncbiddaaBkArgs
import Derived.Outline
import Derived.ProofKit
import Derived.OpenShut
import Derived.ChangeOld
import Derived.Below
import Derived.SizedLaws
namespace Go.Proofs.Ytbphljnncbiddaa.Tk
open Go.RowKit Go.Sort Go.Maps Go.Proofs.Ytbphljnncbiddaa.Mix Go.Proofs.Ytbphljnncbiddaa.Bk Go.Proofs.Ytbphljnncbiddaa.Rk

theorem below_on {B : Nat} {w x y : World} (h : Below B w x) (h0 : B = w.heap.size) (h' : Below x.heap.size x y) : Below B w y := h.trans (h'.mono (by rw [h0]; exact h.size))
theorem below_new (w : World) (o : Obj) : Below w.heap.size w (w.alloc o) := (Below.refl _ _).alloc (Nat.le_refl _) o

/-- what Take answers. -/
abbrev TkPost (w : World) (B A : List Odr) (F : List Fil) (left : Int) (met : Bool) (r : Int) (e : Ending) (w' : World) : Prop :=
  ∃ p1 c1 p2 c2 vF, e = .returned (.tuple #[.agg #[.slice p1 B.length c1, .slice p2 A.length c2], vF, .int .i64 left, .bool met, .int .i64 r]) ∧ OV w' p1 c1 B ∧ OV w' p2 c2 A ∧ w'.ownsRow w.heap.size 74 7 vF F.length (flatF F) ∧ Below w.heap.size w w'

set_option maxHeartbeats 4000000 in
set_option maxRecDepth 100000 in
theorem says_1 (p p' : Option Addr) (c c' nb na : Nat) (a ac sd pr q how be : Int) (w : World) (XB XA YB YA : List Odr) (FL FM : List Fil) (hbe : ¬ be = 0) (z1 : XB = []) (z2 : XA = []) (z3 : YB = []) (z4 : YA = []) (z5 : FL = []) (z6 : FM = [])
    (TA : Hid (∀ X, Below w.heap.size w X → Calls Try.prog 49 #[.agg #[.slice p nb c, .slice p' na c'], .agg #[.int .i64 a, .int .i64 ac, .int .i64 sd, .int .i64 pr, .int .i64 q]] X (TkPost X XB XA FL 0 false be)))
    (CO : Hid (∀ X, Below w.heap.size w X → Calls Try.prog 50 #[.agg #[.slice p nb c, .slice p' na c'], .agg #[.int .i64 a, .int .i64 ac, .int .i64 sd, .int .i64 pr, .int .i64 q], .int .i64 how] X (CamePost X YB YA FM 0 be)))
    (CB : Hid (∀ X, Below w.heap.size w X → Calls Try.prog 34 #[.agg #[.slice p nb c, .slice p' na c']] X fun e w' => e = .returned (.int .i64 be) ∧ Below X.heap.size X w')) :
    Calls Try.prog 10 #[.agg #[.slice p nb c, .slice p' na c'], .agg #[.int .i64 a, .int .i64 ac, .int .i64 sd, .int .i64 pr, .int .i64 q], .int .i64 how] w fun e w' => e = .returned (.bool true) ∧ Below w.heap.size w w' := by
  have er : (be == 0) = false := by simp [hbe]
  have ZZ := hide (And.intro z1 (And.intro z2 (And.intro z3 (And.intro z4 (And.intro z5 z6)))))
  clear z1 z2 z3 z4 z5 z6
  have SN : Hid (∀ (u u' : Option Addr) (x x' : Nat) (W : World), Calls Try.prog 42 #[.agg #[.slice u 0 x, .slice u' 0 x'], .agg #[.slice none 0 0, .slice none 0 0]] W fun e w' => e = .returned (.bool true) ∧ Below W.heap.size W w') := fun u u' x x' W => (refSame_any u u' none none x x' 0 0 [] [] [] [] W (.inl rfl) (.inl rfl) (.inl rfl) (.inl rfl) (by simp) (by simp) (by simp) (by simp)).mono fun _ _ ⟨he, hb⟩ => ⟨by rw [he]; simp, hb⟩
  go_enter Try.func10, Try.ntmps10
  go_wp2_with fail
  obtain ⟨W0, hW0⟩ : ∃ W0, W0 = (w.alloc (.cells #[.slice p nb c, .slice p' na c'] 42)).alloc (.cells #[.int .i64 a, .int .i64 ac, .int .i64 sd, .int .i64 pr, .int .i64 q] 44) := ⟨_, rfl⟩
  have BW0 : Hid (Below w.heap.size w W0) := by rw [hW0]; exact ((Below.refl _ w).alloc (Nat.le_refl _) _).alloc (by simp) _
  have KB : Hid (∀ x, Below W0.heap.size W0 x → (∀ i v, (#[.slice p nb c, .slice p' na c'] : Array Value)[i]? = some v → x.cell? ⟨w.heap.size, i, none⟩ = some v) ∧ (∀ i v, (#[.int .i64 a, .int .i64 ac, .int .i64 sd, .int .i64 pr, .int .i64 q] : Array Value)[i]? = some v → x.cell? ⟨w.heap.size + 1, i, none⟩ = some v)) := fun x hx => by
    have hk := fun ad v (he : W0.cell? ad = some v) => (hx.cell (World.block_lt_of_cell? _ _ he)).trans he
    refine ⟨fun i v hv => hk _ _ ?_, fun i v hv => hk _ _ ?_⟩
    · rw [hW0]; exact cell_alloc (new_cell w _ _ i v hv) _
    · rw [hW0]; exact new_cell2 w _ _ _ i v hv
  rw [← hW0]
  clear hW0
  refine (TA.out _ BW0.out).mono ?_
  rintro e W1 ⟨p1, c1, p2, c2, v1, rfl, o1, o2, of1, hb1⟩
  obtain ⟨pf, cf, rfl, fv1, -⟩ := ownF_fv of1
  have B1 := hide hb1
  have O1 := hide o1
  have O2 := hide o2
  have FV1 := hide fv1
  obtain ⟨kb, ko⟩ := KB.out W1 hb1
  have e0 := fun o => cell_alloc (kb 0 _ rfl) o
  have e1 := fun o => cell_alloc (kb 1 _ rfl) o
  have f0 := fun o => cell_alloc (ko 0 _ rfl) o
  have f1 := fun o => cell_alloc (ko 1 _ rfl) o
  have f2 := fun o => cell_alloc (ko 2 _ rfl) o
  have f3 := fun o => cell_alloc (ko 3 _ rfl) o
  have f4 := fun o => cell_alloc (ko 4 _ rfl) o
  clear hb1 o1 o2 of1 fv1 kb ko
  go_wp2_with fail
  obtain ⟨V1, hV1⟩ : ∃ V1, V1 = W1.alloc (.cells #[.slice p1 XB.length c1, .slice p2 XA.length c2] 42) := ⟨_, rfl⟩
  have XV : Hid (∀ i v, (#[.slice p1 XB.length c1, .slice p2 XA.length c2] : Array Value)[i]? = some v → V1.cell? ⟨W1.heap.size, i, none⟩ = some v) := fun i v hv => by rw [hV1]; exact new_cell W1 _ _ i v hv
  have BV1 : Hid (Below W1.heap.size W1 V1) := by rw [hV1]; exact below_new _ _
  have BT1 := hide (below_on B1.out rfl BV1.out)
  rw [← hV1]
  clear hV1 e0 e1 f0 f1 f2 f3 f4
  refine (CO.out _ (below_on BW0.out rfl BT1.out)).mono ?_
  rintro e W2 ⟨p3, c3, p4, c4, v2, rfl, o3, o4, of2, hb2⟩
  obtain ⟨pg, cg, rfl, fv2, -⟩ := ownF_fv of2
  have BT2 := hide (below_on BT1.out rfl hb2)
  have BX2 := hide hb2
  have O3 := hide o3
  have O4 := hide o4
  have FV2 := hide fv2
  obtain ⟨kb, -⟩ := KB.out W2 BT2.out
  have e0 := fun o o' => cell_alloc (cell_alloc (kb 0 _ rfl) o) o'
  have e1 := fun o o' => cell_alloc (cell_alloc (kb 1 _ rfl) o) o'
  clear hb2 o3 o4 of2 fv2 kb
  go_wp2_with fail
  obtain ⟨V2, hV2⟩ : ∃ V2, V2 = (W2.alloc (.cells #[.slice p3 YB.length c3, .slice p4 YA.length c4] 42)).alloc (.cells #[.slice none 0 0, .slice none 0 0] 42) := ⟨_, rfl⟩
  have YV : Hid (∀ i v, (#[.slice p3 YB.length c3, .slice p4 YA.length c4] : Array Value)[i]? = some v → V2.cell? ⟨W2.heap.size, i, none⟩ = some v) := fun i v hv => by rw [hV2]; exact cell_alloc (new_cell W2 _ _ i v hv) _
  have NV : Hid (∀ i v, (#[.slice none 0 0, .slice none 0 0] : Array Value)[i]? = some v → V2.cell? ⟨W2.heap.size + 1, i, none⟩ = some v) := fun i v hv => by rw [hV2]; exact new_cell2 W2 _ _ _ i v hv
  have BV2 : Hid (Below W2.heap.size W2 V2) := by rw [hV2]; exact ((Below.refl _ W2).alloc (Nat.le_refl _) _).alloc (by simp) _
  have BT3 := hide (below_on BT2.out rfl BV2.out)
  rw [← hV2]
  clear hV2 e0 e1
  refine (CB.out _ (below_on BW0.out rfl BT3.out)).mono ?_
  rintro e W3 ⟨rfl, hb3⟩
  have B3 := hide hb3
  clear hb3
  go_wp2_with fail
  refine (matched_any _).mono ?_
  rintro e W4 ⟨rfl, hb4⟩
  have B34 := hide (below_on B3.out rfl hb4)
  clear hb4
  have KEPT : Hid (∀ y, Below W4.heap.size W4 y → Below w.heap.size w y ∧ (∀ i v, (#[.slice p nb c, .slice p' na c'] : Array Value)[i]? = some v → y.cell? ⟨w.heap.size, i, none⟩ = some v) ∧ (∀ i v, (#[.int .i64 a, .int .i64 ac, .int .i64 sd, .int .i64 pr, .int .i64 q] : Array Value)[i]? = some v → y.cell? ⟨w.heap.size + 1, i, none⟩ = some v) ∧ (∀ i v, (#[.slice p1 XB.length c1, .slice p2 XA.length c2] : Array Value)[i]? = some v → y.cell? ⟨W1.heap.size, i, none⟩ = some v) ∧ (∀ i v, (#[.slice p3 YB.length c3, .slice p4 YA.length c4] : Array Value)[i]? = some v → y.cell? ⟨W2.heap.size, i, none⟩ = some v) ∧ (∀ i v, (#[.slice none 0 0, .slice none 0 0] : Array Value)[i]? = some v → y.cell? ⟨W2.heap.size + 1, i, none⟩ = some v) ∧ OV y p1 c1 XB ∧ OV y p2 c2 XA ∧ OV y p3 c3 YB ∧ OV y p4 c4 YA ∧ FV y pf cf FL ∧ FV y pg cg FM) := fun y hy => by
    have b2 := below_on B34.out rfl hy
    have b2' := below_on BV2.out rfl b2
    have b1 := below_on BX2.out rfl b2'
    have b1' := below_on BV1.out rfl b1
    have bT := below_on B1.out rfl b1'
    obtain ⟨k1, k2⟩ := KB.out y bT
    have cv := fun {u y : World} (hb : Below u.heap.size u y) {ad v} (he : u.cell? ad = some v) => (hb.cell (World.block_lt_of_cell? _ _ he)).trans he
    exact ⟨below_on BW0.out rfl bT, k1, k2, fun i v hv => cv b1 (XV.out i v hv), fun i v hv => cv b2 (YV.out i v hv), fun i v hv => cv b2 (NV.out i v hv), O1.out.below b1', O2.out.below b1', O3.out.below b2', O4.out.below b2', FV1.out.below b1', FV2.out.below b2'⟩
  clear XV YV NV BV1 BV2 BT1 BT2 BT3 B34 B3 B1 BX2 O1 O2 O3 O4 FV1 FV2 KB TA CO CB
  obtain ⟨z1, z2, z3, z4, z5, z6⟩ := ZZ.out
  clear ZZ
  subst z1 z2 z3 z4 z5 z6
  simp only [List.length_nil] at KEPT ⊢
  obtain ⟨bw, kb, ko, kx, ky, kn, -⟩ := KEPT.out W4 (Below.refl _ _)
  have e0 := kb 0 _ rfl
  have e1 := kb 1 _ rfl
  have f0 := ko 0 _ rfl
  have f1 := ko 1 _ rfl
  have f2 := ko 2 _ rfl
  have f3 := ko 3 _ rfl
  have f4 := ko 4 _ rfl
  have x0 := kx 0 _ rfl
  have x1 := kx 1 _ rfl
  have y0 := ky 0 _ rfl
  have y1 := ky 1 _ rfl
  have n0 := kn 0 _ rfl
  have n1 := kn 1 _ rfl
  clear bw kb ko kx ky kn
  go_wp2_with fail
  refine (SN.out _ _ _ _ _).mono ?_
  rintro e W5 ⟨rfl, hb5⟩
  have B5 := hide hb5
  clear e0 e1 f0 f1 f2 f3 f4 x0 x1 y0 y1 n0 n1 hb5
  obtain ⟨bw, kb, ko, kx, ky, kn, -⟩ := KEPT.out W5 B5.out
  have e0 := kb 0 _ rfl
  have e1 := kb 1 _ rfl
  have f0 := ko 0 _ rfl
  have f1 := ko 1 _ rfl
  have f2 := ko 2 _ rfl
  have f3 := ko 3 _ rfl
  have f4 := ko 4 _ rfl
  have x0 := kx 0 _ rfl
  have x1 := kx 1 _ rfl
  have y0 := ky 0 _ rfl
  have y1 := ky 1 _ rfl
  have n0 := kn 0 _ rfl
  have n1 := kn 1 _ rfl
  clear bw kb ko kx ky kn
  go_wp2_with fail
  refine (SN.out _ _ _ _ _).mono ?_
  rintro e W6 ⟨rfl, hb6⟩
  have B6 := hide (KEPT.out W6 (below_on B5.out rfl hb6)).1
  clear e0 e1 f0 f1 f2 f3 f4 x0 x1 y0 y1 n0 n1 hb6
  go_wp2
  go_ret
  exact ⟨rfl, B6.out⟩

set_option maxHeartbeats 4000000 in
set_option maxRecDepth 100000 in
theorem says_2 (p p' : Option Addr) (c c' nb na : Nat) (a ac sd pr q how oe rl ce : Int) (w : World) (XB XA YB YA : List Odr) (FL FM : List Fil) (hoe : ¬ oe = 0) (z1 : XB = []) (z2 : XA = []) (z5 : FL = []) (ny : YB.length ≤ 140737488351232 ∧ YA.length ≤ 140737488351232) (nf : FM.length ≤ 1000)
    (TA : Hid (∀ X, Below w.heap.size w X → Calls Try.prog 49 #[.agg #[.slice p nb c, .slice p' na c'], .agg #[.int .i64 a, .int .i64 ac, .int .i64 sd, .int .i64 pr, .int .i64 q]] X (TkPost X XB XA FL 0 false oe)))
    (CO : Hid (∀ X, Below w.heap.size w X → Calls Try.prog 50 #[.agg #[.slice p nb c, .slice p' na c'], .agg #[.int .i64 a, .int .i64 ac, .int .i64 sd, .int .i64 pr, .int .i64 q], .int .i64 how] X (CamePost X YB YA FM rl ce)))
    (CB : Hid (∀ X, Below w.heap.size w X → Calls Try.prog 34 #[.agg #[.slice p nb c, .slice p' na c']] X fun e w' => e = .returned (.int .i64 0) ∧ Below X.heap.size X w'))
    (CK : Hid (∀ X, Calls Try.prog 38 #[.agg #[.int .i64 a, .int .i64 ac, .int .i64 sd, .int .i64 pr, .int .i64 q]] X fun e w' => e = .returned (.int .i64 oe) ∧ Below X.heap.size X w'))
    (CM : Hid (∀ X, Below w.heap.size w X → Calls Try.prog 54 #[.agg #[.slice p nb c, .slice p' na c'], .agg #[.int .i64 a, .int .i64 ac, .int .i64 sd, .int .i64 pr, .int .i64 q], .int .i64 how] X (CamePost X YB YA FM rl ce))) :
    Calls Try.prog 10 #[.agg #[.slice p nb c, .slice p' na c'], .agg #[.int .i64 a, .int .i64 ac, .int .i64 sd, .int .i64 pr, .int .i64 q], .int .i64 how] w fun e w' => e = .returned (.bool true) ∧ Below w.heap.size w w' := by
  have er : (oe == 0) = false := by simp [hoe]
  have ZZ := hide (And.intro z1 (And.intro z2 z5))
  clear z1 z2 z5
  have SN : Hid (∀ (u u' : Option Addr) (x x' : Nat) (W : World), Calls Try.prog 42 #[.agg #[.slice u 0 x, .slice u' 0 x'], .agg #[.slice none 0 0, .slice none 0 0]] W fun e w' => e = .returned (.bool true) ∧ Below W.heap.size W w') := fun u u' x x' W => (refSame_any u u' none none x x' 0 0 [] [] [] [] W (.inl rfl) (.inl rfl) (.inl rfl) (.inl rfl) (by simp) (by simp) (by simp) (by simp)).mono fun _ _ ⟨he, hb⟩ => ⟨by rw [he]; simp, hb⟩
  go_enter Try.func10, Try.ntmps10
  go_wp2_with fail
  obtain ⟨W0, hW0⟩ : ∃ W0, W0 = (w.alloc (.cells #[.slice p nb c, .slice p' na c'] 42)).alloc (.cells #[.int .i64 a, .int .i64 ac, .int .i64 sd, .int .i64 pr, .int .i64 q] 44) := ⟨_, rfl⟩
  have BW0 : Hid (Below w.heap.size w W0) := by rw [hW0]; exact ((Below.refl _ w).alloc (Nat.le_refl _) _).alloc (by simp) _
  have KB : Hid (∀ x, Below W0.heap.size W0 x → (∀ i v, (#[.slice p nb c, .slice p' na c'] : Array Value)[i]? = some v → x.cell? ⟨w.heap.size, i, none⟩ = some v) ∧ (∀ i v, (#[.int .i64 a, .int .i64 ac, .int .i64 sd, .int .i64 pr, .int .i64 q] : Array Value)[i]? = some v → x.cell? ⟨w.heap.size + 1, i, none⟩ = some v)) := fun x hx => by
    have hk := fun ad v (he : W0.cell? ad = some v) => (hx.cell (World.block_lt_of_cell? _ _ he)).trans he
    refine ⟨fun i v hv => hk _ _ ?_, fun i v hv => hk _ _ ?_⟩
    · rw [hW0]; exact cell_alloc (new_cell w _ _ i v hv) _
    · rw [hW0]; exact new_cell2 w _ _ _ i v hv
  rw [← hW0]
  clear hW0
  refine (TA.out _ BW0.out).mono ?_
  rintro e W1 ⟨p1, c1, p2, c2, v1, rfl, o1, o2, of1, hb1⟩
  obtain ⟨pf, cf, rfl, fv1, -⟩ := ownF_fv of1
  have B1 := hide hb1
  have O1 := hide o1
  have O2 := hide o2
  have FV1 := hide fv1
  obtain ⟨kb, ko⟩ := KB.out W1 hb1
  have e0 := fun o => cell_alloc (kb 0 _ rfl) o
  have e1 := fun o => cell_alloc (kb 1 _ rfl) o
  have f0 := fun o => cell_alloc (ko 0 _ rfl) o
  have f1 := fun o => cell_alloc (ko 1 _ rfl) o
  have f2 := fun o => cell_alloc (ko 2 _ rfl) o
  have f3 := fun o => cell_alloc (ko 3 _ rfl) o
  have f4 := fun o => cell_alloc (ko 4 _ rfl) o
  clear hb1 o1 o2 of1 fv1 kb ko
  go_wp2_with fail
  obtain ⟨V1, hV1⟩ : ∃ V1, V1 = W1.alloc (.cells #[.slice p1 XB.length c1, .slice p2 XA.length c2] 42) := ⟨_, rfl⟩
  have XV : Hid (∀ i v, (#[.slice p1 XB.length c1, .slice p2 XA.length c2] : Array Value)[i]? = some v → V1.cell? ⟨W1.heap.size, i, none⟩ = some v) := fun i v hv => by rw [hV1]; exact new_cell W1 _ _ i v hv
  have BV1 : Hid (Below W1.heap.size W1 V1) := by rw [hV1]; exact below_new _ _
  have BT1 := hide (below_on B1.out rfl BV1.out)
  rw [← hV1]
  clear hV1 e0 e1 f0 f1 f2 f3 f4
  refine (CO.out _ (below_on BW0.out rfl BT1.out)).mono ?_
  rintro e W2 ⟨p3, c3, p4, c4, v2, rfl, o3, o4, of2, hb2⟩
  obtain ⟨pg, cg, rfl, fv2, -⟩ := ownF_fv of2
  have BT2 := hide (below_on BT1.out rfl hb2)
  have BX2 := hide hb2
  have O3 := hide o3
  have O4 := hide o4
  have FV2 := hide fv2
  obtain ⟨kb, -⟩ := KB.out W2 BT2.out
  have e0 := fun o o' => cell_alloc (cell_alloc (kb 0 _ rfl) o) o'
  have e1 := fun o o' => cell_alloc (cell_alloc (kb 1 _ rfl) o) o'
  clear hb2 o3 o4 of2 fv2 kb
  go_wp2_with fail
  obtain ⟨V2, hV2⟩ : ∃ V2, V2 = (W2.alloc (.cells #[.slice p3 YB.length c3, .slice p4 YA.length c4] 42)).alloc (.cells #[.slice none 0 0, .slice none 0 0] 42) := ⟨_, rfl⟩
  have YV : Hid (∀ i v, (#[.slice p3 YB.length c3, .slice p4 YA.length c4] : Array Value)[i]? = some v → V2.cell? ⟨W2.heap.size, i, none⟩ = some v) := fun i v hv => by rw [hV2]; exact cell_alloc (new_cell W2 _ _ i v hv) _
  have NV : Hid (∀ i v, (#[.slice none 0 0, .slice none 0 0] : Array Value)[i]? = some v → V2.cell? ⟨W2.heap.size + 1, i, none⟩ = some v) := fun i v hv => by rw [hV2]; exact new_cell2 W2 _ _ _ i v hv
  have BV2 : Hid (Below W2.heap.size W2 V2) := by rw [hV2]; exact ((Below.refl _ W2).alloc (Nat.le_refl _) _).alloc (by simp) _
  have BT3 := hide (below_on BT2.out rfl BV2.out)
  rw [← hV2]
  clear hV2 e0 e1
  refine (CB.out _ (below_on BW0.out rfl BT3.out)).mono ?_
  rintro e W3 ⟨rfl, hb3⟩
  have B3 := hide hb3
  clear hb3
  go_wp2_with fail
  refine (matched_any _).mono ?_
  rintro e W4 ⟨rfl, hb4⟩
  have B34 := hide (below_on B3.out rfl hb4)
  clear hb4
  have KEPT : Hid (∀ y, Below W4.heap.size W4 y → Below w.heap.size w y ∧ (∀ i v, (#[.slice p nb c, .slice p' na c'] : Array Value)[i]? = some v → y.cell? ⟨w.heap.size, i, none⟩ = some v) ∧ (∀ i v, (#[.int .i64 a, .int .i64 ac, .int .i64 sd, .int .i64 pr, .int .i64 q] : Array Value)[i]? = some v → y.cell? ⟨w.heap.size + 1, i, none⟩ = some v) ∧ (∀ i v, (#[.slice p1 XB.length c1, .slice p2 XA.length c2] : Array Value)[i]? = some v → y.cell? ⟨W1.heap.size, i, none⟩ = some v) ∧ (∀ i v, (#[.slice p3 YB.length c3, .slice p4 YA.length c4] : Array Value)[i]? = some v → y.cell? ⟨W2.heap.size, i, none⟩ = some v) ∧ (∀ i v, (#[.slice none 0 0, .slice none 0 0] : Array Value)[i]? = some v → y.cell? ⟨W2.heap.size + 1, i, none⟩ = some v) ∧ OV y p1 c1 XB ∧ OV y p2 c2 XA ∧ OV y p3 c3 YB ∧ OV y p4 c4 YA ∧ FV y pf cf FL ∧ FV y pg cg FM) := fun y hy => by
    have b2 := below_on B34.out rfl hy
    have b2' := below_on BV2.out rfl b2
    have b1 := below_on BX2.out rfl b2'
    have b1' := below_on BV1.out rfl b1
    have bT := below_on B1.out rfl b1'
    obtain ⟨k1, k2⟩ := KB.out y bT
    have cv := fun {u y : World} (hb : Below u.heap.size u y) {ad v} (he : u.cell? ad = some v) => (hb.cell (World.block_lt_of_cell? _ _ he)).trans he
    exact ⟨below_on BW0.out rfl bT, k1, k2, fun i v hv => cv b1 (XV.out i v hv), fun i v hv => cv b2 (YV.out i v hv), fun i v hv => cv b2 (NV.out i v hv), O1.out.below b1', O2.out.below b1', O3.out.below b2', O4.out.below b2', FV1.out.below b1', FV2.out.below b2'⟩
  clear XV YV NV BV1 BV2 BT1 BT2 BT3 B34 B3 B1 BX2 O1 O2 O3 O4 FV1 FV2 KB TA CO CB
  obtain ⟨z1, z2, z5⟩ := ZZ.out
  clear ZZ
  subst z1 z2 z5
  simp only [List.length_nil] at KEPT ⊢
  obtain ⟨bw, kb, ko, kx, ky, kn, -⟩ := KEPT.out W4 (Below.refl _ _)
  have e0 := kb 0 _ rfl
  have e1 := kb 1 _ rfl
  have f0 := ko 0 _ rfl
  have f1 := ko 1 _ rfl
  have f2 := ko 2 _ rfl
  have f3 := ko 3 _ rfl
  have f4 := ko 4 _ rfl
  have x0 := kx 0 _ rfl
  have x1 := kx 1 _ rfl
  have y0 := ky 0 _ rfl
  have y1 := ky 1 _ rfl
  have n0 := kn 0 _ rfl
  have n1 := kn 1 _ rfl
  clear bw kb ko kx ky kn
  go_wp2_with fail
  refine (CK.out _).mono ?_
  rintro e W5 ⟨rfl, hb5⟩
  have B5 := hide hb5
  clear e0 e1 f0 f1 f2 f3 f4 x0 x1 y0 y1 n0 n1 hb5
  obtain ⟨bw, kb, ko, kx, ky, kn, -⟩ := KEPT.out W5 B5.out
  have e0 := kb 0 _ rfl
  have e1 := kb 1 _ rfl
  have f0 := ko 0 _ rfl
  have f1 := ko 1 _ rfl
  have f2 := ko 2 _ rfl
  have f3 := ko 3 _ rfl
  have f4 := ko 4 _ rfl
  have x0 := kx 0 _ rfl
  have x1 := kx 1 _ rfl
  have y0 := ky 0 _ rfl
  have y1 := ky 1 _ rfl
  have n0 := kn 0 _ rfl
  have n1 := kn 1 _ rfl
  clear bw kb ko kx ky kn
  go_wp2_with fail
  refine (SN.out _ _ _ _ _).mono ?_
  rintro e WL ⟨rfl, hb6⟩
  have BL := hide (below_on B5.out rfl hb6)
  clear e0 e1 f0 f1 f2 f3 f4 x0 x1 y0 y1 n0 n1 hb6
  obtain ⟨bw, kb, ko, kx, ky, kn, -⟩ := KEPT.out WL BL.out
  have e0 := kb 0 _ rfl
  have e1 := kb 1 _ rfl
  have f0 := ko 0 _ rfl
  have f1 := ko 1 _ rfl
  have f2 := ko 2 _ rfl
  have f3 := ko 3 _ rfl
  have f4 := ko 4 _ rfl
  have x0 := kx 0 _ rfl
  have x1 := kx 1 _ rfl
  have y0 := ky 0 _ rfl
  have y1 := ky 1 _ rfl
  have n0 := kn 0 _ rfl
  have n1 := kn 1 _ rfl
  clear bw kb ko kx ky kn
  go_wp2_with fail
  refine (CM.out _ (KEPT.out _ BL.out).1).mono ?_
  rintro e W7 ⟨p7, c7, p8, c8, v7, rfl, o7, o8, of7, hb7⟩
  obtain ⟨ph, ch, rfl, fv7, -⟩ := ownF_fv of7
  have B7 := hide (below_on BL.out rfl hb7)
  obtain ⟨V7, hV7⟩ : ∃ V7, V7 = W7.alloc (.cells #[.slice p7 YB.length c7, .slice p8 YA.length c8] 42) := ⟨_, rfl⟩
  have bv7 : Below W7.heap.size W7 V7 := by rw [hV7]; exact below_new _ _
  have B8 := hide (below_on B7.out rfl bv7)
  have r0 : V7.cell? ⟨W7.heap.size, 0, none⟩ = some (.slice p7 YB.length c7) := by rw [hV7]; exact new_cell W7 _ _ 0 _ rfl
  have r1 : V7.cell? ⟨W7.heap.size, 1, none⟩ = some (.slice p8 YA.length c8) := by rw [hV7]; exact new_cell W7 _ _ 1 _ rfl
  have KK := KEPT.out V7 B8.out
  have SB := hide (refSame_any p3 p4 p7 p8 c3 c4 c7 c8 YB YA YB YA V7 KK.2.2.2.2.2.2.2.2.1.row KK.2.2.2.2.2.2.2.2.2.1.row (o7.below bv7).row (o8.below bv7).row ny.1 ny.2 ny.1 ny.2)
  rw [decide_eq_true ⟨rfl, rfl⟩] at SB
  have FF := hide (fun y (hy : Below V7.heap.size V7 y) => equalF_same pg ph cg ch FM y ((KEPT.out y (below_on B8.out rfl hy)).2.2.2.2.2.2.2.2.2.2.2) ((fv7.below bv7).below hy) nf)
  have HV7 := hide hV7
  clear hb7 o7 o8 of7 fv7 bv7 hV7 KK e0 e1 f0 f1 f2 f3 f4 x0 x1 y0 y1 n0 n1
  obtain ⟨bw, kb, ko, kx, ky, kn, -⟩ := KEPT.out V7 B8.out
  have e0 := kb 0 _ rfl
  have e1 := kb 1 _ rfl
  have f0 := ko 0 _ rfl
  have f1 := ko 1 _ rfl
  have f2 := ko 2 _ rfl
  have f3 := ko 3 _ rfl
  have f4 := ko 4 _ rfl
  have x0 := kx 0 _ rfl
  have x1 := kx 1 _ rfl
  have y0 := ky 0 _ rfl
  have y1 := ky 1 _ rfl
  have n0 := kn 0 _ rfl
  have n1 := kn 1 _ rfl
  clear bw kb ko kx ky kn
  go_wp2_with (rw [← HV7.out])
  refine SB.out.mono ?_
  rintro e W9 ⟨rfl, hb9⟩
  have B9 := hide (below_on B8.out rfl hb9)
  have FX := hide (FF.out W9 hb9)
  clear hb9 e0 e1 f0 f1 f2 f3 f4 x0 x1 y0 y1 n0 n1 r0 r1
  go_wp2_with fail
  refine FX.out.mono ?_
  rintro e W10 ⟨rfl, hb10⟩
  have B10 := hide (KEPT.out W10 (below_on B9.out rfl hb10)).1
  clear hb10
  go_wp2
  go_ret
  exact ⟨rfl, B10.out⟩

set_option maxHeartbeats 4000000 in
set_option maxRecDepth 100000 in
theorem says_3 (p p' : Option Addr) (c c' nb na : Nat) (a ac sd pr q how lf rl ce : Int) (mt : Bool) (w : World) (XB XA YB YA : List Odr) (FL FM : List Fil) (nx : XB.length ≤ 140737488351232 ∧ XA.length ≤ 140737488351232) (ny : YB.length ≤ 140737488351232 ∧ YA.length ≤ 140737488351232) (nl : FL.length ≤ 1000) (nf : FM.length ≤ 1000)
    (TA : Hid (∀ X, Below w.heap.size w X → Calls Try.prog 49 #[.agg #[.slice p nb c, .slice p' na c'], .agg #[.int .i64 a, .int .i64 ac, .int .i64 sd, .int .i64 pr, .int .i64 q]] X (TkPost X XB XA FL lf mt 0)))
    (CO : Hid (∀ X, Below w.heap.size w X → Calls Try.prog 50 #[.agg #[.slice p nb c, .slice p' na c'], .agg #[.int .i64 a, .int .i64 ac, .int .i64 sd, .int .i64 pr, .int .i64 q], .int .i64 how] X (CamePost X YB YA FM rl ce)))
    (CB : Hid (∀ X, Below w.heap.size w X → Calls Try.prog 34 #[.agg #[.slice p nb c, .slice p' na c']] X fun e w' => e = .returned (.int .i64 0) ∧ Below X.heap.size X w'))
    (CK : Hid (∀ X, Calls Try.prog 38 #[.agg #[.int .i64 a, .int .i64 ac, .int .i64 sd, .int .i64 pr, .int .i64 q]] X fun e w' => e = .returned (.int .i64 0) ∧ Below X.heap.size X w'))
    (TKN : Hid (∀ X, Below w.heap.size w X → Calls Try.prog 52 #[.agg #[.slice p nb c, .slice p' na c'], .agg #[.int .i64 a, .int .i64 ac, .int .i64 sd, .int .i64 pr, .int .i64 q]] X fun e w' => TakenPost X XB XA FL lf mt e w'))
    (CM : Hid (∀ X, Below w.heap.size w X → Calls Try.prog 54 #[.agg #[.slice p nb c, .slice p' na c'], .agg #[.int .i64 a, .int .i64 ac, .int .i64 sd, .int .i64 pr, .int .i64 q], .int .i64 how] X (CamePost X YB YA FM rl ce))) :
    Calls Try.prog 10 #[.agg #[.slice p nb c, .slice p' na c'], .agg #[.int .i64 a, .int .i64 ac, .int .i64 sd, .int .i64 pr, .int .i64 q], .int .i64 how] w fun e w' => e = .returned (.bool true) ∧ Below w.heap.size w w' := by
  go_enter Try.func10, Try.ntmps10
  go_wp2_with fail
  obtain ⟨W0, hW0⟩ : ∃ W0, W0 = (w.alloc (.cells #[.slice p nb c, .slice p' na c'] 42)).alloc (.cells #[.int .i64 a, .int .i64 ac, .int .i64 sd, .int .i64 pr, .int .i64 q] 44) := ⟨_, rfl⟩
  have BW0 : Hid (Below w.heap.size w W0) := by rw [hW0]; exact ((Below.refl _ w).alloc (Nat.le_refl _) _).alloc (by simp) _
  have KB : Hid (∀ x, Below W0.heap.size W0 x → (∀ i v, (#[.slice p nb c, .slice p' na c'] : Array Value)[i]? = some v → x.cell? ⟨w.heap.size, i, none⟩ = some v) ∧ (∀ i v, (#[.int .i64 a, .int .i64 ac, .int .i64 sd, .int .i64 pr, .int .i64 q] : Array Value)[i]? = some v → x.cell? ⟨w.heap.size + 1, i, none⟩ = some v)) := fun x hx => by
    have hk := fun ad v (he : W0.cell? ad = some v) => (hx.cell (World.block_lt_of_cell? _ _ he)).trans he
    refine ⟨fun i v hv => hk _ _ ?_, fun i v hv => hk _ _ ?_⟩
    · rw [hW0]; exact cell_alloc (new_cell w _ _ i v hv) _
    · rw [hW0]; exact new_cell2 w _ _ _ i v hv
  rw [← hW0]
  clear hW0
  refine (TA.out _ BW0.out).mono ?_
  rintro e W1 ⟨p1, c1, p2, c2, v1, rfl, o1, o2, of1, hb1⟩
  obtain ⟨pf, cf, rfl, fv1, -⟩ := ownF_fv of1
  have B1 := hide hb1
  have O1 := hide o1
  have O2 := hide o2
  have FV1 := hide fv1
  obtain ⟨kb, ko⟩ := KB.out W1 hb1
  have e0 := fun o => cell_alloc (kb 0 _ rfl) o
  have e1 := fun o => cell_alloc (kb 1 _ rfl) o
  have f0 := fun o => cell_alloc (ko 0 _ rfl) o
  have f1 := fun o => cell_alloc (ko 1 _ rfl) o
  have f2 := fun o => cell_alloc (ko 2 _ rfl) o
  have f3 := fun o => cell_alloc (ko 3 _ rfl) o
  have f4 := fun o => cell_alloc (ko 4 _ rfl) o
  clear hb1 o1 o2 of1 fv1 kb ko
  go_wp2_with fail
  obtain ⟨V1, hV1⟩ : ∃ V1, V1 = W1.alloc (.cells #[.slice p1 XB.length c1, .slice p2 XA.length c2] 42) := ⟨_, rfl⟩
  have XV : Hid (∀ i v, (#[.slice p1 XB.length c1, .slice p2 XA.length c2] : Array Value)[i]? = some v → V1.cell? ⟨W1.heap.size, i, none⟩ = some v) := fun i v hv => by rw [hV1]; exact new_cell W1 _ _ i v hv
  have BV1 : Hid (Below W1.heap.size W1 V1) := by rw [hV1]; exact below_new _ _
  have BT1 := hide (below_on B1.out rfl BV1.out)
  rw [← hV1]
  clear hV1 e0 e1 f0 f1 f2 f3 f4
  refine (CO.out _ (below_on BW0.out rfl BT1.out)).mono ?_
  rintro e W2 ⟨p3, c3, p4, c4, v2, rfl, o3, o4, of2, hb2⟩
  obtain ⟨pg, cg, rfl, fv2, -⟩ := ownF_fv of2
  have BT2 := hide (below_on BT1.out rfl hb2)
  have BX2 := hide hb2
  have O3 := hide o3
  have O4 := hide o4
  have FV2 := hide fv2
  obtain ⟨kb, -⟩ := KB.out W2 BT2.out
  have e0 := fun o o' => cell_alloc (cell_alloc (kb 0 _ rfl) o) o'
  have e1 := fun o o' => cell_alloc (cell_alloc (kb 1 _ rfl) o) o'
  clear hb2 o3 o4 of2 fv2 kb
  go_wp2_with fail
  obtain ⟨V2, hV2⟩ : ∃ V2, V2 = (W2.alloc (.cells #[.slice p3 YB.length c3, .slice p4 YA.length c4] 42)).alloc (.cells #[.slice none 0 0, .slice none 0 0] 42) := ⟨_, rfl⟩
  have YV : Hid (∀ i v, (#[.slice p3 YB.length c3, .slice p4 YA.length c4] : Array Value)[i]? = some v → V2.cell? ⟨W2.heap.size, i, none⟩ = some v) := fun i v hv => by rw [hV2]; exact cell_alloc (new_cell W2 _ _ i v hv) _
  have NV : Hid (∀ i v, (#[.slice none 0 0, .slice none 0 0] : Array Value)[i]? = some v → V2.cell? ⟨W2.heap.size + 1, i, none⟩ = some v) := fun i v hv => by rw [hV2]; exact new_cell2 W2 _ _ _ i v hv
  have BV2 : Hid (Below W2.heap.size W2 V2) := by rw [hV2]; exact ((Below.refl _ W2).alloc (Nat.le_refl _) _).alloc (by simp) _
  have BT3 := hide (below_on BT2.out rfl BV2.out)
  rw [← hV2]
  clear hV2 e0 e1
  refine (CB.out _ (below_on BW0.out rfl BT3.out)).mono ?_
  rintro e W3 ⟨rfl, hb3⟩
  have B3 := hide hb3
  clear hb3
  go_wp2_with fail
  refine (matched_any _).mono ?_
  rintro e W4 ⟨rfl, hb4⟩
  have B34 := hide (below_on B3.out rfl hb4)
  clear hb4
  have KEPT : Hid (∀ y, Below W4.heap.size W4 y → Below w.heap.size w y ∧ (∀ i v, (#[.slice p nb c, .slice p' na c'] : Array Value)[i]? = some v → y.cell? ⟨w.heap.size, i, none⟩ = some v) ∧ (∀ i v, (#[.int .i64 a, .int .i64 ac, .int .i64 sd, .int .i64 pr, .int .i64 q] : Array Value)[i]? = some v → y.cell? ⟨w.heap.size + 1, i, none⟩ = some v) ∧ (∀ i v, (#[.slice p1 XB.length c1, .slice p2 XA.length c2] : Array Value)[i]? = some v → y.cell? ⟨W1.heap.size, i, none⟩ = some v) ∧ (∀ i v, (#[.slice p3 YB.length c3, .slice p4 YA.length c4] : Array Value)[i]? = some v → y.cell? ⟨W2.heap.size, i, none⟩ = some v) ∧ (∀ i v, (#[.slice none 0 0, .slice none 0 0] : Array Value)[i]? = some v → y.cell? ⟨W2.heap.size + 1, i, none⟩ = some v) ∧ OV y p1 c1 XB ∧ OV y p2 c2 XA ∧ OV y p3 c3 YB ∧ OV y p4 c4 YA ∧ FV y pf cf FL ∧ FV y pg cg FM) := fun y hy => by
    have b2 := below_on B34.out rfl hy
    have b2' := below_on BV2.out rfl b2
    have b1 := below_on BX2.out rfl b2'
    have b1' := below_on BV1.out rfl b1
    have bT := below_on B1.out rfl b1'
    obtain ⟨k1, k2⟩ := KB.out y bT
    have cv := fun {u y : World} (hb : Below u.heap.size u y) {ad v} (he : u.cell? ad = some v) => (hb.cell (World.block_lt_of_cell? _ _ he)).trans he
    exact ⟨below_on BW0.out rfl bT, k1, k2, fun i v hv => cv b1 (XV.out i v hv), fun i v hv => cv b2 (YV.out i v hv), fun i v hv => cv b2 (NV.out i v hv), O1.out.below b1', O2.out.below b1', O3.out.below b2', O4.out.below b2', FV1.out.below b1', FV2.out.below b2'⟩
  clear XV YV NV BV1 BV2 BT1 BT2 BT3 B34 B3 B1 BX2 O1 O2 O3 O4 FV1 FV2 KB TA CO CB
  obtain ⟨bw, kb, ko, kx, ky, kn, -⟩ := KEPT.out W4 (Below.refl _ _)
  have e0 := kb 0 _ rfl
  have e1 := kb 1 _ rfl
  have f0 := ko 0 _ rfl
  have f1 := ko 1 _ rfl
  have f2 := ko 2 _ rfl
  have f3 := ko 3 _ rfl
  have f4 := ko 4 _ rfl
  have x0 := kx 0 _ rfl
  have x1 := kx 1 _ rfl
  have y0 := ky 0 _ rfl
  have y1 := ky 1 _ rfl
  have n0 := kn 0 _ rfl
  have n1 := kn 1 _ rfl
  clear bw kb ko kx ky kn
  go_wp2_with fail
  refine (CK.out _).mono ?_
  rintro e W5 ⟨rfl, hb5⟩
  have B5 := hide hb5
  clear e0 e1 f0 f1 f2 f3 f4 x0 x1 y0 y1 n0 n1 hb5
  obtain ⟨bw, kb, ko, kx, ky, kn, -⟩ := KEPT.out W5 B5.out
  have e0 := kb 0 _ rfl
  have e1 := kb 1 _ rfl
  have f0 := ko 0 _ rfl
  have f1 := ko 1 _ rfl
  have f2 := ko 2 _ rfl
  have f3 := ko 3 _ rfl
  have f4 := ko 4 _ rfl
  have x0 := kx 0 _ rfl
  have x1 := kx 1 _ rfl
  have y0 := ky 0 _ rfl
  have y1 := ky 1 _ rfl
  have n0 := kn 0 _ rfl
  have n1 := kn 1 _ rfl
  clear bw kb ko kx ky kn
  go_wp2_with fail
  refine (TKN.out _ (KEPT.out _ B5.out).1).mono ?_
  rintro e W6 ⟨p5, c5, p6, c6, v6, rfl, o5, o6, of6, hb6, -, -⟩
  obtain ⟨pi, ci, rfl, fv6, -⟩ := ownF_fv of6
  have B6 := hide (below_on B5.out rfl hb6)
  obtain ⟨V6, hV6⟩ : ∃ V6, V6 = W6.alloc (.cells #[.slice p5 XB.length c5, .slice p6 XA.length c6] 42) := ⟨_, rfl⟩
  have bv6 : Below W6.heap.size W6 V6 := by rw [hV6]; exact below_new _ _
  have BV := hide (below_on B6.out rfl bv6)
  have r0 : V6.cell? ⟨W6.heap.size, 0, none⟩ = some (.slice p5 XB.length c5) := by rw [hV6]; exact new_cell W6 _ _ 0 _ rfl
  have r1 : V6.cell? ⟨W6.heap.size, 1, none⟩ = some (.slice p6 XA.length c6) := by rw [hV6]; exact new_cell W6 _ _ 1 _ rfl
  have KK := KEPT.out V6 BV.out
  have SX := hide (refSame_any p1 p2 p5 p6 c1 c2 c5 c6 XB XA XB XA V6 KK.2.2.2.2.2.2.1.row KK.2.2.2.2.2.2.2.1.row (o5.below bv6).row (o6.below bv6).row nx.1 nx.2 nx.1 nx.2)
  rw [decide_eq_true ⟨rfl, rfl⟩] at SX
  have FF1 := hide (fun y (hy : Below V6.heap.size V6 y) => equalF_same pf pi cf ci FL y ((KEPT.out y (below_on BV.out rfl hy)).2.2.2.2.2.2.2.2.2.2.1) ((fv6.below bv6).below hy) nl)
  have HV6 := hide hV6
  clear hb6 o5 o6 of6 fv6 bv6 hV6 KK e0 e1 f0 f1 f2 f3 f4 x0 x1 y0 y1 n0 n1
  obtain ⟨bw, kb, ko, kx, ky, kn, -⟩ := KEPT.out V6 BV.out
  have e0 := kb 0 _ rfl
  have e1 := kb 1 _ rfl
  have f0 := ko 0 _ rfl
  have f1 := ko 1 _ rfl
  have f2 := ko 2 _ rfl
  have f3 := ko 3 _ rfl
  have f4 := ko 4 _ rfl
  have x0 := kx 0 _ rfl
  have x1 := kx 1 _ rfl
  have y0 := ky 0 _ rfl
  have y1 := ky 1 _ rfl
  have n0 := kn 0 _ rfl
  have n1 := kn 1 _ rfl
  clear bw kb ko kx ky kn
  go_wp2_with (rw [← HV6.out])
  refine SX.out.mono ?_
  rintro e W8 ⟨rfl, hb8⟩
  have BW8 := hide (below_on BV.out rfl hb8)
  have FX1 := hide (FF1.out W8 hb8)
  clear hb8 e0 e1 f0 f1 f2 f3 f4 x0 x1 y0 y1 n0 n1 r0 r1
  go_wp2_with fail
  refine FX1.out.mono ?_
  rintro e WL ⟨rfl, hbL⟩
  have BL := hide (below_on BW8.out rfl hbL)
  clear hbL
  obtain ⟨bw, kb, ko, kx, ky, kn, -⟩ := KEPT.out WL BL.out
  have e0 := kb 0 _ rfl
  have e1 := kb 1 _ rfl
  have f0 := ko 0 _ rfl
  have f1 := ko 1 _ rfl
  have f2 := ko 2 _ rfl
  have f3 := ko 3 _ rfl
  have f4 := ko 4 _ rfl
  have x0 := kx 0 _ rfl
  have x1 := kx 1 _ rfl
  have y0 := ky 0 _ rfl
  have y1 := ky 1 _ rfl
  have n0 := kn 0 _ rfl
  have n1 := kn 1 _ rfl
  clear bw kb ko kx ky kn
  go_wp2_with fail
  refine (CM.out _ (KEPT.out _ BL.out).1).mono ?_
  rintro e W7 ⟨p7, c7, p8, c8, v7, rfl, o7, o8, of7, hb7⟩
  obtain ⟨ph, ch, rfl, fv7, -⟩ := ownF_fv of7
  have B7 := hide (below_on BL.out rfl hb7)
  obtain ⟨V7, hV7⟩ : ∃ V7, V7 = W7.alloc (.cells #[.slice p7 YB.length c7, .slice p8 YA.length c8] 42) := ⟨_, rfl⟩
  have bv7 : Below W7.heap.size W7 V7 := by rw [hV7]; exact below_new _ _
  have B8 := hide (below_on B7.out rfl bv7)
  have r0 : V7.cell? ⟨W7.heap.size, 0, none⟩ = some (.slice p7 YB.length c7) := by rw [hV7]; exact new_cell W7 _ _ 0 _ rfl
  have r1 : V7.cell? ⟨W7.heap.size, 1, none⟩ = some (.slice p8 YA.length c8) := by rw [hV7]; exact new_cell W7 _ _ 1 _ rfl
  have KK := KEPT.out V7 B8.out
  have SB := hide (refSame_any p3 p4 p7 p8 c3 c4 c7 c8 YB YA YB YA V7 KK.2.2.2.2.2.2.2.2.1.row KK.2.2.2.2.2.2.2.2.2.1.row (o7.below bv7).row (o8.below bv7).row ny.1 ny.2 ny.1 ny.2)
  rw [decide_eq_true ⟨rfl, rfl⟩] at SB
  have FF := hide (fun y (hy : Below V7.heap.size V7 y) => equalF_same pg ph cg ch FM y ((KEPT.out y (below_on B8.out rfl hy)).2.2.2.2.2.2.2.2.2.2.2) ((fv7.below bv7).below hy) nf)
  have HV7 := hide hV7
  clear hb7 o7 o8 of7 fv7 bv7 hV7 KK e0 e1 f0 f1 f2 f3 f4 x0 x1 y0 y1 n0 n1
  obtain ⟨bw, kb, ko, kx, ky, kn, -⟩ := KEPT.out V7 B8.out
  have e0 := kb 0 _ rfl
  have e1 := kb 1 _ rfl
  have f0 := ko 0 _ rfl
  have f1 := ko 1 _ rfl
  have f2 := ko 2 _ rfl
  have f3 := ko 3 _ rfl
  have f4 := ko 4 _ rfl
  have x0 := kx 0 _ rfl
  have x1 := kx 1 _ rfl
  have y0 := ky 0 _ rfl
  have y1 := ky 1 _ rfl
  have n0 := kn 0 _ rfl
  have n1 := kn 1 _ rfl
  clear bw kb ko kx ky kn
  go_wp2_with (rw [← HV7.out])
  refine SB.out.mono ?_
  rintro e W9 ⟨rfl, hb9⟩
  have B9 := hide (below_on B8.out rfl hb9)
  have FX := hide (FF.out W9 hb9)
  clear hb9 e0 e1 f0 f1 f2 f3 f4 x0 x1 y0 y1 n0 n1 r0 r1
  go_wp2_with fail
  refine FX.out.mono ?_
  rintro e W10 ⟨rfl, hb10⟩
  have B10 := hide (KEPT.out W10 (below_on B9.out rfl hb10)).1
  clear hb10
  go_wp2
  go_ret
  exact ⟨rfl, B10.out⟩
end Go.Proofs.Ytbphljnncbiddaa.Tk
namespace Go.Proofs.Ytbphljnncbiddaa.Tk
open Go.RowKit Go.Sort Go.Maps Go.Proofs.Ytbphljnncbiddaa.Mix Go.Proofs.Ytbphljnncbiddaa.Bk Go.Proofs.Ytbphljnncbiddaa.Rk

theorem cam_few {bids asks : List Odr} {o : Odr} {how : Int} (hR : Right bids asks) : ((camB bids asks o how).length ≤ 140737488351232 ∧ (camA bids asks o how).length ≤ 140737488351232) ∧ (camF bids asks o how).length ≤ 1000 := by
  unfold camB camA camF
  by_cases he : comeE bids asks o how = 0
  · rw [if_pos he, if_pos he, if_pos he]
    have h1 := (come_right he).few
    have h2 : (takeT bids asks o).2.1.length ≤ 40 := by
      unfold takeT
      have h3 := takes_few o (if osd o = 1 then asks else bids) (oqt o)
      have h4 := hR.few
      refine Nat.le_trans h3 ?_
      split <;> omega
    omega
  · rw [if_neg he, if_neg he, if_neg he]
    simp

theorem says_all (p p' : Option Addr) (c c' : Nat) (bids asks : List Odr) (a ac sd pr q how : Int) (w : World) (h : OV w p c bids) (h' : OV w p' c' asks) (hn : bids.length ≤ 140737488351232) (hn' : asks.length ≤ 140737488351232) :
    Calls Try.prog 10 #[.agg #[.slice p bids.length c, .slice p' asks.length c'], .agg #[.int .i64 a, .int .i64 ac, .int .i64 sd, .int .i64 pr, .int .i64 q], .int .i64 how] w fun e w' => e = .returned (.bool true) ∧ Below w.heap.size w w' := by
  have CB := hide (fun X (hX : Below w.heap.size w X) => refCheckBook_any p p' c c' bids asks X (h.below hX).row (h'.below hX).row hn hn')
  have CK := hide (fun X => grow_calls (refCheckOrder_grow a ac sd pr q X))
  have bad : ∀ r, takeErr bids asks (a, ac, sd, pr, q) = r → ¬ r = 0 → ∀ X, Below w.heap.size w X → Calls Try.prog 49 #[.agg #[.slice p bids.length c, .slice p' asks.length c'], .agg #[.int .i64 a, .int .i64 ac, .int .i64 sd, .int .i64 pr, .int .i64 q]] X (TkPost X [] [] [] 0 false r) := fun r hr h0 X hX => by
    refine (take_bad p p' c c' bids asks a ac sd pr q X (h.below hX).row (h'.below hX).row hn hn' (by rw [hr]; exact h0)).mono ?_
    rintro e w' ⟨rfl, hb⟩
    rw [hr]
    exact ⟨none, 0, none, 0, .slice none 0 0, rfl, ov_nil _, ov_nil _, World.ownsRow_nil _ _ _ _, hb⟩
  by_cases hb : bookErr bids asks = 0
  · have hR := bookErr_zero.1 hb
    rw [hb] at CB
    have CO := hide (fun X (hX : Below w.heap.size w X) => come_all p p' c c' bids asks (a, ac, sd, pr, q) how X (h.below hX) (h'.below hX) hn hn')
    have CM := hide (fun X (hX : Below w.heap.size w X) => came_any p p' c c' bids asks a ac sd pr q how X (h.below hX) (h'.below hX) hR)
    have few := cam_few (o := (a, ac, sd, pr, q)) (how := how) hR
    by_cases ho : okOrder (a, ac, sd, pr, q) = 0
    · rw [ho] at CK
      have hT := (take_right hR ho).few
      have hF : (takeT bids asks (a, ac, sd, pr, q)).2.1.length ≤ 40 := by
        unfold takeT
        have h3 := takes_few (a, ac, sd, pr, q) (if osd (a, ac, sd, pr, q) = 1 then asks else bids) (oqt (a, ac, sd, pr, q))
        have h4 := hR.few
        refine Nat.le_trans h3 ?_
        split <;> omega
      have TA := hide (fun X (hX : Below w.heap.size w X) => (take_any p p' c c' bids asks (a, ac, sd, pr, q) X (h.below hX) (h'.below hX) hR ho).mono (fun e w' ⟨p1, c1, p2, c2, vF, he, o1, o2, of, hb, _, _⟩ => (⟨p1, c1, p2, c2, vF, he, o1, o2, of, hb⟩ : TkPost X (takeB bids asks (a, ac, sd, pr, q)) (takeA bids asks (a, ac, sd, pr, q)) (takeT bids asks (a, ac, sd, pr, q)).2.1 (takeT bids asks (a, ac, sd, pr, q)).2.2.1 (takeT bids asks (a, ac, sd, pr, q)).2.2.2 0 e w')))
      have TKN := hide (fun X (hX : Below w.heap.size w X) => taken_any p p' c c' bids asks a ac sd pr q X (h.below hX) (h'.below hX) hR ho)
      exact says_3 p p' c c' _ _ a ac sd pr q how _ _ _ _ w _ _ _ _ _ _ (by omega) few.1 (by omega) few.2 TA CO CB CK TKN CM
    · exact says_2 p p' c c' _ _ a ac sd pr q how _ _ _ w [] [] _ _ [] _ ho rfl rfl rfl few.1 few.2 (bad _ (takeErr_ok hb) ho) CO CB CK CM
  · have hce : comeE bids asks (a, ac, sd, pr, q) how = bookErr bids asks := by
      unfold comeE mayComeE
      rw [if_pos hb, if_pos hb]
    have CO : Hid (∀ X, Below w.heap.size w X → Calls Try.prog 50 #[.agg #[.slice p bids.length c, .slice p' asks.length c'], .agg #[.int .i64 a, .int .i64 ac, .int .i64 sd, .int .i64 pr, .int .i64 q], .int .i64 how] X (CamePost X [] [] [] 0 (bookErr bids asks))) := fun X hX => by
      refine (come_bad p p' c c' bids asks (a, ac, sd, pr, q) how X (h.below hX) (h'.below hX) hn hn' (by rw [hce]; exact hb)).mono ?_
      rintro e w' ⟨rfl, hb'⟩
      rw [hce]
      exact ⟨none, 0, none, 0, .slice none 0 0, rfl, ov_nil _, ov_nil _, World.ownsRow_nil _ _ _ _, hb'⟩
    exact says_1 p p' c c' _ _ a ac sd pr q how _ w [] [] [] [] [] [] hb rfl rfl rfl rfl rfl rfl (bad _ (takeErr_bad hb) hb) CO CB
end Go.Proofs.Ytbphljnncbiddaa.Tk
namespace Go.Proofs.Ytbphljnncbiddaa.matchSays
open Go.ChangeShapes Go.WideShapes Go.ChangeAt Go.RowKit Go.Joins Go.Proofs.Ytbphljnncbiddaa.Bk
set_option linter.unusedVariables false

theorem own : ownKnob Try.prog.godebug = none := by kernel_rfl
theorem laidOut : laidOutB Try.prog = true := by kernel_rfl
theorem cellsB : Try.prog.cellsOf 42 = 2 := by kernel_rfl

set_option maxRecDepth 100000 in
theorem lifted (os : Os) (started : os.Started) (H : Type) (enc : TypeId × Value → H) :
    ReturnsInHanded {} Try.checked os 10 .any (Rows.matchSaysSpec.pre6 enc Try.prog Try.f10 Rows.matchSaysRow.domain false) (Rows.matchSaysSpec.post enc Try.prog Try.f10 false true false false) := by
  refine returnsInHanded_of_change_sized (C := Try.checked) own started (by kernel_rfl) Try.func10
    (ChangeSpec.witness6 (enc := enc) (C := Try.checked) false ⟨#[], #[.agg #[.slice none 0 0, .slice none 0 0], .agg #[.int .i64 0, .int .i64 0, .int .i64 0, .int .i64 0, .int .i64 0], .int .i64 0], []⟩ 8 (by kernel_rfl) (by kernel_rfl) (by kernel_rfl) (by kernel_rfl)) ?_
  intro W base args ds gs before hval0 hW hcnd hsz0 _
  have hval : ∀ (j : Nat) t v, Try.f10.params[j]? = some t → args[j]? = some v → Value.okWide Try.prog W .any base t v := hval0
  have hW' := hW
  obtain ⟨p, q, hA0, hV, rfl, hfz, hnd⟩ := hW
  have hA : DataW.TrodAll enc Try.prog W 0 (fun _ => true) true Try.f10.params.toList args.toList ds p := hA0
  have hsz : (DataW.weightsEach Try.prog (Try.f10.params.toList ++ Rows.matchSaysSpec.plain.varTypes Try.prog) (ds ++ gs)).all (· ≤ reachBytes) = true := hsz0
  rw [Try.params10] at hA hval hsz
  obtain ⟨v0, vs0, d0, ds0, p0, q0, hargs, rfl, rfl, h0, r0⟩ := trodAll_cons hA
  obtain ⟨v1, vs1, d1, ds1, p1, q1, rfl, rfl, rfl, h1, r1⟩ := trodAll_cons r0
  obtain ⟨v2, vs2, d2, ds2, p2, q2, rfl, rfl, rfl, h2, r2⟩ := trodAll_cons r1
  obtain ⟨rfl, rfl, rfl⟩ := trodAll_nil r2
  obtain rfl : args = #[v0, v1, v2] := by cases args; simp_all
  obtain ⟨rfl, rfl⟩ := trodVars_none hV
  have k0 := h0
  have k1 := h1
  have lt0 : ∀ x ∈ p0, x.block < W.heap.size := by obtain ⟨m, hm⟩ := k0; exact DataW.trod_lt m _ _ _ hm
  have lt1 : ∀ x ∈ p1, x.block < W.heap.size := by obtain ⟨m, hm⟩ := k1; exact DataW.trod_lt m _ _ _ hm
  obtain ⟨b0, b1, y0, y1, m0, rfl, hd0, hp0, t0, t1⟩ := open_agg2 Try.underlying42 (by kernel_rfl) cellsB (hval 0 42 v0 rfl rfl) h0
  obtain ⟨pb, cb, bids, eb, ob, xb⟩ := side_read t0
  obtain ⟨pa, ca, asks, ea, oa, xa⟩ := side_read t1
  have eb' : b0 = .slice pb bids.length cb := by simpa using eb
  have ea' : b1 = .slice pa asks.length ca := by simpa using ea
  subst eb' ea'
  obtain ⟨o, eo⟩ : ∃ o : Odr, v1 = odrV o := by
    obtain ⟨cs, rfl, _⟩ := okWide_struct Try.underlying44 (hval 1 44 v1 rfl rfl)
    obtain ⟨fuel, hf⟩ := h1
    obtain ⟨o, ho⟩ := order_cells hf
    have ho' : cs.toList = Bk.enc o := by simpa [Value.cells] using ho
    have : cs = (Bk.enc o).toArray := by rw [← ho']
    exact ⟨o, by rw [this]; rfl⟩
  subst eo
  obtain ⟨id, rfl, rfl, rfl, w2⟩ := open_int Try.underlying3 (hval 2 3 v2 rfl rfl) h2
  have nb : bids.length ≤ 140737488351232 := by
    rcases xb with ⟨_, hx⟩ | ⟨es, ss, hx, hl⟩
    · rw [hx]; simp
    · have := List.all_eq_true.1 hsz _ (DataW.weights_mem_each (j := 0) (t := 42) (d := .agg [.slice es ss, y1.1]) rfl (by rw [hd0, hx]; rfl) ((es.length + ss.length) * Try.prog.bytesOf 44) (by simp [DataW.weights, DataW.weightsEach, Try.underlying42, Try.underlying40]))
      rw [show Try.prog.bytesOf 44 = 40 from by kernel_rfl] at this
      have h3 : (es.length + ss.length) * 40 ≤ reachBytes := by simpa using this
      have h4 : reachBytes = 140737488351232 := by decide
      omega
  have na : asks.length ≤ 140737488351232 := by
    rcases xa with ⟨_, hx⟩ | ⟨es, ss, hx, hl⟩
    · rw [hx]; simp
    · have := List.all_eq_true.1 hsz _ (DataW.weights_mem_each (j := 0) (t := 42) (d := .agg [y0.1, .slice es ss]) rfl (by rw [hd0, hx]; rfl) ((es.length + ss.length) * Try.prog.bytesOf 44) (by simp [DataW.weights, DataW.weightsEach, Try.underlying42, Try.underlying40]))
      rw [show Try.prog.bytesOf 44 = 40 from by kernel_rfl] at this
      have h3 : (es.length + ss.length) * 40 ≤ reachBytes := by simpa using this
      have h4 : reachBytes = 140737488351232 := by decide
      omega
  clear hA0 hval0
  refine (Tk.says_all pb pa cb ca bids asks o.1 o.2.1 o.2.2.1 o.2.2.2.1 o.2.2.2.2 id W ob oa nb na).mono fun e W' ⟨he, bel⟩ => ?_
  subst he
  exact ⟨_, rfl, _, _, _, [], _, [], hW', trodAll_mk1 (shut_bool Try.underlying4 _), (trodAll_cons_mk (Below.trod laidOut (by kernel_rfl) (of_decide_eq_true (by kernel_rfl)) k0 bel lt0) (trodAll_cons_mk (Below.trod laidOut (by kernel_rfl) (of_decide_eq_true (by kernel_rfl)) k1 bel lt1) (trodAll_cons_mk (shut_int Try.underlying3 w2) trodAll_mk0))), rfl, bel.frame _, fun h => by cases h⟩

theorem over : Rows.matchSaysRow.holds Try.pinned (OpenSpec.ofChange Rows.matchSaysSpec) :=
  OpenClaim.holds_of_wide 10 Try.f10 rfl rfl rfl rfl rfl rfl rfl ⟨rfl, rfl, rfl, rfl, rfl⟩ rfl rfl rfl rfl rfl (by kernel_rfl) Try.func10 (by kernel_rfl)
    (of_decide_eq_true (by kernel_rfl)) (by unfold Func.isWrapper; first | (rw [if_pos (by decide +kernel)]; kernel_rfl) | (rw [if_neg (by decide +kernel)]; exact ⟨rfl, rfl⟩))
    (fun os started H enc _ => lifted os started H enc)

theorem proved : Rows.MatchSaysSaid := over
end Go.Proofs.Ytbphljnncbiddaa.matchSays
namespace Go.Proofs.Ytbphljnncbiddaa
theorem matchSays_holds : Rows.MatchSaysSaid := matchSays.proved
#print axioms matchSays_holds
end Go.Proofs.Ytbphljnncbiddaa
