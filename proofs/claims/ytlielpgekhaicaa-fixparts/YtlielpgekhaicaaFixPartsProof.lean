/-
  FixParts is true of every n, a, b, c: a part rounded up is at most one more than rounded down, and the same just where nothing is left over; turned round it is the other one; the middle one doesn't hang on the order. No condition.
-/
import Derived.Test.YtlielpgekhaicaaRows
import Derived.WalkKit
import Derived.Test.YtlielpgekhaicaaReck
import Derived.Test.YtlielpgekhaicaaParts
import Derived.Outline
import Derived.ProofKit
import Derived.OpenShut
import Derived.ShutString
namespace Go.Proofs.Ytlielpgekhaicaa.fixParts
open Go.ChangeShapes Go.WideShapes Go.ChangeAt Go.RowKit
open Go.ChangeMaps (open_string shut_string)
set_option linter.unusedVariables false      -- a walk need not use every 'w<i>' (that an integer argument fits its kind)

theorem own : ownKnob Try.prog.godebug = none := by kernel_rfl

open Go.Proofs.Ytlielpgekhaicaa.Num Go.Proofs.Ytlielpgekhaicaa.Fix Go.Proofs.Ytlielpgekhaicaa.Reck Go.Proofs.Ytlielpgekhaicaa.Parts
theorem part_at (n a b : Int) (up : Bool) (q e : Int) (w : World) (h : Hid (partR n a b up = (q, e))) :
    Calls Try.prog 9 #[.int .i64 n, .int .i64 a, .int .i64 b, .bool up] w fun x w' => x = .returned (.tuple #[.int .i64 q, .int .i64 e]) ∧ ∃ k, w' = w.drewN k := by
  have g := part_any n a b up w
  rw [unhide h] at g
  exact g
theorem walk (a0 : Int) (a1 : Int) (a2 : Int) (a3 : Int) (w0 : (Lit.int .i64 a0).wf = true) (w1 : (Lit.int .i64 a1).wf = true) (w2 : (Lit.int .i64 a2).wf = true) (w3 : (Lit.int .i64 a3).wf = true) (w : World) :
    Calls Try.prog 5 #[.int .i64 a0, .int .i64 a1, .int .i64 a2, .int .i64 a3] w fun e w' => e = .returned (.bool true) ∧ Grown w w' := by
  generalize hu : partR a0 a1 a2 true = ue at *
  generalize hd : partR a0 a1 a2 false = de at *
  obtain ⟨u, e⟩ := ue
  obtain ⟨d, f⟩ := de
  have HU := hide hu
  have HD := hide hd
  clear hu hd
  go_enter Try.func5, Try.ntmps5
  go_wp2_with fail
  refine (part_at _ _ _ _ _ _ _ HU).mono ?_
  rintro x w' ⟨rfl, k1, rfl⟩
  go_wp2_with fail
  refine (part_at _ _ _ _ _ _ _ HD).mono ?_
  rintro x w' ⟨rfl, k2, rfl⟩
  go_wp2_with fail
  refine (reckoned_any _).mono ?_
  rintro x w1 ⟨rfl, -, hg⟩
  have hg1 : Grown w w1 := grown_of_drewN hg
  clear hg
  have m1 := middle_turn a0 a1 a3
  have m2 := middle_swap a0 a1 a3
  have M1 : Hid ((middleR a0 a1 a3 != middleR a3 a0 a1) = false) := by rw [← m1]; exact bne_self_eq_false _
  have M2 : Hid ((middleR a0 a1 a3 != middleR a1 a0 a3) = false) := by rw [← m2]; exact bne_self_eq_false _
  clear m1 m2
  go_wp2_with fail
  refine (middle_any _ _ _ _).mono ?_
  rintro x w' ⟨rfl, rfl⟩
  go_wp2_with fail
  refine (middle_any _ _ _ _).mono ?_
  rintro x w' ⟨rfl, rfl⟩
  have N1 := unhide M1
  clear M1
  go_wp2_with fail
  refine (middle_any _ _ _ _).mono ?_
  rintro x w' ⟨rfl, rfl⟩
  go_wp2_with fail
  refine (middle_any _ _ _ _).mono ?_
  rintro x w' ⟨rfl, rfl⟩
  have N2 := unhide M2
  clear M2
  rcases part_cases a0 a1 a2 true with ⟨q, hq⟩ | hq | hq
  · rcases part_cases a0 a1 a2 false with ⟨r, hr⟩ | hr | hr
    · have hu := unhide HU
      rw [hq] at hu
      cases hu
      have hd := unhide HD
      rw [hr] at hd
      cases hd
      have HO := hide (part_back hq)
      obtain ⟨mn, ma, mb, eq, mq⟩ := part_ok hq
      obtain ⟨-, -, -, er, mr⟩ := part_ok hr
      obtain ⟨n1, n2⟩ := money_true mn
      obtain ⟨b1, b2⟩ := betw_true mb
      obtain ⟨x1, x2⟩ := mul_bd (money_true mn) (betw_true ma)
      obtain ⟨y1, y2⟩ := mul_bd (money_true mq) (a := a2) (by omega)
      obtain ⟨z1, z2⟩ := mul_bd (money_true mr) (a := a2) (by omega)
      obtain ⟨q1, q2⟩ := money_true mq
      obtain ⟨r1, r2⟩ := money_true mr
      have ud := up_down (m := a0 * a1) (b := a2) b1
      rw [← eq, ← er] at ud
      obtain ⟨u1, u2, u3, u4, u5⟩ := ud
      have hz : (a2 == 0) = false := by simp; omega
      clear eq er HU HD hq hr mn ma mb mq mr
      go_wp2_with fail
      refine (part_at _ _ _ _ _ _ _ HO).mono ?_
      rintro x w' ⟨rfl, k3, rfl⟩
      go_wp2
      go_ret
      exact ⟨rfl, grown_drewN hg1 _⟩
    · have hu := unhide HU
      rw [hq] at hu
      cases hu
      have hd := unhide HD
      rw [hr] at hd
      cases hd
      clear HU HD hq hr
      go_wp2
      go_ret
      exact ⟨rfl, hg1⟩
    · have hu := unhide HU
      rw [hq] at hu
      cases hu
      have hd := unhide HD
      rw [hr] at hd
      cases hd
      clear HU HD hq hr
      go_wp2
      go_ret
      exact ⟨rfl, hg1⟩
  · have hu := unhide HU
    rw [hq] at hu
    cases hu
    clear HU HD hq
    go_wp2
    go_ret
    exact ⟨rfl, hg1⟩
  · have hu := unhide HU
    rw [hq] at hu
    cases hu
    clear HU HD hq
    go_wp2
    go_ret
    exact ⟨rfl, hg1⟩

set_option maxRecDepth 100000 in
theorem lifted (os : Os) (started : os.Started) (H : Type) (enc : TypeId × Value → H) :
    ReturnsInHanded {} Try.checked os 5 .any (Rows.fixPartsSpec.pre6 enc Try.prog Try.f5 Rows.fixPartsRow.domain false) (Rows.fixPartsSpec.post enc Try.prog Try.f5 false true false false) := by
  refine returnsInHanded_of_change (C := Try.checked) own started (by kernel_rfl) Try.func5
    (ChangeSpec.witness6 (enc := enc) (C := Try.checked) false ⟨#[], #[.int .i64 0, .int .i64 0, .int .i64 0, .int .i64 0], []⟩ 8 (by kernel_rfl) (by kernel_rfl) (by kernel_rfl) (by kernel_rfl)) ?_
  intro W base args ds gs before hval0 hW hcnd _
  have hval : ∀ (j : Nat) t v, Try.f5.params[j]? = some t → args[j]? = some v → Value.okWide Try.prog W .any base t v := hval0
  have hW' := hW
  obtain ⟨p, q, hA0, hV, rfl, hfz, hnd⟩ := hW
  have hA : DataW.TrodAll enc Try.prog W 0 (fun _ => true) true Try.f5.params.toList args.toList ds p := hA0
  rw [Try.params5] at hA hval
  obtain ⟨v0, vs0, d0, ds0, p0, q0, hargs, rfl, rfl, h0, r0⟩ := trodAll_cons hA
  obtain ⟨v1, vs1, d1, ds1, p1, q1, rfl, rfl, rfl, h1, r1⟩ := trodAll_cons r0
  obtain ⟨v2, vs2, d2, ds2, p2, q2, rfl, rfl, rfl, h2, r2⟩ := trodAll_cons r1
  obtain ⟨v3, vs3, d3, ds3, p3, q3, rfl, rfl, rfl, h3, r3⟩ := trodAll_cons r2
  obtain ⟨rfl, rfl, rfl⟩ := trodAll_nil r3
  obtain rfl : args = #[v0, v1, v2, v3] := by cases args; simp_all
  obtain ⟨rfl, rfl⟩ := trodVars_none hV
  obtain ⟨a0, rfl, rfl, rfl, w0⟩ := open_int Try.underlying3 (hval 0 3 v0 rfl rfl) h0
  obtain ⟨a1, rfl, rfl, rfl, w1⟩ := open_int Try.underlying3 (hval 1 3 v1 rfl rfl) h1
  obtain ⟨a2, rfl, rfl, rfl, w2⟩ := open_int Try.underlying3 (hval 2 3 v2 rfl rfl) h2
  obtain ⟨a3, rfl, rfl, rfl, w3⟩ := open_int Try.underlying3 (hval 3 3 v3 rfl rfl) h3
  clear hA0 hval0
  simp only [List.append_nil] at hW'
  refine (walk a0 a1 a2 a3 w0 w1 w2 w3 W).mono fun e W' ⟨he, hg⟩ => ?_
  subst he
  exact ⟨_, rfl, post_of_same (pa := []) (pv := []) hW' (fun _ _ _ => (trodAll_cons_mk (shut_bool Try.underlying4 _) trodAll_mk0)) (fun sp _ => (trodAll_cons_mk (shut_int Try.underlying3 w0) (trodAll_cons_mk (shut_int Try.underlying3 w1) (trodAll_cons_mk (shut_int Try.underlying3 w2) (trodAll_cons_mk (shut_int Try.underlying3 w3) trodAll_mk0))))) (fun _ _ => rfl) rfl
    (hg.frame _) hg.2.1 (ok_one (by kernel_rfl) rfl (okWide_bool_mk Try.underlying4 _))⟩

theorem over : Rows.fixPartsRow.holds Try.pinned (OpenSpec.ofChange Rows.fixPartsSpec) :=
  OpenClaim.holds_of_wide 5 Try.f5 rfl rfl rfl rfl rfl rfl rfl ⟨rfl, rfl, rfl, rfl, rfl⟩ rfl rfl rfl rfl rfl (by kernel_rfl) Try.func5 (by kernel_rfl)
    (of_decide_eq_true (by kernel_rfl)) (by unfold Func.isWrapper; first | (rw [if_pos (by decide +kernel)]; kernel_rfl) | (rw [if_neg (by decide +kernel)]; exact ⟨rfl, rfl⟩))
    (fun os started H enc _ => lifted os started H enc)

theorem proved : Rows.FixPartsSaid :=
  over
end Go.Proofs.Ytlielpgekhaicaa.fixParts
namespace Go.Proofs.Ytlielpgekhaicaa
theorem fixParts_holds : Rows.FixPartsSaid := fixParts.proved
#print axioms fixParts_holds
end Go.Proofs.Ytlielpgekhaicaa
