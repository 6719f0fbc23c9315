/-
  The closed sentence Names is true: each constant of package api has its value, as it is called on whatever memory. No condition.
-/
import Derived.Test.YtlielpgekhaicaaRows
import Derived.WalkKit
import Derived.Test.YtlielpgekhaicaaShelf
import Derived.Below
import Derived.Outline
import Derived.ProofKit
import Derived.OpenShut
import Derived.ShutString
namespace Go.Proofs.Ytlielpgekhaicaa.names
open Go.ChangeShapes Go.WideShapes Go.ChangeAt Go.RowKit
open Go.ChangeMaps (open_string shut_string)
set_option linter.unusedVariables false      -- a walk need not use every 'w<i>' (that an integer argument fits its kind)

theorem own : ownKnob Try.prog.godebug = none := by kernel_rfl

theorem cells14 (W : World) (k : Nat) (h : k < 14) : (W.alloc (.cells #[.int .i64 0, .int .i64 1, .int .i64 2, .int .i64 3, .int .i64 4, .int .i64 5, .int .i64 6, .int .i64 7, .int .i64 8, .int .i64 9, .int .i64 10, .int .i64 11, .int .i64 12, .int .i64 13] 22)).cell? ⟨W.heap.size, k, none⟩ = some (.int .i64 k) := by
  rw [World.cell?_alloc_at _ _ _ _ rfl]
  match k, h with
  | 0, _ => rfl
  | 1, _ => rfl
  | 2, _ => rfl
  | 3, _ => rfl
  | 4, _ => rfl
  | 5, _ => rfl
  | 6, _ => rfl
  | 7, _ => rfl
  | 8, _ => rfl
  | 9, _ => rfl
  | 10, _ => rfl
  | 11, _ => rfl
  | 12, _ => rfl
  | 13, _ => rfl
theorem lits (W : World) (xs : List Int) (t : TypeId) (b j : Nat) (hb : b = W.heap.size) (hj : j < xs.length) :
    (W.alloc (.cells (xs.map (Value.int .i64)).toArray t)).cell? ⟨b, 0 + j, none⟩ = some (.int .i64 (xs.getD j 0)) := by
  rw [World.cell?_alloc_at _ _ _ _ hb]
  simp [hj]
def limits : List Int := [1000000000000, 10000, 1000, 1000, 40, 8, 2, 100000, 100, 20000, 60, 20]
def kinds : List Int := [1, -1, 1, 2, 3, 4, 1, 2, 3, 4, 5, 6, 7, 1, 2, 3, 4, 5, 6]
theorem equal_lits (A B : World) (xs : List Int) (t : TypeId) (b1 b2 n : Nat) (hn : n = xs.length) (hbig : n ≤ 100) (h1 : ∀ j, j < xs.length → B.cell? ⟨b1, 0 + j, none⟩ = some (.int .i64 (xs.getD j 0))) (h2 : ∀ j, j < xs.length → B.cell? ⟨b2, 0 + j, none⟩ = some (.int .i64 (xs.getD j 0))) :
    Calls Try.prog 7 #[.slice (some ⟨b1, 0, none⟩) n n, .slice (some ⟨b2, 0, none⟩) n n] B fun e w' => e = .returned (.bool true) ∧ ∃ q, w' = B.drewN q := by
  subst hn
  refine (Try.slices_Equal_int b1 0 _ _ b2 0 _ _ xs xs B (Nat.le_refl _) (Nat.le_refl _) (by omega) (by omega) h1 h2).mono ?_
  rintro e w' ⟨rfl, hq⟩
  exact ⟨by simp, hq⟩
theorem grown_drewN {a w : World} (h : Grown a w) (n : Nat) : Grown a (w.drewN n) := by
  induction n with
  | zero => exact h
  | succ n ih => exact ih.drew
theorem walk  (w : World) :
    Calls Try.prog 3 #[] w fun e w' => e = .returned (.bool true) ∧ Grown w w' := by
  have hc := cells14 w
  go_enter Try.func3, Try.ntmps3
  go_wp2
  go_loop [9] (fun i => ∃ k : Nat, k ≤ 14 ∧ i = .int .i64 k) (fun i => 14 - (intOf i).toNat)
  case atStart => exact ⟨0, by omega, rfl⟩
  case round =>
    obtain ⟨k, hk, rfl⟩ := hrel
    by_cases hlt : k < 14
    · have hcell := hc k hlt
      clear hc
      go_wp2
      go_round
      case rel => exact ⟨k + 1, by omega, by go_num⟩
      case measure => simp [intOf]; omega
    · clear hc
      go_wp2_with fail
      refine (equal_lits w _ limits 3 _ _ 12 rfl (by omega) ?_ ?_).mono ?_
      · intro j hj
        rw [World.cell?_alloc_past _ _ _ (by simp), World.cell?_alloc_past _ _ _ (by simp)]
        exact lits _ limits 3 _ j (by simp) hj
      · intro j hj
        exact lits _ limits 3 _ j (by simp) hj
      rintro e w' ⟨rfl, q1, rfl⟩
      go_wp2_with fail
      refine (equal_lits w _ kinds 3 _ _ 19 rfl (by omega) ?_ ?_).mono ?_
      · intro j hj
        rw [World.cell?_alloc_past _ _ _ (by simp), World.cell?_drewN, World.cell?_alloc_past _ _ _ (by simp)]
        exact lits _ kinds 3 _ j (by simp) hj
      · intro j hj
        exact lits _ kinds 3 _ j (by simp) hj
      rintro e w' ⟨rfl, q2, rfl⟩
      go_wp2
      go_ret
      exact ⟨rfl, by repeat (first | exact Grown.refl _ | apply Grown.drew | apply Grown.alloc | apply grown_drewN)⟩

set_option maxRecDepth 100000 in
theorem lifted (os : Os) (started : os.Started) (H : Type) (enc : TypeId × Value → H) :
    ReturnsInHanded {} Try.checked os 3 .any (Rows.namesSpec.pre6 enc Try.prog Try.f3 Rows.namesRow.domain false) (Rows.namesSpec.post enc Try.prog Try.f3 false true false false) := by
  refine returnsInHanded_of_change (C := Try.checked) own started (by kernel_rfl) Try.func3
    (ChangeSpec.witness6 (enc := enc) (C := Try.checked) false ⟨#[], #[], []⟩ 8 (by kernel_rfl) (by kernel_rfl) (by kernel_rfl) (by kernel_rfl)) ?_
  intro W base args ds gs before hval0 hW hcnd _
  have hval : ∀ (j : Nat) t v, Try.f3.params[j]? = some t → args[j]? = some v → Value.okWide Try.prog W .any base t v := hval0
  have hW' := hW
  obtain ⟨p, q, hA0, hV, rfl, hfz, hnd⟩ := hW
  have hA : DataW.TrodAll enc Try.prog W 0 (fun _ => true) true Try.f3.params.toList args.toList ds p := hA0
  rw [Try.params3] at hA hval
  obtain ⟨rfl, rfl, rfl⟩ := trodAll_none hA
  obtain ⟨rfl, rfl⟩ := trodVars_none hV
  clear hA0 hval0
  simp only [List.append_nil] at hW'
  refine (walk  W).mono fun e W' ⟨he, hg⟩ => ?_
  subst he
  exact ⟨_, rfl, post_of_same (pa := []) (pv := []) hW' (fun _ _ _ => (trodAll_cons_mk (shut_bool Try.underlying4 _) trodAll_mk0)) (fun sp _ => rfl) (fun _ _ => rfl) rfl
    (hg.frame _) hg.2.1 (ok_one (by kernel_rfl) rfl (okWide_bool_mk Try.underlying4 _))⟩

theorem over : Rows.namesRow.holds Try.pinned (OpenSpec.ofChange Rows.namesSpec) :=
  OpenClaim.holds_of_wide 3 Try.f3 rfl rfl rfl rfl rfl rfl rfl ⟨rfl, rfl, rfl, rfl, rfl⟩ rfl rfl rfl rfl rfl (by kernel_rfl) Try.func3 (by kernel_rfl)
    (of_decide_eq_true (by kernel_rfl)) (by unfold Func.isWrapper; first | (rw [if_pos (by decide +kernel)]; kernel_rfl) | (rw [if_neg (by decide +kernel)]; exact ⟨rfl, rfl⟩))
    (fun os started H enc _ => lifted os started H enc)

theorem proved : Rows.NamesSaid :=
  over
end Go.Proofs.Ytlielpgekhaicaa.names
namespace Go.Proofs.Ytlielpgekhaicaa
theorem names_holds : Rows.NamesSaid := names.proved
#print axioms names_holds
end Go.Proofs.Ytlielpgekhaicaa
