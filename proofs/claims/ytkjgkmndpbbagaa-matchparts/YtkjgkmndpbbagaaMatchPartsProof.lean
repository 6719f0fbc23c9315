/-
  MatchParts is true of every book, every order and every n: what an order takes in two parts is what it takes at once: as much of each that rests, and no more is left. No condition.
-/
import Derived.Test.YtkjgkmndpbbagaaRows
import Derived.Test.YtkjgkmndpbbagaaMtPartZ
import Derived.Test.YtkjgkmndpbbagaaBkArgs
import Derived.Outline
import Derived.ProofKit
import Derived.OpenShut
import Derived.ChangeOld
import Derived.Below
import Derived.SizedLaws
namespace Go.Proofs.Ytkjgkmndpbbagaa.matchParts
open Go.ChangeShapes Go.WideShapes Go.ChangeAt Go.RowKit Go.Joins Go.Proofs.Ytkjgkmndpbbagaa.Bk
set_option linter.unusedVariables false

theorem own : ownKnob Try.prog.godebug = none := by kernel_rfl
theorem laidOut : laidOutB Try.prog = true := by kernel_rfl
theorem cellsB : Try.prog.cellsOf 42 = 2 := by kernel_rfl

set_option maxRecDepth 100000 in
theorem lifted (os : Os) (started : os.Started) (H : Type) (enc : TypeId × Value → H) :
    ReturnsInHanded {} Try.checked os 12 .any (Rows.matchPartsSpec.pre6 enc Try.prog Try.f12 Rows.matchPartsRow.domain false) (Rows.matchPartsSpec.post enc Try.prog Try.f12 false true false false) := by
  refine returnsInHanded_of_change_sized (C := Try.checked) own started (by kernel_rfl) Try.func12
    (ChangeSpec.witness6 (enc := enc) (C := Try.checked) false ⟨#[], #[.agg #[.slice none 0 0, .slice none 0 0], .agg #[.int .i64 0, .int .i64 0, .int .i64 0, .int .i64 0, .int .i64 0], .int .i64 0], []⟩ 8 (by kernel_rfl) (by kernel_rfl) (by kernel_rfl) (by kernel_rfl)) ?_
  intro W base args ds gs before hval0 hW hcnd hsz0 _
  have hval : ∀ (j : Nat) t v, Try.f12.params[j]? = some t → args[j]? = some v → Value.okWide Try.prog W .any base t v := hval0
  have hW' := hW
  obtain ⟨p, q, hA0, hV, rfl, hfz, hnd⟩ := hW
  have hA : DataW.TrodAll enc Try.prog W 0 (fun _ => true) true Try.f12.params.toList args.toList ds p := hA0
  have hsz : (DataW.weightsEach Try.prog (Try.f12.params.toList ++ Rows.matchPartsSpec.plain.varTypes Try.prog) (ds ++ gs)).all (· ≤ reachBytes) = true := hsz0
  rw [Try.params12] at hA hval hsz
  obtain ⟨v0, vs0, d0, ds0, p0, q0, hargs, rfl, rfl, h0, r0⟩ := trodAll_cons hA
  obtain ⟨v1, vs1, d1, ds1, p1, q1, rfl, rfl, rfl, h1, r1⟩ := trodAll_cons r0
  obtain ⟨v2, vs2, d2, ds2, p2, q2, rfl, rfl, rfl, h2, r2⟩ := trodAll_cons r1
  obtain ⟨rfl, rfl, rfl⟩ := trodAll_nil r2
  obtain rfl : args = #[v0, v1, v2] := by cases args; simp_all
  obtain ⟨rfl, rfl⟩ := trodVars_none hV
  have k0 := h0
  have k1 := h1
  have lt0 : ∀ x ∈ p0, x.block < W.heap.size := by obtain ⟨m, hm⟩ := k0; exact DataW.trod_lt m _ _ _ hm
  have lt1 : ∀ x ∈ p1, x.block < W.heap.size := by obtain ⟨m, hm⟩ := k1; exact DataW.trod_lt m _ _ _ hm
  obtain ⟨b0, b1, y0, y1, m0, rfl, hd0, hp0, t0, t1⟩ := open_agg2 Try.underlying42 (by kernel_rfl) cellsB (hval 0 42 v0 rfl rfl) h0
  obtain ⟨pb, cb, bids, eb, ob, xb⟩ := side_read t0
  obtain ⟨pa, ca, asks, ea, oa, xa⟩ := side_read t1
  have eb' : b0 = .slice pb bids.length cb := by simpa using eb
  have ea' : b1 = .slice pa asks.length ca := by simpa using ea
  subst eb' ea'
  obtain ⟨o, eo⟩ : ∃ o : Odr, v1 = odrV o := by
    obtain ⟨cs, rfl, _⟩ := okWide_struct Try.underlying44 (hval 1 44 v1 rfl rfl)
    obtain ⟨fuel, hf⟩ := h1
    obtain ⟨o, ho⟩ := order_cells hf
    have ho' : cs.toList = Bk.enc o := by simpa [Value.cells] using ho
    have : cs = (Bk.enc o).toArray := by rw [← ho']
    exact ⟨o, by rw [this]; rfl⟩
  subst eo
  obtain ⟨id, rfl, rfl, rfl, w2⟩ := open_int Try.underlying3 (hval 2 3 v2 rfl rfl) h2
  have nb : bids.length ≤ 140737488351232 := by
    rcases xb with ⟨_, hx⟩ | ⟨es, ss, hx, hl⟩
    · rw [hx]; simp
    · have := List.all_eq_true.1 hsz _ (DataW.weights_mem_each (j := 0) (t := 42) (d := .agg [.slice es ss, y1.1]) rfl (by rw [hd0, hx]; rfl) ((es.length + ss.length) * Try.prog.bytesOf 44) (by simp [DataW.weights, DataW.weightsEach, Try.underlying42, Try.underlying40]))
      rw [show Try.prog.bytesOf 44 = 40 from by kernel_rfl] at this
      have h3 : (es.length + ss.length) * 40 ≤ reachBytes := by simpa using this
      have h4 : reachBytes = 140737488351232 := by decide
      omega
  have na : asks.length ≤ 140737488351232 := by
    rcases xa with ⟨_, hx⟩ | ⟨es, ss, hx, hl⟩
    · rw [hx]; simp
    · have := List.all_eq_true.1 hsz _ (DataW.weights_mem_each (j := 0) (t := 42) (d := .agg [y0.1, .slice es ss]) rfl (by rw [hd0, hx]; rfl) ((es.length + ss.length) * Try.prog.bytesOf 44) (by simp [DataW.weights, DataW.weightsEach, Try.underlying42, Try.underlying40]))
      rw [show Try.prog.bytesOf 44 = 40 from by kernel_rfl] at this
      have h3 : (es.length + ss.length) * 40 ≤ reachBytes := by simpa using this
      have h4 : reachBytes = 140737488351232 := by decide
      omega
  clear hA0 hval0
  refine (parts_any pb pa cb ca bids asks o.1 o.2.1 o.2.2.1 o.2.2.2.1 o.2.2.2.2 id W ob oa nb na).mono fun e W' ⟨he, bel⟩ => ?_
  subst he
  exact ⟨_, rfl, _, _, _, [], _, [], hW', trodAll_mk1 (shut_bool Try.underlying4 _), (trodAll_cons_mk (Below.trod laidOut (by kernel_rfl) (of_decide_eq_true (by kernel_rfl)) k0 bel lt0) (trodAll_cons_mk (Below.trod laidOut (by kernel_rfl) (of_decide_eq_true (by kernel_rfl)) k1 bel lt1) (trodAll_cons_mk (shut_int Try.underlying3 w2) trodAll_mk0))), rfl, bel.frame _, fun h => by cases h⟩

theorem over : Rows.matchPartsRow.holds Try.pinned (OpenSpec.ofChange Rows.matchPartsSpec) :=
  OpenClaim.holds_of_wide 12 Try.f12 rfl rfl rfl rfl rfl rfl rfl ⟨rfl, rfl, rfl, rfl, rfl⟩ rfl rfl rfl rfl rfl (by kernel_rfl) Try.func12 (by kernel_rfl)
    (of_decide_eq_true (by kernel_rfl)) (by unfold Func.isWrapper; first | (rw [if_pos (by decide +kernel)]; kernel_rfl) | (rw [if_neg (by decide +kernel)]; exact ⟨rfl, rfl⟩))
    (fun os started H enc _ => lifted os started H enc)

theorem proved : Rows.MatchPartsSaid := over
end Go.Proofs.Ytkjgkmndpbbagaa.matchParts
namespace Go.Proofs.Ytkjgkmndpbbagaa
theorem matchParts_holds : Rows.MatchPartsSaid := matchParts.proved
#print axioms matchParts_holds
end Go.Proofs.Ytkjgkmndpbbagaa
