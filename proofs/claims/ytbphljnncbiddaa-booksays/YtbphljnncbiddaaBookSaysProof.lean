/-
  BookSays is true of every two books, every two orders and every id: they are checked, an order rests in one, is found, removed, as the reference says, errors too. No condition.
-/
import Derived.Test.YtbphljnncbiddaaRows
import Derived.Test.YtbphljnncbiddaaBkSays
import Derived.Test.YtbphljnncbiddaaBkArgs
import Derived.Outline
import Derived.ProofKit
import Derived.OpenShut
import Derived.ChangeOld
import Derived.Below
import Derived.SizedLaws
namespace Go.Proofs.Ytbphljnncbiddaa.bookSays
open Go.ChangeShapes Go.WideShapes Go.ChangeAt Go.RowKit Go.Joins Go.Proofs.Ytbphljnncbiddaa.Bk
set_option linter.unusedVariables false

theorem own : ownKnob Try.prog.godebug = none := by kernel_rfl
theorem laidOut : laidOutB Try.prog = true := by kernel_rfl
theorem cellsB : Try.prog.cellsOf 42 = 2 := by kernel_rfl

set_option maxRecDepth 100000 in
theorem lifted (os : Os) (started : os.Started) (H : Type) (enc : TypeId × Value → H) :
    ReturnsInHanded {} Try.checked os 7 .any (Rows.bookSaysSpec.pre6 enc Try.prog Try.f7 Rows.bookSaysRow.domain false) (Rows.bookSaysSpec.post enc Try.prog Try.f7 false true false false) := by
  refine returnsInHanded_of_change_sized (C := Try.checked) own started (by kernel_rfl) Try.func7
    (ChangeSpec.witness6 (enc := enc) (C := Try.checked) false ⟨#[], #[.agg #[.slice none 0 0, .slice none 0 0], .agg #[.int .i64 0, .int .i64 0, .int .i64 0, .int .i64 0, .int .i64 0], .agg #[.int .i64 0, .int .i64 0, .int .i64 0, .int .i64 0, .int .i64 0], .int .i64 0, .agg #[.slice none 0 0, .slice none 0 0]], []⟩ 8 (by kernel_rfl) (by kernel_rfl) (by kernel_rfl) (by kernel_rfl)) ?_
  intro W base args ds gs before hval0 hW hcnd hsz0 _
  have hval : ∀ (j : Nat) t v, Try.f7.params[j]? = some t → args[j]? = some v → Value.okWide Try.prog W .any base t v := hval0
  have hW' := hW
  obtain ⟨p, q, hA0, hV, rfl, hfz, hnd⟩ := hW
  have hA : DataW.TrodAll enc Try.prog W 0 (fun _ => true) true Try.f7.params.toList args.toList ds p := hA0
  have hsz : (DataW.weightsEach Try.prog (Try.f7.params.toList ++ Rows.bookSaysSpec.plain.varTypes Try.prog) (ds ++ gs)).all (· ≤ reachBytes) = true := hsz0
  rw [Try.params7] at hA hval hsz
  obtain ⟨v0, vs0, d0, ds0, p0, q0, hargs, rfl, rfl, h0, r0⟩ := trodAll_cons hA
  obtain ⟨v1, vs1, d1, ds1, p1, q1, rfl, rfl, rfl, h1, r1⟩ := trodAll_cons r0
  obtain ⟨v2, vs2, d2, ds2, p2, q2, rfl, rfl, rfl, h2, r2⟩ := trodAll_cons r1
  obtain ⟨v3, vs3, d3, ds3, p3, q3, rfl, rfl, rfl, h3, r3⟩ := trodAll_cons r2
  obtain ⟨v4, vs4, d4, ds4, p4, q4, rfl, rfl, rfl, h4, r4⟩ := trodAll_cons r3
  obtain ⟨rfl, rfl, rfl⟩ := trodAll_nil r4
  obtain rfl : args = #[v0, v1, v2, v3, v4] := by cases args; simp_all
  obtain ⟨rfl, rfl⟩ := trodVars_none hV
  have k0 := h0
  have k1 := h1
  have k2 := h2
  have k4 := h4
  have lt2 : ∀ x ∈ p2, x.block < W.heap.size := by obtain ⟨m, hm⟩ := k2; exact DataW.trod_lt m _ _ _ hm
  have lt4 : ∀ x ∈ p4, x.block < W.heap.size := by obtain ⟨m, hm⟩ := k4; exact DataW.trod_lt m _ _ _ hm
  have lt0 : ∀ x ∈ p0, x.block < W.heap.size := by obtain ⟨m, hm⟩ := k0; exact DataW.trod_lt m _ _ _ hm
  have lt1 : ∀ x ∈ p1, x.block < W.heap.size := by obtain ⟨m, hm⟩ := k1; exact DataW.trod_lt m _ _ _ hm
  obtain ⟨b0, b1, y0, y1, m0, rfl, hd0, hp0, t0, t1⟩ := open_agg2 Try.underlying42 (by kernel_rfl) cellsB (hval 0 42 v0 rfl rfl) h0
  obtain ⟨pb, cb, bids, eb, ob, xb⟩ := side_read t0
  obtain ⟨pa, ca, asks, ea, oa, xa⟩ := side_read t1
  have eb' : b0 = .slice pb bids.length cb := by simpa using eb
  have ea' : b1 = .slice pa asks.length ca := by simpa using ea
  subst eb' ea'
  obtain ⟨b4, b5, z0, z1, m4, rfl, hd4, hp4, t4, t5⟩ := open_agg2 Try.underlying42 (by kernel_rfl) cellsB (hval 4 42 v4 rfl rfl) h4
  obtain ⟨pb2, cb2, bids2, eb2, ob2, xb2⟩ := side_read t4
  obtain ⟨pa2, ca2, asks2, ea2, oa2, xa2⟩ := side_read t5
  have eb2' : b4 = .slice pb2 bids2.length cb2 := by simpa using eb2
  have ea2' : b5 = .slice pa2 asks2.length ca2 := by simpa using ea2
  subst eb2' ea2'
  obtain ⟨o, eo⟩ : ∃ o : Odr, v1 = odrV o := by
    obtain ⟨cs, rfl, _⟩ := okWide_struct Try.underlying44 (hval 1 44 v1 rfl rfl)
    obtain ⟨fuel, hf⟩ := h1
    obtain ⟨o, ho⟩ := order_cells hf
    have ho' : cs.toList = Bk.enc o := by simpa [Value.cells] using ho
    have : cs = (Bk.enc o).toArray := by rw [← ho']
    exact ⟨o, by rw [this]; rfl⟩
  subst eo
  obtain ⟨o2, eo2⟩ : ∃ o : Odr, v2 = odrV o := by
    obtain ⟨cs, rfl, _⟩ := okWide_struct Try.underlying44 (hval 2 44 v2 rfl rfl)
    obtain ⟨fuel, hf⟩ := h2
    obtain ⟨o, ho⟩ := order_cells hf
    have ho' : cs.toList = Bk.enc o := by simpa [Value.cells] using ho
    have : cs = (Bk.enc o).toArray := by rw [← ho']
    exact ⟨o, by rw [this]; rfl⟩
  subst eo2
  obtain ⟨id, rfl, rfl, rfl, w3⟩ := open_int Try.underlying3 (hval 3 3 v3 rfl rfl) h3
  have nb : bids.length ≤ 140737488351232 := by
    rcases xb with ⟨_, hx⟩ | ⟨es, ss, hx, hl⟩
    · rw [hx]; simp
    · have := List.all_eq_true.1 hsz _ (DataW.weights_mem_each (j := 0) (t := 42) (d := .agg [.slice es ss, y1.1]) rfl (by rw [hd0, hx]; rfl) ((es.length + ss.length) * Try.prog.bytesOf 44) (by simp [DataW.weights, DataW.weightsEach, Try.underlying42, Try.underlying40]))
      rw [show Try.prog.bytesOf 44 = 40 from by kernel_rfl] at this
      have h3 : (es.length + ss.length) * 40 ≤ reachBytes := by simpa using this
      have h4 : reachBytes = 140737488351232 := by decide
      omega
  have na : asks.length ≤ 140737488351232 := by
    rcases xa with ⟨_, hx⟩ | ⟨es, ss, hx, hl⟩
    · rw [hx]; simp
    · have := List.all_eq_true.1 hsz _ (DataW.weights_mem_each (j := 0) (t := 42) (d := .agg [y0.1, .slice es ss]) rfl (by rw [hd0, hx]; rfl) ((es.length + ss.length) * Try.prog.bytesOf 44) (by simp [DataW.weights, DataW.weightsEach, Try.underlying42, Try.underlying40]))
      rw [show Try.prog.bytesOf 44 = 40 from by kernel_rfl] at this
      have h3 : (es.length + ss.length) * 40 ≤ reachBytes := by simpa using this
      have h4 : reachBytes = 140737488351232 := by decide
      omega
  have nb2 : bids2.length ≤ 140737488351232 := by
    rcases xb2 with ⟨_, hx⟩ | ⟨es, ss, hx, hl⟩
    · rw [hx]; simp
    · have := List.all_eq_true.1 hsz _ (DataW.weights_mem_each (j := 4) (t := 42) (d := .agg [.slice es ss, z1.1]) rfl (by rw [hd4, hx]; rfl) ((es.length + ss.length) * Try.prog.bytesOf 44) (by simp [DataW.weights, DataW.weightsEach, Try.underlying42, Try.underlying40]))
      rw [show Try.prog.bytesOf 44 = 40 from by kernel_rfl] at this
      have h3 : (es.length + ss.length) * 40 ≤ reachBytes := by simpa using this
      have h4 : reachBytes = 140737488351232 := by decide
      omega
  have na2 : asks2.length ≤ 140737488351232 := by
    rcases xa2 with ⟨_, hx⟩ | ⟨es, ss, hx, hl⟩
    · rw [hx]; simp
    · have := List.all_eq_true.1 hsz _ (DataW.weights_mem_each (j := 4) (t := 42) (d := .agg [z0.1, .slice es ss]) rfl (by rw [hd4, hx]; rfl) ((es.length + ss.length) * Try.prog.bytesOf 44) (by simp [DataW.weights, DataW.weightsEach, Try.underlying42, Try.underlying40]))
      rw [show Try.prog.bytesOf 44 = 40 from by kernel_rfl] at this
      have h3 : (es.length + ss.length) * 40 ≤ reachBytes := by simpa using this
      have h4 : reachBytes = 140737488351232 := by decide
      omega
  clear hA0 hval0
  refine (Rk.says_any pb pa pb2 pa2 cb ca cb2 ca2 bids asks bids2 asks2 o.1 o.2.1 o.2.2.1 o.2.2.2.1 o.2.2.2.2 o2.1 o2.2.1 o2.2.2.1 o2.2.2.2.1 o2.2.2.2.2 id W ob oa ob2 oa2 nb na nb2 na2).mono fun e W' ⟨he, bel⟩ => ?_
  subst he
  exact ⟨_, rfl, _, _, _, [], _, [], hW', trodAll_mk1 (shut_bool Try.underlying4 _), (trodAll_cons_mk (Below.trod laidOut (by kernel_rfl) (of_decide_eq_true (by kernel_rfl)) k0 bel lt0) (trodAll_cons_mk (Below.trod laidOut (by kernel_rfl) (of_decide_eq_true (by kernel_rfl)) k1 bel lt1) (trodAll_cons_mk (Below.trod laidOut (by kernel_rfl) (of_decide_eq_true (by kernel_rfl)) k2 bel lt2) (trodAll_cons_mk (shut_int Try.underlying3 w3) (trodAll_cons_mk (Below.trod laidOut (by kernel_rfl) (of_decide_eq_true (by kernel_rfl)) k4 bel lt4) trodAll_mk0))))), rfl, bel.frame _, fun h => by cases h⟩

theorem over : Rows.bookSaysRow.holds Try.pinned (OpenSpec.ofChange Rows.bookSaysSpec) :=
  OpenClaim.holds_of_wide 7 Try.f7 rfl rfl rfl rfl rfl rfl rfl ⟨rfl, rfl, rfl, rfl, rfl⟩ rfl rfl rfl rfl rfl (by kernel_rfl) Try.func7 (by kernel_rfl)
    (of_decide_eq_true (by kernel_rfl)) (by unfold Func.isWrapper; first | (rw [if_pos (by decide +kernel)]; kernel_rfl) | (rw [if_neg (by decide +kernel)]; exact ⟨rfl, rfl⟩))
    (fun os started H enc _ => lifted os started H enc)

theorem proved : Rows.BookSaysSaid := over
end Go.Proofs.Ytbphljnncbiddaa.bookSays
namespace Go.Proofs.Ytbphljnncbiddaa
theorem bookSays_holds : Rows.BookSaysSaid := bookSays.proved
#print axioms bookSays_holds
end Go.Proofs.Ytbphljnncbiddaa
