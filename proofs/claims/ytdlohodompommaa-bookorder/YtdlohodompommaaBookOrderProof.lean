/-
  BookOrder is true of every book and every list of picks: its orders come to rest where they stand, in whatever order they came. No condition.
-/
import Derived.Test.YtdlohodompommaaRows
import Derived.Test.YtdlohodompommaaBkOrd2
import Derived.Test.YtdlohodompommaaBkArgs
import Derived.Outline
import Derived.ProofKit
import Derived.OpenShut
import Derived.ChangeOld
import Derived.Below
import Derived.SizedLaws
namespace Go.Proofs.Ytdlohodompommaa.bookOrder
open Go.ChangeShapes Go.WideShapes Go.ChangeAt Go.RowKit Go.Joins Go.Proofs.Ytdlohodompommaa.Bk
set_option linter.unusedVariables false

theorem own : ownKnob Try.prog.godebug = none := by kernel_rfl
theorem laidOut : laidOutB Try.prog = true := by kernel_rfl
theorem cellsB : Try.prog.cellsOf 42 = 2 := by kernel_rfl

theorem any (p p' : Option Addr) (c c' : Nat) (bids asks : List Odr) (ap : Option Addr) (pn pc : Nat) (zs : List Int) (w : World) (h : OV w p c bids) (h' : OV w p' c' asks) (hn : bids.length ≤ 140737488351232) (hn' : asks.length ≤ 140737488351232) (hz : zs.length = pn) (hpn : pn ≤ 140737488351232) (hrow : IRow w ap zs) :
    Calls Try.prog 9 #[.agg #[.slice p bids.length c, .slice p' asks.length c'], .slice ap pn pc] w fun e w' => e = .returned (.bool true) ∧ Below w.heap.size w w' := by
  by_cases hb : bookErr bids asks = 0
  · exact order_ok p p' c c' bids asks ap pn pc zs w h h' hz hpn hrow (bookErr_zero.1 hb)
  · exact order_bad p p' c c' bids asks _ w h h' hn hn' hb

theorem row_of {w : World} {x : Addr} {len : Nat} {zs : List Int} (hl : len ≤ zs.length) (hc : ∀ i, i < zs.length → w.cell? (x.add i) = some (.int .i64 (zs.getD i 0))) : IRow w (some x) (zs.take len) := by
  by_cases h0 : len = 0
  · subst h0
    exact .inl rfl
  · obtain ⟨b, off, spot⟩ := x
    have hs : spot = none := by simpa [Addr.add] using World.cell?_spot (hc 0 (by omega))
    subst hs
    refine .inr ⟨b, off, rfl, ?_⟩
    intro i hi
    simp only [List.length_take] at hi
    have hci := hc i (by omega)
    rw [add_lit] at hci
    rw [hci]
    simp [show i < len by omega]
set_option maxRecDepth 100000 in
theorem lifted (os : Os) (started : os.Started) (H : Type) (enc : TypeId × Value → H) :
    ReturnsInHanded {} Try.checked os 9 .any (Rows.bookOrderSpec.pre6 enc Try.prog Try.f9 Rows.bookOrderRow.domain false) (Rows.bookOrderSpec.post enc Try.prog Try.f9 false true false false) := by
  refine returnsInHanded_of_change_sized (C := Try.checked) own started (by kernel_rfl) Try.func9
    (ChangeSpec.witness6 (enc := enc) (C := Try.checked) false ⟨#[], #[.agg #[.slice none 0 0, .slice none 0 0], .slice none 0 0], []⟩ 8 (by kernel_rfl) (by kernel_rfl) (by kernel_rfl) (by kernel_rfl)) ?_
  intro W base args ds gs before hval0 hW hcnd hsz0 _
  have hval : ∀ (j : Nat) t v, Try.f9.params[j]? = some t → args[j]? = some v → Value.okWide Try.prog W .any base t v := hval0
  have hW' := hW
  obtain ⟨p, q, hA0, hV, rfl, hfz, hnd⟩ := hW
  have hA : DataW.TrodAll enc Try.prog W 0 (fun _ => true) true Try.f9.params.toList args.toList ds p := hA0
  have hsz : (DataW.weightsEach Try.prog (Try.f9.params.toList ++ Rows.bookOrderSpec.plain.varTypes Try.prog) (ds ++ gs)).all (· ≤ reachBytes) = true := hsz0
  rw [Try.params9] at hA hval hsz
  obtain ⟨v0, vs0, d0, ds0, p0, q0, hargs, rfl, rfl, h0, r0⟩ := trodAll_cons hA
  obtain ⟨v1, vs1, d1, ds1, p1, q1, rfl, rfl, rfl, h1, r1⟩ := trodAll_cons r0
  obtain ⟨rfl, rfl, rfl⟩ := trodAll_nil r1
  obtain rfl : args = #[v0, v1] := by cases args; simp_all
  obtain ⟨rfl, rfl⟩ := trodVars_none hV
  have k0 := h0
  have k1 := h1
  have lt0 : ∀ x ∈ p0, x.block < W.heap.size := by obtain ⟨m, hm⟩ := k0; exact DataW.trod_lt m _ _ _ hm
  have lt1 : ∀ x ∈ p1, x.block < W.heap.size := by obtain ⟨m, hm⟩ := k1; exact DataW.trod_lt m _ _ _ hm
  obtain ⟨b0, b1, y0, y1, m0, rfl, hd0, hp0, t0, t1⟩ := open_agg2 Try.underlying42 (by kernel_rfl) cellsB (hval 0 42 v0 rfl rfl) h0
  obtain ⟨pb, cb, bids, eb, ob, xb⟩ := side_read t0
  obtain ⟨pa, ca, asks, ea, oa, xa⟩ := side_read t1
  have eb' : b0 = .slice pb bids.length cb := by simpa using eb
  have ea' : b1 = .slice pa asks.length ca := by simpa using ea
  subst eb' ea'
  obtain ⟨a1, len1, cap1, rfl⟩ := okWide_slice Try.underlying24 (hval 1 24 v1 rfl rfl)
  obtain ⟨zs, hzl, hzr, np⟩ : ∃ zs : List Int, zs.length = len1 ∧ IRow W a1 zs ∧ len1 ≤ 140737488351232 := by
    obtain ⟨fuel, hf⟩ := h1
    rcases open_ints Try.underlying24 Try.underlying3 (by kernel_rfl) hf with ⟨hcs, _⟩ | ⟨x, l, c, zs, hcs, _, hl, hm, hz, hx, hcell, hwz⟩
    · simp [Value.cells] at hcs
      obtain ⟨rfl, rfl, rfl⟩ := hcs
      exact ⟨[], rfl, .inl rfl, by omega⟩
    · simp [Value.cells] at hcs
      obtain ⟨rfl, rfl, rfl⟩ := hcs
      simp only [Prod.mk.injEq] at hx
      have hsd := sized_slice hsz (j := 1) (t := 24) (e := 3) rfl (by rw [hx.1]; rfl) Try.underlying24
      rw [show Try.prog.bytesOf 3 = 8 from by kernel_rfl] at hsd
      simp only [lits, List.length_map, List.length_take, List.length_drop, reachBytes] at hsd
      have hz' : zs.length = cap1 := by simpa using hz
      exact ⟨zs.take len1, by simp; omega, row_of (by omega) hcell, by omega⟩
  have nb : bids.length ≤ 140737488351232 := by
    rcases xb with ⟨_, hx⟩ | ⟨es, ss, hx, hl⟩
    · rw [hx]; simp
    · have := List.all_eq_true.1 hsz _ (DataW.weights_mem_each (j := 0) (t := 42) (d := .agg [.slice es ss, y1.1]) rfl (by rw [hd0, hx]; rfl) ((es.length + ss.length) * Try.prog.bytesOf 44) (by simp [DataW.weights, DataW.weightsEach, Try.underlying42, Try.underlying40]))
      rw [show Try.prog.bytesOf 44 = 40 from by kernel_rfl] at this
      have h3 : (es.length + ss.length) * 40 ≤ reachBytes := by simpa using this
      have h4 : reachBytes = 140737488351232 := by decide
      omega
  have na : asks.length ≤ 140737488351232 := by
    rcases xa with ⟨_, hx⟩ | ⟨es, ss, hx, hl⟩
    · rw [hx]; simp
    · have := List.all_eq_true.1 hsz _ (DataW.weights_mem_each (j := 0) (t := 42) (d := .agg [y0.1, .slice es ss]) rfl (by rw [hd0, hx]; rfl) ((es.length + ss.length) * Try.prog.bytesOf 44) (by simp [DataW.weights, DataW.weightsEach, Try.underlying42, Try.underlying40]))
      rw [show Try.prog.bytesOf 44 = 40 from by kernel_rfl] at this
      have h3 : (es.length + ss.length) * 40 ≤ reachBytes := by simpa using this
      have h4 : reachBytes = 140737488351232 := by decide
      omega
  clear hA0 hval0
  refine (any pb pa cb ca bids asks a1 len1 cap1 zs W ob oa nb na hzl np hzr).mono fun e W' ⟨he, bel⟩ => ?_
  subst he
  exact ⟨_, rfl, _, _, _, [], _, [], hW', trodAll_mk1 (shut_bool Try.underlying4 _), (trodAll_cons_mk (Below.trod laidOut (by kernel_rfl) (of_decide_eq_true (by kernel_rfl)) k0 bel lt0) (trodAll_cons_mk (Below.trod laidOut (by kernel_rfl) (of_decide_eq_true (by kernel_rfl)) k1 bel lt1) trodAll_mk0)), rfl, bel.frame _, fun h => by cases h⟩

theorem over : Rows.bookOrderRow.holds Try.pinned (OpenSpec.ofChange Rows.bookOrderSpec) :=
  OpenClaim.holds_of_wide 9 Try.f9 rfl rfl rfl rfl rfl rfl rfl ⟨rfl, rfl, rfl, rfl, rfl⟩ rfl rfl rfl rfl rfl (by kernel_rfl) Try.func9 (by kernel_rfl)
    (of_decide_eq_true (by kernel_rfl)) (by unfold Func.isWrapper; first | (rw [if_pos (by decide +kernel)]; kernel_rfl) | (rw [if_neg (by decide +kernel)]; exact ⟨rfl, rfl⟩))
    (fun os started H enc _ => lifted os started H enc)

theorem proved : Rows.BookOrderSaid := over
end Go.Proofs.Ytdlohodompommaa.bookOrder
namespace Go.Proofs.Ytdlohodompommaa
theorem bookOrder_holds : Rows.BookOrderSaid := bookOrder.proved
#print axioms bookOrder_holds
end Go.Proofs.Ytdlohodompommaa
