/-
  Commands as arguments: how they read; the library's tables, out of the row's condition.
-/
import Derived.Test.YthdjfhnhjiageaaDoorRows
import Derived.Test.YthdjfhnhjiageaaDoorTxW3
import Derived.Deep.Slices
import Derived.Lib.SmallJoins
import Derived.OpenShut
import Derived.SizedLaws
import Derived.Lay
import Derived.MakeChecks
import Derived.Stop.LaidErr
import Derived.Lib.LaidTab
namespace Go.Proofs.YthdjfhnhjiageaaDoor.Tx
open Go.ChangeShapes Go.WideShapes Go.ChangeAt Go.RowKit Go.Joins Go.Lib Go.Deep

variable {H : Type} {enc' : TypeId × Value → H} {w : World} {base : Nat} {spare : Nat → Bool} {held : Bool}

theorem cellsOr : Tryd.prog.cellsOf 23 = 5 := by kernel_rfl
theorem cellsCm : Tryd.prog.cellsOf 25 = 11 := by kernel_rfl
theorem cellsIn : Tryd.prog.cellsOf 3 = 1 := by kernel_rfl
theorem cellsBo : Tryd.prog.cellsOf 4 = 1 := by kernel_rfl
theorem wf64 {n : Int} (h : (Lit.int .i64 n).wf = true) : i64 n := by
  unfold i64
  simpa [Lit.wf, IntKind.min, IntKind.max, IntKind.signed, IntKind.bits] using h
theorem int_cell {fuel : Nat} {v : Value} {x : DataW H × List MemPlace} (h : DataW.trod enc' Tryd.prog w base spare held fuel 3 [v] = some x) : ∃ n, v = .int .i64 n ∧ i64 n := by
  obtain ⟨n, e, -, hw⟩ := DataW.trod_int Tryd.underlying3 h
  exact ⟨n, by simpa using e, wf64 hw⟩
set_option maxRecDepth 100000 in
theorem order_cells {fuel : Nat} {cs : List Value} {x : DataW H × List MemPlace} (h : DataW.trod enc' Tryd.prog w base spare held fuel 23 cs = some x) : ∃ a b c d e : Int, cs = [.int .i64 a, .int .i64 b, .int .i64 c, .int .i64 d, .int .i64 e] ∧ i64 a ∧ i64 b ∧ i64 c ∧ i64 d ∧ i64 e := by
  obtain ⟨xs, n, _, _, hl, hxl, hf⟩ := DataW.trod_struct Tryd.underlying23 h
  rw [cellsOr] at hl
  rcases cs with _ | ⟨c0, _ | ⟨c1, _ | ⟨c2, _ | ⟨c3, _ | ⟨c4, _ | ⟨c5, cs⟩⟩⟩⟩⟩⟩ <;> simp at hl
  rcases xs with _ | ⟨z0, _ | ⟨z1, _ | ⟨z2, _ | ⟨z3, _ | ⟨z4, _ | ⟨z5, xs⟩⟩⟩⟩⟩⟩ <;> simp at hxl
  obtain ⟨y0, g0⟩ : ∃ y, DataW.trod enc' Tryd.prog w base spare held n 3 (([c0, c1, c2, c3, c4].drop 0).take (Tryd.prog.cellsOf 3)) = some y := ⟨z0, hf 0 _ rfl⟩
  rw [cellsIn] at g0
  obtain ⟨k0, e0, w0⟩ := int_cell (by simpa using g0)
  obtain ⟨y1, g1⟩ : ∃ y, DataW.trod enc' Tryd.prog w base spare held n 3 (([c0, c1, c2, c3, c4].drop 1).take (Tryd.prog.cellsOf 3)) = some y := ⟨z1, hf 1 _ rfl⟩
  rw [cellsIn] at g1
  obtain ⟨k1, e1, w1⟩ := int_cell (by simpa using g1)
  obtain ⟨y2, g2⟩ : ∃ y, DataW.trod enc' Tryd.prog w base spare held n 3 (([c0, c1, c2, c3, c4].drop 2).take (Tryd.prog.cellsOf 3)) = some y := ⟨z2, hf 2 _ rfl⟩
  rw [cellsIn] at g2
  obtain ⟨k2, e2, w2⟩ := int_cell (by simpa using g2)
  obtain ⟨y3, g3⟩ : ∃ y, DataW.trod enc' Tryd.prog w base spare held n 3 (([c0, c1, c2, c3, c4].drop 3).take (Tryd.prog.cellsOf 3)) = some y := ⟨z3, hf 3 _ rfl⟩
  rw [cellsIn] at g3
  obtain ⟨k3, e3, w3⟩ := int_cell (by simpa using g3)
  obtain ⟨y4, g4⟩ : ∃ y, DataW.trod enc' Tryd.prog w base spare held n 3 (([c0, c1, c2, c3, c4].drop 4).take (Tryd.prog.cellsOf 3)) = some y := ⟨z4, hf 4 _ rfl⟩
  rw [cellsIn] at g4
  obtain ⟨k4, e4, w4⟩ := int_cell (by simpa using g4)
  subst e0 e1 e2 e3 e4
  exact ⟨k0, k1, k2, k3, k4, rfl, w0, w1, w2, w3, w4⟩
set_option maxRecDepth 100000 in
theorem cmd_cells {fuel : Nat} {cs : List Value} {x : DataW H × List MemPlace} (h : DataW.trod enc' Tryd.prog w base spare held fuel 25 cs = some x) : ∃ c : Cd, cs = [.int .i64 c.kind, .int .i64 c.ac, .int .i64 c.mkt, .int .i64 c.n, .int .i64 c.oi, .int .i64 c.oa, .int .i64 c.sd, .int .i64 c.pr, .int .i64 c.qt, .int .i64 c.how, .bool c.red] ∧ c.fits := by
  obtain ⟨xs, n, _, _, hl, hxl, hf⟩ := DataW.trod_struct Tryd.underlying25 h
  rw [cellsCm] at hl
  rcases cs with _ | ⟨c0, _ | ⟨c1, _ | ⟨c2, _ | ⟨c3, _ | ⟨c4, _ | ⟨c5, _ | ⟨c6, _ | ⟨c7, _ | ⟨c8, _ | ⟨c9, _ | ⟨c10, _ | ⟨c11, cs⟩⟩⟩⟩⟩⟩⟩⟩⟩⟩⟩⟩ <;> simp at hl
  rcases xs with _ | ⟨z0, _ | ⟨z1, _ | ⟨z2, _ | ⟨z3, _ | ⟨z4, _ | ⟨z5, _ | ⟨z6, _ | ⟨z7, xs⟩⟩⟩⟩⟩⟩⟩⟩ <;> simp at hxl
  obtain ⟨y0, g0⟩ : ∃ y, DataW.trod enc' Tryd.prog w base spare held n 3 (([c0, c1, c2, c3, c4, c5, c6, c7, c8, c9, c10].drop 0).take (Tryd.prog.cellsOf 3)) = some y := ⟨z0, hf 0 _ rfl⟩
  rw [cellsIn] at g0
  obtain ⟨k0, e0, w0⟩ := int_cell (by simpa using g0)
  obtain ⟨y1, g1⟩ : ∃ y, DataW.trod enc' Tryd.prog w base spare held n 3 (([c0, c1, c2, c3, c4, c5, c6, c7, c8, c9, c10].drop 1).take (Tryd.prog.cellsOf 3)) = some y := ⟨z1, hf 1 _ rfl⟩
  rw [cellsIn] at g1
  obtain ⟨k1, e1, w1⟩ := int_cell (by simpa using g1)
  obtain ⟨y2, g2⟩ : ∃ y, DataW.trod enc' Tryd.prog w base spare held n 3 (([c0, c1, c2, c3, c4, c5, c6, c7, c8, c9, c10].drop 2).take (Tryd.prog.cellsOf 3)) = some y := ⟨z2, hf 2 _ rfl⟩
  rw [cellsIn] at g2
  obtain ⟨k2, e2, w2⟩ := int_cell (by simpa using g2)
  obtain ⟨y3, g3⟩ : ∃ y, DataW.trod enc' Tryd.prog w base spare held n 3 (([c0, c1, c2, c3, c4, c5, c6, c7, c8, c9, c10].drop 3).take (Tryd.prog.cellsOf 3)) = some y := ⟨z3, hf 3 _ rfl⟩
  rw [cellsIn] at g3
  obtain ⟨k3, e3, w3⟩ := int_cell (by simpa using g3)
  obtain ⟨y4, g4⟩ : ∃ y, DataW.trod enc' Tryd.prog w base spare held n 23 (([c0, c1, c2, c3, c4, c5, c6, c7, c8, c9, c10].drop 4).take (Tryd.prog.cellsOf 23)) = some y := ⟨z4, hf 4 _ rfl⟩
  rw [cellsOr] at g4
  obtain ⟨a, b, c, d, e, eo, wa, wb, wc, wd, we⟩ := order_cells g4
  simp only [List.drop_succ_cons, List.drop_zero, List.take_succ_cons, List.take_zero, List.cons.injEq, and_true] at eo
  obtain ⟨rfl, rfl, rfl, rfl, rfl⟩ := eo
  obtain ⟨y5, g5⟩ : ∃ y, DataW.trod enc' Tryd.prog w base spare held n 3 (([c0, c1, c2, c3, .int .i64 a, .int .i64 b, .int .i64 c, .int .i64 d, .int .i64 e, c9, c10].drop 9).take (Tryd.prog.cellsOf 3)) = some y := ⟨z5, hf 5 _ rfl⟩
  rw [cellsIn] at g5
  obtain ⟨k5, e5, w5⟩ := int_cell (by simpa using g5)
  obtain ⟨y6, g6⟩ : ∃ y, DataW.trod enc' Tryd.prog w base spare held n 4 (([c0, c1, c2, c3, .int .i64 a, .int .i64 b, .int .i64 c, .int .i64 d, .int .i64 e, c9, c10].drop 10).take (Tryd.prog.cellsOf 4)) = some y := ⟨z6, hf 6 _ rfl⟩
  rw [cellsBo] at g6
  obtain ⟨k6, e6, -⟩ := DataW.trod_bool Tryd.underlying4 g6
  simp at e6
  subst e0 e1 e2 e3 e5 e6
  exact ⟨⟨k0, k1, k2, k3, a, b, c, d, e, k5, k6⟩, rfl, ⟨w0, w1, w2, w3, wa, wb, wc, wd, we, w5⟩⟩
set_option maxRecDepth 100000 in
theorem cmd_read {r : Reach} {b0 : Nat} {v : Value} {d : DataW H} {ps : List MemPlace} (hv : Value.okWide Tryd.prog w r b0 25 v) (h : DataW.Trod enc' Tryd.prog w base spare held 25 v d ps) : ∃ c : Cd, v = cdV c ∧ c.fits := by
  obtain ⟨cs, rfl, _⟩ := okWide_struct Tryd.underlying25 hv
  obtain ⟨fuel, hf⟩ := h
  obtain ⟨c, hc, hfit⟩ := cmd_cells hf
  have ho' : cs.toList = [.int .i64 c.kind, .int .i64 c.ac, .int .i64 c.mkt, .int .i64 c.n, .int .i64 c.oi, .int .i64 c.oa, .int .i64 c.sd, .int .i64 c.pr, .int .i64 c.qt, .int .i64 c.how, .bool c.red] := by simpa [Value.cells] using hc
  refine ⟨c, ?_, hfit⟩
  have : cs = [Value.int .i64 c.kind, .int .i64 c.ac, .int .i64 c.mkt, .int .i64 c.n, .int .i64 c.oi, .int .i64 c.oa, .int .i64 c.sd, .int .i64 c.pr, .int .i64 c.qt, .int .i64 c.how, .bool c.red].toArray := by rw [← ho']
  rw [this]

abbrev laidB : List (String × DataW Unit) := [("math/bits.deBruijn32tab", Rows.laid_math_bits_deBruijn32tab), ("math/bits.deBruijn64tab", Rows.laid_math_bits_deBruijn64tab), ("internal/strconv.uint64pow10", Rows.laid_internal_strconv_uint64pow10), ("unicode/utf8.acceptRanges", Rows.laid_unicode_utf8_acceptRanges), ("strconv.ErrRange", Rows.laid_strconv_ErrRange), ("strconv.ErrSyntax", Rows.laid_strconv_ErrSyntax), ("unicode/utf8.first", Rows.laid_unicode_utf8_first)]
theorem star : "*" ++ "errors.errorString" = "*errors.errorString" := by decide
theorem row_err (u : TypeId) (h : Tryd.prog.typeName? 3 u = some "*errors.errorString") : u = 140 :=
  typeName_ptr_named (nm := "errors.errorString") (by rw [star]; kernel_rfl) (by kernel_rfl) (by decide) u (by rw [star]; exact h)
theorem env_of {W : World} (h : laidMet Tryd.prog laidB W) : Env W := by
  have h2 := h.tail.tail
  have h4 := h2.tail.tail
  have h5 := h4.tail
  have c1 : Tryd.prog.cellsOf 142 = 1 := by kernel_rfl
  have c2 : Tryd.prog.cellsOf 9 = 1 := by kernel_rfl
  obtain ⟨a0, s0, hv0, -, -, -⟩ := laid_sentinel h4 (g := 3) (by kernel_rfl) (by kernel_rfl) Tryd.underlying61 row_err Tryd.underlying140 Tryd.underlying142 rfl rfl Tryd.underlying9 c1 c2
  obtain ⟨a1, s1, hv1, -, -, -⟩ := laid_sentinel h5 (g := 2) (by kernel_rfl) (by kernel_rfl) Tryd.underlying61 row_err Tryd.underlying140 Tryd.underlying142 rfl rfl Tryd.underlying9 c1 c2
  exact ⟨tabIs_of_head (g := 4) (e := 97) (n := 20) (by kernel_rfl) (by kernel_rfl) Tryd.underlying132 Tryd.underlying97 (by kernel_rfl) (by kernel_rfl) h2, ⟨_, _, hv1⟩, ⟨_, _, hv0⟩⟩
end Go.Proofs.YthdjfhnhjiageaaDoor.Tx
