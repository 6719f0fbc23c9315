/-
  Commands as arguments: how they read; the library's tables, out of the row's condition.
-/
import Derived.Test.YthdjfhnhjiageaaGreatDoorRows
import Derived.Test.YthdjfhnhjiageaaGreatDoorTxW3
import Derived.Deep.Slices
import Derived.Lib.SmallJoins
import Derived.OpenShut
import Derived.SizedLaws
import Derived.Lay
import Derived.MakeChecks
import Derived.Stop.LaidErr
import Derived.Lib.LaidTab
import Derived.Test.YthdjfhnhjiageaaGreatDoorMgA
import Derived.ChangeSlices
import Derived.Test.YthdjfhnhjiageaaGreatDoorTxS4
namespace Go.Proofs.YthdjfhnhjiageaaGreatDoor.Tx
open Go.ChangeShapes Go.WideShapes Go.ChangeAt Go.RowKit Go.Joins Go.Lib Go.Deep

variable {H : Type} {enc' : TypeId × Value → H} {w : World} {base : Nat} {spare : Nat → Bool} {held : Bool}

theorem cellsOr : Tryz.prog.cellsOf 26 = 5 := by kernel_rfl
theorem cellsCm : Tryz.prog.cellsOf 28 = 11 := by kernel_rfl
theorem cellsIn : Tryz.prog.cellsOf 3 = 1 := by kernel_rfl
theorem cellsBo : Tryz.prog.cellsOf 4 = 1 := by kernel_rfl
theorem wf64 {n : Int} (h : (Lit.int .i64 n).wf = true) : i64 n := by
  unfold i64
  simpa [Lit.wf, IntKind.min, IntKind.max, IntKind.signed, IntKind.bits] using h
theorem int_cell {fuel : Nat} {v : Value} {x : DataW H × List MemPlace} (h : DataW.trod enc' Tryz.prog w base spare held fuel 3 [v] = some x) : ∃ n, v = .int .i64 n ∧ i64 n := by
  obtain ⟨n, e, -, hw⟩ := DataW.trod_int Tryz.underlying3 h
  exact ⟨n, by simpa using e, wf64 hw⟩
set_option maxRecDepth 100000 in
theorem order_cells {fuel : Nat} {cs : List Value} {x : DataW H × List MemPlace} (h : DataW.trod enc' Tryz.prog w base spare held fuel 26 cs = some x) : ∃ a b c d e : Int, cs = [.int .i64 a, .int .i64 b, .int .i64 c, .int .i64 d, .int .i64 e] ∧ i64 a ∧ i64 b ∧ i64 c ∧ i64 d ∧ i64 e := by
  obtain ⟨xs, n, _, _, hl, hxl, hf⟩ := DataW.trod_struct Tryz.underlying26 h
  rw [cellsOr] at hl
  rcases cs with _ | ⟨c0, _ | ⟨c1, _ | ⟨c2, _ | ⟨c3, _ | ⟨c4, _ | ⟨c5, cs⟩⟩⟩⟩⟩⟩ <;> simp at hl
  rcases xs with _ | ⟨z0, _ | ⟨z1, _ | ⟨z2, _ | ⟨z3, _ | ⟨z4, _ | ⟨z5, xs⟩⟩⟩⟩⟩⟩ <;> simp at hxl
  obtain ⟨y0, g0⟩ : ∃ y, DataW.trod enc' Tryz.prog w base spare held n 3 (([c0, c1, c2, c3, c4].drop 0).take (Tryz.prog.cellsOf 3)) = some y := ⟨z0, hf 0 _ rfl⟩
  rw [cellsIn] at g0
  obtain ⟨k0, e0, w0⟩ := int_cell (by simpa using g0)
  obtain ⟨y1, g1⟩ : ∃ y, DataW.trod enc' Tryz.prog w base spare held n 3 (([c0, c1, c2, c3, c4].drop 1).take (Tryz.prog.cellsOf 3)) = some y := ⟨z1, hf 1 _ rfl⟩
  rw [cellsIn] at g1
  obtain ⟨k1, e1, w1⟩ := int_cell (by simpa using g1)
  obtain ⟨y2, g2⟩ : ∃ y, DataW.trod enc' Tryz.prog w base spare held n 3 (([c0, c1, c2, c3, c4].drop 2).take (Tryz.prog.cellsOf 3)) = some y := ⟨z2, hf 2 _ rfl⟩
  rw [cellsIn] at g2
  obtain ⟨k2, e2, w2⟩ := int_cell (by simpa using g2)
  obtain ⟨y3, g3⟩ : ∃ y, DataW.trod enc' Tryz.prog w base spare held n 3 (([c0, c1, c2, c3, c4].drop 3).take (Tryz.prog.cellsOf 3)) = some y := ⟨z3, hf 3 _ rfl⟩
  rw [cellsIn] at g3
  obtain ⟨k3, e3, w3⟩ := int_cell (by simpa using g3)
  obtain ⟨y4, g4⟩ : ∃ y, DataW.trod enc' Tryz.prog w base spare held n 3 (([c0, c1, c2, c3, c4].drop 4).take (Tryz.prog.cellsOf 3)) = some y := ⟨z4, hf 4 _ rfl⟩
  rw [cellsIn] at g4
  obtain ⟨k4, e4, w4⟩ := int_cell (by simpa using g4)
  subst e0 e1 e2 e3 e4
  exact ⟨k0, k1, k2, k3, k4, rfl, w0, w1, w2, w3, w4⟩
set_option maxRecDepth 100000 in
theorem cmd_cells {fuel : Nat} {cs : List Value} {x : DataW H × List MemPlace} (h : DataW.trod enc' Tryz.prog w base spare held fuel 28 cs = some x) : ∃ c : Cd, cs = [.int .i64 c.kind, .int .i64 c.ac, .int .i64 c.mkt, .int .i64 c.n, .int .i64 c.oi, .int .i64 c.oa, .int .i64 c.sd, .int .i64 c.pr, .int .i64 c.qt, .int .i64 c.how, .bool c.red] ∧ c.fits := by
  obtain ⟨xs, n, _, _, hl, hxl, hf⟩ := DataW.trod_struct Tryz.underlying28 h
  rw [cellsCm] at hl
  rcases cs with _ | ⟨c0, _ | ⟨c1, _ | ⟨c2, _ | ⟨c3, _ | ⟨c4, _ | ⟨c5, _ | ⟨c6, _ | ⟨c7, _ | ⟨c8, _ | ⟨c9, _ | ⟨c10, _ | ⟨c11, cs⟩⟩⟩⟩⟩⟩⟩⟩⟩⟩⟩⟩ <;> simp at hl
  rcases xs with _ | ⟨z0, _ | ⟨z1, _ | ⟨z2, _ | ⟨z3, _ | ⟨z4, _ | ⟨z5, _ | ⟨z6, _ | ⟨z7, xs⟩⟩⟩⟩⟩⟩⟩⟩ <;> simp at hxl
  obtain ⟨y0, g0⟩ : ∃ y, DataW.trod enc' Tryz.prog w base spare held n 3 (([c0, c1, c2, c3, c4, c5, c6, c7, c8, c9, c10].drop 0).take (Tryz.prog.cellsOf 3)) = some y := ⟨z0, hf 0 _ rfl⟩
  rw [cellsIn] at g0
  obtain ⟨k0, e0, w0⟩ := int_cell (by simpa using g0)
  obtain ⟨y1, g1⟩ : ∃ y, DataW.trod enc' Tryz.prog w base spare held n 3 (([c0, c1, c2, c3, c4, c5, c6, c7, c8, c9, c10].drop 1).take (Tryz.prog.cellsOf 3)) = some y := ⟨z1, hf 1 _ rfl⟩
  rw [cellsIn] at g1
  obtain ⟨k1, e1, w1⟩ := int_cell (by simpa using g1)
  obtain ⟨y2, g2⟩ : ∃ y, DataW.trod enc' Tryz.prog w base spare held n 3 (([c0, c1, c2, c3, c4, c5, c6, c7, c8, c9, c10].drop 2).take (Tryz.prog.cellsOf 3)) = some y := ⟨z2, hf 2 _ rfl⟩
  rw [cellsIn] at g2
  obtain ⟨k2, e2, w2⟩ := int_cell (by simpa using g2)
  obtain ⟨y3, g3⟩ : ∃ y, DataW.trod enc' Tryz.prog w base spare held n 3 (([c0, c1, c2, c3, c4, c5, c6, c7, c8, c9, c10].drop 3).take (Tryz.prog.cellsOf 3)) = some y := ⟨z3, hf 3 _ rfl⟩
  rw [cellsIn] at g3
  obtain ⟨k3, e3, w3⟩ := int_cell (by simpa using g3)
  obtain ⟨y4, g4⟩ : ∃ y, DataW.trod enc' Tryz.prog w base spare held n 26 (([c0, c1, c2, c3, c4, c5, c6, c7, c8, c9, c10].drop 4).take (Tryz.prog.cellsOf 26)) = some y := ⟨z4, hf 4 _ rfl⟩
  rw [cellsOr] at g4
  obtain ⟨a, b, c, d, e, eo, wa, wb, wc, wd, we⟩ := order_cells g4
  simp only [List.drop_succ_cons, List.drop_zero, List.take_succ_cons, List.take_zero, List.cons.injEq, and_true] at eo
  obtain ⟨rfl, rfl, rfl, rfl, rfl⟩ := eo
  obtain ⟨y5, g5⟩ : ∃ y, DataW.trod enc' Tryz.prog w base spare held n 3 (([c0, c1, c2, c3, .int .i64 a, .int .i64 b, .int .i64 c, .int .i64 d, .int .i64 e, c9, c10].drop 9).take (Tryz.prog.cellsOf 3)) = some y := ⟨z5, hf 5 _ rfl⟩
  rw [cellsIn] at g5
  obtain ⟨k5, e5, w5⟩ := int_cell (by simpa using g5)
  obtain ⟨y6, g6⟩ : ∃ y, DataW.trod enc' Tryz.prog w base spare held n 4 (([c0, c1, c2, c3, .int .i64 a, .int .i64 b, .int .i64 c, .int .i64 d, .int .i64 e, c9, c10].drop 10).take (Tryz.prog.cellsOf 4)) = some y := ⟨z6, hf 6 _ rfl⟩
  rw [cellsBo] at g6
  obtain ⟨k6, e6, -⟩ := DataW.trod_bool Tryz.underlying4 g6
  simp at e6
  subst e0 e1 e2 e3 e5 e6
  exact ⟨⟨k0, k1, k2, k3, a, b, c, d, e, k5, k6⟩, rfl, ⟨w0, w1, w2, w3, wa, wb, wc, wd, we, w5⟩⟩
set_option maxRecDepth 100000 in
theorem cmd_read {r : Reach} {b0 : Nat} {v : Value} {d : DataW H} {ps : List MemPlace} (hv : Value.okWide Tryz.prog w r b0 28 v) (h : DataW.Trod enc' Tryz.prog w base spare held 28 v d ps) : ∃ c : Cd, v = cdV c ∧ c.fits := by
  obtain ⟨cs, rfl, _⟩ := okWide_struct Tryz.underlying28 hv
  obtain ⟨fuel, hf⟩ := h
  obtain ⟨c, hc, hfit⟩ := cmd_cells hf
  have ho' : cs.toList = [.int .i64 c.kind, .int .i64 c.ac, .int .i64 c.mkt, .int .i64 c.n, .int .i64 c.oi, .int .i64 c.oa, .int .i64 c.sd, .int .i64 c.pr, .int .i64 c.qt, .int .i64 c.how, .bool c.red] := by simpa [Value.cells] using hc
  refine ⟨c, ?_, hfit⟩
  have : cs = [Value.int .i64 c.kind, .int .i64 c.ac, .int .i64 c.mkt, .int .i64 c.n, .int .i64 c.oi, .int .i64 c.oa, .int .i64 c.sd, .int .i64 c.pr, .int .i64 c.qt, .int .i64 c.how, .bool c.red].toArray := by rw [← ho']
  rw [this]

abbrev laidB : List (String × DataW Unit) := [("math/bits.deBruijn32tab", Rows.laid_math_bits_deBruijn32tab), ("math/bits.deBruijn64tab", Rows.laid_math_bits_deBruijn64tab), ("internal/strconv.uint64pow10", Rows.laid_internal_strconv_uint64pow10), ("unicode/utf8.acceptRanges", Rows.laid_unicode_utf8_acceptRanges), ("strconv.ErrRange", Rows.laid_strconv_ErrRange), ("strconv.ErrSyntax", Rows.laid_strconv_ErrSyntax), ("unicode/utf8.first", Rows.laid_unicode_utf8_first)]
theorem star : "*" ++ "errors.errorString" = "*errors.errorString" := by decide
theorem row_err (u : TypeId) (h : Tryz.prog.typeName? 3 u = some "*errors.errorString") : u = 282 :=
  typeName_ptr_named (nm := "errors.errorString") (by rw [star]; kernel_rfl) (by kernel_rfl) (by decide) u (by rw [star]; exact h)
theorem env_of {W : World} (h : laidMet Tryz.prog laidB W) : Env W := by
  have h2 := h.tail.tail
  have h4 := h2.tail.tail
  have h5 := h4.tail
  have c1 : Tryz.prog.cellsOf 284 = 1 := by kernel_rfl
  have c2 : Tryz.prog.cellsOf 9 = 1 := by kernel_rfl
  obtain ⟨a0, s0, hv0, -, -, -⟩ := laid_sentinel h4 (g := 5) (by kernel_rfl) (by kernel_rfl) Tryz.underlying127 row_err Tryz.underlying282 Tryz.underlying284 rfl rfl Tryz.underlying9 c1 c2
  obtain ⟨a1, s1, hv1, -, -, -⟩ := laid_sentinel h5 (g := 4) (by kernel_rfl) (by kernel_rfl) Tryz.underlying127 row_err Tryz.underlying282 Tryz.underlying284 rfl rfl Tryz.underlying9 c1 c2
  exact ⟨tabIs_of_head (g := 3) (e := 158) (n := 20) (by kernel_rfl) (by kernel_rfl) Tryz.underlying215 Tryz.underlying158 (by kernel_rfl) (by kernel_rfl) h2, ⟨_, _, hv1⟩, ⟨_, _, hv0⟩⟩
end Go.Proofs.YthdjfhnhjiageaaGreatDoor.Tx
namespace Go.Proofs.YthdjfhnhjiageaaGreatDoor.Tx
open Go.ChangeShapes Go.WideShapes Go.ChangeAt Go.RowKit Go.Joins Go.Lib Go.Deep

variable {H : Type} {enc : TypeId × Value → H} {w : World} {base : Nat} {spare : Nat → Bool} {held : Bool}

theorem cellsDk : Tryz.prog.cellsOf 24 = 2 := by kernel_rfl
theorem wf8 {n : Int} (h : (Lit.int .u8 n).wf = true) : 0 ≤ n ∧ n ≤ 255 := by
  simpa [Lit.wf, IntKind.min, IntKind.max, IntKind.signed, IntKind.bits] using h
/-- a slice of bytes, read. -/
theorem bytes_read {fuel : Nat} {v : Value} {x : DataW H × List MemPlace} (h : DataW.trod enc Tryz.prog w base spare held fuel 22 [v] = some x) :
    ∃ p n c, ∃ bs : Bs, v = .slice p n c ∧ Bt w p n c bs ∧ (x.1 = .nil ∧ n = 0 ∨ ∃ es ss, x.1 = .slice es ss ∧ es.length = n) := by
  rcases open_ints Tryz.underlying22 Tryz.underlying5 (by kernel_rfl) h with ⟨hcs, hx⟩ | ⟨a, l, c, zs, hcs, _, hl, hm, hz, hx, hcell, hwz⟩
  · simp at hcs
    subst hcs hx
    exact ⟨none, 0, 0, [], rfl, bt_none w, .inl ⟨rfl, rfl⟩⟩
  · simp at hcs
    subst hcs hx
    have hlz : l ≤ zs.length := by rw [hz]; split <;> omega
    refine ⟨some a, l, c, (zs.take l).map (fun n => UInt8.ofNat n.toNat), rfl, ⟨by simp; omega, hl, (fun e => nomatch e), fun h0 => ?_⟩, .inr ⟨_, _, rfl, by simp [lits]; omega⟩⟩
    obtain ⟨b, off, spot⟩ := a
    have hs : spot = none := by simpa [Addr.add] using World.cell?_spot (hcell 0 (by omega))
    subst hs
    refine ⟨b, off, rfl, fun i hi => ?_⟩
    have hci := hcell i (by omega)
    rw [show (⟨b, off, none⟩ : Addr).add i = ⟨b, off + i, none⟩ from by simp [Addr.add]] at hci
    rw [hci]
    have hiz : i < zs.length := by omega
    have hw := wf8 (hwz (zs[i]) (List.getElem_mem hiz))
    have e1 : zs.getD i 0 = zs[i] := by rw [List.getD_eq_getElem?_getD, List.getElem?_eq_getElem hiz]; rfl
    have e2 : ((zs.take l).map (fun n => UInt8.ofNat n.toNat)).getD i 0 = UInt8.ofNat zs[i].toNat := by
      rw [List.getD_eq_getElem?_getD, List.getElem?_map, List.getElem?_take, if_pos hi, List.getElem?_eq_getElem hiz]
      rfl
    rw [e1, e2, UInt8.toNat_ofNat']
    congr 2
    omega
set_option maxRecDepth 100000 in
/-- a disk, read. -/
theorem disk_read {r : Reach} {b0 : Nat} {v : Value} {d : DataW H} {ps : List MemPlace} (hv : Value.okWide Tryz.prog w r b0 24 v) (h : DataW.Trod enc Tryz.prog w base spare held 24 v d ps)
    (hw : ∀ m, m ∈ d.weights Tryz.prog 24 → m ≤ reachBytes) :
    ∃ p n c p' n' c', ∃ dk : Dk, v = dkV p n c p' n' c' ∧ Bt w p n c dk.safe ∧ Bt w p' n' c' dk.wait ∧ n ≤ 140737488351232 ∧ n' ≤ 140737488351232 := by
  obtain ⟨v0, v1, y0, y1, m, rfl, rfl, rfl, t0, t1⟩ := open_agg2 Tryz.underlying24 (by kernel_rfl) cellsDk hv h
  obtain ⟨p, n, c, bs, rfl, hb, hx⟩ := bytes_read t0
  obtain ⟨p', n', c', bs', rfl, hb', hx'⟩ := bytes_read t1
  have h4 : reachBytes = 140737488351232 := by decide
  refine ⟨p, n, c, p', n', c', ⟨bs, bs'⟩, rfl, hb, hb', ?_, ?_⟩
  · rcases hx with ⟨_, hx⟩ | ⟨es, ss, hx, hes⟩
    · omega
    · have := hw ((es.length + ss.length) * Tryz.prog.bytesOf 5) (by rw [hx]; simp [DataW.weights, DataW.weightsEach, Tryz.underlying24, Tryz.underlying22])
      rw [show Tryz.prog.bytesOf 5 = 1 from by kernel_rfl] at this
      omega
  · rcases hx' with ⟨_, hx⟩ | ⟨es, ss, hx, hes⟩
    · omega
    · have := hw ((es.length + ss.length) * Tryz.prog.bytesOf 5) (by rw [hx]; simp [DataW.weights, DataW.weightsEach, Tryz.underlying24, Tryz.underlying22])
      rw [show Tryz.prog.bytesOf 5 = 1 from by kernel_rfl] at this
      omega
end Go.Proofs.YthdjfhnhjiageaaGreatDoor.Tx
namespace Go.Proofs.YthdjfhnhjiageaaGreatDoor.Tx
open Go.RowKit Go.Lib

abbrev laidS : List (String × DataW Unit) := [("math/bits.deBruijn32tab", Rows.laid_math_bits_deBruijn32tab), ("math/bits.deBruijn64tab", Rows.laid_math_bits_deBruijn64tab), ("internal/strconv.uint64pow10", Rows.laid_internal_strconv_uint64pow10), ("unicode/utf8.acceptRanges", Rows.laid_unicode_utf8_acceptRanges), ("strconv.ErrRange", Rows.laid_strconv_ErrRange), ("strconv.ErrSyntax", Rows.laid_strconv_ErrSyntax), ("unicode.White_Space", Rows.laid_unicode_White_Space), ("strings.asciiSpace", Rows.laid_strings_asciiSpace), ("unicode/utf8.first", Rows.laid_unicode_utf8_first)]
theorem space_tab : (Rows.laid_strings_asciiSpace : DataW Unit) = tabData .u8 asciiSpaceTab := by kernel_rfl
theorem envS_of {W : World} (h : laidMet Tryz.prog laidS W) : EnvS W := by
  have h2 := h.tail.tail
  have h4 := h2.tail.tail
  have h5 := h4.tail
  have h7 : laidMet Tryz.prog (("strings.asciiSpace", Rows.laid_strings_asciiSpace) :: [("unicode/utf8.first", Rows.laid_unicode_utf8_first)]) W := h5.tail.tail
  rw [space_tab] at h7
  have c1 : Tryz.prog.cellsOf 284 = 1 := by kernel_rfl
  have c2 : Tryz.prog.cellsOf 9 = 1 := by kernel_rfl
  obtain ⟨a0, s0, hv0, -, -, -⟩ := laid_sentinel h4 (g := 5) (by kernel_rfl) (by kernel_rfl) Tryz.underlying127 row_err Tryz.underlying282 Tryz.underlying284 rfl rfl Tryz.underlying9 c1 c2
  obtain ⟨a1, s1, hv1, -, -, -⟩ := laid_sentinel h5 (g := 4) (by kernel_rfl) (by kernel_rfl) Tryz.underlying127 row_err Tryz.underlying282 Tryz.underlying284 rfl rfl Tryz.underlying9 c1 c2
  exact ⟨⟨tabIs_of_head (g := 3) (e := 158) (n := 20) (by kernel_rfl) (by kernel_rfl) Tryz.underlying215 Tryz.underlying158 (by kernel_rfl) (by kernel_rfl) h2, ⟨_, _, hv1⟩, ⟨_, _, hv0⟩⟩,
    tabIs_of_head (g := 0) (e := 5) (n := 256) (by kernel_rfl) (by kernel_rfl) Tryz.underlying108 Tryz.underlying5 (by kernel_rfl) (by kernel_rfl) h7⟩
end Go.Proofs.YthdjfhnhjiageaaGreatDoor.Tx
