/-
  The table of tiers: what the row's condition gives the walks.
-/
import Derived.Test.YtbphljnncbiddabDoorRows
import Derived.Test.YtbphljnncbiddabDoorRk
import Derived.ProofKit
import Derived.Lay
import Derived.OpenShut
import Derived.Stop.Joined
import Derived.Deep.Strs
import Derived.MakeChecks
namespace Go.Proofs.YtbphljnncbiddabDoor.Rk
open Go.ChangeShapes Go.WideShapes Go.ChangeAt Go.RowKit

theorem gTiers : Tryd.prog.globalNamed "tollbooth/risk.tiers" = some 0 := by kernel_rfl
theorem tTiers : (Tryd.prog.globals[0]?).map (·.type) = some 70 := by kernel_rfl
theorem c56 : Tryd.prog.cellsOf 56 = 3 := by kernel_rfl
theorem c70 : Tryd.prog.cellsOf 70 = 9 := by kernel_rfl
abbrev laid1 : List (String × DataW Unit) := [("tollbooth/risk.tiers", Rows.laid_tollbooth_risk_tiers)]

set_option maxRecDepth 100000 in
theorem three_ints {W : World} {fuel : Nat} {spare : Nat → Bool} {held : Bool} {enc : TypeId × Value → Unit} {base : Nat} {cs : List Value} {x : DataW Unit × List MemPlace} (h : DataW.trod enc Tryd.prog W base spare held fuel 56 cs = some x) :
    ∃ a b c : Int, cs = [.int .i64 a, .int .i64 b, .int .i64 c] ∧ x.1 = .agg [.lit (.int .i64 a), .lit (.int .i64 b), .lit (.int .i64 c)] := by
  obtain ⟨y0, y1, y2, m, rfl, hl, t0, t1, t2⟩ := Go.Deep.trod_struct3 Tryd.underlying56 h
  rw [c56] at hl
  match cs, hl with
  | [u, v, z], _ =>
    obtain ⟨a, ea, da, -⟩ := DataW.trod_int Tryd.underlying3 t0
    obtain ⟨b, eb, db, -⟩ := DataW.trod_int Tryd.underlying3 t1
    obtain ⟨c, ec, dc, -⟩ := DataW.trod_int Tryd.underlying3 t2
    rw [show Tryd.prog.cellsOf 3 = 1 by kernel_rfl] at ea eb ec
    simp at ea eb ec
    subst ea eb ec
    exact ⟨a, b, c, rfl, by rw [da, db, dc]⟩
set_option maxRecDepth 100000 in
theorem of_laid {W : World} (h : laidMetH Tryd.prog laid1 W) : Laid W := by
  rw [MakeChecks.laidMetH_plain _ _ _ (by kernel_rfl)] at h
  obtain ⟨ps, ⟨g0, t0, cs0, f0, p0, q0, hg0, ht0, hv0, hd0, _, _⟩, _, _⟩ := h
  obtain rfl := Option.some.inj (gTiers.symm.trans hg0)
  obtain rfl := Option.some.inj (tTiers.symm.trans ht0)
  obtain ⟨xs, m1, rfl, hx1, hlen, hn3, hel⟩ := DataW.trod_array Tryd.underlying70 hd0
  have h0 := hel 0 (by decide)
  have h1 := hel 1 (by decide)
  have h2 := hel 2 (by decide)
  rw [c56] at h0 h1 h2
  obtain ⟨l⟩ := cs0
  rw [c70] at hlen
  match xs, hn3, hx1, h0, h1, h2 with
  | [x0, x1, x2], _, hx1, h0, h1, h2 =>
    obtain ⟨a0, b0, c0, e0, d0⟩ := three_ints h0
    obtain ⟨a1, b1, c1, e1, d1⟩ := three_ints h1
    obtain ⟨a2, b2, c2, e2, d2⟩ := three_ints h2
    simp only [Rows.laid_tollbooth_risk_tiers, Prod.mk.injEq, DataW.agg.injEq, List.map_cons, List.map_nil, d0, d1, d2, List.cons.injEq, DataW.lit.injEq, Lit.int.injEq, and_true, true_and] at hx1
    obtain ⟨⟨⟨ra0, rb0, rc0⟩, ⟨ra1, rb1, rc1⟩, ra2, rb2, rc2⟩, -⟩ := hx1
    subst ra0 rb0 rc0 ra1 rb1 rc1 ra2 rb2 rc2
    have hl : l = [.int .i64 0, .int .i64 10, .int .i64 5, .int .i64 100000, .int .i64 20, .int .i64 10, .int .i64 1000000, .int .i64 50, .int .i64 25] := by
      have s1 : l = l.take 3 ++ ((l.drop 3).take 3 ++ (l.drop 6).take 3) := by
        have r1 : (l.drop 6).take 3 = l.drop 6 := List.take_of_length_le (by simp at hlen ⊢; omega)
        rw [r1]
        have r2 : (l.drop 3).take 3 ++ l.drop 6 = l.drop 3 := by
          have := List.take_append_drop 3 (l.drop 3)
          rwa [List.drop_drop] at this
        rw [r2, List.take_append_drop]
      rw [s1]
      simp only [Nat.zero_mul, Nat.one_mul, List.drop_zero] at e0 e1 e2
      rw [e0, e1, e2]
      rfl
    intro i hi
    rw [World.var?_cell hg0 hv0 i, hl]
    match i, hi with
    | 0, _ => rfl
    | 1, _ => rfl
    | 2, _ => rfl
    | 3, _ => rfl
    | 4, _ => rfl
    | 5, _ => rfl
    | 6, _ => rfl
    | 7, _ => rfl
    | 8, _ => rfl
end Go.Proofs.YtbphljnncbiddabDoor.Rk
