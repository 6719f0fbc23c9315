/-
  Books and orders as arguments: how they read.
-/
import Derived.Test.YtbphljnncbiddaaBkRow
import Derived.Test.YtbphljnncbiddaaBkFlat
import Derived.Deep.Slices
import Derived.Lib.SmallJoins
import Derived.OpenShut
import Derived.SizedLaws
namespace Go.Proofs.Ytbphljnncbiddaa.Bk
open Go.RowKit Go.Sort Go.Maps Go.Deep Go.Joins

variable {H : Type} {enc' : TypeId × Value → H} {w : World} {base : Nat} {spare : Nat → Bool} {held : Bool}

theorem cellsO : Try.prog.cellsOf 44 = 5 := by kernel_rfl
theorem fieldsO : Try.prog.underlying 44 = some (.struct (Try.prog.fieldsOf 44)) := by kernel_rfl

/-- an order's cells, read: five ints. -/
theorem order_cells {fuel : Nat} {cs : List Value} {x : DataW H × List MemPlace} (h : DataW.trod enc' Try.prog w base spare held fuel 44 cs = some x) : ∃ o : Odr, cs = enc o := by
  obtain ⟨xs, n, _, _, hl, hxl, hf⟩ := DataW.trod_struct Try.underlying44 h
  rw [cellsO] at hl
  have c3 : Try.prog.cellsOf 3 = 1 := by kernel_rfl
  rcases cs with _ | ⟨c0, _ | ⟨c1, _ | ⟨c2, _ | ⟨c3', _ | ⟨c4, _ | ⟨c5, cs⟩⟩⟩⟩⟩⟩ <;> simp at hl
  rcases xs with _ | ⟨z0, _ | ⟨z1, _ | ⟨z2, _ | ⟨z3, _ | ⟨z4, _ | ⟨z5, xs⟩⟩⟩⟩⟩⟩ <;> simp at hxl
  obtain ⟨y0, g0⟩ : ∃ y, DataW.trod enc' Try.prog w base spare held n 3 (([c0, c1, c2, c3', c4].drop 0).take (Try.prog.cellsOf 3)) = some y := ⟨z0, hf 0 _ rfl⟩
  rw [c3] at g0
  obtain ⟨k0, e0, -, -⟩ := DataW.trod_int Try.underlying3 g0
  obtain ⟨y1, g1⟩ : ∃ y, DataW.trod enc' Try.prog w base spare held n 3 (([c0, c1, c2, c3', c4].drop 1).take (Try.prog.cellsOf 3)) = some y := ⟨z1, hf 1 _ rfl⟩
  rw [c3] at g1
  obtain ⟨k1, e1, -, -⟩ := DataW.trod_int Try.underlying3 g1
  obtain ⟨y2, g2⟩ : ∃ y, DataW.trod enc' Try.prog w base spare held n 3 (([c0, c1, c2, c3', c4].drop 2).take (Try.prog.cellsOf 3)) = some y := ⟨z2, hf 2 _ rfl⟩
  rw [c3] at g2
  obtain ⟨k2, e2, -, -⟩ := DataW.trod_int Try.underlying3 g2
  obtain ⟨y3, g3⟩ : ∃ y, DataW.trod enc' Try.prog w base spare held n 3 (([c0, c1, c2, c3', c4].drop 3).take (Try.prog.cellsOf 3)) = some y := ⟨z3, hf 3 _ rfl⟩
  rw [c3] at g3
  obtain ⟨k3, e3, -, -⟩ := DataW.trod_int Try.underlying3 g3
  obtain ⟨y4, g4⟩ : ∃ y, DataW.trod enc' Try.prog w base spare held n 3 (([c0, c1, c2, c3', c4].drop 4).take (Try.prog.cellsOf 3)) = some y := ⟨z4, hf 4 _ rfl⟩
  rw [c3] at g4
  obtain ⟨k4, e4, -, -⟩ := DataW.trod_int Try.underlying3 g4
  simp at e0 e1 e2 e3 e4
  subst e0 e1 e2 e3 e4
  exact ⟨(k0, k1, k2, k3, k4), rfl⟩

/-- a side of a book, read. -/
theorem side_read {fuel : Nat} {cs : List Value} {x : DataW H × List MemPlace} (h : DataW.trod enc' Try.prog w base spare held fuel 40 cs = some x) :
    ∃ p c, ∃ xs : List Odr, cs = [.slice p xs.length c] ∧ OV w p c xs ∧ (x.1 = .nil ∧ xs = [] ∨ ∃ es ss, x.1 = .slice es ss ∧ es.length = xs.length) := by
  rcases open_slice Try.underlying40 h with ⟨rfl, rfl⟩ | ⟨a, len, cap, m, n, D, Pl, rfl, hb, hl, hm, hmm, rfl, hx⟩
  · exact ⟨none, 0, [], rfl, ov_nil w, .inl ⟨rfl, rfl⟩⟩
  · have hlm : len ≤ m := by rw [hmm]; split <;> omega
    have each : ∀ i, i < len → ∃ o : Odr, w.cells? base (a.add (i * 5)) 5 = some (enc o) := fun i hi => by
      obtain ⟨cs', h1, h2⟩ := hx i (by omega)
      obtain ⟨o, rfl⟩ := order_cells h2
      rw [cellsO] at h1
      exact ⟨o, h1⟩
    obtain ⟨q, hq⟩ := choose_lt each
    refine ⟨some a, cap, (List.range len).map q, by simp, ⟨?_, (fun h => by cases h), by simpa using hl⟩, .inr ⟨_, _, rfl, by simp⟩⟩
    by_cases h0 : len = 0
    · subst h0; exact .inl rfl
    · obtain ⟨b, off, spot⟩ := a
      have hc0 := (World.cells?_some (hq 0 (by omega))).2.2 0 (by decide)
      have hs : spot = none := by simpa [Addr.add] using World.cell?_spot hc0
      subst hs
      refine .inr ⟨b, off, rfl, fun j hj i v hv => ?_⟩
      have hj' : j < len := by simpa using hj
      have hi : i < 5 := by have := (List.getElem?_eq_some_iff.1 hv).1; rw [enc_length] at this; exact this
      have hcj := (World.cells?_some (hq j hj')).2.2 i hi
      rw [getElem!_pos _ j hj] at hv
      simp only [List.getElem_map, List.getElem_range] at hv
      rw [hv, add_lit, add_lit] at hcj
      exact hcj
end Go.Proofs.Ytbphljnncbiddaa.Bk
