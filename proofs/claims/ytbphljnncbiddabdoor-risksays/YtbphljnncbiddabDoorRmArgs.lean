/-
  Markets as arguments: how they read.
-/
import Derived.Test.YtbphljnncbiddabDoorBkRow
import Derived.Test.YtbphljnncbiddabDoorRmBest
import Derived.Deep.Slices
import Derived.Deep.Strs
import Derived.Lib.SmallJoins
import Derived.OpenShut
import Derived.SizedLaws
import Derived.ChangeOld
namespace Go.Proofs.YtbphljnncbiddabDoor.Rm
open Go.RowKit Go.Sort Go.Maps Go.Deep Go.Joins Go.ChangeShapes Go.WideShapes Go.Proofs.YtbphljnncbiddabDoor.Bk

variable {H : Type} {enc' : TypeId × Value → H} {w : World} {base : Nat} {spare : Nat → Bool} {held : Bool}

theorem cellsO : Tryd.prog.cellsOf 62 = 5 := by kernel_rfl
theorem fieldsO : Tryd.prog.underlying 62 = some (.struct (Tryd.prog.fieldsOf 62)) := by kernel_rfl

/-- an order's cells, read: five ints. -/
theorem order_cells {fuel : Nat} {cs : List Value} {x : DataW H × List MemPlace} (h : DataW.trod enc' Tryd.prog w base spare held fuel 62 cs = some x) : ∃ o : Odr, cs = enc o := by
  obtain ⟨xs, n, _, _, hl, hxl, hf⟩ := DataW.trod_struct Tryd.underlying62 h
  rw [cellsO] at hl
  have c3 : Tryd.prog.cellsOf 3 = 1 := by kernel_rfl
  rcases cs with _ | ⟨c0, _ | ⟨c1, _ | ⟨c2, _ | ⟨c3', _ | ⟨c4, _ | ⟨c5, cs⟩⟩⟩⟩⟩⟩ <;> simp at hl
  rcases xs with _ | ⟨z0, _ | ⟨z1, _ | ⟨z2, _ | ⟨z3, _ | ⟨z4, _ | ⟨z5, xs⟩⟩⟩⟩⟩⟩ <;> simp at hxl
  obtain ⟨y0, g0⟩ : ∃ y, DataW.trod enc' Tryd.prog w base spare held n 3 (([c0, c1, c2, c3', c4].drop 0).take (Tryd.prog.cellsOf 3)) = some y := ⟨z0, hf 0 _ rfl⟩
  rw [c3] at g0
  obtain ⟨k0, e0, -, -⟩ := DataW.trod_int Tryd.underlying3 g0
  obtain ⟨y1, g1⟩ : ∃ y, DataW.trod enc' Tryd.prog w base spare held n 3 (([c0, c1, c2, c3', c4].drop 1).take (Tryd.prog.cellsOf 3)) = some y := ⟨z1, hf 1 _ rfl⟩
  rw [c3] at g1
  obtain ⟨k1, e1, -, -⟩ := DataW.trod_int Tryd.underlying3 g1
  obtain ⟨y2, g2⟩ : ∃ y, DataW.trod enc' Tryd.prog w base spare held n 3 (([c0, c1, c2, c3', c4].drop 2).take (Tryd.prog.cellsOf 3)) = some y := ⟨z2, hf 2 _ rfl⟩
  rw [c3] at g2
  obtain ⟨k2, e2, -, -⟩ := DataW.trod_int Tryd.underlying3 g2
  obtain ⟨y3, g3⟩ : ∃ y, DataW.trod enc' Tryd.prog w base spare held n 3 (([c0, c1, c2, c3', c4].drop 3).take (Tryd.prog.cellsOf 3)) = some y := ⟨z3, hf 3 _ rfl⟩
  rw [c3] at g3
  obtain ⟨k3, e3, -, -⟩ := DataW.trod_int Tryd.underlying3 g3
  obtain ⟨y4, g4⟩ : ∃ y, DataW.trod enc' Tryd.prog w base spare held n 3 (([c0, c1, c2, c3', c4].drop 4).take (Tryd.prog.cellsOf 3)) = some y := ⟨z4, hf 4 _ rfl⟩
  rw [c3] at g4
  obtain ⟨k4, e4, -, -⟩ := DataW.trod_int Tryd.underlying3 g4
  simp at e0 e1 e2 e3 e4
  subst e0 e1 e2 e3 e4
  exact ⟨(k0, k1, k2, k3, k4), rfl⟩

theorem encO (o : Odr) : (enc o).length = 5 := rfl
theorem addL (b off j : Nat) : (⟨b, off, none⟩ : Addr).add j = ⟨b, off + j, none⟩ := by unfold Addr.add; split <;> simp_all

/-- a side of a book, read. -/
theorem side_read {fuel : Nat} {cs : List Value} {x : DataW H × List MemPlace} (h : DataW.trod enc' Tryd.prog w base spare held fuel 37 cs = some x) :
    ∃ p c, ∃ xs : List Odr, cs = [.slice p xs.length c] ∧ ORow w p xs ∧ (x.1 = .nil ∧ xs = [] ∨ ∃ es ss, x.1 = .slice es ss ∧ es.length = xs.length) := by
  rcases open_slice Tryd.underlying37 h with ⟨rfl, rfl⟩ | ⟨a, len, cap, m, n, D, Pl, rfl, hb, hl, hm, hmm, rfl, hx⟩
  · exact ⟨none, 0, [], rfl, .inl rfl, .inl ⟨rfl, rfl⟩⟩
  · have hlm : len ≤ m := by rw [hmm]; split <;> omega
    have each : ∀ i, i < len → ∃ o : Odr, w.cells? base (a.add (i * 5)) 5 = some (enc o) := fun i hi => by
      obtain ⟨cs', h1, h2⟩ := hx i (by omega)
      obtain ⟨o, rfl⟩ := order_cells h2
      rw [cellsO] at h1
      exact ⟨o, h1⟩
    obtain ⟨q, hq⟩ := choose_lt each
    refine ⟨some a, cap, (List.range len).map q, by simp, ?_, .inr ⟨_, _, rfl, by simp⟩⟩
    by_cases h0 : len = 0
    · subst h0; exact .inl rfl
    · obtain ⟨b, off, spot⟩ := a
      have hc0 := (World.cells?_some (hq 0 (by omega))).2.2 0 (by decide)
      have hs : spot = none := by simpa [Addr.add] using World.cell?_spot hc0
      subst hs
      refine .inr ⟨b, off, rfl, fun j hj i v hv => ?_⟩
      have hj' : j < len := by simpa using hj
      have hi : i < 5 := by have := (List.getElem?_eq_some_iff.1 hv).1; rw [encO] at this; exact this
      have hcj := (World.cells?_some (hq j hj')).2.2 i hi
      rw [getElem!_pos _ j hj] at hv
      simp only [List.getElem_map, List.getElem_range] at hv
      rw [hv, addL, addL] at hcj
      exact hcj

theorem bytesO : Tryd.prog.bytesOf 62 = 40 := by kernel_rfl
theorem cellsM : Tryd.prog.cellsOf 41 = 4 := by kernel_rfl
theorem cellsBk : Tryd.prog.cellsOf 39 = 2 := by kernel_rfl
theorem cellsS : Tryd.prog.cellsOf 37 = 1 := by kernel_rfl
theorem cellsI : Tryd.prog.cellsOf 3 = 1 := by kernel_rfl

set_option maxRecDepth 100000 in
/-- a market's cells, read. -/
theorem market_cells {fuel : Nat} {cs : List Value} {x : DataW H × List MemPlace} (h : DataW.trod enc' Tryd.prog w base spare held fuel 41 cs = some x)
    (hw : ∀ m, m ∈ x.1.weights Tryd.prog 41 → m ≤ reachBytes) :
    ∃ p p' c c', ∃ bids asks : List Odr, ∃ idx last : Int, cs = [.slice p bids.length c, .slice p' asks.length c', .int .i64 idx, .int .i64 last] ∧ ORow w p bids ∧ ORow w p' asks ∧ bids.length ≤ 140737488351232 ∧ asks.length ≤ 140737488351232 := by
  obtain ⟨y0, y1, y2, n, rfl, hl, t0, t1, t2⟩ := Go.Deep.trod_struct3 Tryd.underlying41 h
  rw [cellsM] at hl
  match cs, hl with
  | [u0, u1, u2, u3], _ =>
    obtain ⟨idx, e2, -, -⟩ := DataW.trod_int Tryd.underlying3 t1
    obtain ⟨last, e3, -, -⟩ := DataW.trod_int Tryd.underlying3 t2
    rw [cellsI] at e2 e3
    simp at e2 e3
    subst e2 e3
    obtain ⟨z0, z1, m, rfl, hl2, s0, s1⟩ := trod_struct2 Tryd.underlying39 t0
    obtain ⟨p, c, bids, eb, ob, xb⟩ := side_read s0
    obtain ⟨p', c', asks, ea, oa, xa⟩ := side_read s1
    rw [cellsBk, cellsS] at eb ea
    simp at eb ea
    subst eb ea
    have h4 : reachBytes = 140737488351232 := by decide
    refine ⟨p, p', c, c', bids, asks, idx, last, rfl, ob, oa, ?_, ?_⟩
    · rcases xb with ⟨_, hx⟩ | ⟨es, ss, hx, hl⟩
      · rw [hx]; simp
      · have := hw ((es.length + ss.length) * Tryd.prog.bytesOf 62) (by rw [hx]; simp [DataW.weights, DataW.weightsEach, Tryd.underlying41, Tryd.underlying39, Tryd.underlying37])
        rw [bytesO] at this
        omega
    · rcases xa with ⟨_, hx⟩ | ⟨es, ss, hx, hl⟩
      · rw [hx]; simp
      · have := hw ((es.length + ss.length) * Tryd.prog.bytesOf 62) (by rw [hx]; simp [DataW.weights, DataW.weightsEach, Tryd.underlying41, Tryd.underlying39, Tryd.underlying37])
        rw [bytesO] at this
        omega
end Go.Proofs.YtbphljnncbiddabDoor.Rm
