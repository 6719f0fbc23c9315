/-
  Lists of markets as arguments: how they read.
-/
import Derived.Test.YtbphljnncbiddabDoorRmArgs
import Derived.Test.YtbphljnncbiddabDoorRmMarks
namespace Go.Proofs.YtbphljnncbiddabDoor.Rm
open Go.RowKit Go.Sort Go.Maps Go.Deep Go.Joins Go.ChangeShapes Go.WideShapes Go.Proofs.YtbphljnncbiddabDoor.Bk

variable {H : Type} {enc' : TypeId × Value → H} {w : World} {base : Nat} {spare : Nat → Bool} {held : Bool}

theorem weights_in {e : TypeId} {d : DataW H} {ds : List (DataW H)} (h : d ∈ ds) (m : Nat) (hm : m ∈ d.weights Tryd.prog e) : m ∈ DataW.weightsAll Tryd.prog e ds := by
  induction ds with
  | nil => cases h
  | cons x ds ih =>
    rw [DataW.weightsAll]
    rcases List.mem_cons.1 h with rfl | h
    · exact List.mem_append_left _ hm
    · exact List.mem_append_right _ (ih h)
theorem bytesM : Tryd.prog.bytesOf 41 = 64 := by kernel_rfl

/-- a list of markets, read. -/
theorem mkts_read {fuel : Nat} {v : Value} {x : DataW H × List MemPlace} (h : DataW.trod enc' Tryd.prog w base spare held fuel 22 [v] = some x)
    (hw : ∀ m, m ∈ x.1.weights Tryd.prog 22 → m ≤ reachBytes) : ∃ p n c, ∃ L : List Mkt, v = .slice p n c ∧ L.length = n ∧ n ≤ 140737488351232 ∧ MRow w p L := by
  rcases open_slice Tryd.underlying22 h with ⟨hcs, rfl⟩ | ⟨a, len, cap, m, n, D, Pl, hcs, hb, hl, hm, hmm, rfl, hx⟩
  · simp at hcs
    subst hcs
    exact ⟨none, 0, 0, [], rfl, rfl, by omega, ⟨.inl rfl, fun j hj => by simp at hj⟩⟩
  · simp at hcs
    subst hcs
    have hlm : len ≤ m := by rw [hmm]; split <;> omega
    have each : ∀ i, i < len → ∃ o : Mkt, w.cells? base (a.add (i * 4)) 4 = some (mCells o) ∧ mOk w o := fun i hi => by
      obtain ⟨cs', h1, h2⟩ := hx i (by omega)
      obtain ⟨p, p', c, c', bids, asks, idx, last, rfl, r1, r2, r3, r4⟩ := market_cells h2 (fun k hk => hw k (by
        simp only [DataW.weights, Tryd.underlying22]
        exact List.mem_cons_of_mem _ (List.mem_append_left _ (weights_in (List.mem_map.2 ⟨i, by simpa using hi, rfl⟩) k hk))))
      rw [cellsM] at h1
      exact ⟨((p, c, bids), (p', c', asks), idx, last), h1, r1, r2, r3, r4⟩
    obtain ⟨q, hq⟩ := choose_lt each
    have few : len ≤ 140737488351232 := by
      have := hw ((((List.range len).map D).length + ((List.range (m - len)).map fun j => D (len + j)).length) * Tryd.prog.bytesOf 41) (by simp only [DataW.weights, Tryd.underlying22]; exact List.mem_cons_self)
      rw [bytesM] at this
      have h4 : reachBytes = 140737488351232 := by decide
      simp at this
      omega
    refine ⟨some a, len, cap, (List.range len).map q, rfl, by simp, few, ⟨?_, fun j hj => ?_⟩⟩
    · by_cases h0 : len = 0
      · subst h0; exact .inl rfl
      · obtain ⟨b, off, spot⟩ := a
        have hc0 := (World.cells?_some (hq 0 (by omega)).1).2.2 0 (by decide)
        have hs : spot = none := by simpa [Addr.add] using World.cell?_spot hc0
        subst hs
        refine .inr ⟨b, off, rfl, fun j hj i v hv => ?_⟩
        have hj' : j < len := by simpa using hj
        have hi : i < 4 := by have := (List.getElem?_eq_some_iff.1 hv).1; simpa [mCells] using this
        have hcj := (World.cells?_some (hq j hj').1).2.2 i hi
        rw [getElem!_pos _ j hj] at hv
        simp only [List.getElem_map, List.getElem_range] at hv
        rw [hv, addL, addL] at hcj
        exact hcj
    · have hj' : j < len := by simpa using hj
      rw [getElem!_pos _ j hj]
      simp only [List.getElem_map, List.getElem_range]
      exact (hq j hj').2
end Go.Proofs.YtbphljnncbiddabDoor.Rm
