/-
  Lists of accounts as arguments: how they read.
-/
import Derived.Test.YtbphljnncbiddabFuM
import Derived.Test.YtbphljnncbiddabAcArgs2
import Derived.Deep.Slices
import Derived.Deep.Strs
namespace Go.Proofs.Ytbphljnncbiddab.Ac
open Go.ChangeShapes Go.WideShapes Go.ChangeAt Go.RowKit Go.Joins Go.Deep Go.Proofs.Ytbphljnncbiddab.Fix

variable {H : Type} {enc : TypeId × Value → H} {w : World} {base : Nat} {spare : Nat → Bool} {held : Bool}

theorem cellsI : Try.prog.cellsOf 3 = 1 := by kernel_rfl
theorem cellsL : Try.prog.cellsOf 28 = 1 := by kernel_rfl
theorem bytesA : Try.prog.bytesOf 30 = 40 := by kernel_rfl

theorem weights_in {e : TypeId} {d : DataW H} {ds : List (DataW H)} (h : d ∈ ds) (m : Nat) (hm : m ∈ d.weights Try.prog e) : m ∈ DataW.weightsAll Try.prog e ds := by
  induction ds with
  | nil => cases h
  | cons x ds ih =>
    rw [DataW.weightsAll]
    rcases List.mem_cons.1 h with rfl | h
    · exact List.mem_append_left _ hm
    · exact List.mem_append_right _ (ih h)

set_option maxRecDepth 100000 in
/-- an account's cells, read. -/
theorem acc_cells {fuel : Nat} {cs : List Value} {x : DataW H × List MemPlace} (h : DataW.trod enc Try.prog w base spare held fuel 30 cs = some x)
    (hw : ∀ m, m ∈ x.1.weights Try.prog 30 → m ≤ reachBytes) : ∃ a : Am, cs = encA a ∧ AOk w a := by
  obtain ⟨y0, y1, y2, n, rfl, hl, t0, t1, t2⟩ := Go.Deep.trod_struct3 Try.underlying30 h
  rw [cellsA] at hl
  match cs, hl with
  | [u0, u1, u2], _ =>
    obtain ⟨id, e0, -, -⟩ := DataW.trod_int Try.underlying3 t0
    obtain ⟨bal, e1, -, -⟩ := DataW.trod_int Try.underlying3 t1
    rw [cellsI] at e0 e1
    simp at e0 e1
    subst e0 e1
    rw [cellsL] at t2
    obtain ⟨p, n', c, pos, e2, hl', hr, hx⟩ := ints_read (v := u2) (by simpa using t2)
    subst e2
    refine ⟨⟨id, bal, p, n', c, pos⟩, rfl, ⟨hl', ?_, ints_nil (by simpa using t2), hr⟩⟩
    rcases hx with ⟨_, hx⟩ | ⟨es, ss, hx, hes⟩
    · show n' * 8 ≤ _; omega
    · have := hw ((es.length + ss.length) * Try.prog.bytesOf 3) (by rw [hx]; simp [DataW.weights, DataW.weightsEach, Try.underlying30, Try.underlying28])
      rw [show Try.prog.bytesOf 3 = 8 from by kernel_rfl] at this
      have h4 : reachBytes = 140737488351232 := by decide
      show n' * 8 ≤ _
      omega

instance : Inhabited Am := ⟨⟨0, 0, none, 0, 0, []⟩⟩
theorem addL (b off j : Nat) : (⟨b, off, none⟩ : Addr).add j = ⟨b, off + j, none⟩ := by unfold Addr.add; split <;> simp_all

/-- a list of accounts, read. -/
theorem accs_read {fuel : Nat} {v : Value} {x : DataW H × List MemPlace} (h : DataW.trod enc Try.prog w base spare held fuel 22 [v] = some x)
    (hw : ∀ m, m ∈ x.1.weights Try.prog 22 → m ≤ reachBytes) : ∃ p n c, ∃ L : List Am, v = .slice p n c ∧ L.length = n ∧ n * 40 ≤ 140737488351232 ∧ AL w p L := by
  rcases open_slice Try.underlying22 h with ⟨hcs, rfl⟩ | ⟨a, len, cap, m, n, D, Pl, hcs, hb, hl, hm, hmm, rfl, hx⟩
  · simp at hcs
    subst hcs
    exact ⟨none, 0, 0, [], rfl, rfl, by omega, al_nil _ _⟩
  · simp at hcs
    subst hcs
    have hlm : len ≤ m := by rw [hmm]; split <;> omega
    have each : ∀ i, i < len → ∃ o : Am, w.cells? base (a.add (i * 3)) 3 = some (encA o) ∧ AOk w o := fun i hi => by
      obtain ⟨cs', h1, h2⟩ := hx i (by omega)
      obtain ⟨o, rfl, ho⟩ := acc_cells h2 (fun k hk => hw k (by
        simp only [DataW.weights, Try.underlying22]
        exact List.mem_cons_of_mem _ (List.mem_append_left _ (weights_in (List.mem_map.2 ⟨i, by simpa using hi, rfl⟩) k hk))))
      rw [cellsA] at h1
      exact ⟨o, h1, ho⟩
    obtain ⟨q, hq⟩ := choose_lt each
    have few : len * 40 ≤ 140737488351232 := by
      have := hw ((((List.range len).map D).length + ((List.range (m - len)).map fun j => D (len + j)).length) * Try.prog.bytesOf 30) (by simp only [DataW.weights, Try.underlying22]; exact List.mem_cons_self)
      rw [bytesA] at this
      have h4 : reachBytes = 140737488351232 := by decide
      simp at this
      omega
    refine ⟨some a, len, cap, (List.range len).map q, rfl, by simp, few, ⟨?_, fun o ho => ?_⟩⟩
    · by_cases h0 : len = 0
      · subst h0; exact .inl rfl
      · obtain ⟨b, off, spot⟩ := a
        have hc0 := (World.cells?_some (hq 0 (by omega)).1).2.2 0 (by decide)
        have hs : spot = none := by simpa [Addr.add] using World.cell?_spot hc0
        subst hs
        refine .inr ⟨b, off, rfl, fun j u hu => ?_⟩
        have hjl : j < len * 3 := by
          have := (List.getElem?_eq_some_iff.1 hu).1
          rw [flatA_len] at this
          simpa using this
        have hj3 : j / 3 < len := by omega
        have hcj := (World.cells?_some (hq (j / 3) hj3).1).2.2 (j % 3) (by omega)
        have hg := flatA_get ((List.range len).map q) (j / 3) (by simpa using hj3) (j % 3) (by omega)
        rw [show j / 3 * 3 + j % 3 = j by omega, hu] at hg
        simp only [List.getElem_map, List.getElem_range] at hg
        rw [← hg, addL, addL, Nat.add_assoc, show j / 3 * 3 + j % 3 = j by omega] at hcj
        exact hcj
    · obtain ⟨i, hi, rfl⟩ := List.mem_map.1 ho
      exact (hq i (by simpa using hi)).2
end Go.Proofs.Ytbphljnncbiddab.Ac
