/-
  Accounts and lists of ints as arguments: how they read.
-/
import Derived.Test.YtbphljnncbiddabDoorAc
import Derived.Lib.SmallJoins
import Derived.OpenShut
import Derived.SizedLaws
import Derived.ChangeOld
import Derived.ChangeSlices
namespace Go.Proofs.YtbphljnncbiddabDoor.Ac
open Go.ChangeShapes Go.WideShapes Go.ChangeAt Go.RowKit Go.Joins Go.Proofs.YtbphljnncbiddabDoor.Fix

variable {H : Type} {enc : TypeId × Value → H} {w : World} {base : Nat} {spare : Nat → Bool} {held : Bool}

theorem cellsA : Tryd.prog.cellsOf 25 = 3 := by kernel_rfl
theorem wf64 {n : Int} (h : (Lit.int .i64 n).wf = true) : -9223372036854775808 ≤ n ∧ n ≤ 9223372036854775807 := by
  simpa [Lit.wf, IntKind.min, IntKind.max, IntKind.signed, IntKind.bits] using h

theorem row_of {w : World} {x : Addr} {len : Nat} {zs : List Int} (hl : len ≤ zs.length) (hc : ∀ i, i < zs.length → w.cell? (x.add i) = some (.int .i64 (zs.getD i 0))) : Row w (some x) (zs.take len) := by
  by_cases h0 : len = 0
  · subst h0
    exact .inl rfl
  · obtain ⟨b, off, spot⟩ := x
    have hs : spot = none := by simpa [Addr.add] using World.cell?_spot (hc 0 (by omega))
    subst hs
    refine .inr ⟨b, off, rfl, ?_⟩
    intro i hi
    simp only [List.length_take] at hi
    have hci := hc i (by omega)
    rw [show (⟨b, off, none⟩ : Addr).add i = ⟨b, off + i, none⟩ from by simp [Addr.add]] at hci
    rw [hci]
    simp [show i < len by omega]

/-- a list of ints, read. -/
theorem ints_read {fuel : Nat} {v : Value} {x : DataW H × List MemPlace} (h : DataW.trod enc Tryd.prog w base spare held fuel 23 [v] = some x) :
    ∃ p n c, ∃ pos : List Int, v = .slice p n c ∧ pos.length = n ∧ Row w p pos ∧ (x.1 = .nil ∧ n = 0 ∨ ∃ es ss, x.1 = .slice es ss ∧ es.length = n) := by
  rcases open_ints Tryd.underlying23 Tryd.underlying3 (by kernel_rfl) h with ⟨hcs, hx⟩ | ⟨a, l, c, zs, hcs, _, hl, hm, hz, hx, hcell, hwz⟩
  · simp at hcs
    subst hcs hx
    exact ⟨none, 0, 0, [], rfl, rfl, .inl rfl, .inl ⟨rfl, rfl⟩⟩
  · simp at hcs
    subst hcs hx
    have hlz : l ≤ zs.length := by rw [hz]; split <;> omega
    exact ⟨some a, l, c, zs.take l, rfl, by simp; omega, row_of hlz hcell, .inr ⟨_, _, rfl, by simp [lits]; omega⟩⟩

set_option maxRecDepth 100000 in
/-- an account, read. -/
theorem acc_read {r : Reach} {b0 : Nat} {v : Value} {d : DataW H} {ps : List MemPlace} (hv : Value.okWide Tryd.prog w r b0 25 v) (h : DataW.Trod enc Tryd.prog w base spare held 25 v d ps)
    (hw : ∀ m, m ∈ d.weights Tryd.prog 25 → m ≤ reachBytes) :
    ∃ id bal p n c, ∃ pos : List Int, v = accV id bal p n c ∧ pos.length = n ∧ n ≤ 140737488351232 ∧ Row w p pos := by
  obtain ⟨v0, v1, v2, y0, y1, y2, m, rfl, rfl, rfl, t0, t1, t2⟩ := open_agg3 Tryd.underlying25 (by kernel_rfl) cellsA hv h
  obtain ⟨id, e0, -, -⟩ := DataW.trod_int Tryd.underlying3 t0
  obtain ⟨bal, e1, -, -⟩ := DataW.trod_int Tryd.underlying3 t1
  simp at e0 e1
  subst e0 e1
  obtain ⟨p, n, c, pos, rfl, hl, hr, hx⟩ := ints_read t2
  refine ⟨id, bal, p, n, c, pos, rfl, hl, ?_, hr⟩
  rcases hx with ⟨_, hx⟩ | ⟨es, ss, hx, hes⟩
  · omega
  · have := hw ((es.length + ss.length) * Tryd.prog.bytesOf 3) (by rw [hx]; simp [DataW.weights, DataW.weightsEach, Tryd.underlying25, Tryd.underlying23])
    rw [show Tryd.prog.bytesOf 3 = 8 from by kernel_rfl] at this
    have h4 : reachBytes = 140737488351232 := by decide
    omega
end Go.Proofs.YtbphljnncbiddabDoor.Ac
