/-
  Accounts as arguments: how much they hold.
-/
import Derived.Test.YtbphljnncbiddabAcArgs
namespace Go.Proofs.Ytbphljnncbiddab.Ac
open Go.ChangeShapes Go.WideShapes Go.ChangeAt Go.RowKit Go.Joins Go.Proofs.Ytbphljnncbiddab.Fix

variable {H : Type} {enc : TypeId × Value → H} {w : World} {base : Nat} {spare : Nat → Bool} {held : Bool}

theorem ints_nil {fuel : Nat} {p : Option Addr} {n c : Nat} {x : DataW H × List MemPlace} (h : DataW.trod enc Try.prog w base spare held fuel 28 [.slice p n c] = some x) : p = none → c = 0 := by
  rcases open_ints Try.underlying28 Try.underlying3 (by kernel_rfl) h with ⟨hcs, hx⟩ | ⟨a, l, c', zs, hcs, _⟩
  · simp at hcs
    exact fun _ => hcs.2.2
  · simp at hcs
    intro hp
    rw [hp] at hcs
    exact absurd hcs.1 (by simp)

set_option maxRecDepth 100000 in
/-- an account, read: how long its list is. -/
theorem acc_read8 {r : Reach} {b0 : Nat} {v : Value} {d : DataW H} {ps : List MemPlace} (hv : Value.okWide Try.prog w r b0 30 v) (h : DataW.Trod enc Try.prog w base spare held 30 v d ps)
    (hw : ∀ m, m ∈ d.weights Try.prog 30 → m ≤ reachBytes) :
    ∃ id bal p n c, ∃ pos : List Int, v = accV id bal p n c ∧ pos.length = n ∧ n * 8 ≤ 140737488351232 ∧ (p = none → c = 0) ∧ Row w p pos := by
  obtain ⟨v0, v1, v2, y0, y1, y2, m, rfl, rfl, rfl, t0, t1, t2⟩ := open_agg3 Try.underlying30 (by kernel_rfl) cellsA hv h
  obtain ⟨id, e0, -, -⟩ := DataW.trod_int Try.underlying3 t0
  obtain ⟨bal, e1, -, -⟩ := DataW.trod_int Try.underlying3 t1
  simp at e0 e1
  subst e0 e1
  obtain ⟨p, n, c, pos, rfl, hl, hr, hx⟩ := ints_read t2
  refine ⟨id, bal, p, n, c, pos, rfl, hl, ?_, ints_nil t2, hr⟩
  rcases hx with ⟨_, hx⟩ | ⟨es, ss, hx, hes⟩
  · omega
  · have := hw ((es.length + ss.length) * Try.prog.bytesOf 3) (by rw [hx]; simp [DataW.weights, DataW.weightsEach, Try.underlying30, Try.underlying28])
    rw [show Try.prog.bytesOf 3 = 8 from by kernel_rfl] at this
    have h4 : reachBytes = 140737488351232 := by decide
    omega
end Go.Proofs.Ytbphljnncbiddab.Ac
