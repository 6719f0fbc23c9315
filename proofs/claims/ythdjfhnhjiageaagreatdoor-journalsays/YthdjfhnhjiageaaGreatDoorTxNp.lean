/-
  The reference's chapter 8: of an order, plainly; a map of two numbers.
-/
import Derived.Test.YthdjfhnhjiageaaGreatDoorTxN2
import Derived.Test.YthdjfhnhjiageaaGreatDoorTxT2
namespace Go.Proofs.YthdjfhnhjiageaaGreatDoor.Tx
open Go.RowKit Go.Lib Go.Sort Go.Proofs.YthdjfhnhjiageaaGreatDoor.Mix
def Wd (C : World → Prop) (fb : Nat) (x : World) : Prop := C x ∧ x.heap[fb]? = some sortsO
def Both (A B : World → Prop) (x : World) : Prop := A x ∧ B x
theorem place_not {ws : List Bs} (h : ¬ ((redR ws = true ∨ ws.length = 7) ∧ 1 ≤ idxW sortsR (ws.getD 6 []) ∧ (ws.getD 3 [] = wBuy ∨ ws.getD 3 [] = wSell) ∧ okN (ws.getD 1 []) = true ∧ okN (ws.getD 2 []) = true ∧ okN (ws.getD 4 []) = true ∧ okN (ws.getD 5 []) = true)) : placeR ws = (noCd, 1) := by
  unfold placeR
  rw [if_neg h]
  rfl
theorem pair_eq {α β : Type} {x : α × β} {a b : α} {c d : β} (h : x = (a, c)) (h' : x = (b, d)) : b = a ∧ d = c := by
  rw [h] at h'
  exact ⟨(Prod.mk.inj h').1.symm, (Prod.mk.inj h').2.symm⟩
abbrev eB2 (n : Nat) : MapEntry := { key := .string ⟨#[98, 117, 121]⟩, val := .int .i64 1, born := n }
abbrev eS2 (n : Nat) : MapEntry := { key := .string ⟨#[115, 101, 108, 108]⟩, val := .int .i64 (-1), born := n }
theorem upd_mapS {w : World} {r : Nat} {k : ByteArray} {v : Value} {es : Array MapEntry} {c : Nat} (hb : w.heap[r]? = some (.map es c)) (hn : Instr.findNow .string (.string k) es.toList 0 = some none) :
    (Instr.mapUpdate 134 (.map (some r)) (.string k) v).run Tryz.prog w = .ok () (setB w r (.map (es.push { key := .string k, val := v, born := c }) (c + 1))) := by
  have hc : (Instr.checkKey false 10000 9 (.string k)).run Tryz.prog w = .ok () w := MapKept.run_checkKey (k := .string k) Tryz.underlying9 (by simp [MapKept.IsKey]) false 9999
  simp [Instr.mapUpdate, run_underlying Tryz.underlying134, MapKept.run_getObj_map hb, hc, MapKept.run_findKey Tryz.underlying9 hn, MapKept.run_setObj_map _ hb, Result.andThen, setB]
theorem look_mapS {w : World} {r : Nat} {k : ByteArray} {v : Value} {es : Array MapEntry} {c i : Nat} (hb : w.heap[r]? = some (.map es c)) (hn : Instr.findNow .string (.string k) es.toList 0 = some (some (i, v))) :
    (Instr.lookup 134 (.map (some r)) (.string k) false).run Tryz.prog w = .ok v w := by
  have hc : (Instr.checkKey es.isEmpty 10000 9 (.string k)).run Tryz.prog w = .ok () w := MapKept.run_checkKey (k := .string k) Tryz.underlying9 (by simp [MapKept.IsKey]) _ 9999
  simp [Instr.lookup, run_underlying Tryz.underlying134, MapKept.run_getObj_map hb, hc, MapKept.run_findKey Tryz.underlying9 hn, Result.andThen]
theorem cdAt_sd {x : World} {b : Nat} {c : Cd} (h : CdAt x b c) (v : Int) : CdAt (x.setCell ⟨b, 6, none⟩ (.int .i64 v)) b { c with sd := v } := by
  have := heap_set h 6 (.int .i64 v)
  show _ = _
  rw [this]
  simp
theorem cdAt_pr {x : World} {b : Nat} {c : Cd} (h : CdAt x b c) (v : Int) : CdAt (x.setCell ⟨b, 7, none⟩ (.int .i64 v)) b { c with pr := v } := by
  have := heap_set h 7 (.int .i64 v)
  show _ = _
  rw [this]
  simp
theorem cdAt_qt {x : World} {b : Nat} {c : Cd} (h : CdAt x b c) (v : Int) : CdAt (x.setCell ⟨b, 8, none⟩ (.int .i64 v)) b { c with qt := v } := by
  have := heap_set h 8 (.int .i64 v)
  show _ = _
  rw [this]
  simp
theorem getD_of {ws : List Bs} {i : Nat} {x : Bs} (h : ws[i]? = some x) : ws.getD i [] = x := by rw [List.getD_eq_getElem?_getD, h]; rfl
theorem place_is {ws : List Bs} {l1 l2 l3 l4 l5 l6 : Bs} {kd hw sd : Int} {red : Bool} (hk : kd = 3) (hs : (l3 = wBuy ∧ sd = 1) ∨ (l3 = wSell ∧ sd = -1)) (h1 : ws[1]? = some l1) (h2 : ws[2]? = some l2) (h3 : ws[3]? = some l3) (h4 : ws[4]? = some l4) (h5 : ws[5]? = some l5) (h6 : ws[6]? = some l6) (hh : idxW sortsR l6 = hw) (hb : 1 ≤ hw) (_ : True = True)
    (o1 : okN l1 = true) (o2 : okN l2 = true) (o4 : okN l4 = true) (o5 : okN l5 = true) (hr : (redR ws = true ∨ ws.length = 7) ∧ redR ws = red) : placeR ws = (⟨kd, numB l1, numB l2, 0, 0, 0, sd, numB l5, numB l4, hw, red⟩, 0) := by
  unfold placeR
  rw [getD_of h1, getD_of h2, getD_of h3, getD_of h4, getD_of h5, getD_of h6, hh, if_pos ⟨hr.1, hb, hs.imp And.left And.left, o1, o2, o4, o5⟩, hr.2, hk]
  have : sideR l3 = sd := by rcases hs with ⟨rfl, rfl⟩ | ⟨rfl, rfl⟩ <;> decide
  rw [this]
end Go.Proofs.YthdjfhnhjiageaaGreatDoor.Tx
