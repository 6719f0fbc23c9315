/-
  A map of two words, laid in whatever order.
-/
import Derived.Test.YthdjfhnhjiageaaGreatDoorTxT1
import Derived.WideMake
namespace Go.Proofs.YthdjfhnhjiageaaGreatDoor.Tx
open Go.RowKit Go.Lib Go.Sort Go.Proofs.YthdjfhnhjiageaaGreatDoor.Mix

abbrev wBuyS : Bs := [32, 98, 117, 121, 32]
abbrev wSellS : Bs := [32, 115, 101, 108, 108, 32]
abbrev eB (n : Nat) : MapEntry := { key := .int .i64 1, val := sV wBuyS, born := n }
abbrev eS (n : Nat) : MapEntry := { key := .int .i64 (-1), val := sV wSellS, born := n }
/-- a map in which 1 is, if A, and -1 is, if B. -/
def OkM (A B : Bool) (o : Obj) : Prop :=
  (A = false ∧ B = false ∧ o = .map #[] 0) ∨ (B = false ∧ o = .map #[eB 0] 1) ∨ (A = false ∧ o = .map #[eS 0] 1) ∨ o = .map #[eB 0, eS 1] 2 ∨ o = .map #[eS 0, eB 1] 2
theorem okM_mono {A B A' B' : Bool} {o : Obj} (h : OkM A B o) (hA : A' = true → A = true) (hB : B' = true → B = true) : OkM A' B' o := by
  rcases h with ⟨rfl, rfl, h⟩ | ⟨rfl, h⟩ | ⟨rfl, h⟩ | h | h
  · exact .inl ⟨by cases A' <;> simp_all, by cases B' <;> simp_all, h⟩
  · exact .inr (.inl ⟨by cases B' <;> simp_all, h⟩)
  · exact .inr (.inr (.inl ⟨by cases A' <;> simp_all, h⟩))
  · exact .inr (.inr (.inr (.inl h)))
  · exact .inr (.inr (.inr (.inr h)))
theorem upd_map {w : World} {r : Nat} {k : Int} {v : Value} {es : Array MapEntry} {c : Nat} (hb : w.heap[r]? = some (.map es c)) (hn : Instr.findNow (.int .i64) (.int .i64 k) es.toList 0 = some none) :
    (Instr.mapUpdate 78 (.map (some r)) (.int .i64 k) v).run Tryz.prog w = .ok () { w with heap := w.heap.setIfInBounds r (.map (es.push { key := .int .i64 k, val := v, born := c }) (c + 1)) } := by
  have hc : (Instr.checkKey false 10000 3 (.int .i64 k)).run Tryz.prog w = .ok () w := MapKept.run_checkKey (k := .int .i64 k) Tryz.underlying3 (by simp [MapKept.IsKey]) false 9999
  simp [Instr.mapUpdate, run_underlying Tryz.underlying78, MapKept.run_getObj_map hb, hc, MapKept.run_findKey Tryz.underlying3 hn, MapKept.run_setObj_map _ hb, Result.andThen]
theorem upd_same {w : World} {r : Nat} {k : Int} {v : Value} {es : Array MapEntry} {c i : Nat} {e : MapEntry} (hb : w.heap[r]? = some (.map es c)) (hn : Instr.findNow (.int .i64) (.int .i64 k) es.toList 0 = some (some (i, v))) (he : es[i]? = some e) (hk : e.key = .int .i64 k) :
    (Instr.mapUpdate 78 (.map (some r)) (.int .i64 k) v).run Tryz.prog w = .ok () { w with heap := w.heap.setIfInBounds r (.map (es.modify i fun e => { e with key := .int .i64 k, val := v }) c) } := by
  have hc : (Instr.checkKey false 10000 3 (.int .i64 k)).run Tryz.prog w = .ok () w := MapKept.run_checkKey (k := .int .i64 k) Tryz.underlying3 (by simp [MapKept.IsKey]) false 9999
  have hs : (Instr.keyThatStays (.int .i64 k) (.int .i64 k)).run Tryz.prog w = .ok (.int .i64 k) w := by simp [Instr.keyThatStays, Instr.sameBits]
  simp [Instr.mapUpdate, run_underlying Tryz.underlying78, MapKept.run_getObj_map hb, hc, MapKept.run_findKey Tryz.underlying3 hn, he, hk, hs, MapKept.run_setObj_map _ hb, Result.andThen]
/-- the world but for one block. -/
def setB (w : World) (r : Nat) (o : Obj) : World := { w with heap := w.heap.setIfInBounds r o }
theorem setB_at {w : World} {r : Nat} {o o' : Obj} (h : w.heap[r]? = some o') : (setB w r o).heap[r]? = some o := by
  have := (Array.getElem?_eq_some_iff.1 h).1
  simp [setB, this]
theorem setB_off {w : World} {r k : Nat} {o : Obj} (h : ¬ r = k) : (setB w r o).heap[k]? = w.heap[k]? := by simp [setB, h]
theorem setB_below {B : Nat} {a w : World} {r : Nat} {o : Obj} (h : Below B a w) (hr : B ≤ r) : Below B a (setB w r o) :=
  ⟨h.os, h.tape, h.output, by simpa [setB] using h.size, fun k hk => by rw [setB_off (by omega)]; exact h.block k hk⟩
theorem ins_buy {A B : Bool} {w : World} {r : Nat} {o : Obj} (h : w.heap[r]? = some o) (ho : OkM A B o) : ∃ o', (Instr.mapUpdate 78 (.map (some r)) (.int .i64 1) (sV wBuyS)).run Tryz.prog w = .ok () (setB w r o') ∧ OkM true B o' := by
  rcases ho with ⟨-, rfl, rfl⟩ | ⟨rfl, rfl⟩ | ⟨-, rfl⟩ | rfl | rfl
  · exact ⟨_, upd_map h rfl, .inr (.inl ⟨rfl, rfl⟩)⟩
  · exact ⟨_, upd_same (i := 0) h rfl rfl rfl, .inr (.inl ⟨rfl, rfl⟩)⟩
  · exact ⟨_, upd_map h rfl, .inr (.inr (.inr (.inr rfl)))⟩
  · exact ⟨_, upd_same (i := 0) h rfl rfl rfl, .inr (.inr (.inr (.inl rfl)))⟩
  · exact ⟨_, upd_same (i := 1) h rfl rfl rfl, .inr (.inr (.inr (.inr rfl)))⟩
theorem ins_sell {A B : Bool} {w : World} {r : Nat} {o : Obj} (h : w.heap[r]? = some o) (ho : OkM A B o) : ∃ o', (Instr.mapUpdate 78 (.map (some r)) (.int .i64 (-1)) (sV wSellS)).run Tryz.prog w = .ok () (setB w r o') ∧ OkM A true o' := by
  rcases ho with ⟨rfl, -, rfl⟩ | ⟨-, rfl⟩ | ⟨rfl, rfl⟩ | rfl | rfl
  · exact ⟨_, upd_map h rfl, .inr (.inr (.inl ⟨rfl, rfl⟩))⟩
  · exact ⟨_, upd_map h rfl, .inr (.inr (.inr (.inl rfl)))⟩
  · exact ⟨_, upd_same (i := 0) h rfl rfl rfl, .inr (.inr (.inl ⟨rfl, rfl⟩))⟩
  · exact ⟨_, upd_same (i := 1) h rfl rfl rfl, .inr (.inr (.inr (.inl rfl)))⟩
  · exact ⟨_, upd_same (i := 0) h rfl rfl rfl, .inr (.inr (.inr (.inr rfl)))⟩
theorem look_map {w : World} {r : Nat} {k : Int} {v : Value} {es : Array MapEntry} {c i : Nat} (hb : w.heap[r]? = some (.map es c)) (hn : Instr.findNow (.int .i64) (.int .i64 k) es.toList 0 = some (some (i, v))) :
    (Instr.lookup 78 (.map (some r)) (.int .i64 k) false).run Tryz.prog w = .ok v w := by
  have hc : (Instr.checkKey es.isEmpty 10000 3 (.int .i64 k)).run Tryz.prog w = .ok () w := MapKept.run_checkKey (k := .int .i64 k) Tryz.underlying3 (by simp [MapKept.IsKey]) _ 9999
  simp [Instr.lookup, run_underlying Tryz.underlying78, MapKept.run_getObj_map hb, hc, MapKept.run_findKey Tryz.underlying3 hn, Result.andThen]
theorem look_both {w : World} {r : Nat} {o : Obj} {sd : Int} {sw : Bs} (h : w.heap[r]? = some o) (ho : OkM true true o) (hs : (sd = 1 ∧ sw = wBuyS) ∨ (sd = -1 ∧ sw = wSellS)) : (Instr.lookup 78 (.map (some r)) (.int .i64 sd) false).run Tryz.prog w = .ok (sV sw) w := by
  rcases ho with ⟨e, -⟩ | ⟨e, -⟩ | ⟨e, -⟩ | rfl | rfl
  · cases e
  · cases e
  · cases e
  · rcases hs with ⟨rfl, rfl⟩ | ⟨rfl, rfl⟩
    · exact look_map (i := 0) h rfl
    · exact look_map (i := 1) h rfl
  · rcases hs with ⟨rfl, rfl⟩ | ⟨rfl, rfl⟩
    · exact look_map (i := 1) h rfl
    · exact look_map (i := 0) h rfl
abbrev sortsO : Obj := .cells #[sV [45], sV wLimit, sV wNow, sV wWhole, sV wPost] 9
/-- worlds that have grown out of y, in which the map is so far, and the words. -/
def St (y : World) (mo : Option (Nat × Bool × Bool)) (fo : Option Nat) (x : World) : Prop :=
  Below y.heap.size y x ∧ (∀ m, mo = some m → y.heap.size ≤ m.1 ∧ (∃ o, x.heap[m.1]? = some o ∧ OkM m.2.1 m.2.2 o)) ∧ (∀ f, fo = some f → x.heap[f]? = some sortsO) ∧ ∀ m f, mo = some m → fo = some f → ¬ m.1 = f
theorem st_sh (y : World) (mo : Option (Nat × Bool × Bool)) (fo : Option Nat) : Sh (St y mo fo) := fun x z h hb => by
  obtain ⟨h1, h2, h3, h4⟩ := h
  refine ⟨onward h1 hb, fun m hm => ?_, fun f hf => ?_, h4⟩
  · obtain ⟨a, o, b, c⟩ := h2 m hm
    exact ⟨a, o, (hb.block _ (Array.getElem?_eq_some_iff.1 b).1).trans b, c⟩
  · have b := h3 f hf
    exact (hb.block _ (Array.getElem?_eq_some_iff.1 b).1).trans b
theorem st_mk {y x : World} {fo : Option Nat} (h : St y none fo x) : St y (some (x.heap.size, false, false)) fo (x.alloc (.map #[] 0)) := by
  obtain ⟨h1, h2, h3, h4⟩ := h
  refine ⟨onward h1 (below_alloc x _), fun m hm => ?_, fun f hf => ?_, fun m f hm hf e => ?_⟩
  · cases hm
    exact ⟨h1.size, _, heap_alloc_new x _, .inl ⟨rfl, rfl, rfl⟩⟩
  · have b := h3 f hf
    exact ((below_alloc x _).block _ (Array.getElem?_eq_some_iff.1 b).1).trans b
  · cases hm
    have b := (Array.getElem?_eq_some_iff.1 (h3 f hf)).1
    dsimp only at e
    omega
theorem st_fw {y x : World} {mo : Option (Nat × Bool × Bool)} (h : St y mo none x) : St y mo (some x.heap.size) (x.alloc sortsO) := by
  obtain ⟨h1, h2, h3, h4⟩ := h
  refine ⟨onward h1 (below_alloc x _), fun m hm => ?_, fun f hf => ?_, fun m f hm hf e => ?_⟩
  · obtain ⟨a, o, b, c⟩ := h2 m hm
    exact ⟨a, o, ((below_alloc x _).block _ (Array.getElem?_eq_some_iff.1 b).1).trans b, c⟩
  · cases hf
    exact heap_alloc_new x _
  · cases hf
    obtain ⟨a, o, b, c⟩ := h2 m hm
    have := (Array.getElem?_eq_some_iff.1 b).1
    omega
theorem st_set {y x : World} {mb : Nat} {A B A' B' : Bool} {fo : Option Nat} {o' : Obj} (h : St y (some (mb, A, B)) fo x) (ho : OkM A' B' o') : St y (some (mb, A', B')) fo (setB x mb o') := by
  obtain ⟨h1, h2, h3, h4⟩ := h
  obtain ⟨a, o, b, c⟩ := h2 _ rfl
  refine ⟨setB_below h1 a, fun m hm => ?_, fun f hf => ?_, fun m f hm hf => ?_⟩
  · cases hm
    exact ⟨a, o', setB_at b, ho⟩
  · rw [setB_off (h4 _ f rfl hf)]
    exact h3 f hf
  · cases hm
    exact h4 (mb, A, B) f rfl hf
theorem st_buy {y x : World} {mb : Nat} {A B : Bool} {fo : Option Nat} (h : St y (some (mb, A, B)) fo x) : ∃ x', (Instr.mapUpdate 78 (.map (some mb)) (.int .i64 1) (sV wBuyS)).run Tryz.prog x = .ok () x' ∧ St y (some (mb, true, B)) fo x' := by
  obtain ⟨a, o, b, c⟩ := h.2.1 _ rfl
  obtain ⟨o', e, k⟩ := ins_buy b c
  exact ⟨_, e, st_set h k⟩
theorem st_sell {y x : World} {mb : Nat} {A B : Bool} {fo : Option Nat} (h : St y (some (mb, A, B)) fo x) : ∃ x', (Instr.mapUpdate 78 (.map (some mb)) (.int .i64 (-1)) (sV wSellS)).run Tryz.prog x = .ok () x' ∧ St y (some (mb, A, true)) fo x' := by
  obtain ⟨a, o, b, c⟩ := h.2.1 _ rfl
  obtain ⟨o', e, k⟩ := ins_sell b c
  exact ⟨_, e, st_set h k⟩
theorem st_look {y x : World} {mb : Nat} {fo : Option Nat} {sd : Int} {sw : Bs} (hs : (sd = 1 ∧ sw = wBuyS) ∨ (sd = -1 ∧ sw = wSellS)) (h : St y (some (mb, true, true)) fo x) : (Instr.lookup 78 (.map (some mb)) (.int .i64 sd) false).run Tryz.prog x = .ok (sV sw) x := by
  obtain ⟨a, o, b, c⟩ := h.2.1 _ rfl
  exact look_both b c hs
theorem st_word {y x : World} {mo : Option (Nat × Bool × Bool)} {fb hn : Nat} {hw : Bs} (hk : #[sV [45], sV wLimit, sV wNow, sV wWhole, sV wPost][hn]? = some (sV hw)) (h : St y mo (some fb) x) : x.cell? ⟨fb, hn, none⟩ = some (sV hw) := by
  have b := h.2.2.1 _ rfl
  simp only [World.cell?, b]
  exact hk
/-- less is asked. -/
theorem st_none {y x : World} {m : Nat × Bool × Bool} {fo : Option Nat} (h : St y (some m) fo x) : St y none fo x := ⟨h.1, (fun _ e => nomatch e), h.2.2.1, fun _ _ e => nomatch e⟩
theorem st_nof {y x : World} {mo : Option (Nat × Bool × Bool)} {f : Nat} (h : St y mo (some f) x) : St y mo none x := ⟨h.1, h.2.1, (fun _ e => nomatch e), fun _ _ _ e => nomatch e⟩
theorem st_less {y x : World} {mb : Nat} {A B A' B' : Bool} {fo : Option Nat} (hA : A' = true → A = true) (hB : B' = true → B = true) (h : St y (some (mb, A, B)) fo x) : St y (some (mb, A', B')) fo x := by
  obtain ⟨h1, h2, h3, h4⟩ := h
  refine ⟨h1, fun m hm => ?_, h3, fun m f hm hf => ?_⟩
  · cases hm
    obtain ⟨a, o, b, c⟩ := h2 _ rfl
    exact ⟨a, o, b, okM_mono c hA hB⟩
  · cases hm
    exact h4 (mb, A, B) f rfl hf
end Go.Proofs.YthdjfhnhjiageaaGreatDoor.Tx
