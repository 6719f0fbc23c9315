/-
  Bytes in memory, and disks.
-/
import Derived.Test.YthdjfhnhjiageaaDoorJnR
import Derived.Test.YthdjfhnhjiageaaDoorTxW9
import Derived.Lib.ConvBytes
import Derived.Laws.BytesArg
namespace Go.Proofs.YthdjfhnhjiageaaDoor.Tx
open Go.RowKit Go.Lib Go.Sort

/-- bytes that can be read. -/
structure Bt (w : World) (p : Option Addr) (n c : Nat) (bs : Bs) : Prop where
  len : bs.length = n
  cap : n ≤ c
  nil : p = none → c = 0
  row : 0 < n → ∃ b o, p = some ⟨b, o, none⟩ ∧ ∀ i, i < n → w.cell? ⟨b, o + i, none⟩ = some (.int .u8 (bs.getD i 0).toNat)
theorem Bt.below {w w' : World} {p : Option Addr} {n c : Nat} {bs : Bs} (h : Bt w p n c bs) (hb : Below w.heap.size w w') : Bt w' p n c bs :=
  ⟨h.len, h.cap, h.nil, fun hn => by
    obtain ⟨b, o, e, hc⟩ := h.row hn
    exact ⟨b, o, e, fun i hi => (hb.cell (World.block_lt_of_cell? _ _ (hc i hi))).trans (hc i hi)⟩⟩
theorem bt_none (w : World) : Bt w none 0 0 [] := ⟨rfl, Nat.le_refl _, fun _ => rfl, fun h => by omega⟩
theorem Bt.take {w : World} {p : Option Addr} {n c : Nat} {bs : Bs} (h : Bt w p n c bs) {k : Nat} (hk : k ≤ n) : Bt w p k c (bs.take k) :=
  ⟨by rw [List.length_take, h.len]; omega, by have := h.cap; omega, h.nil, fun hn => by
    obtain ⟨b, o, e, hc⟩ := h.row (by omega)
    refine ⟨b, o, e, fun i hi => ?_⟩
    rw [hc i (by omega), List.getD_eq_getElem?_getD, List.getD_eq_getElem?_getD, List.getElem?_take, if_pos hi]⟩
theorem Bt.at {w : World} {p : Option Addr} {n c : Nat} {bs : Bs} (h : Bt w p n c bs) (hn : 0 < n) : ∃ b o, p = some ⟨b, o, none⟩ ∧ ∀ i, i < n → w.cell? ⟨b, o + i, none⟩ = some (.int .u8 (bs.getD i 0).toNat) := h.row hn
/-- the bytes from k on. -/
theorem Bt.drop {w : World} {b o n c : Nat} {bs : Bs} (h : Bt w (some ⟨b, o, none⟩) n c bs) {k : Nat} (hk : k ≤ n) : Bt w (some ⟨b, o + k, none⟩) (n - k) (c - k) (bs.drop k) :=
  ⟨by rw [List.length_drop, h.len], by have := h.cap; omega, (fun e => nomatch e), fun hn => by
    obtain ⟨b', o', e, hc⟩ := h.row (by omega)
    cases e
    refine ⟨b, o + k, rfl, fun i hi => ?_⟩
    rw [Nat.add_assoc, hc (k + i) (by omega), List.getD_eq_getElem?_getD, List.getD_eq_getElem?_getD, List.getElem?_drop]⟩
/-- the bytes as numbers. -/
def nums (bs : Bs) : List Int := bs.map fun x => (x.toNat : Int)
theorem nums_len (bs : Bs) : (nums bs).length = bs.length := by simp [nums]
theorem nums_get (bs : Bs) (i : Nat) : (nums bs).getD i 0 = ((bs.getD i 0).toNat : Int) := by
  unfold nums
  rw [List.getD_eq_getElem?_getD, List.getElem?_map, List.getD_eq_getElem?_getD]
  cases bs[i]? with
  | none => rfl
  | some x => rfl
theorem nums_str (bs : Bs) : strOfNums (nums bs) = sB bs := by
  unfold strOfNums nums
  rw [List.map_map]
  have : ((fun n : Int => UInt8.ofNat n.toNat) ∘ fun x : UInt8 => (x.toNat : Int)) = id := funext fun x => by simp
  rw [this, List.map_id]
theorem Bt.ints {w : World} {b o n c : Nat} {bs : Bs} (h : Bt w (some ⟨b, o, none⟩) n c bs) : ∀ i, i < n → w.cell? ⟨b, o + i, none⟩ = some (.int .u8 ((nums bs).getD i 0)) := fun i hi => by
  obtain ⟨b', o', e, hc⟩ := h.row (by omega)
  cases e
  rw [nums_get]
  exact hc i hi
/-- string(b). -/
theorem Bt.str {w : World} {p : Option Addr} {n c : Nat} {bs : Bs} (h : Bt w p n c bs) : (convert 35 9 (.slice p n c)).run Tryd.prog w = .ok (sV bs) w := by
  by_cases hn : 0 < n
  · obtain ⟨b, o, rfl, hc⟩ := h.row hn
    have := run_convert_bytes_arg (P := Tryd.prog) w 35 5 Tryd.underlying35 Tryd.underlying5 b o n c (nums bs) (by rw [nums_len]; exact h.len) h.ints 9 Tryd.underlying9
    rw [nums_str] at this
    exact this
  · obtain rfl : n = 0 := by omega
    obtain rfl : bs = [] := List.length_eq_zero_iff.1 h.len
    have hl : ∀ (x : Addr), (loadCells x 0).run Tryd.prog w = .ok #[] w := fun x => by simpa using run_loadCells_list (P := Tryd.prog) w x [] (by simp)
    have e1 := run_underlying Tryd.underlying35
    have e2 := run_underlying Tryd.underlying5
    have e3 := run_underlying Tryd.underlying9
    cases p with
    | none => simp [convert, e1, e2, e3, Conv.bytesToString, Result.andThen]; rfl
    | some a => simp [convert, e1, e2, e3, Conv.bytesToString, hl, Result.andThen]; rfl
/-- '[]byte(s)' of a text with a byte. -/
theorem conv_bt (t : Bs) (w : World) : ∃ c W, (convert 9 35 (.string (sB t))).run Tryd.prog w = .ok (.slice (some ⟨w.heap.size, 0, none⟩) t.length c) W ∧ Bt W (some ⟨w.heap.size, 0, none⟩) t.length c t ∧ Below w.heap.size w W ∧ W.heap.size = w.heap.size + 1 := by
  have := Go.Lib.run_convert_string_bytes (P := Tryd.prog) w 9 35 5 (sB t) Tryd.underlying9 Tryd.underlying35 Tryd.underlying5
  rw [sB_size] at this
  refine ⟨_, _, this, ⟨rfl, ?_, (fun e => nomatch e), fun _ => ⟨_, _, rfl, fun i hi => ?_⟩⟩, bytesWorld_below w _ _, bytesWorld_size w _ _⟩
  · exact grownCap_ge _ _ _ _
  · rw [Nat.zero_add]
    have := bytesWorld_cell w 5 (sB t) i (by rw [sB_size]; exact hi)
    simpa using this
/-- memory of the call's own. -/
def Nw (B : Nat) (p : Option Addr) : Prop := ∀ a, p = some a → B ≤ a.block
theorem Nw.mono {B B' : Nat} {p : Option Addr} (h : Nw B p) (hB : B' ≤ B) : Nw B' p := fun a ha => Nat.le_trans hB (h a ha)
theorem nw_none (B : Nat) : Nw B none := fun _ h => nomatch h
theorem Bt.set {w : World} {p : Option Addr} {n c : Nat} {bs : Bs} (h : Bt w p n c bs) {r : Nat} (hr : Nw (r + 1) p) (o : Nat) (v : Value) : Bt (w.setCell ⟨r, o, none⟩ v) p n c bs :=
  ⟨h.len, h.cap, h.nil, fun hn => by
    obtain ⟨b, ob, e, hc⟩ := h.row hn
    refine ⟨b, ob, e, fun i hi => ?_⟩
    have hb : r + 1 ≤ b := hr _ e
    rw [← hc i hi]
    exact World.cell?_of_block (Below.heap_setCell w ⟨r, o, none⟩ v b (by simp; omega))⟩
/-- a disk's value. -/
abbrev dkV (p : Option Addr) (n c : Nat) (p' : Option Addr) (n' c' : Nat) : Value := .agg #[.slice p n c, .slice p' n' c']
abbrev dk0 : Value := dkV none 0 0 none 0 0
/-- a disk that can be read. -/
def Dv (B : Nat) (w : World) (v : Value) (d : Dk) : Prop := ∃ p n c p' n' c', v = dkV p n c p' n' c' ∧ Bt w p n c d.safe ∧ Bt w p' n' c' d.wait ∧ Nw B p ∧ Nw B p'
theorem Dv.below {B : Nat} {w w' : World} {v : Value} {d : Dk} (h : Dv B w v d) (hb : Below w.heap.size w w') : Dv B w' v d := by
  obtain ⟨p, n, c, p', n', c', e, h1, h2, h3⟩ := h
  exact ⟨p, n, c, p', n', c', e, h1.below hb, h2.below hb, h3⟩
theorem dv_none (B : Nat) (w : World) : Dv B w dk0 noDk := ⟨_, _, _, _, _, _, rfl, bt_none w, bt_none w, nw_none B, nw_none B⟩
end Go.Proofs.YthdjfhnhjiageaaDoor.Tx
