/-
  Package fund by contracts: Settle.
-/
import Derived.Test.YtbphljnncbiddabFuM
import Derived.Test.YtbphljnncbiddabCopyK
import Derived.Test.YtbphljnncbiddabAc5
namespace Go.Proofs.Ytbphljnncbiddab.Ac
open Go.RowKit Go.Proofs.Ytbphljnncbiddab.Num Go.Proofs.Ytbphljnncbiddab.Fix Go.Proofs.Ytbphljnncbiddab.AcP Go.Proofs.Ytbphljnncbiddab.FuP Go.Proofs.Ytbphljnncbiddab.CopyK

theorem make_accs (k : Nat) (hk : k ≤ 1000) : ∃ cs : Array Value, (∀ W : World, (Instr.makeSlice 22 (.int .i64 (k : Int)) (.int .i64 (k : Int))).run Try.prog W = .ok (.slice (some ⟨W.heap.size, 0, none⟩) k k) (W.alloc (.cells cs 30))) ∧ cs.size = k * 3 := by
  obtain ⟨i0, hi, hz0, hz1, hz2⟩ := info_parts (show (Try.prog.info? 30).map (fun i => (i.zero, i.size, i.bytes)) = some (some noA, 3, 40) by kernel_rfl)
  refine ⟨madeCells noA.cells (k * 3), fun W => ?_, size_madeCells _ _⟩
  have := run_makeSlice W 22 30 i0 noA Try.underlying22 hi hz0 .i64 .i64 k k (by omega) (Int.le_refl _) (by rw [hz1]; simp; omega) (by rw [hz2]; omega) (by omega)
  rw [hz1] at this
  simpa only [Int.toNat_natCast] using this

theorem out_cell {w : World} {g : Nat} {xs : List Value} {t : TypeId} (h : w.heap[g]? = some (.cells xs.toArray t (0, 0))) (j : Nat) : w.cell? ⟨g, j, none⟩ = xs[j]? ∧ w.frozen? ⟨g, j, none⟩ = false := by
  constructor
  · simp [World.cell?, h]
  · simp [World.frozen?, h]
theorem out_set {w : World} {g : Nat} {xs : List Value} {t : TypeId} (h : w.heap[g]? = some (.cells xs.toArray t (0, 0))) (j : Nat) (v : Value) : (w.setCell ⟨g, j, none⟩ v).heap[g]? = some (.cells (xs.set j v).toArray t (0, 0)) := by
  simp [World.setCell, Array.getElem?_modify, h]
theorem row_other {w : World} {p : Option Addr} {xs : List Int} (h : Row w p xs) {a : Addr} (ha : ∀ x, p = some x → ¬ x.block = a.block) (v : Value) : Row (w.setCell a v) p xs := by
  rcases h with h | ⟨b, off, rfl, hc⟩
  · exact .inl h
  · refine .inr ⟨b, off, rfl, fun i hi => ?_⟩
    rw [← hc i hi]
    have := ha _ rfl
    simp only at this
    simp [World.cell?, World.setCell, Array.getElem?_modify, show ¬ a.block = b by omega]

/-- what Settle answers. -/
def settleR (L : List Acc) (mk mark rate : Int) : List Acc × Int × Int :=
  if 8 < L.length then ([], 0, 2) else if setE mk mark rate L = 0 then (L.map (setA mk mark rate), setL mk mark rate L, 0) else ([], 0, setE mk mark rate L)

set_option maxHeartbeats 1000000 in
set_option maxRecDepth 100000 in
theorem settle_many (p : Option Addr) (n c : Nat) (mk mark rate : Int) (w : World) (hn : 8 < n) :
    Calls Try.prog 6 #[.slice p n c, .int .i64 mk, .int .i64 mark, .int .i64 rate] w fun e w' => e = .returned (.tuple #[.slice none 0 0, .int .i64 0, .int .i64 2]) ∧ w' = w := by
  have h1 : (8 : Int) < (n : Int) := by omega
  go_enter Try.func6, Try.ntmps6
  go_wp2
  refine bodyPost_ret (v := .tuple #[.slice none 0 0, .int .i64 0, .int .i64 2]) (by simp [results, Try.results6, go_sem]) rfl ?_
  exact ⟨rfl, rfl⟩

/-- what is done of the list. -/
structure SInv (mk mark rate : Int) (L D : List Am) (k : Nat) (s : Int) (w wr : World) : Prop where
  len : D.length = k
  acc : D.map Am.acc = (L.take k).map (fun a => setA mk mark rate a.acc)
  sum : s = setL mk mark rate ((L.take k).map Am.acc)
  heap : wr.heap[w.heap.size]? = some (.cells (flatA (D ++ L.drop k)).toArray 30 (0, 0))
  below : Below w.heap.size w wr
  each : ∀ a, a ∈ D → AOk wr a ∧ ∃ x, a.p = some x ∧ w.heap.size < x.block
  err : setE mk mark rate (L.map Am.acc) = setE mk mark rate ((L.drop k).map Am.acc)

theorem add_two {bal pd : Int} (h1 : money bal = true) (h2 : -100000 ≤ pd ∧ pd ≤ 100000) : addFrom 0 [bal, -pd] = if money (bal - pd) = true then (bal - pd, 0) else (0, 7) := by
  rw [addFrom_on h1 (by rw [Int.zero_add]; exact h1), Int.zero_add]
  cases h : money (bal - pd)
  · rw [addFrom_full (money_mk (by omega)) (by rw [← Int.sub_eq_add_neg]; exact h)]
    rfl
  · rw [addFrom_on (money_mk (by omega)) (by rw [← Int.sub_eq_add_neg]; exact h), ← Int.sub_eq_add_neg]
    rfl
theorem drop_at {α : Type} {l : List α} {k : Nat} (h : k < l.length) : l.drop k = l[k] :: l.drop (k + 1) := List.drop_eq_getElem_cons h
theorem take_at {α : Type} {l : List α} {k : Nat} (h : k < l.length) : l.take (k + 1) = l.take k ++ [l[k]] := List.take_succ_eq_append_getElem h

theorem settle_err {L : List Acc} {mk mark rate : Int} (h : L.length ≤ 8) (he : ¬ setE mk mark rate L = 0) : settleR L mk mark rate = ([], 0, setE mk mark rate L) := by
  unfold settleR; rw [if_neg (by omega), if_neg he]
theorem settle_ok {L : List Acc} {mk mark rate : Int} (h : L.length ≤ 8) (he : setE mk mark rate L = 0) : settleR L mk mark rate = (L.map (setA mk mark rate), setL mk mark rate L, 0) := by
  unfold settleR; rw [if_neg (by omega), if_pos he]
theorem SInv.bd {mk mark rate : Int} {L D : List Am} {k : Nat} {s : Int} {w wr : World} (h : SInv mk mark rate L D k s w wr) (hk : k ≤ 8) : -800000 ≤ s ∧ s ≤ 800000 := by
  have := setL_bd (mk := mk) (mark := mark) (rate := rate) ((L.take k).map Am.acc)
  rw [← h.sum] at this
  have h2 : (((L.take k).map Am.acc).length : Int) ≤ 8 := by simp; omega
  omega
theorem SInv.start {mk mark rate : Int} {L : List Am} {w wr : World} (hg : wr.heap[w.heap.size]? = some (.cells (flatA L).toArray 30 (0, 0))) (hb : Below w.heap.size w wr) : SInv mk mark rate L [] 0 0 w wr :=
  ⟨rfl, rfl, rfl, hg, hb, (fun _ h => by cases h), rfl⟩
/-- one more. -/
theorem SInv.next {mk mark rate : Int} {L D : List Am} {k : Nat} {s : Int} {w wr wn : World} (h : SInv mk mark rate L D k s w wr) (hk : k < L.length) (a : Am) (ha : a = L[k]) (pd : Int) (hp : payA mk mark rate a.acc = (pd, 0)) (hm : money (a.bal - pd) = true)
    (x : Addr) (c : Nat) (hx : w.heap.size < x.block) (hc : AOk wn ⟨a.id, a.bal - pd, some x, a.n, c, a.pos⟩)
    (hg : wn.heap[w.heap.size]? = some (.cells (flatA (D ++ ⟨a.id, a.bal - pd, some x, a.n, c, a.pos⟩ :: L.drop (k + 1))).toArray 30 (0, 0))) (hb : Below w.heap.size w wn)
    (hd : ∀ a, a ∈ D → AOk wn a) : SInv mk mark rate L (D ++ [⟨a.id, a.bal - pd, some x, a.n, c, a.pos⟩]) (k + 1) (s + pd) w wn := by
  subst ha
  refine ⟨by simp [h.len], ?_, ?_, ?_, hb, ?_, ?_⟩
  · rw [List.map_append, h.acc, take_at hk, List.map_append]
    simp only [List.map_cons, List.map_nil]
    rw [show setA mk mark rate L[k].acc = (L[k].id, L[k].bal - pd, L[k].pos) from by unfold setA; rw [hp]; rfl]
    rfl
  · rw [take_at hk, List.map_append, h.sum]
    simp only [List.map_cons, List.map_nil]
    rw [setL_snoc, hp]
  · rw [List.append_assoc]
    exact hg
  · intro y hy
    rcases List.mem_append.1 hy with hy | hy
    · exact ⟨hd y hy, (h.each y hy).2⟩
    · simp at hy
      subst hy
      exact ⟨hc, x, rfl, hx⟩
  · rw [h.err, drop_at hk, List.map_cons, setE_on (by rw [hp]) (by rw [hp]; exact hm)]
theorem mid_cells {D R : List Am} {a : Am} {k : Nat} (hk : D.length = k) : (flatA (D ++ a :: R))[k * 3 + 1]? = some (.int .i64 a.bal) ∧ (flatA (D ++ a :: R))[k * 3 + 2]? = some (.slice a.p a.n a.c) := by
  subst hk
  have h : D.length < (D ++ a :: R).length := by simp
  have e : (D ++ a :: R)[D.length]'h = a := by simp
  have h1 := flatA_get (D ++ a :: R) D.length h 1 (by omega)
  have h2 := flatA_get (D ++ a :: R) D.length h 2 (by omega)
  rw [e] at h1 h2
  exact ⟨h1, h2⟩
theorem aok_set {w : World} {a : Am} {g : Nat} (h : AOk w a) (hx : ∃ x, a.p = some x ∧ g < x.block) (j : Nat) (v : Value) : AOk (w.setCell ⟨g, j, none⟩ v) a := by
  obtain ⟨x, hp, hg⟩ := hx
  refine ⟨h.len, h.few, h.nil, row_other h.row (fun y hy => ?_) v⟩
  rw [hp] at hy
  cases hy
  simp only
  omega
theorem below_set {B g : Nat} {w x : World} (h : Below B w x) (hg : B ≤ g) (j : Nat) (v : Value) : Below B w (x.setCell ⟨g, j, none⟩ v) := h.setCell hg v
end Go.Proofs.Ytbphljnncbiddab.Ac
