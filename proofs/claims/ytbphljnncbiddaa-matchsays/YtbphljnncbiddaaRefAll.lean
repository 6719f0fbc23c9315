/-
  A row of orders of one side, sorted by the library: the one sorted list of these orders.
-/
import Derived.Test.YtbphljnncbiddaaStC
import Derived.Test.YtbphljnncbiddaaBkRem
import Derived.Maps.AppendAt
import Derived.Test.YtbphljnncbiddaaBkMay
import Derived.Test.YtbphljnncbiddaaBkFlat
import Derived.Test.YtbphljnncbiddaaBkWith
import Derived.ArgAppend
import Derived.Lib.LazyBuf
import Derived.Deep.MidRow
import Derived.Test.YtbphljnncbiddaaBkFind
import Derived.Test.YtbphljnncbiddaaRefL
namespace Go.Proofs.Ytbphljnncbiddaa.Rk
open Go.Shelf Go.RowKit Go.Lib Go.Sort Go.Maps Go.Proofs.Ytbphljnncbiddaa.Bk
open Go.Proofs.Ytbphljnncbiddaa.St hiding hide

def to4 (x : Odr) : O4 := (x.1, x.2.1, x.2.2.2.1, x.2.2.2.2)
theorem mk_to {s : Int} {x : Odr} (h : osd x = s) : mk4 s (to4 x) = x := by
  obtain ⟨a, b, c, d, e⟩ := x
  simp [osd] at h
  subst h
  rfl
theorem map_to {s : Int} {xs : List Odr} (h : ∀ x, x ∈ xs → osd x = s) : (xs.map to4).map (mk4 s) = xs := by
  rw [List.map_map]
  have : ∀ x ∈ xs, (mk4 s ∘ to4) x = id x := fun x hx => mk_to (h x hx)
  rw [List.map_congr_left this, List.map_id]

theorem hold_own {s : Int} {w : World} {B g n cap : Nat} {xs : List Odr} (h : w.ownsRow B 44 5 (.slice (some ⟨g, 0, none⟩) n cap) n (flat xs)) (hl : xs.length = n) (hs : ∀ x, x ∈ xs → osd x = s) : HoldsK (enc4 s) 5 w g 0 (xs.map to4).toArray := by
  intro t ht
  have ht' : t < n * 5 := by simpa [hl] using ht
  have hi : t / 5 < xs.length := by omega
  have hj : t % 5 < 5 := Nat.mod_lt _ (by decide)
  have e1 : (xs.map to4).toArray[t / 5]! = to4 xs[t / 5]! := by
    rw [getElem!_pos _ _ (by simpa using hi), getElem!_pos xs _ hi]
    simp
  have e2 : enc4 s (xs.map to4).toArray[t / 5]! = Bk.enc xs[t / 5]! := by
    unfold enc4
    rw [e1, mk_to (hs _ (by rw [getElem!_pos xs _ hi]; exact List.getElem_mem hi))]
  refine ⟨?_, by rw [Nat.zero_add]; exact h.frozenAt t⟩
  rw [get_flatK _ _ _ _ (by simpa [hl] using ht'), e2, Nat.zero_add, h.cellAt t ht']
  have := flat_get xs (t / 5) (t % 5) hi hj
  rw [show t / 5 * 5 + t % 5 = t by omega] at this
  rw [this]
  have hlen : t % 5 < (Bk.enc xs[t / 5]!).length := hj
  rw [List.getElem?_eq_getElem hlen, id_eq, getElem!_pos (Bk.enc xs[t / 5]!) (t % 5) hlen]

theorem swk_grown {s : Int} {w0 W : World} {blk off : Nat} {dk : Array O4} (h : SWK (enc4 s) 5 w0 blk off dk W) : w0.grownBy W (some blk) := by
  obtain ⟨n, os, rfl⟩ := h
  refine ⟨rfl, rfl, rfl, ?_, fun k hk hne => ?_⟩
  · unfold sortWorldK
    rw [size_grow, size_putRowK]
    show w0.heap.size ≤ w0.heap.size + _
    omega
  · have hne' : ¬ blk = k := fun e => hne (by rw [e])
    unfold sortWorldK
    show ((putRowK (enc4 s) 5 (Sort.ahead w0 n) blk off dk).heap ++ os)[k]? = _
    rw [Array.getElem?_append_left (by rw [size_putRowK]; exact hk)]
    simp [putRowK, putRow, mapBlock, Sort.ahead, Array.getElem?_modify, hne']

theorem orow_holds {s : Int} {w : World} {g : Nat} {d : Array O4} {xs : List Odr} (h : HoldsK (enc4 s) 5 w g 0 d) (hx : d.toList.map (mk4 s) = xs) : ORow w (some ⟨g, 0, none⟩) xs := by
  subst hx
  refine .inr ⟨g, 0, rfl, fun j hj i v hv => ?_⟩
  have hj' : j < d.size := by simpa using hj
  have e : (d.toList.map (mk4 s))[j]! = mk4 s d[j]! := by
    rw [getElem!_pos (d.toList.map (mk4 s)) j hj, getElem!_pos d j hj']
    simp
  rw [e] at hv
  have hi : i < 5 := by have := (List.getElem?_eq_some_iff.1 hv).1; exact this
  rw [(h.cell (i := j) (c := i) hj' hi).1]
  congr 1
  have hlen : i < (enc4 s d[j]!).length := hi
  rw [getElem!_pos (enc4 s d[j]!) i hlen]
  exact (List.getElem?_eq_some_iff.1 hv).2

/-- the one sorted list of these orders. -/
theorem sorted_list {s : Int} {T : List Odr} (sT : Side s T) (nT : (T.map oid).Nodup) {d d' : Array O4} {n : Nat} (hn : d.size = n) (hp : (d.toList.map (mk4 s)).Perm T) (p : PermIn 0 n d d') (so : SortedIn (lt4 s) 0 n d') : d'.toList.map (mk4 s) = T := by
  have hs : d'.size = n := p.1.trans hn
  have p1 : d'.toList.Perm d.toList := by
    have := p.2.2
    rwa [show d'.extract 0 n = d' from by rw [← hs]; simp, show d.extract 0 n = d from by rw [← hn]; simp] at this
  have p2 : (d'.toList.map (mk4 s)).Perm T := (p1.map _).trans hp
  have nd : ((d'.toList.map (mk4 s)).map oid).Nodup := (p2.map oid).nodup_iff.2 nT
  refine side_eq ⟨fun o ho => sT.ok o (p2.mem_iff.1 ho), fun o ho => sT.sd o (p2.mem_iff.1 ho), ?_⟩ sT (fun x => p2.mem_iff)
  rw [List.pairwise_iff_getElem]
  intro i j hi hj hij
  have hi' : i < d'.size := by simpa using hi
  have hj' : j < d'.size := by simpa using hj
  have h := so i j (Nat.zero_le _) hij (by omega)
  rw [getElem!_pos d' i hi', getElem!_pos d' j hj'] at h
  have e1 : (d'.toList.map (mk4 s))[i] = mk4 s d'[i] := by simp
  have e2 : (d'.toList.map (mk4 s))[j] = mk4 s d'[j] := by simp
  rw [e1, e2]
  refine ahead_total (a := mk4 s d'[j]) (b := mk4 s d'[i]) rfl (fun e => ?_) h
  have := (List.pairwise_iff_getElem.1 nd) i j (by simpa using hi') (by simpa using hj') hij
  apply this
  simp only [List.getElem_map] at e1 e2 ⊢
  rw [e1, e2]
  exact e.symm
end Go.Proofs.Ytbphljnncbiddaa.Rk
namespace Go.Proofs.Ytbphljnncbiddaa.Rk
open Go.Shelf Go.RowKit Go.Lib Go.Sort Go.Maps Go.Proofs.Ytbphljnncbiddaa.Bk
open Go.Proofs.Ytbphljnncbiddaa.St hiding hide

theorem grow_grown (w : World) (os : Array Obj) (row : Option Nat) : w.grownBy (grow w os) row :=
  ⟨rfl, rfl, rfl, by rw [size_grow]; omega, fun k hk _ => by
    show (w.heap ++ os)[k]? = _
    rw [Array.getElem?_append_left hk]⟩

set_option maxRecDepth 100000 in
theorem sort_bids (s : Int) (w : World) (B Bb n : Nat) (v : Value) (xs T : List Odr) (hown : w.ownsRow B 44 5 v n (flat xs)) (hl : xs.length = n) (hs : ∀ x, x ∈ xs → osd x = s) (hn : n ≤ 40) (hB : w.cell? ⟨Bb, 0, none⟩ = some v) (hne : Bb < B) (sT : Side s T) (nT : (T.map oid).Nodup) (hp : xs.Perm T) :
    Calls Try.prog 107 #[.iface 40 v, .func (.func 108) #[] #[.pointer (some ⟨Bb, 0, none⟩)]] w fun e w' => e = .returned (.tuple #[]) ∧ w.grownBy w' v.ownBlock ∧ ∃ p c, v = .slice p n c ∧ ORow w' p T := by
  rcases hown.2 with ⟨rfl, hn0⟩ | ⟨g, cap, cur, rfl, hgB, hg, -⟩
  · subst hn0
    obtain rfl : xs = [] := List.eq_nil_of_length_eq_zero hl
    obtain rfl : T = [] := hp.symm.eq_nil
    refine (sliceStable_tiny 0 0 none (by decide) _ _ _ w).mono ?_
    rintro e w' ⟨rfl, os, rfl⟩
    exact ⟨rfl, grow_grown w os _, none, 0, rfl, .inl rfl⟩
  · have hblk : g < w.heap.size := (Array.getElem?_eq_some_iff.1 hg).1
    have hH := hold_own hown hl hs
    have hd : (xs.map to4).toArray.size = n := by simpa using hl
    have hL : LessG 108 #[.pointer (some ⟨Bb, 0, none⟩)] (enc4 s) 5 (lt4 s) g 0 n w := fun dk W hW hsz i j hi hj =>
      less_bids s g 0 n cap Bb dk W (swk_cell hW hB (by show Bb ≠ g; omega)) (hW.holds hblk hH (by rw [hsz, hd])) hsz i j hi hj
    refine (sliceStable_any s 108 _ (enters_of Try.func108 (by kernel_rfl) rfl) g 0 n cap _ w hL hH hblk hd hn).mono ?_
    rintro e w' ⟨rfl, d', hp', hso, hw⟩
    have hT := sorted_list sT nT hd (by rw [List.toList_toArray, map_to hs]; exact hp) hp' hso
    exact ⟨rfl, swk_grown hw, some ⟨g, 0, none⟩, cap, rfl, orow_holds (hw.holds hblk hH hp'.1) hT⟩
set_option maxRecDepth 100000 in
theorem sort_asks (s : Int) (w : World) (B Bb n : Nat) (v : Value) (xs T : List Odr) (hown : w.ownsRow B 44 5 v n (flat xs)) (hl : xs.length = n) (hs : ∀ x, x ∈ xs → osd x = s) (hn : n ≤ 40) (hB : w.cell? ⟨Bb, 1, none⟩ = some v) (hne : Bb < B) (sT : Side s T) (nT : (T.map oid).Nodup) (hp : xs.Perm T) :
    Calls Try.prog 107 #[.iface 40 v, .func (.func 109) #[] #[.pointer (some ⟨Bb, 0, none⟩)]] w fun e w' => e = .returned (.tuple #[]) ∧ w.grownBy w' v.ownBlock ∧ ∃ p c, v = .slice p n c ∧ ORow w' p T := by
  rcases hown.2 with ⟨rfl, hn0⟩ | ⟨g, cap, cur, rfl, hgB, hg, -⟩
  · subst hn0
    obtain rfl : xs = [] := List.eq_nil_of_length_eq_zero hl
    obtain rfl : T = [] := hp.symm.eq_nil
    refine (sliceStable_tiny 0 0 none (by decide) _ _ _ w).mono ?_
    rintro e w' ⟨rfl, os, rfl⟩
    exact ⟨rfl, grow_grown w os _, none, 0, rfl, .inl rfl⟩
  · have hblk : g < w.heap.size := (Array.getElem?_eq_some_iff.1 hg).1
    have hH := hold_own hown hl hs
    have hd : (xs.map to4).toArray.size = n := by simpa using hl
    have hL : LessG 109 #[.pointer (some ⟨Bb, 0, none⟩)] (enc4 s) 5 (lt4 s) g 0 n w := fun dk W hW hsz i j hi hj =>
      less_asks s g 0 n cap Bb dk W (swk_cell hW hB (by show Bb ≠ g; omega)) (hW.holds hblk hH (by rw [hsz, hd])) hsz i j hi hj
    refine (sliceStable_any s 109 _ (enters_of Try.func109 (by kernel_rfl) rfl) g 0 n cap _ w hL hH hblk hd hn).mono ?_
    rintro e w' ⟨rfl, d', hp', hso, hw⟩
    have hT := sorted_list sT nT hd (by rw [List.toList_toArray, map_to hs]; exact hp) hp' hso
    exact ⟨rfl, swk_grown hw, some ⟨g, 0, none⟩, cap, rfl, orow_holds (hw.holds hblk hH hp'.1) hT⟩
end Go.Proofs.Ytbphljnncbiddaa.Rk
namespace Go.Proofs.Ytbphljnncbiddaa.Rk
open Go.Shelf Go.RowKit Go.Lib Go.Sort Go.Maps Go.Proofs.Ytbphljnncbiddaa.Bk Go.Proofs.Ytbphljnncbiddaa.St

def keepB (x : Odr) : Bool := decide (¬ oqt x = 0) && decide (osd x = 1)
def keepA (x : Odr) : Bool := decide (¬ oqt x = 0) && !decide (osd x = 1)

/-- what bookOf's loop has: two rows of its own, their slices in one block, the result's cells. -/
structure BO (w wr : World) (v0 v1 : Value) (Bs As : List Odr) : Prop where
  below : Below w.heap.size w wr
  size : w.heap.size + 2 ≤ wr.heap.size
  bk : wr.heap[w.heap.size + 1]? = some (.cells #[v0, v1] 42 (0, 0))
  rs : Two wr w.heap.size
  o0 : wr.ownsRow (w.heap.size + 2) 44 5 v0 Bs.length (flat Bs)
  o1 : wr.ownsRow (w.heap.size + 2) 44 5 v1 As.length (flat As)
  ne : ∀ g, v0.ownBlock = some g → v1.ownBlock ≠ some g

theorem below_new (w : World) (o : Obj) : Below w.heap.size w (w.alloc o) := (Below.refl _ _).alloc (Nat.le_refl _) o
theorem bo_alloc {w wr : World} {v0 v1 : Value} {Bs As : List Odr} (h : BO w wr v0 v1 Bs As) (o : Obj) : BO w (wr.alloc o) v0 v1 Bs As :=
  ⟨h.below.trans ((below_new wr o).mono h.below.size), by have := h.size; simp; omega, ((below_new wr o).block _ (by have := h.size; omega)).trans h.bk, two_below h.rs (below_new wr o), h.o0.alloc o, h.o1.alloc o, h.ne⟩
theorem kept_of {v0 v1 : Value} (h : ∀ g, v0.ownBlock = some g → v1.ownBlock ≠ some g) : v1.ownBlock = none ∨ v1.ownBlock ≠ v0.ownBlock := by
  cases e : v1.ownBlock with
  | none => exact .inl rfl
  | some g => exact .inr fun e' => h g e'.symm e
theorem two_put {x : World} {t t' o : Nat} (h : Two x t) (ht : ¬ t' = t) (v : Value) : Two (x.setCell ⟨t', o, none⟩ v) t := by
  obtain ⟨u0, u1, h⟩ := h
  exact ⟨u0, u1, by simp [World.setCell, Array.getElem?_modify, h, ht]⟩
theorem bk_put0 {x : World} {t : Nat} {u0 u1 : Value} (h : x.heap[t]? = some (.cells #[u0, u1] 42 (0, 0))) (v : Value) : (x.setCell ⟨t, 0, none⟩ v).heap[t]? = some (.cells #[v, u1] 42 (0, 0)) := by
  simp [World.setCell, Array.getElem?_modify, h]
theorem bk_put1 {x : World} {t : Nat} {u0 u1 : Value} (h : x.heap[t]? = some (.cells #[u0, u1] 42 (0, 0))) (v : Value) : (x.setCell ⟨t, 1, none⟩ v).heap[t]? = some (.cells #[u0, v] 42 (0, 0)) := by
  simp [World.setCell, Array.getElem?_modify, h]
theorem flat_snoc (xs : List Odr) (x : Odr) : flat (xs ++ [x]) = flat xs ++ Bk.enc x := by
  rw [flat_append]; simp [flat]

/-- what an append to one of the rows leaves of the rest. -/
theorem bo_grown {w wb w1 : World} {v0 v1 : Value} {Bs As : List Odr} (h : BO w wb v0 v1 Bs As) {v : Value} {n : Nat} {fl : List Value} (hv : wb.ownsRow (w.heap.size + 2) 44 5 v n fl) (hg : wb.grownBy w1 v.ownBlock) :
    Below w.heap.size w w1 ∧ w.heap.size + 2 ≤ w1.heap.size ∧ w1.heap[w.heap.size + 1]? = some (.cells #[v0, v1] 42 (0, 0)) ∧ Two w1 w.heap.size := by
  have hb : ∀ k, k < w.heap.size + 2 → w1.heap[k]? = wb.heap[k]? := fun k hk => hg.block k (by have := h.size; omega) (fun e => by have := (hv.lt k e.symm).1; omega)
  refine ⟨h.below.grown hg h.below.size (fun j hj => by have := (hv.lt j hj).1; omega), Nat.le_trans h.size hg.size, (hb _ (by omega)).trans h.bk, ?_⟩
  obtain ⟨u0, u1, hr⟩ := h.rs
  exact ⟨u0, u1, (hb _ (by omega)).trans hr⟩

theorem bo_put0 {w wb w1 : World} {v0 v1 v' : Value} {Bs As : List Odr} {x : Odr} (h : BO w wb v0 v1 Bs As) (ho : w1.ownsRow (w.heap.size + 2) 44 5 v' (Bs.length + 1) (flat Bs ++ Bk.enc x)) (hg : wb.grownBy w1 v0.ownBlock)
    (hat : v'.ownBlock = v0.ownBlock ∨ v'.ownBlock = some wb.heap.size) : BO w (w1.setCell ⟨w.heap.size + 1, 0, none⟩ v') v' v1 (Bs ++ [x]) As := by
  obtain ⟨g1, g2, g3, g4⟩ := bo_grown h h.o0 hg
  refine ⟨g1.setCell (by simp) _, by simpa [World.setCell] using g2, bk_put0 g3 _, two_put g4 (by omega) _, ?_, ?_, ?_⟩
  · rw [flat_snoc, List.length_append]
    exact ownsRow_setCell_below ho (by simp) _
  · exact ownsRow_setCell_below (h.o1.kept hg (kept_of h.ne)) (by simp) _
  · intro g e
    rcases hat with e' | e'
    · exact h.ne g (e'.symm.trans e)
    · intro e2
      have := (h.o1.lt g e2).2
      rw [e'] at e
      cases e
      omega
theorem bo_put1 {w wb w1 : World} {v0 v1 v' : Value} {Bs As : List Odr} {x : Odr} (h : BO w wb v0 v1 Bs As) (ho : w1.ownsRow (w.heap.size + 2) 44 5 v' (As.length + 1) (flat As ++ Bk.enc x)) (hg : wb.grownBy w1 v1.ownBlock)
    (hat : v'.ownBlock = v1.ownBlock ∨ v'.ownBlock = some wb.heap.size) : BO w (w1.setCell ⟨w.heap.size + 1, 1, none⟩ v') v0 v' Bs (As ++ [x]) := by
  obtain ⟨g1, g2, g3, g4⟩ := bo_grown h h.o1 hg
  refine ⟨g1.setCell (by simp) _, by simpa [World.setCell] using g2, bk_put1 g3 _, two_put g4 (by omega) _, ?_, ?_, ?_⟩
  · exact ownsRow_setCell_below (h.o0.kept hg (kept_of (fun g e e' => h.ne g e' e))) (by simp) _
  · rw [flat_snoc, List.length_append]
    exact ownsRow_setCell_below ho (by simp) _
  · intro g e e2
    rcases hat with e' | e'
    · exact h.ne g e (e'.symm.trans e2)
    · have := (h.o0.lt g e).2
      rw [e'] at e2
      cases e2
      omega

theorem enc_cell (x : Odr) : ∀ u ∈ Bk.enc x, u.oneCell' = true := by
  intro u hu
  simp [Bk.enc] at hu
  rcases hu with rfl | rfl | rfl | rfl | rfl <;> rfl

theorem take_keep (f : Odr → Bool) {xs : List Odr} {k : Nat} (hk : k < xs.length) : (xs.take (k + 1)).filter f = (xs.take k).filter f ++ (if f xs[k]! = true then [xs[k]!] else []) := by
  rw [List.take_add_one, List.getElem?_eq_getElem hk, List.filter_append, getElem!_pos xs k hk]
  cases h : f xs[k] <;> simp [h]
end Go.Proofs.Ytbphljnncbiddaa.Rk
namespace Go.Proofs.Ytbphljnncbiddaa.Rk
open Go.Shelf Go.RowKit Go.Lib Go.Sort Go.Maps Go.Proofs.Ytbphljnncbiddaa.Bk
open Go.Proofs.Ytbphljnncbiddaa.St hiding hide

theorem bk_cells {x : World} {t : Nat} {u0 u1 : Value} (h : x.heap[t]? = some (.cells #[u0, u1] 42 (0, 0))) : x.cell? ⟨t, 0, none⟩ = some u0 ∧ x.cell? ⟨t, 1, none⟩ = some u1 ∧ x.frozen? ⟨t, 0, none⟩ = false ∧ x.frozen? ⟨t, 1, none⟩ = false := by
  refine ⟨?_, ?_, ?_, ?_⟩ <;> simp [World.cell?, World.frozen?, h]
theorem bo_start (w : World) : BO w ((w.alloc (.cells #[.slice none 0 0, .slice none 0 0] 42)).alloc (.cells #[.slice none 0 0, .slice none 0 0] 42)) (.slice none 0 0) (.slice none 0 0) [] [] := by
  refine ⟨(below_new w _).trans ((below_new _ _).mono (by simp)), by simp, ?_, ?_, World.ownsRow_nil _ _ _ _, World.ownsRow_nil _ _ _ _, fun g e => by simp [Value.ownBlock] at e⟩
  · have := heap_alloc_new (w.alloc (.cells #[.slice none 0 0, .slice none 0 0] 42)) (.cells #[.slice none 0 0, .slice none 0 0] 42)
    simpa using this
  · refine two_below ⟨.slice none 0 0, .slice none 0 0, ?_⟩ (below_new _ _)
    exact heap_alloc_new w _

theorem br_grown {w wb w1 : World} {v0 v1 v : Value} {n : Nat} {fl : List Value} (h1 : Below w.heap.size w wb) (h2 : w.heap.size + 2 ≤ wb.heap.size) (h3 : wb.heap[w.heap.size + 1]? = some (.cells #[v0, v1] 42 (0, 0))) (h4 : Two wb w.heap.size)
    (hv : wb.ownsRow (w.heap.size + 2) 44 5 v n fl) (hg : wb.grownBy w1 v.ownBlock) :
    Below w.heap.size w w1 ∧ w.heap.size + 2 ≤ w1.heap.size ∧ w1.heap[w.heap.size + 1]? = some (.cells #[v0, v1] 42 (0, 0)) ∧ Two w1 w.heap.size := by
  have hb : ∀ k, k < w.heap.size + 2 → w1.heap[k]? = wb.heap[k]? := fun k hk => hg.block k (by omega) (fun e => by have := (hv.lt k e.symm).1; omega)
  refine ⟨h1.grown hg h1.size (fun j hj => by have := (hv.lt j hj).1; omega), Nat.le_trans h2 hg.size, (hb _ (by omega)).trans h3, ?_⟩
  obtain ⟨u0, u1, hr⟩ := h4
  exact ⟨u0, u1, (hb _ (by omega)).trans hr⟩
theorem orow_grown {w w' : World} {p : Option Addr} {xs : List Odr} {row : Option Nat} (h : ORow w p xs) (hg : w.grownBy w' row) (hne : ∀ a, p = some a → some a.block ≠ row) : ORow w' p xs := by
  rcases h with rfl | ⟨b, off, rfl, hc⟩
  · exact .inl rfl
  · exact .inr ⟨b, off, rfl, fun j hj i v hv => hg.cell (hc j hj i v hv) (hne ⟨b, off, none⟩ rfl)⟩
theorem orow_below_two {w : World} {p : Option Addr} {xs : List Odr} {t : Nat} {v0 v1 : Value} (h : ORow w p xs) (hne : ∀ a, p = some a → a.block ≠ t) : ORow ((w.setCell ⟨t, 0, none⟩ v0).setCell ⟨t, 1, none⟩ v1) p xs := by
  rcases h with rfl | ⟨b, off, rfl, hc⟩
  · exact .inl rfl
  · refine .inr ⟨b, off, rfl, fun j hj i v hv => ?_⟩
    have hb : b ≠ t := hne _ rfl
    rw [set_other _ hb, set_other _ hb]
    exact hc j hj i v hv

set_option maxHeartbeats 2000000 in
set_option maxRecDepth 100000 in
theorem bookOf_any (p : Option Addr) (n c : Nat) (xs TB TA : List Odr) (w : World) (hl : xs.length = n) (hn : n ≤ 1000) (h : ORow w p xs)
    (sB : Side 1 TB) (nB : (TB.map oid).Nodup) (pB : (xs.filter keepB).Perm TB) (lB : TB.length ≤ 40) (sA : Side (-1) TA) (nA : (TA.map oid).Nodup) (pA : (xs.filter keepA).Perm TA) (lA : TA.length ≤ 40) :
    Calls Try.prog 87 #[.slice p n c] w fun e w' => ∃ p0 c0 p1 c1, e = .returned (.agg #[.slice p0 TB.length c0, .slice p1 TA.length c1]) ∧ OV w' p0 c0 TB ∧ OV w' p1 c1 TA ∧ (∀ a, p0 = some a → w.heap.size ≤ a.block) ∧ (∀ a, p1 = some a → w.heap.size ≤ a.block) ∧ Below w.heap.size w w' := by
  obtain ⟨i0, hi, hz0, hz1, hz2⟩ := info_parts Try.infoO
  have HR := hide h
  have HL := hide hl
  have S0 := hide (fun wr v0 (ho : wr.ownsRow (w.heap.size + 2) 44 5 v0 (xs.filter keepB).length (flat (xs.filter keepB))) hb => sort_bids 1 wr (w.heap.size + 2) (w.heap.size + 1) _ v0 _ TB ho rfl (fun x hx => sB.sd x (pB.mem_iff.1 hx)) (by rw [pB.length_eq]; exact lB) hb (by omega) sB nB pB)
  have S1 := hide (fun wr v1 (ho : wr.ownsRow (w.heap.size + 2) 44 5 v1 (xs.filter keepA).length (flat (xs.filter keepA))) hb => sort_asks (-1) wr (w.heap.size + 2) (w.heap.size + 1) _ v1 _ TA ho rfl (fun x hx => sA.sd x (pA.mem_iff.1 hx)) (by rw [pA.length_eq]; exact lA) hb (by omega) sA nA pA)
  have E0 := hide pB.length_eq
  have E1 := hide pA.length_eq
  clear h hl sB nB pB lB sA nA pA lA
  go_enter Try.func87, Try.ntmps87
  go_wp2
  go_loopw [8] (fun vi wr => ∃ (k : Nat) (v0 v1 : Value), vi = .int .i64 k ∧ k ≤ n ∧ Hid (BO w wr v0 v1 ((xs.take k).filter keepB) ((xs.take k).filter keepA))) (fun vi _ => n - (intOf vi).toNat)
  case atStart => exact ⟨0, _, _, rfl, Nat.zero_le _, bo_start w⟩
  case round =>
    obtain ⟨k, v0, v1, rfl, hk, HB⟩ := hrel
    by_cases hlt : k < n
    · have hltz : (k : Int) < n := by omega
      have hkx : k < xs.length := by rw [HL.out]; exact hlt
      obtain ⟨b, off, rfl, hc⟩ : ∃ b off, p = some ⟨b, off, none⟩ ∧ ∀ j, j < xs.length → ∀ i v, (Bk.enc xs[j]!)[i]? = some v → w.cell? ⟨b, off + j * 5 + i, none⟩ = some v := HR.out.resolve_left (fun e => by rw [e] at hkx; simp at hkx)
      have HC := hide hc
      clear hc
      obtain ⟨c0, c1, c2, c3, c4⟩ := orow_cells (w := wr) (b := b) (off := off) (xs := xs) (fun j hj i v hv => (HB.out.below.cell (World.block_lt_of_cell? _ _ (HC.out j hj i v hv))).trans (HC.out j hj i v hv)) hkx
      have KB := hide (take_keep keepB hkx)
      have KA := hide (take_keep keepA hkx)
      have hBl : ((xs.take k).filter keepB).length ≤ 1000 := Nat.le_trans (List.length_filter_le _ _) (by simp; omega)
      have hAl : ((xs.take k).filter keepA).length ≤ 1000 := Nat.le_trans (List.length_filter_le _ _) (by simp; omega)
      generalize hx : xs[k]! = x at c0 c1 c2 c3 c4 KB KA
      clear hx
      generalize (xs.take k).filter keepB = Bs at HB KB hBl
      generalize (xs.take k).filter keepA = As at HB KA hAl
      obtain ⟨xa, xc, xd, xp, xq⟩ := x
      dsimp only [oid, oac, osd, opr, oqt] at c0 c1 c2 c3 c4
      obtain ⟨b0, b1, -, -⟩ := bk_cells HB.out.bk
      by_cases hq0 : xq = 0
      · subst hq0
        have HN : Hid (BO w (wr.alloc (.cells #[.int .i64 xa, .int .i64 xc, .int .i64 xd, .int .i64 xp, .int .i64 0] 44)) v0 v1 ((xs.take (k + 1)).filter keepB) ((xs.take (k + 1)).filter keepA)) := by
          rw [KB.out, KA.out]
          exact hide (by simpa [keepB, keepA] using bo_alloc HB.out _)
        go_wp2
        go_roundw
        case rel => exact ⟨k + 1, v0, v1, by go_num, by omega, HN⟩
        case measure => simp [intOf]; omega
      · have hq0b : (xq == 0) = false := by simp [hq0]
        by_cases hd1 : xd = 1
        · subst hd1
          have HA2 := hide (bo_alloc (bo_alloc HB.out (.cells #[.int .i64 xa, .int .i64 xc, .int .i64 1, .int .i64 xp, .int .i64 xq] 44)) (.cells #[.int .i64 xa, .int .i64 xc, .int .i64 1, .int .i64 xp, .int .i64 xq] 44))
          have b0' := fun o => cell_alloc b0 o
          have NW : Hid (∀ jj u, (Bk.enc (xa, xc, 1, xp, xq))[jj]? = some u → ((wr.alloc (.cells #[.int .i64 xa, .int .i64 xc, .int .i64 1, .int .i64 xp, .int .i64 xq] 44)).alloc (.cells #[.int .i64 xa, .int .i64 xc, .int .i64 1, .int .i64 xp, .int .i64 xq] 44)).cell? ((⟨wr.heap.size + 1, 0, none⟩ : Addr).add jj) = some u) := fun jj u hu => by
            rw [add_lit, Nat.zero_add]
            exact new_cell2 wr _ _ _ jj u (by simpa [Bk.enc] using hu)
          have SZ : Hid (w.heap.size + 2 ≤ ((wr.alloc (.cells #[.int .i64 xa, .int .i64 xc, .int .i64 1, .int .i64 xp, .int .i64 xq] 44)).alloc (.cells #[.int .i64 xa, .int .i64 xc, .int .i64 1, .int .i64 xp, .int .i64 xq] 44)).heap.size) := HA2.out.size
          go_wp2_with (at_builtin; refine wpList_append_own_at _ rfl (.tmp 19) (.tmp 21) 40 rfl (w.heap.size + 2) 44 i0 (odrV noOdr) 5 40 Try.underlying40 hi hz0 hz1 hz2 rfl (by decide) v0 Bs.length (flat Bs) rfl HA2.out.o0 ⟨wr.heap.size + 1, 0, none⟩ 1 1 (Bk.enc (xa, xc, 1, xp, xq)) rfl rfl NW.out (enc_cell _) (by unfold maxLen; omega) (by omega) SZ.out ?_; intro v' w1 hown1 hgrow1 hnil1 hat1; have HP := hide (bo_put0 HA2.out hown1 hgrow1 hat1); obtain ⟨g1, g2, g3, g4⟩ := bo_grown HA2.out HA2.out.o0 hgrow1; obtain ⟨d0, d1, d2, d3⟩ := bk_cells g3; clear hgrow1 hnil1 hat1 g1 g2 g3 g4; obtain ⟨pv, cv, rfl, -, -⟩ := own_ov (xs := Bs ++ [(xa, xc, 1, xp, xq)]) (by rw [flat_snoc, List.length_append]; exact hown1))
          have HN : Hid (BO w (w1.setCell ⟨w.heap.size + 1, 0, none⟩ (.slice pv (Bs.length + 1) cv)) (.slice pv (Bs.length + 1) cv) v1 ((xs.take (k + 1)).filter keepB) ((xs.take (k + 1)).filter keepA)) := by
            rw [KB.out, KA.out]
            exact hide (by simpa [keepB, keepA, hq0] using HP.out)
          go_roundw
          case rel => exact ⟨k + 1, _, v1, by go_num, by omega, HN⟩
          case measure => simp [intOf]; omega
        · have hd1b : (xd == 1) = false := by simp [hd1]
          have HA2 := hide (bo_alloc (bo_alloc HB.out (.cells #[.int .i64 xa, .int .i64 xc, .int .i64 xd, .int .i64 xp, .int .i64 xq] 44)) (.cells #[.int .i64 xa, .int .i64 xc, .int .i64 xd, .int .i64 xp, .int .i64 xq] 44))
          have b1' := fun o => cell_alloc b1 o
          have NW : Hid (∀ jj u, (Bk.enc (xa, xc, xd, xp, xq))[jj]? = some u → ((wr.alloc (.cells #[.int .i64 xa, .int .i64 xc, .int .i64 xd, .int .i64 xp, .int .i64 xq] 44)).alloc (.cells #[.int .i64 xa, .int .i64 xc, .int .i64 xd, .int .i64 xp, .int .i64 xq] 44)).cell? ((⟨wr.heap.size + 1, 0, none⟩ : Addr).add jj) = some u) := fun jj u hu => by
            rw [add_lit, Nat.zero_add]
            exact new_cell2 wr _ _ _ jj u (by simpa [Bk.enc] using hu)
          have SZ : Hid (w.heap.size + 2 ≤ ((wr.alloc (.cells #[.int .i64 xa, .int .i64 xc, .int .i64 xd, .int .i64 xp, .int .i64 xq] 44)).alloc (.cells #[.int .i64 xa, .int .i64 xc, .int .i64 xd, .int .i64 xp, .int .i64 xq] 44)).heap.size) := HA2.out.size
          go_wp2_with (at_builtin; refine wpList_append_own_at _ rfl (.tmp 25) (.tmp 27) 40 rfl (w.heap.size + 2) 44 i0 (odrV noOdr) 5 40 Try.underlying40 hi hz0 hz1 hz2 rfl (by decide) v1 As.length (flat As) rfl HA2.out.o1 ⟨wr.heap.size + 1, 0, none⟩ 1 1 (Bk.enc (xa, xc, xd, xp, xq)) rfl rfl NW.out (enc_cell _) (by unfold maxLen; omega) (by omega) SZ.out ?_; intro v' w1 hown1 hgrow1 hnil1 hat1; have HP := hide (bo_put1 HA2.out hown1 hgrow1 hat1); obtain ⟨g1, g2, g3, g4⟩ := bo_grown HA2.out HA2.out.o1 hgrow1; obtain ⟨d0, d1, d2, d3⟩ := bk_cells g3; clear hgrow1 hnil1 hat1 g1 g2 g3 g4; obtain ⟨pv, cv, rfl, -, -⟩ := own_ov (xs := As ++ [(xa, xc, xd, xp, xq)]) (by rw [flat_snoc, List.length_append]; exact hown1))
          have HN : Hid (BO w (w1.setCell ⟨w.heap.size + 1, 1, none⟩ (.slice pv (As.length + 1) cv)) v0 (.slice pv (As.length + 1) cv) ((xs.take (k + 1)).filter keepB) ((xs.take (k + 1)).filter keepA)) := by
            rw [KB.out, KA.out]
            exact hide (by simpa [keepB, keepA, hq0, hd1] using HP.out)
          go_roundw
          case rel => exact ⟨k + 1, v0, _, by go_num, by omega, HN⟩
          case measure => simp [intOf]; omega
    · have hk' : k = n := by omega
      subst hk'
      rw [show xs.take k = xs from List.take_of_length_le (by rw [HL.out]; exact Nat.le_refl _)] at HB
      obtain ⟨b0, b1, -, -⟩ := bk_cells HB.out.bk
      clear b1
      have HC0 := hide (S0.out wr v0 HB.out.o0 b0)
      obtain ⟨p0, c0, e0, o0, -⟩ := own_ov HB.out.o0
      have V0 := hide (And.intro o0.nil o0.cap)
      clear o0
      subst e0
      go_wp2_with fail
      refine HC0.out.mono ?_
      rintro e w2 ⟨rfl, hg2, q0, d0, he0, hr0⟩
      cases he0
      obtain ⟨y1, y2, y3, y4⟩ := bo_grown HB.out HB.out.o0 hg2
      have O1 := hide (HB.out.o1.kept hg2 (kept_of HB.out.ne))
      have R0 := hide hr0
      obtain ⟨b0', b1, -, -⟩ := bk_cells y3
      have HC1 := hide (S1.out w2 v1 O1.out b1)
      have Y := hide (And.intro y1 (And.intro y2 (And.intro y3 y4)))
      clear b0 y1 y2 y3 y4 hr0 hg2
      obtain ⟨p1, c1, e1, o1, -⟩ := own_ov O1.out
      have V1 := hide (And.intro o1.nil o1.cap)
      clear o1
      subst e1
      go_wp2_with fail
      refine HC1.out.mono ?_
      rintro e w3 ⟨rfl, hg3, q1, d1, he1, hr1⟩
      cases he1
      obtain ⟨z1, z2, z3, z4⟩ := br_grown Y.out.1 Y.out.2.1 Y.out.2.2.1 Y.out.2.2.2 O1.out hg3
      have R0' := hide (orow_grown R0.out hg3 (fun a ha e => HB.out.ne a.block (by rw [ha]; rfl) e.symm))
      have R1 := hide hr1
      have Z1 := hide z1
      have Z4 := hide z4
      obtain ⟨g0, g1, -, -⟩ := bk_cells z3
      obtain ⟨u0, u1, t0, t1, t2, t3⟩ := two_facts z4
      clear hg3 hr1 z1 z2 z3 z4 b1 b0'
      go_wp2
      obtain ⟨s0, s1⟩ := two_set Z4.out (.slice p0 (xs.filter keepB).length c0) (.slice p1 (xs.filter keepA).length c1)
      refine bodyPost_ret (v := .agg #[.slice p0 (xs.filter keepB).length c0, .slice p1 (xs.filter keepA).length c1]) (by simp [results, Try.results87, go_sem, s0, s1]) rfl ⟨p0, c0, p1, c1, by rw [E0.out, E1.out], ⟨?_, V0.out.1, by rw [← E0.out]; exact V0.out.2⟩, ⟨?_, V1.out.1, by rw [← E1.out]; exact V1.out.2⟩, ?_, ?_, two_below_set Z1.out (Nat.le_refl _) _ _⟩
      · exact orow_below_two R0'.out (fun a ha => by have := (HB.out.o0.lt a.block (by rw [ha]; rfl)).1; omega)
      · exact orow_below_two R1.out (fun a ha => by have := (O1.out.lt a.block (by rw [ha]; rfl)).1; omega)
      · exact fun a ha => by have := (HB.out.o0.lt a.block (by rw [ha]; rfl)).1; omega
      · exact fun a ha => by have := (O1.out.lt a.block (by rw [ha]; rfl)).1; omega
end Go.Proofs.Ytbphljnncbiddaa.Rk
namespace Go.Proofs.Ytbphljnncbiddaa.Rk
open Go.RowKit Go.Sort Go.Maps Go.Proofs.Ytbphljnncbiddaa.Mix Go.Proofs.Ytbphljnncbiddaa.Bk

theorem flat_len (xs : List Odr) : (flat xs).length = xs.length * 5 := by
  induction xs with
  | nil => rfl
  | cons x l ih => rw [flat_cons, List.length_append, ih, enc_length]; simp; omega
theorem ov_news {w : World} {ad : Addr} {c : Nat} {xs : List Odr} (h : OV w (some ad) c xs) (j : Nat) (u : Value) (hu : (flat xs)[j]? = some u) : w.cell? (ad.add j) = some u := by
  rcases h.row with rfl | ⟨b, off, e, hc⟩
  · simp [flat] at hu
  · cases e
    have hj : j < xs.length * 5 := by
      have := (List.getElem?_eq_some_iff.1 hu).1
      rwa [flat_len] at this
    have := flat_get xs (j / 5) (j % 5) (by omega) (Nat.mod_lt _ (by decide))
    rw [show j / 5 * 5 + j % 5 = j by omega, hu] at this
    have := hc (j / 5) (by omega) (j % 5) u this.symm
    rw [add_lit]
    rwa [show off + j / 5 * 5 + j % 5 = off + j by omega] at this
theorem flat_cell (xs : List Odr) : ∀ u ∈ flat xs, u.oneCell' = true := by
  intro u hu
  obtain ⟨x, _, hx⟩ := List.mem_flatMap.1 hu
  simp [Bk.enc] at hx
  rcases hx with rfl | rfl | rfl | rfl | rfl <;> rfl

/-- a row that was made behind W: it holds these orders, and may be written up to its end. -/
structure AR (W x : World) (g cap : Nat) (xs : List Odr) : Prop where
  le : W.heap.size ≤ g
  lt : g < x.heap.size
  cells : ∀ j u, (flat xs)[j]? = some u → x.cell? ⟨g, j, none⟩ = some u
  spare : ∀ j, j < cap * 5 → (x.cell? ⟨g, j, none⟩).isSome = true ∧ x.frozen? ⟨g, j, none⟩ = false
  fits : xs.length ≤ cap
theorem ar_same {W x y : World} {g cap : Nat} {xs : List Odr} (h : AR W x g cap xs) (hs : x.heap.size ≤ y.heap.size) (hb : y.heap[g]? = x.heap[g]?) : AR W y g cap xs :=
  ⟨h.le, Nat.lt_of_lt_of_le h.lt hs, fun j u hu => (World.cell?_of_block (a := ⟨g, j, none⟩) hb).trans (h.cells j u hu), fun j hj => by
    rw [World.cell?_of_block (a := ⟨g, j, none⟩) hb, World.frozen?_of_block (a := ⟨g, j, none⟩) hb]
    exact h.spare j hj, h.fits⟩
theorem ar_new {W x : World} (h : W.heap.size ≤ x.heap.size) : AR W (x.alloc (.cells #[] 44)) x.heap.size 0 [] :=
  ⟨h, by simp, fun j u hu => by simp [flat] at hu, fun j hj => by omega, Nat.le_refl _⟩
theorem ar_own {W x : World} {v : Value} {B n : Nat} {xs : List Odr} (h : x.ownsRow B 44 5 v n (flat xs)) (hn : xs.length = n) (h0 : 0 < n) (hB : W.heap.size ≤ B) : ∃ g cap, v = .slice (some ⟨g, 0, none⟩) n cap ∧ AR W x g cap xs ∧ B ≤ g := by
  have h' := h
  rcases h.2 with ⟨rfl, e⟩ | ⟨g, cap, cur, rfl, hb, hg, hnc, hm, hcs, ht⟩
  · omega
  · refine ⟨g, cap, rfl, ⟨Nat.le_trans hB hb, (Array.getElem?_eq_some_iff.1 hg).1, fun j u hu => ?_, fun j hj => ?_, by omega⟩, hb⟩
    · have hj : j < n * 5 := by
        have := (List.getElem?_eq_some_iff.1 hu).1
        rwa [flat_len, hn] at this
      rw [h'.cellAt j hj]
      exact hu
    · have hjc : j < cur.size := by omega
      simp [World.cell?, World.frozen?, hg, hjc]

/-- an append to such a row: it stays one, and the longer one is one. -/
theorem ar_append {W x : World} {g cap : Nat} {xs ys : List Odr} (h : AR W x g cap xs) {ad : Addr} {c : Nat} (hy : OV x (some ad) c ys) (hl : xs.length + ys.length ≤ 80) {i0 : TypeInfo} (hi : Try.prog.info? 44 = some i0) (hz0 : i0.zero = some (odrV noOdr)) (hz1 : i0.size = 5) (hz2 : i0.bytes = 40)
    {ops : Array Oper} {rest : List Oper} {o : Oper} {a : Act} {Q : Exit → Act → World → Prop} (hgd : o.guard = none) (s t : Operand) (ho : o.op = .call { callee := .builtin .append, args := #[s, t], argTypes := #[40, 40] })
    (hs : a.eval s = .slice (some ⟨g, 0, none⟩) xs.length cap) (ht : a.eval t = .slice (some ad) ys.length c)
    (hK : ∀ g' cap' x', AR W x' g' cap' (xs ++ ys) → AR W x' g cap xs → Below W.heap.size x x' → wpList Try.prog ops Q rest (a.put o.dst (.slice (some ⟨g', 0, none⟩) (xs ++ ys).length cap')) x') : wpList Try.prog ops Q (o :: rest) a x := by
  refine wpList_append_arg x hgd s t 40 ho 44 i0 (odrV noOdr) 5 40 Try.underlying40 hi hz0 hz1 hz2 rfl (by decide) g 0 xs.length cap (flat xs) hs (flat_len xs) (fun j u hu => by rw [Nat.zero_add]; exact h.cells j u hu) ad ys.length c (flat ys) ht (flat_len ys) (fun j u hu => ov_news hy j u hu) (flat_cell ys) ?_ (by unfold maxLen; omega) (by omega) ?_ ?_
  · intro hr j hj
    rw [flat_len] at hj
    rw [Nat.zero_add]
    exact h.spare _ (by omega)
  · intro hr
    have hin : ∀ j, j < (flat ys).length → (x.cell? ⟨g, 0 + xs.length * 5 + j, none⟩).isSome = true := fun j hj => by
      rw [flat_len] at hj
      rw [Nat.zero_add]
      exact (h.spare _ (by omega)).1
    have hsp : ∀ j, j < cap * 5 → ((x.setCells g (0 + xs.length * 5) (flat ys)).cell? ⟨g, j, none⟩).isSome = true ∧ (x.setCells g (0 + xs.length * 5) (flat ys)).frozen? ⟨g, j, none⟩ = false := fun j hj =>
      ⟨World.isSome_setCells g (flat ys) _ x _ (h.spare j hj).1, by rw [World.frozen?_setCells]; exact (h.spare j hj).2⟩
    have hold : ∀ j u, (flat xs)[j]? = some u → (x.setCells g (0 + xs.length * 5) (flat ys)).cell? ⟨g, j, none⟩ = some u := fun j u hu => by
      have hj := (List.getElem?_eq_some_iff.1 hu).1
      rw [flat_len] at hj
      rw [World.cell?_setCells_out g (flat ys) _ x ⟨g, j, none⟩ (fun _ _ => by show j < _ ∨ _; omega)]
      exact h.cells j u hu
    have := hK g cap (x.setCells g (0 + xs.length * 5) (flat ys)) ⟨h.le, Nat.lt_of_lt_of_le h.lt (below_setCells h.le (flat ys) _ x (Below.refl _ x)).size, fun j u hu => ?_, hsp, by rw [List.length_append]; exact hr⟩ ⟨h.le, Nat.lt_of_lt_of_le h.lt (below_setCells h.le (flat ys) _ x (Below.refl _ x)).size, hold, hsp, h.fits⟩ ?_
    · rw [List.length_append] at this
      exact this
    · rw [flat_append] at hu
      by_cases hj : j < (flat xs).length
      · rw [List.getElem?_append_left hj] at hu
        exact hold j u hu
      · rw [List.getElem?_append_right (by omega)] at hu
        have hj2 := (List.getElem?_eq_some_iff.1 hu)
        obtain ⟨hj2, hj3⟩ := hj2
        have := World.cell?_setCells_in g (flat ys) (0 + xs.length * 5) x hin (j - (flat xs).length) hj2
        rw [show 0 + xs.length * 5 + (j - (flat xs).length) = j by rw [flat_len] at hj ⊢; omega] at this
        rw [this, hj3]
    · exact below_setCells h.le (flat ys) _ x (Below.refl _ x)
  · intro hfull v' w' hown hg
    have hxy : (xs ++ ys).length = xs.length + ys.length := List.length_append
    obtain ⟨g', cap', rfl, har, -⟩ := ar_own (W := W) (by rw [flat_append]; exact hown) hxy (by have := h.fits; omega) (Nat.le_trans h.le (Nat.le_of_lt h.lt))
    have := hK g' cap' w' har (ar_same h hg.size (hg.block g h.lt (by simp))) ⟨hg.os, hg.tape, hg.output, hg.size, fun k hk => hg.block k (by have := h.le; have := h.lt; omega) (by simp)⟩
    rw [hxy] at this
    exact this

/-- a book, as it lies. -/
abbrev bkO (p : Option Addr) (bids : List Odr) (p' : Option Addr) (asks : List Odr) (c c' : Nat) : Obj := .cells #[.slice p bids.length c, .slice p' asks.length c'] 42

theorem ar_zero {W x y : World} {g : Nat} (h : AR W x g 0 []) (hs : x.heap.size ≤ y.heap.size) : AR W y g 0 [] :=
  ⟨h.le, Nat.lt_of_lt_of_le h.lt hs, fun j u hu => by simp [flat] at hu, fun j hj => by omega, Nat.le_refl _⟩
set_option maxHeartbeats 2000000 in
set_option maxRecDepth 100000 in
theorem orders_any (p p' : Option Addr) (c c' : Nat) (bids asks : List Odr) (w : World) (h : OV w p c bids) (h' : OV w p' c' asks) (hl : bids.length + asks.length ≤ 40) :
    Calls Try.prog 85 #[.agg #[.slice p bids.length c, .slice p' asks.length c']] w fun e w' => ∃ g cap, e = .returned (.slice (some ⟨g, 0, none⟩) (bids ++ asks).length cap) ∧ AR w w' g cap (bids ++ asks) ∧ Below w.heap.size w w' := by
  obtain ⟨i0, hi, hz0, hz1, hz2⟩ := info_parts Try.infoO
  have mixed : Try.prog.follows .mixedOrders = true := by kernel_rfl
  have HB := hide h
  have HA := hide h'
  clear h h'
  go_enter Try.func85, Try.ntmps85
  go_wp2_with fail
  obtain ⟨W, hW⟩ : ∃ W, W = w.alloc (bkO p bids p' asks c c') := ⟨_, rfl⟩
  have BW : Hid (Below w.heap.size w W) := by rw [hW]; exact (Below.refl _ _).alloc (Nat.le_refl _) _
  have e0 : W.cell? ⟨w.heap.size, 0, none⟩ = some (.slice p bids.length c) := by rw [hW]; exact new_cell w _ _ 0 _ rfl
  have e1 : W.cell? ⟨w.heap.size, 1, none⟩ = some (.slice p' asks.length c') := by rw [hW]; exact new_cell w _ _ 1 _ rfl
  rw [← hW]
  clear hW
  have hC : ∀ q : InC (fun x => Below W.heap.size W x), ∀ x v, W.cell? x = some v → q.w.cell? x = some v := fun q x v hx => (q.h.cell (World.block_lt_of_cell? _ _ hx)).trans hx
  generalize hCC : (fun x => Below W.heap.size W x) = C at hC
  have g0 := fun q => hC q _ _ e0
  have g1 := fun q => hC q _ _ e1
  have CE := hide hCC
  have CW : Hid (∀ x, C x ↔ Below W.heap.size W x) := fun x => by rw [← CE.out]
  have C0 : Hid (C { W with drawn := W.drawn + 1 }) := by rw [← CE.out]; exact below_drawn _
  clear hC hCC e0 e1
  refine wp_region_mix [(1, true), (2, true), (4, true), (5, true), (0, false), (3, false), (6, false), (7, true)] C mixed (by kernel_rfl) C0.out ?_
  repeat (refine mix_still (by rfl) ?_; go_big_quiet_step (exact rfl); refine wpQuiet_nil ?_)
  refine mix_main (by rfl) ?_
  rintro ⟨x1, hx1⟩
  go_wp2
  have hb1 := (CW.out x1).1 hx1
  refine ⟨fun x => C x ∧ AR W x x1.heap.size 0 [], ⟨(CW.out _).2 (hb1.alloc hb1.size _), ar_new hb1.size⟩, fun x hx => hx.1, ?_⟩
  generalize x1.heap.size = g
  clear hb1 hx1 x1 g0 g1
  have BR : Hid (∀ q d ys, OV w q d ys → ∀ x, C x → OV x q d ys) := fun q d ys hq x hx => hq.below (BW.out.trans (((CW.out x).1 hx).mono BW.out.size))
  have CG : Hid (∀ x y, C x → Below W.heap.size x y → C y) := fun x y hx hy => (CW.out y).2 (((CW.out x).1 hx).trans hy)
  cases p with
  | none =>
    obtain rfl := HB.out.nil rfl
    obtain rfl : bids = [] := by
      rcases HB.out.row with h | ⟨_, _, e, _⟩
      · exact h
      · cases e
    refine mix_main (by rfl) ?_
    rintro ⟨x3, hx3⟩
    go_wp2
    refine ⟨fun x => C x ∧ AR W x g 0 [], hx3, fun _ h => h, ?_⟩
    clear hx3 x3
    generalize hD : (fun x => C x ∧ AR W x g 0 []) = D
    have DD : ∀ x, D x ↔ C x ∧ AR W x g 0 [] := fun x => by rw [← hD]
    have DC : Hid (∀ x, D x → C x) := fun x hx => ((DD x).1 hx).1
    have DA : Hid (∀ x, D x → AR W x g 0 []) := fun x hx => ((DD x).1 hx).2
    have DM : Hid (∀ x y, D x → Below W.heap.size x y → AR W y g 0 [] → D y) := fun x y hx hb ha => (DD y).2 ⟨CG.out x y ((DD x).1 hx).1 hb, ha⟩
    clear hD DD
    cases p' with
    | none =>
      obtain rfl := HA.out.nil rfl
      obtain rfl : asks = [] := by
        rcases HA.out.row with h | ⟨_, _, e, _⟩
        · exact h
        · cases e
      refine mix_main (by rfl) ?_
      rintro ⟨x6, hx6⟩
      dsimp only
      have hfit := (DA.out x6 hx6).fits
      go_wp2
      refine ⟨D, hx6, fun _ h => h, ?_⟩
      clear hx6 x6
      repeat (refine mix_still (by rfl) ?_; go_big_quiet_step (exact rfl); refine wpQuiet_nil ?_)
      refine mix_end ?_
      rintro ⟨x9, hx9⟩
      dsimp only
      have A9 := hide (DA.out x9 hx9)
      have B9 := hide (BW.out.trans (((CW.out x9).1 (DC.out x9 hx9)).mono BW.out.size))
      clear hx9
      go_wp2
      go_ret
      exact ⟨g, 0, by rw [List.append_nil]; rfl, ⟨Nat.le_trans BW.out.size A9.out.le, A9.out.lt, by rw [List.append_nil]; exact A9.out.cells, A9.out.spare, by rw [List.append_nil]; exact A9.out.fits⟩, B9.out⟩
    | some ad' =>
      have HA' := hide (BR.out _ _ _ HA.out)
      refine mix_main (by rfl) ?_
      rintro ⟨x6, hx6⟩
      dsimp only
      have OX := hide (HA'.out x6 (DC.out x6 hx6))
      have AX := hide (DA.out x6 hx6)
      have DX := hide hx6
      clear hx6
      go_wp2_with (at_builtin; refine ar_append AX.out OX.out (by omega) hi hz0 hz1 hz2 rfl _ _ rfl rfl rfl ?_; intro g2 cap2 x7 har har0 hbel)
      refine ⟨fun x => D x ∧ AR W x g2 cap2 ([] ++ asks), ⟨DM.out x6 x7 DX.out hbel har0, har⟩, fun x hx => hx.1, ?_⟩
      clear har har0 hbel OX AX DX x6 x7
      generalize hE : (fun x => D x ∧ AR W x g2 cap2 ([] ++ asks)) = E
      have EE : Hid (∀ x, E x ↔ D x ∧ AR W x g2 cap2 ([] ++ asks)) := fun x => by rw [← hE]
      clear hE
      repeat (refine mix_still (by rfl) ?_; go_big_quiet_step (exact rfl); refine wpQuiet_nil ?_)
      refine mix_end ?_
      rintro ⟨x9, hx9⟩
      dsimp only
      have A9 := hide ((EE.out x9).1 hx9).2
      have B9 := hide (BW.out.trans (((CW.out x9).1 (DC.out x9 ((EE.out x9).1 hx9).1)).mono BW.out.size))
      clear hx9
      go_wp2
      go_ret
      exact ⟨g2, cap2, by rw [List.length_append]; first | rfl | (rw [List.length_nil, Nat.zero_add]; rfl), ⟨Nat.le_trans BW.out.size A9.out.le, A9.out.lt, A9.out.cells, A9.out.spare, A9.out.fits⟩, B9.out⟩
  | some ad =>
    have HB' := hide (BR.out _ _ _ HB.out)
    refine mix_main (by rfl) ?_
    rintro ⟨x3, hx3⟩
    dsimp only
    have OX := hide (HB'.out x3 hx3.1)
    have AX := hide hx3.2
    have CX := hide hx3.1
    clear hx3
    go_wp2_with (at_builtin; refine ar_append AX.out OX.out (by simp; omega) hi hz0 hz1 hz2 rfl _ _ rfl rfl rfl ?_; intro g' cap' x' har har0 hbel)
    refine ⟨fun x => (C x ∧ AR W x g 0 []) ∧ AR W x g' cap' bids, ⟨⟨CG.out x3 x' CX.out hbel, har0⟩, har⟩, fun x hx => hx.1, ?_⟩
    clear har har0 hbel OX AX CX x3 x'
    generalize hD : (fun x => (C x ∧ AR W x g 0 []) ∧ AR W x g' cap' bids) = D
    have DD : ∀ x, D x ↔ (C x ∧ AR W x g 0 []) ∧ AR W x g' cap' bids := fun x => by rw [← hD]
    have DC : Hid (∀ x, D x → C x) := fun x hx => ((DD x).1 hx).1.1
    have DA : Hid (∀ x, D x → AR W x g' cap' bids) := fun x hx => ((DD x).1 hx).2
    have DM : Hid (∀ x y, D x → Below W.heap.size x y → AR W y g' cap' bids → D y) := fun x y hx hb ha => (DD y).2 ⟨⟨CG.out x y ((DD x).1 hx).1.1 hb, ar_zero ((DD x).1 hx).1.2 hb.size⟩, ha⟩
    clear hD DD
    cases p' with
    | none =>
      obtain rfl := HA.out.nil rfl
      obtain rfl : asks = [] := by
        rcases HA.out.row with h | ⟨_, _, e, _⟩
        · exact h
        · cases e
      refine mix_main (by rfl) ?_
      rintro ⟨x6, hx6⟩
      dsimp only
      have hfit := (DA.out x6 hx6).fits
      go_wp2
      refine ⟨D, hx6, fun _ h => h, ?_⟩
      clear hx6 x6
      repeat (refine mix_still (by rfl) ?_; go_big_quiet_step (exact rfl); refine wpQuiet_nil ?_)
      refine mix_end ?_
      rintro ⟨x9, hx9⟩
      dsimp only
      have A9 := hide (DA.out x9 hx9)
      have B9 := hide (BW.out.trans (((CW.out x9).1 (DC.out x9 hx9)).mono BW.out.size))
      clear hx9
      go_wp2
      go_ret
      exact ⟨g', cap', by rw [List.append_nil]; rfl, ⟨Nat.le_trans BW.out.size A9.out.le, A9.out.lt, by rw [List.append_nil]; exact A9.out.cells, A9.out.spare, by rw [List.append_nil]; exact A9.out.fits⟩, B9.out⟩
    | some ad' =>
      have HA' := hide (BR.out _ _ _ HA.out)
      refine mix_main (by rfl) ?_
      rintro ⟨x6, hx6⟩
      dsimp only
      have OX := hide (HA'.out x6 (DC.out x6 hx6))
      have AX := hide (DA.out x6 hx6)
      have DX := hide hx6
      clear hx6
      go_wp2_with (at_builtin; refine ar_append AX.out OX.out (by omega) hi hz0 hz1 hz2 rfl _ _ rfl rfl rfl ?_; intro g2 cap2 x7 har har0 hbel)
      refine ⟨fun x => D x ∧ AR W x g2 cap2 (bids ++ asks), ⟨DM.out x6 x7 DX.out hbel har0, har⟩, fun x hx => hx.1, ?_⟩
      clear har har0 hbel OX AX DX x6 x7
      generalize hE : (fun x => D x ∧ AR W x g2 cap2 (bids ++ asks)) = E
      have EE : Hid (∀ x, E x ↔ D x ∧ AR W x g2 cap2 (bids ++ asks)) := fun x => by rw [← hE]
      clear hE
      repeat (refine mix_still (by rfl) ?_; go_big_quiet_step (exact rfl); refine wpQuiet_nil ?_)
      refine mix_end ?_
      rintro ⟨x9, hx9⟩
      dsimp only
      have A9 := hide ((EE.out x9).1 hx9).2
      have B9 := hide (BW.out.trans (((CW.out x9).1 (DC.out x9 ((EE.out x9).1 hx9).1)).mono BW.out.size))
      clear hx9
      go_wp2
      go_ret
      exact ⟨g2, cap2, by rw [List.length_append]; first | rfl | (rw [List.length_nil, Nat.zero_add]; rfl), ⟨Nat.le_trans BW.out.size A9.out.le, A9.out.lt, A9.out.cells, A9.out.spare, A9.out.fits⟩, B9.out⟩
end Go.Proofs.Ytbphljnncbiddaa.Rk
namespace Go.Proofs.Ytbphljnncbiddaa.Rk
open Go.RowKit Go.Sort Go.Maps Go.Proofs.Ytbphljnncbiddaa.Mix Go.Proofs.Ytbphljnncbiddaa.Bk

theorem ar_row {W x : World} {g cap : Nat} {xs : List Odr} (h : AR W x g cap xs) : ∀ j, j < xs.length → ∀ i v, (Bk.enc xs[j]!)[i]? = some v → x.cell? ⟨g, 0 + j * 5 + i, none⟩ = some v := by
  intro j hj i v hv
  have hi : i < 5 := by
    have := (List.getElem?_eq_some_iff.1 hv).1
    rwa [enc_length] at this
  refine h.cells _ v ?_
  rw [Nat.zero_add, flat_get xs j i hj hi]
  exact hv
theorem ar_ov {W x : World} {g cap : Nat} {xs : List Odr} (h : AR W x g cap xs) : OV x (some ⟨g, 0, none⟩) cap xs :=
  ⟨.inr ⟨g, 0, rfl, ar_row h⟩, fun e => (by cases e), h.fits⟩
theorem find_snoc {xs : List Odr} {k : Nat} (f : Odr → Bool) (hk : k < xs.length) (h : (xs.take k).find? f = none) : (xs.take (k + 1)).find? f = if f xs[k]! then some xs[k]! else none := by
  rw [List.take_succ_eq_append_getElem hk, List.find?_append, h]
  simp only [Option.none_or, List.find?_singleton, getElem!_pos xs k hk]
theorem find_take {xs : List Odr} {k : Nat} (f : Odr → Bool) {o : Odr} (h : (xs.take k).find? f = some o) : xs.find? f = some o := by
  rw [← List.take_append_drop k xs, List.find?_append, h]; rfl

set_option maxHeartbeats 1000000 in
set_option maxRecDepth 100000 in
theorem found_any (p p' : Option Addr) (c c' : Nat) (bids asks : List Odr) (id : Int) (w : World) (h : OV w p c bids) (h' : OV w p' c' asks) (hl : bids.length + asks.length ≤ 40) :
    Calls Try.prog 44 #[.agg #[.slice p bids.length c, .slice p' asks.length c'], .int .i64 id] w fun e w' => e = .returned (odrV ((findIn id bids asks).getD noOdr)) ∧ Below w.heap.size w w' := by
  have hb0 : ∀ o1 o2, Below w.heap.size w ((w.alloc o1).alloc o2) := fun o1 o2 => ((Below.refl _ w).alloc (Nat.le_refl _) _).alloc (by simp) _
  have OR := hide (fun W (hW : Below w.heap.size w W) => orders_any p p' c c' bids asks W (h.below hW) (h'.below hW) hl)
  obtain ⟨n, hn⟩ : ∃ n, (bids ++ asks).length = n := ⟨_, rfl⟩
  have hn40 : n ≤ 40 := by rw [← hn, List.length_append]; exact hl
  rw [hn] at OR
  have FF : Hid (findIn id bids asks = (bids ++ asks).find? (hasId id)) := rfl
  generalize findIn id bids asks = ff at FF ⊢
  generalize bids ++ asks = L at hn FF OR
  have HN := hide hn
  clear h h' hl hn
  generalize bids.length = nb at OR ⊢
  generalize asks.length = na at OR ⊢
  go_enter Try.func44, Try.ntmps44
  go_wp2_with fail
  refine (OR.out _ (hb0 _ _)).mono ?_
  rintro e W ⟨g, cap, rfl, har, hb⟩
  have BW := hide ((hb0 _ _).trans (hb.mono (by simp; omega)))
  have T := hide (five_below (five_made _ _ _ _ _ _ _) hb)
  have AR := hide (ar_row har)
  have hgl : g < W.heap.size := har.lt
  have GL := hide hgl
  clear hgl har hb hb0 OR
  go_wp2_with fail
  go_loopw [10] (fun vi wr => ∃ k : Nat, vi = .int .i64 k ∧ k ≤ n ∧ Hid ((L.take k).find? (hasId id) = none) ∧ Hid (Below W.heap.size W wr)) (fun vi _ => n - (intOf vi).toNat)
  case atStart => exact ⟨0, rfl, Nat.zero_le _, hide rfl, hide (Below.refl _ _)⟩
  case round =>
    obtain ⟨k, rfl, hk, HF, HB⟩ := hrel
    have T4 := hide (five_below T.out HB.out)
    have BX4 := hide (BW.out.trans (HB.out.mono BW.out.size))
    by_cases hlt : k < n
    · have hltz : (k : Int) < n := by omega
      have hkx : k < L.length := by rw [HN.out]; exact hlt
      obtain ⟨c0, c1, c2, c3, c4⟩ := orow_cells (w := wr) (b := g) (off := 0) (xs := L) (fun j hj i v hv => (HB.out.cell GL.out).trans (AR.out j hj i v hv)) hkx
      rw [Nat.zero_add] at c0 c1 c2 c3 c4
      have FS := hide (find_snoc (hasId id) hkx HF.out)
      generalize L[k]! = x at c0 c1 c2 c3 c4 FS
      obtain ⟨xa, xc, xd, xp, xq⟩ := x
      dsimp only [oid, oac, osd, opr, oqt] at c0 c1 c2 c3 c4
      have TA := hide (five_below T4.out ((Below.refl _ wr).alloc (Nat.le_refl _) (.cells #[.int .i64 xa, .int .i64 xc, .int .i64 xd, .int .i64 xp, .int .i64 xq] 44)))
      have BA := hide (BX4.out.trans (((Below.refl _ wr).alloc (Nat.le_refl _) (.cells #[.int .i64 xa, .int .i64 xc, .int .i64 xd, .int .i64 xp, .int .i64 xq] 44)).mono BX4.out.size))
      obtain ⟨⟨u0, u1, u2, u3, u4, t0, t1, t2, t3, t4⟩, r0, r1, r2, r3, r4⟩ := five_facts TA.out
      by_cases he : xa = id
      · have HE : Hid (ff = some (xa, xc, xd, xp, xq)) := by rw [FF.out]; exact hide (find_take _ (by rw [FS.out]; simp [hasId, oid, he]))
        have heb : (xa == id) = true := by simp [he]
        clear he FS HF
        go_wp2
        obtain ⟨s0, s1, s2, s3, s4⟩ := five_set TA.out (.int .i64 xa) (.int .i64 xc) (.int .i64 xd) (.int .i64 xp) (.int .i64 xq)
        refine bodyPost_ret (v := odrV (xa, xc, xd, xp, xq)) (by simp [results, Try.results44, go_sem, s0, s1, s2, s3, s4]) rfl ⟨by rw [HE.out]; rfl, five_below_set BA.out (by omega) _ _ _ _ _⟩
      · have HN1 : Hid ((L.take (k + 1)).find? (hasId id) = none) := by rw [FS.out]; exact hide (by simp [hasId, oid, he])
        have HB1 := hide (HB.out.trans (((Below.refl _ wr).alloc (Nat.le_refl _) (.cells #[.int .i64 xa, .int .i64 xc, .int .i64 xd, .int .i64 xp, .int .i64 xq] 44)).mono HB.out.size))
        have heb : (xa == id) = false := by simp [he]
        clear FS HF
        go_wp2
        go_roundw
        case rel => exact ⟨k + 1, by go_num, by omega, HN1, HB1⟩
        case measure => simp [intOf]; omega
    · have hk' : k = n := by omega
      subst hk'
      have HE : Hid (ff = none) := by
        rw [FF.out]
        have := HF.out
        rw [show L.take k = L from List.take_of_length_le (by rw [HN.out]; exact Nat.le_refl _)] at this
        exact this
      obtain ⟨⟨u0, u1, u2, u3, u4, t0, t1, t2, t3, t4⟩, r0, r1, r2, r3, r4⟩ := five_facts T4.out
      clear HF
      go_wp2
      obtain ⟨s0, s1, s2, s3, s4⟩ := five_set T4.out (.int .i64 0) (.int .i64 0) (.int .i64 0) (.int .i64 0) (.int .i64 0)
      refine bodyPost_ret (v := odrV noOdr) (by simp [results, Try.results44, go_sem, s0, s1, s2, s3, s4]) rfl ⟨by rw [HE.out]; rfl, five_below_set BX4.out (by omega) _ _ _ _ _⟩
end Go.Proofs.Ytbphljnncbiddaa.Rk
namespace Go.Proofs.Ytbphljnncbiddaa.Rk
open Go.RowKit Go.Sort Go.Maps Go.Proofs.Ytbphljnncbiddaa.Mix Go.Proofs.Ytbphljnncbiddaa.Bk

/-- what a book's side is of its orders. -/
theorem keepB_side {l : List Odr} (h : Side 1 l) : l.filter keepB = l := List.filter_eq_self.2 fun x hx => by
  have := okOrder_pq (h.ok x hx)
  have := h.sd x hx
  unfold keepB
  simp only [Bool.and_eq_true, decide_eq_true_eq]
  omega
theorem keepA_side {l : List Odr} (h : Side (-1) l) : l.filter keepA = l := List.filter_eq_self.2 fun x hx => by
  have := okOrder_pq (h.ok x hx)
  have := h.sd x hx
  unfold keepA
  simp only [Bool.and_eq_true, Bool.not_eq_true', decide_eq_true_eq, decide_eq_false_iff_not]
  omega
theorem keepB_not {l : List Odr} (h : Side (-1) l) : l.filter keepB = [] := List.filter_eq_nil_iff.2 fun x hx => by
  have := h.sd x hx
  unfold keepB
  simp only [Bool.and_eq_true, decide_eq_true_eq]
  omega
theorem keepA_not {l : List Odr} (h : Side 1 l) : l.filter keepA = [] := List.filter_eq_nil_iff.2 fun x hx => by
  have := h.sd x hx
  unfold keepA
  simp only [Bool.and_eq_true, Bool.not_eq_true', decide_eq_true_eq, decide_eq_false_iff_not]
  omega
theorem keepB_cat {B A : List Odr} (hB : Side 1 B) (hA : Side (-1) A) : (B ++ A).filter keepB = B := by rw [List.filter_append, keepB_side hB, keepB_not hA, List.append_nil]
theorem keepA_cat {B A : List Odr} (hB : Side 1 B) (hA : Side (-1) A) : (B ++ A).filter keepA = A := by rw [List.filter_append, keepA_side hA, keepA_not hB, List.nil_append]

/-- a book in rows of the call's own. -/
abbrev BookPost (w : World) (TB TA : List Odr) (e : Ending) (w' : World) : Prop :=
  ∃ p0 c0 p1 c1, e = .returned (.agg #[.slice p0 TB.length c0, .slice p1 TA.length c1]) ∧ OV w' p0 c0 TB ∧ OV w' p1 c1 TA ∧ (∀ a, p0 = some a → w.heap.size ≤ a.block) ∧ (∀ a, p1 = some a → w.heap.size ≤ a.block) ∧ Below w.heap.size w w'
theorem two_made2 (w : World) (o1 : Obj) (u0 u1 : Value) : Two ((w.alloc o1).alloc (.cells #[u0, u1] 42)) (w.heap.size + 1) :=
  ⟨u0, u1, by have := heap_alloc_new (w.alloc o1) (.cells #[u0, u1] 42); simpa using this⟩
theorem ov_below_two {w : World} {p : Option Addr} {c : Nat} {xs : List Odr} {t : Nat} {v0 v1 : Value} (h : OV w p c xs) (hne : ∀ a, p = some a → a.block ≠ t) : OV ((w.setCell ⟨t, 0, none⟩ v0).setCell ⟨t, 1, none⟩ v1) p c xs := ⟨orow_below_two h.row hne, h.nil, h.cap⟩

set_option maxHeartbeats 1000000 in
set_option maxRecDepth 100000 in
theorem removed_any (p p' : Option Addr) (c c' : Nat) (bids asks : List Odr) (id : Int) (w : World) (h : OV w p c bids) (h' : OV w p' c' asks) (hR : Right bids asks) :
    Calls Try.prog 45 #[.agg #[.slice p bids.length c, .slice p' asks.length c'], .int .i64 id] w fun e w' => BookPost w (without id bids) (without id asks) e w' := by
  have hl : bids.length + asks.length ≤ 40 := hR.few
  obtain ⟨i0, hi, hz0, hz1, hz2⟩ := info_parts Try.infoO
  have hb0 : ∀ o1 o2, Below w.heap.size w ((w.alloc o1).alloc o2) := fun o1 o2 => ((Below.refl _ w).alloc (Nat.le_refl _) _).alloc (by simp) _
  have OR := hide (fun W (hW : Below w.heap.size w W) => orders_any p p' c c' bids asks W (h.below hW) (h'.below hW) hl)
  have hR' := remove_right id hR
  have n2 := nod_parts hR'
  have WC : without id (bids ++ asks) = without id bids ++ without id asks := by unfold without; rw [List.filter_append]
  have BO := hide (fun W (q : Option Addr) (n cc : Nat) (hn : (without id (bids ++ asks)).length = n) (hn2 : n ≤ 1000) (ho : ORow W q (without id (bids ++ asks))) =>
    bookOf_any q n cc (without id (bids ++ asks)) (without id bids) (without id asks) W hn hn2 ho hR'.b n2.1 (by rw [WC, keepB_cat hR'.b hR'.a]) (by have := hR'.few; omega) hR'.a n2.2.1 (by rw [WC, keepA_cat hR'.b hR'.a]) (by have := hR'.few; omega))
  obtain ⟨n, hn⟩ : ∃ n, (bids ++ asks).length = n := ⟨_, rfl⟩
  have hn40 : n ≤ 40 := by rw [← hn, List.length_append]; exact hl
  rw [hn] at OR
  clear n2 WC hR' hR hl h h'
  generalize without id bids = TB at BO ⊢
  generalize without id asks = TA at BO ⊢
  generalize bids ++ asks = L at hn BO OR
  have HN := hide hn
  clear hn
  generalize bids.length = nb at OR ⊢
  generalize asks.length = na at OR ⊢
  go_enter Try.func45, Try.ntmps45
  go_wp2_with fail
  refine (OR.out _ (hb0 _ _)).mono ?_
  rintro e W ⟨g, cap, rfl, har, hb⟩
  have BW := hide ((hb0 _ _).trans (hb.mono (by simp; omega)))
  have T := hide (two_below (two_made2 _ _ _ _) hb)
  have AR := hide (ar_row har)
  have hgl : g < W.heap.size := har.lt
  have GL := hide hgl
  have SZ : Hid (w.heap.size + 1 < W.heap.size) := by have := hb.size; simp at this; exact hide (by omega)
  clear hgl har hb hb0 OR
  go_wp2_with fail
  go_loopw [5, 11] (fun v vi wr => ∃ k : Nat, vi = .int .i64 k ∧ k ≤ n ∧ Hid (wr.ownsRow W.heap.size 44 5 v (without id (L.take k)).length (flat (without id (L.take k)))) ∧ Hid (Below W.heap.size W wr)) (fun _ vi _ => n - (intOf vi).toNat)
  case atStart => exact ⟨0, rfl, Nat.zero_le _, hide (World.ownsRow_nil _ _ _ _), hide (Below.refl _ _)⟩
  case round =>
    obtain ⟨k, rfl, hk, HO, HB⟩ := hrel
    by_cases hlt : k < n
    · have hltz : (k : Int) < n := by omega
      have hkx : k < L.length := by rw [HN.out]; exact hlt
      obtain ⟨c0, c1, c2, c3, c4⟩ := orow_cells (w := wr) (b := g) (off := 0) (xs := L) (fun j hj i v hv => (HB.out.cell GL.out).trans (AR.out j hj i v hv)) hkx
      rw [Nat.zero_add] at c0 c1 c2 c3 c4
      have TK := hide (take_keep (fun x => !hasId id x) hkx)
      have hLl : (without id (L.take k)).length ≤ 40 := Nat.le_trans (List.length_filter_le _ _) (by simp; omega)
      have WE : Hid (∀ m, without id (L.take m) = (L.take m).filter (fun x => !hasId id x)) := fun _ => rfl
      rw [← WE.out, ← WE.out] at TK
      generalize L[k]! = x at c0 c1 c2 c3 c4 TK
      generalize without id (L.take k) = R at HO TK hLl
      clear WE
      obtain ⟨xa, xc, xd, xp, xq⟩ := x
      dsimp only [oid, oac, osd, opr, oqt] at c0 c1 c2 c3 c4
      by_cases he : xa = id
      · have HN1 : Hid (without id (L.take (k + 1)) = R) := by rw [TK.out]; exact hide (by simp [hasId, oid, he])
        have HB1 := hide (HB.out.trans (((Below.refl _ wr).alloc (Nat.le_refl _) (.cells #[.int .i64 xa, .int .i64 xc, .int .i64 xd, .int .i64 xp, .int .i64 xq] 44)).mono HB.out.size))
        have HO1 := hide (HO.out.alloc (.cells #[.int .i64 xa, .int .i64 xc, .int .i64 xd, .int .i64 xp, .int .i64 xq] 44))
        have heb : (xa != id) = false := by simp [he]
        clear TK HO he
        go_wp2
        go_roundw
        case rel => exact ⟨k + 1, by go_num, by omega, by rw [HN1.out]; exact HO1, HB1⟩
        case measure => simp [intOf]; omega
      · have HN1 : Hid (without id (L.take (k + 1)) = R ++ [(xa, xc, xd, xp, xq)]) := by rw [TK.out]; exact hide (by simp [hasId, oid, he])
        have B2 := hide (HB.out.trans ((((Below.refl _ wr).alloc (Nat.le_refl _) (.cells #[.int .i64 xa, .int .i64 xc, .int .i64 xd, .int .i64 xp, .int .i64 xq] 44)).alloc (by simp) (.cells #[.int .i64 xa, .int .i64 xc, .int .i64 xd, .int .i64 xp, .int .i64 xq] 44)).mono HB.out.size))
        have O2 := hide ((HO.out.alloc (.cells #[.int .i64 xa, .int .i64 xc, .int .i64 xd, .int .i64 xp, .int .i64 xq] 44)).alloc (.cells #[.int .i64 xa, .int .i64 xc, .int .i64 xd, .int .i64 xp, .int .i64 xq] 44))
        have NW : Hid (∀ jj u, (Bk.enc (xa, xc, xd, xp, xq))[jj]? = some u → ((wr.alloc (.cells #[.int .i64 xa, .int .i64 xc, .int .i64 xd, .int .i64 xp, .int .i64 xq] 44)).alloc (.cells #[.int .i64 xa, .int .i64 xc, .int .i64 xd, .int .i64 xp, .int .i64 xq] 44)).cell? ((⟨wr.heap.size + 1, 0, none⟩ : Addr).add jj) = some u) := fun jj u hu => by
          rw [add_lit, Nat.zero_add]
          exact new_cell2 wr _ _ _ jj u (by simpa [Bk.enc] using hu)
        clear TK HO
        go_wp2_with (at_builtin; refine wpList_append_own_at _ rfl (.tmp 19) (.tmp 21) 40 rfl W.heap.size 44 i0 (odrV noOdr) 5 40 Try.underlying40 hi hz0 hz1 hz2 rfl (by decide) _ R.length (flat R) rfl O2.out ⟨wr.heap.size + 1, 0, none⟩ 1 1 (Bk.enc (xa, xc, xd, xp, xq)) rfl rfl NW.out (enc_cell _) (by unfold maxLen; omega) (by omega) B2.out.size ?_; intro v' w1 hown1 hgrow1 hnil1 hat1)
        have HO1 : Hid (w1.ownsRow W.heap.size 44 5 v' (without id (L.take (k + 1))).length (flat (without id (L.take (k + 1))))) := by
          rw [HN1.out, flat_snoc, List.length_append]; exact hide hown1
        have HB1 := hide (B2.out.grown hgrow1 B2.out.size (fun j hj => (O2.out.lt j hj).1))
        clear hgrow1 hnil1 hat1 hown1
        go_roundw
        case rel => exact ⟨k + 1, by go_num, by omega, HO1, HB1⟩
        case measure => simp [intOf]; omega
    · have hk' : k = n := by omega
      subst hk'
      rw [show L.take k = L from List.take_of_length_le (by rw [HN.out]; exact Nat.le_refl _)] at HO
      obtain ⟨q, cc, e0, o0, -⟩ := own_ov HO.out
      subst e0
      have hm : (without id L).length ≤ k := by rw [← HN.out]; exact List.length_filter_le _ _
      have B1 := hide (BO.out wr q _ cc rfl (by omega) o0.row)
      generalize (without id L).length = m at B1 hm ⊢
      clear o0 HO BO
      have BX4 := hide (BW.out.trans (HB.out.mono BW.out.size))
      have T4 := hide (two_below T.out HB.out)
      go_wp2_with fail
      refine B1.out.mono ?_
      rintro e w3 ⟨p0, c0, p1, c1, rfl, v0, v1, z0, z1, hb3⟩
      have T5 := hide (two_below T4.out hb3)
      have BX5 := hide (BX4.out.trans (hb3.mono BX4.out.size))
      have hsz : w.heap.size + 1 < wr.heap.size := Nat.lt_of_lt_of_le SZ.out HB.out.size
      have V0 := hide (ov_below_two (t := w.heap.size + 1) (v0 := .slice p0 TB.length c0) (v1 := .slice p1 TA.length c1) v0 (fun a ha => by have := z0 a ha; omega))
      have V1 := hide (ov_below_two (t := w.heap.size + 1) (v0 := .slice p0 TB.length c0) (v1 := .slice p1 TA.length c1) v1 (fun a ha => by have := z1 a ha; omega))
      have Z := hide (And.intro z0 z1)
      have SX := hide hsz
      clear hb3 v0 v1 z0 z1 hsz B1
      obtain ⟨u0, u1, t0, t1, t2, t3⟩ := two_facts T5.out
      go_wp2
      obtain ⟨s0, s1⟩ := two_set T5.out (.slice p0 TB.length c0) (.slice p1 TA.length c1)
      refine bodyPost_ret (v := .agg #[.slice p0 TB.length c0, .slice p1 TA.length c1]) (by simp [results, Try.results45, go_sem, s0, s1]) rfl ⟨p0, c0, p1, c1, rfl, V0.out, V1.out, fun a ha => ?_, fun a ha => ?_, two_below_set BX5.out (by omega) _ _⟩
      · have := Z.out.1 a ha; have := SX.out; omega
      · have := Z.out.2 a ha; have := SX.out; omega
end Go.Proofs.Ytbphljnncbiddaa.Rk
namespace Go.Proofs.Ytbphljnncbiddaa.Rk
open Go.RowKit Go.Sort Go.Maps Go.Proofs.Ytbphljnncbiddaa.Mix Go.Proofs.Ytbphljnncbiddaa.Bk

/-- a book, as a call of its own made it. -/
def BookOut (w : World) (TB TA : List Odr) (v : Value) (w' : World) : Prop :=
  ∃ p0 c0 p1 c1, v = .agg #[.slice p0 TB.length c0, .slice p1 TA.length c1] ∧ OV w' p0 c0 TB ∧ OV w' p1 c1 TA ∧ (∀ a, p0 = some a → w.heap.size ≤ a.block) ∧ (∀ a, p1 = some a → w.heap.size ≤ a.block)
theorem out_none (w w' : World) : BookOut w [] [] (.agg #[.slice none 0 0, .slice none 0 0]) w' := ⟨none, 0, none, 0, rfl, ov_nil _, ov_nil _, (by simp), (by simp)⟩
/-- what Rested answers. -/
def restedB (bids asks : List Odr) (o : Odr) : List Odr := if mayRest bids asks o = 0 then restB bids o else []
def restedA (bids asks : List Odr) (o : Odr) : List Odr := if mayRest bids asks o = 0 then restA asks o else []

theorem laid_perm (l : List Odr) (o : Odr) : (l ++ [o]).Perm (laid l o) :=
  (List.perm_append_singleton o l).trans (by unfold laid; exact (List.perm_middle.trans (by rw [List.take_append_drop])).symm)
theorem rest_permB {bids asks : List Odr} {o : Odr} (hR : Right bids asks) (ho : okOrder o = 0) : ((bids ++ asks ++ [o]).filter keepB).Perm (restB bids o) := by
  have := okOrder_pq ho
  rw [List.filter_append, keepB_cat hR.b hR.a]
  unfold restB
  split
  · rename_i h
    rw [show [o].filter keepB = [o] from List.filter_eq_self.2 fun x hx => by
      rw [List.mem_singleton.1 hx]; unfold keepB; simp only [Bool.and_eq_true, decide_eq_true_eq]; omega]
    exact laid_perm _ _
  · rename_i h
    rw [show [o].filter keepB = [] from List.filter_eq_nil_iff.2 fun x hx => by
      rw [List.mem_singleton.1 hx]; unfold keepB; simp only [Bool.and_eq_true, decide_eq_true_eq]; omega, List.append_nil]
theorem rest_permA {bids asks : List Odr} {o : Odr} (hR : Right bids asks) (ho : okOrder o = 0) : ((bids ++ asks ++ [o]).filter keepA).Perm (restA asks o) := by
  have := okOrder_pq ho
  rw [List.filter_append, keepA_cat hR.b hR.a]
  unfold restA
  split
  · rename_i h
    rw [show [o].filter keepA = [] from List.filter_eq_nil_iff.2 fun x hx => by
      rw [List.mem_singleton.1 hx]; unfold keepA; simp only [Bool.and_eq_true, Bool.not_eq_true', decide_eq_true_eq, decide_eq_false_iff_not]; omega, List.append_nil]
  · rename_i h
    rw [show [o].filter keepA = [o] from List.filter_eq_self.2 fun x hx => by
      rw [List.mem_singleton.1 hx]; unfold keepA; simp only [Bool.and_eq_true, Bool.not_eq_true', decide_eq_true_eq, decide_eq_false_iff_not]; omega]
    exact laid_perm _ _

/-- does this one stand against o, and does o's price meet its? -/
def against (o x : Odr) : Bool := decide (¬ osd x = osd o) && meets o (opr x)
theorem bool_eq_of_false {a b : Bool} (h : a = false ↔ b = false) : a = b := by cases a <;> cases b <;> simp_all
theorem crosses_all {bids asks : List Odr} {o : Odr} (hR : Right bids asks) (ho : okOrder o = 0) : crosses o (if osd o = -1 then bids else asks) = (bids ++ asks).any (against o) := by
  refine bool_eq_of_false ?_
  rw [crosses_false (okOrder_sd ho), List.any_eq_false]
  rcases okOrder_sd ho with hs | hs
  · rw [if_neg (by rw [hs]; decide)]
    constructor
    · intro h x hx
      rcases List.mem_append.1 hx with hx | hx
      · simp [against, hs, hR.b.sd x hx]
      · cases asks with
        | nil => cases hx
        | cons y l =>
          have h1 := (h y rfl).1 hs
          have h2 := head_ask hR.a (x := y) rfl hx
          unfold against meets
          simp only [Bool.and_eq_true, decide_eq_true_eq, hs]
          omega
    · intro h x hx
      refine ⟨fun _ => ?_, fun e => by omega⟩
      have h1 := h x (List.mem_append_right _ (mem_of_head? hx))
      have h2 := hR.a.sd x (mem_of_head? hx)
      unfold against meets at h1
      simp only [Bool.and_eq_true, decide_eq_true_eq, hs, h2] at h1
      omega
  · rw [if_pos hs]
    constructor
    · intro h x hx
      rcases List.mem_append.1 hx with hx | hx
      · cases bids with
        | nil => cases hx
        | cons y l =>
          have h1 := (h y rfl).2 hs
          have h2 := head_bid hR.b (x := y) rfl hx
          unfold against meets
          simp only [Bool.and_eq_true, decide_eq_true_eq, hs]
          omega
      · simp [against, hs, hR.a.sd x hx]
    · intro h x hx
      refine ⟨fun e => by omega, fun _ => ?_⟩
      have h1 := h x (List.mem_append_left _ (mem_of_head? hx))
      have h2 := hR.b.sd x (mem_of_head? hx)
      unfold against meets at h1
      simp only [Bool.and_eq_true, decide_eq_true_eq, hs, h2] at h1
      omega
theorem any_find (a : Int) (bids asks : List Odr) : (bids.any (hasId a) || asks.any (hasId a)) = (findIn a bids asks).isSome := by
  unfold findIn
  rw [← List.any_append, Bool.eq_iff_iff, List.find?_isSome, List.any_eq_true]
theorem any_snoc {xs : List Odr} {k : Nat} (f : Odr → Bool) (hk : k < xs.length) : (xs.take (k + 1)).any f = ((xs.take k).any f || f xs[k]!) := by
  rw [List.take_succ_eq_append_getElem hk, List.any_append]
  simp only [List.any_cons, List.any_nil, Bool.or_false, getElem!_pos xs k hk]
theorem any_take {xs : List Odr} {k : Nat} (f : Odr → Bool) (h : (xs.take k).any f = true) : xs.any f = true := by
  rw [← List.take_append_drop k xs, List.any_append, h]; rfl
end Go.Proofs.Ytbphljnncbiddaa.Rk
namespace Go.Proofs.Ytbphljnncbiddaa.Rk
open Go.RowKit Go.Sort Go.Maps Go.Proofs.Ytbphljnncbiddaa.Mix Go.Proofs.Ytbphljnncbiddaa.Bk

abbrev oO (a ac sd pr q : Int) : Obj := .cells #[.int .i64 a, .int .i64 ac, .int .i64 sd, .int .i64 pr, .int .i64 q] 44
theorem ov_new (x : World) (a ac sd pr q : Int) : OV (x.alloc (oO a ac sd pr q)) (some ⟨x.heap.size, 0, none⟩) 1 [(a, ac, sd, pr, q)] :=
  ⟨.inr ⟨x.heap.size, 0, rfl, fun j hj i v hv => by
    have hj0 : j = 0 := by simp at hj; exact hj
    subst hj0
    rw [Nat.zero_add]
    exact new_cell x _ _ i v (by simpa [Bk.enc] using hv)⟩, (fun e => by cases e), Nat.le_refl _⟩

set_option maxHeartbeats 2000000 in
set_option maxRecDepth 100000 in
theorem rested_any (p p' : Option Addr) (c c' : Nat) (bids asks : List Odr) (a ac sd pr q : Int) (w : World) (h : OV w p c bids) (h' : OV w p' c' asks) (hR : Right bids asks) :
    Calls Try.prog 43 #[.agg #[.slice p bids.length c, .slice p' asks.length c'], .agg #[.int .i64 a, .int .i64 ac, .int .i64 sd, .int .i64 pr, .int .i64 q]] w fun e w' => ∃ v, e = .returned (.tuple #[v, .int .i64 (mayRest bids asks (a, ac, sd, pr, q))]) ∧ BookOut w (restedB bids asks (a, ac, sd, pr, q)) (restedA bids asks (a, ac, sd, pr, q)) v w' ∧ Below w.heap.size w w' := by
  have mixed : Try.prog.follows .mixedOrders = true := by kernel_rfl
  obtain ⟨i0, hi, hz0, hz1, hz2⟩ := info_parts Try.infoO
  have hl : bids.length + asks.length ≤ 40 := hR.few
  have hbk : bookErr bids asks = 0 := bookErr_zero.2 hR
  have hid0 : a = 0 → findIn a bids asks = none := fun ha => by
    cases hf : findIn a bids asks with
    | none => rfl
    | some y =>
      have := find_mem hf
      rcases List.mem_append.1 this.1 with hy | hy
      · have := okOrder_id (hR.b.ok y hy); omega
      · have := okOrder_id (hR.a.ok y hy); omega
  have ID0 := hide hid0
  have IDS := hide (fun y (hf : findIn a bids asks = some y) => (find_mem hf).2)
  have RBAD : Hid (∀ x, mayRest bids asks (a, ac, sd, pr, q) = x → ¬ x = 0 → ∀ w', Below w.heap.size w w' → ∃ v, Ending.returned (.tuple #[.agg #[.slice none 0 0, .slice none 0 0], .int .i64 x]) = .returned (.tuple #[v, .int .i64 (mayRest bids asks (a, ac, sd, pr, q))]) ∧ BookOut w (restedB bids asks (a, ac, sd, pr, q)) (restedA bids asks (a, ac, sd, pr, q)) v w' ∧ Below w.heap.size w w') := fun x hx h0 w' hb => by
    refine ⟨_, by rw [hx], ?_, hb⟩
    unfold restedB restedA
    rw [hx, if_neg h0, if_neg h0]
    exact out_none w w'
  have ROK : Hid (mayRest bids asks (a, ac, sd, pr, q) = 0 → ∀ v w', BookOut w (restB bids (a, ac, sd, pr, q)) (restA asks (a, ac, sd, pr, q)) v w' → Below w.heap.size w w' → ∃ v', Ending.returned (.tuple #[v, .int .i64 0]) = .returned (.tuple #[v', .int .i64 (mayRest bids asks (a, ac, sd, pr, q))]) ∧ BookOut w (restedB bids asks (a, ac, sd, pr, q)) (restedA bids asks (a, ac, sd, pr, q)) v' w' ∧ Below w.heap.size w w') := fun hx v w' ho hb => by
    refine ⟨v, by rw [hx], ?_, hb⟩
    unfold restedB restedA
    rw [hx, if_pos rfl, if_pos rfl]
    exact ho
  have M2 := hide (fun h1 => may_twice (o := (a, ac, sd, pr, q)) hbk h1)
  have M3 := hide (fun h1 h2 => may_order (o := (a, ac, sd, pr, q)) hbk h1 h2)
  have M4 := hide (fun h1 h2 h3 => may_full (o := (a, ac, sd, pr, q)) hbk h1 h2 h3)
  have M5 := hide (fun h1 h2 h3 t h4 => may_post (o := (a, ac, sd, pr, q)) hbk h1 h2 h3 t h4)
  have CA := hide (fun (ho : okOrder (a, ac, sd, pr, q) = 0) => crosses_all hR ho)
  have FD := hide (fun W (hW : Below w.heap.size w W) => found_any p p' c c' bids asks a W (h.below hW) (h'.below hW) hl)
  have OR := hide (fun W (hW : Below w.heap.size w W) => orders_any p p' c c' bids asks W (h.below hW) (h'.below hW) hl)
  have BO := hide (fun (hm : mayRest bids asks (a, ac, sd, pr, q) = 0) (ho : okOrder (a, ac, sd, pr, q) = 0) W (r : Option Addr) (n cc : Nat) (hn : (bids ++ asks ++ [(a, ac, sd, pr, q)]).length = n) (hn2 : n ≤ 1000) (hro : ORow W r (bids ++ asks ++ [(a, ac, sd, pr, q)])) =>
    bookOf_any r n cc (bids ++ asks ++ [(a, ac, sd, pr, q)]) (restB bids (a, ac, sd, pr, q)) (restA asks (a, ac, sd, pr, q)) W hn hn2 hro (rest_right hm).b (nod_parts (rest_right hm)).1 (rest_permB hR ho) (by have := (rest_right hm).few; omega) (rest_right hm).a (nod_parts (rest_right hm)).2.1 (rest_permA hR ho) (by have := (rest_right hm).few; omega))
  have OKX : Hid (∀ x, x ∈ bids ++ asks → 1 ≤ opr x ∧ opr x ≤ 10000) := fun x hx => by
    rcases List.mem_append.1 hx with hx | hx
    · have := okOrder_pq (hR.b.ok x hx); omega
    · have := okOrder_pq (hR.a.ok x hx); omega
  have AF := any_find a bids asks
  rw [AF] at M2 M3 M4 M5
  obtain ⟨n, hn⟩ : ∃ n, (bids ++ asks).length = n := ⟨_, rfl⟩
  have hn40 : n ≤ 40 := by rw [← hn, List.length_append]; exact hl
  rw [← List.length_append, hn] at M4 M5
  rw [hn] at OR
  clear h h' hR hl hbk hid0 AF
  generalize restB bids (a, ac, sd, pr, q) = TB at ROK BO
  generalize restA asks (a, ac, sd, pr, q) = TA at ROK BO
  generalize restedB bids asks (a, ac, sd, pr, q) = RB at RBAD ROK ⊢
  generalize restedA bids asks (a, ac, sd, pr, q) = RA at RBAD ROK ⊢
  generalize findIn a bids asks = ff at ID0 IDS M2 M3 M4 M5 FD
  generalize hmr : mayRest bids asks (a, ac, sd, pr, q) = mr at RBAD ROK BO M2 M3 M4 M5 ⊢
  clear hmr
  generalize crosses (a, ac, sd, pr, q) (if osd (a, ac, sd, pr, q) = -1 then bids else asks) = cr at M5 CA
  generalize bids ++ asks = L at hn OR BO CA OKX
  have HN := hide hn
  clear hn
  generalize bids.length = nb at OR FD ⊢
  generalize asks.length = na at OR FD ⊢
  go_enter Try.func43, Try.ntmps43
  go_wp2_with fail
  obtain ⟨W, hW⟩ : ∃ W, W = ((w.alloc (.cells #[.slice p nb c, .slice p' na c'] 42)).alloc (oO a ac sd pr q)).alloc (.cells #[.slice none 0 0, .slice none 0 0] 42) := ⟨_, rfl⟩
  have BW : Hid (Below w.heap.size w W) := by rw [hW]; exact ((((Below.refl _ w).alloc (Nat.le_refl _) _).alloc (by simp) _).alloc (by simp; omega) _)
  have T : Hid (Two W (w.heap.size + 1 + 1)) := by rw [hW]; exact two_made _ _ _ _ _
  have e0 : W.cell? ⟨w.heap.size, 0, none⟩ = some (.slice p nb c) := by rw [hW]; exact cell_alloc (cell_alloc (new_cell _ _ _ _ _ rfl) _) _
  have e1 : W.cell? ⟨w.heap.size, 1, none⟩ = some (.slice p' na c') := by rw [hW]; exact cell_alloc (cell_alloc (new_cell _ _ _ _ _ rfl) _) _
  have f0 : W.cell? ⟨w.heap.size + 1, 0, none⟩ = some (.int .i64 a) := by rw [hW]; exact cell_alloc (new_cell2 _ _ _ _ _ _ rfl) _
  have f1 : W.cell? ⟨w.heap.size + 1, 1, none⟩ = some (.int .i64 ac) := by rw [hW]; exact cell_alloc (new_cell2 _ _ _ _ _ _ rfl) _
  have f2 : W.cell? ⟨w.heap.size + 1, 2, none⟩ = some (.int .i64 sd) := by rw [hW]; exact cell_alloc (new_cell2 _ _ _ _ _ _ rfl) _
  have f3 : W.cell? ⟨w.heap.size + 1, 3, none⟩ = some (.int .i64 pr) := by rw [hW]; exact cell_alloc (new_cell2 _ _ _ _ _ _ rfl) _
  have f4 : W.cell? ⟨w.heap.size + 1, 4, none⟩ = some (.int .i64 q) := by rw [hW]; exact cell_alloc (new_cell2 _ _ _ _ _ _ rfl) _
  have SZ : Hid (w.heap.size + 2 < W.heap.size) := by rw [hW]; exact hide (by simp)
  rw [← hW]
  clear hW
  have KEEP : Hid (∀ x, Below W.heap.size W x → x.cell? ⟨w.heap.size, 0, none⟩ = some (.slice p nb c) ∧ x.cell? ⟨w.heap.size, 1, none⟩ = some (.slice p' na c') ∧ x.cell? ⟨w.heap.size + 1, 0, none⟩ = some (.int .i64 a) ∧ x.cell? ⟨w.heap.size + 1, 1, none⟩ = some (.int .i64 ac) ∧ x.cell? ⟨w.heap.size + 1, 2, none⟩ = some (.int .i64 sd) ∧ x.cell? ⟨w.heap.size + 1, 3, none⟩ = some (.int .i64 pr) ∧ x.cell? ⟨w.heap.size + 1, 4, none⟩ = some (.int .i64 q)) := fun x hx =>
    have k := fun ad v (he : W.cell? ad = some v) => (hx.cell (World.block_lt_of_cell? _ _ he)).trans he
    ⟨k _ _ e0, k _ _ e1, k _ _ f0, k _ _ f1, k _ _ f2, k _ _ f3, k _ _ f4⟩
  have hC : ∀ q1 : InC (fun x => Below W.heap.size W x), ∀ x v, W.cell? x = some v → q1.w.cell? x = some v := fun q1 x v hx => (q1.h.cell (World.block_lt_of_cell? _ _ hx)).trans hx
  generalize hCC : (fun x => Below W.heap.size W x) = C at hC
  have g0 := fun q1 => hC q1 _ _ e0
  have g1 := fun q1 => hC q1 _ _ e1
  have l0 := fun q1 => hC q1 _ _ f0
  have CE := hide hCC
  have CS : Hid (Shut C) := by rw [← CE.out]; exact shut_below W
  have CW : Hid (∀ x, C x → Below W.heap.size W x) := fun x hx => by rw [← CE.out] at hx; exact hx
  have C0 : Hid (C { W with drawn := W.drawn + 1 }) := by rw [← CE.out]; exact below_drawn _
  clear hC hCC e0 e1 f0 f1 f2 f3 f4
  refine wp_region_mix [(0, true), (1, true), (2, true), (3, true), (4, true), (5, true), (6, true), (9, true), (10, true), (7, false), (8, false), (11, false), (12, false)] C mixed (by kernel_rfl) C0.out ?_
  by_cases ha : a = 0
  · have hok : ¬ okOrder (a, ac, sd, pr, q) = 0 := fun e => by have := okOrder_id e; dsimp only [oid] at this; omega
    have MB := hide (M3.out (by rw [ID0.out ha]; rfl) hok)
    have hab : (a != 0) = false := by simp [ha]
    clear ha
    repeat (refine mix_still (by rfl) ?_; go_big_quiet_step (exact rfl); refine wpQuiet_nil ?_)
    refine mix_main (by rfl) ?_
    rintro ⟨x1, hx1⟩
    go_wp2
    refine ⟨C, hx1, fun _ h => h, ?_⟩
    clear hx1 x1
    refine mix_main (by rfl) ?_
    rintro ⟨x1, hx1⟩
    go_wp2
    refine ⟨C, hx1, fun _ h => h, ?_⟩
    clear hx1 x1
    refine mix_main (by rfl) ?_
    rintro ⟨x1, hx1⟩
    go_wp2
    refine ⟨C, hx1, fun _ h => h, ?_⟩
    clear hx1 x1
    refine mix_main (by rfl) ?_
    rintro ⟨x1, hx1⟩
    go_wp2
    refine ⟨C, hx1, fun _ h => h, ?_⟩
    clear hx1 x1
    refine mix_end ?_
    rintro ⟨x9, hx9⟩
    dsimp only
    have B9 := hide (CW.out x9 hx9)
    obtain ⟨-, -, f0, f1, f2, f3, f4⟩ := KEEP.out x9 B9.out
    clear hx9
    have TX := hide (two_below T.out B9.out)
    have BX := hide (BW.out.trans (B9.out.mono BW.out.size))
    go_wp2_with fail
    refine (refCheckOrder_grow a ac sd pr q _).mono ?_
    rintro e w2 ⟨rfl, k2, os2, hw2⟩
    have hb2 := grow_below x9 k2 os2
    rw [← hw2] at hb2
    clear hw2 os2 k2
    have T2 := hide (two_below TX.out hb2)
    have B2 := hide (BX.out.trans (hb2.mono BX.out.size))
    have E2 := hide (RBAD.out _ MB.out hok)
    clear hb2
    generalize okOrder (a, ac, sd, pr, q) = eo at hok E2 ⊢
    obtain ⟨u0, u1, t0, t1, t2, t3⟩ := two_facts T2.out
    go_wp2
    obtain ⟨s0, s1⟩ := two_set T2.out (.slice none 0 0) (.slice none 0 0)
    refine bodyPost_ret (v := .tuple #[.agg #[.slice none 0 0, .slice none 0 0], .int .i64 eo]) (by simp [results, Try.results43, go_sem, s0, s1]) rfl (E2.out _ (two_below_set B2.out (by omega) _ _))
  · have hab : (a != 0) = true := by simp [ha]
    have HA := hide ha
    clear ha
    cases ff with
    | some y =>
      have hy := IDS.out y rfl
      have MB := hide (RBAD.out 6 (M2.out rfl) (by decide))
      obtain ⟨ya, yc, yd, yp, yq⟩ := y
      dsimp only [oid] at hy
      subst hy
      clear ID0 IDS M2 M3 M4 M5 RBAD ROK CA OR BO OKX
      repeat (refine mix_still (by rfl) ?_; go_big_quiet_step (exact rfl); refine wpQuiet_nil ?_)
      refine mix_main (by rfl) ?_
      rintro ⟨x1, hx1⟩
      have FX : Hid (Calls Try.prog 44 #[.agg #[.slice p nb c, .slice p' na c'], .int .i64 ya] x1 fun e w' => e = .returned (.agg #[.int .i64 ya, .int .i64 yc, .int .i64 yd, .int .i64 yp, .int .i64 yq]) ∧ Below x1.heap.size x1 w') := FD.out x1 (BW.out.trans ((CW.out x1 hx1).mono BW.out.size))
      go_wp2_with (go_at_call 44; refine FX.out.mono ?_; rintro e w' ⟨rfl, hb'⟩)
      refine ⟨C, CS.out x1 _ hx1 hb', fun _ h => h, ?_⟩
      clear hx1 hb' FX FD x1
      refine mix_main (by rfl) ?_
      rintro ⟨x1, hx1⟩
      go_wp2
      rename_i K hK
      refine hK _ _ ?_
      simp only [List.getElem_toArray, List.getElem_cons_zero]
      clear hK K
      go_wp2
      refine ⟨C, hx1, fun _ h => h, ?_⟩
      clear hx1 x1
      refine mix_main (by rfl) ?_
      rintro ⟨x1, hx1⟩
      go_wp2
      refine ⟨C, hx1, fun _ h => h, ?_⟩
      clear hx1 x1
      refine mix_main (by rfl) ?_
      rintro ⟨x1, hx1⟩
      go_wp2
      refine ⟨C, hx1, fun _ h => h, ?_⟩
      clear hx1 x1
      refine mix_end ?_
      rintro ⟨x9, hx9⟩
      dsimp only
      have B9 := hide (CW.out x9 hx9)
      have TX := hide (two_below T.out B9.out)
      have BX := hide (BW.out.trans (B9.out.mono BW.out.size))
      obtain ⟨u0, u1, t0, t1, t2, t3⟩ := two_facts TX.out
      clear hx9
      go_wp2
      obtain ⟨s0, s1⟩ := two_set TX.out (.slice none 0 0) (.slice none 0 0)
      refine bodyPost_ret (v := .tuple #[.agg #[.slice none 0 0, .slice none 0 0], .int .i64 6]) (by simp [results, Try.results43, go_sem, s0, s1]) rfl (MB.out _ (two_below_set BX.out (by omega) _ _))
    | none =>
      have hna : ¬ (0 : Int) = a := fun e => HA.out e.symm
      clear ID0 IDS M2
      repeat (refine mix_still (by rfl) ?_; go_big_quiet_step (exact rfl); refine wpQuiet_nil ?_)
      refine mix_main (by rfl) ?_
      rintro ⟨x1, hx1⟩
      have FX : Hid (Calls Try.prog 44 #[.agg #[.slice p nb c, .slice p' na c'], .int .i64 a] x1 fun e w' => e = .returned (.agg #[.int .i64 0, .int .i64 0, .int .i64 0, .int .i64 0, .int .i64 0]) ∧ Below x1.heap.size x1 w') := FD.out x1 (BW.out.trans ((CW.out x1 hx1).mono BW.out.size))
      go_wp2_with (go_at_call 44; refine FX.out.mono ?_; rintro e w' ⟨rfl, hb'⟩)
      refine ⟨C, CS.out x1 _ hx1 hb', fun _ h => h, ?_⟩
      clear hx1 hb' FX FD x1
      refine mix_main (by rfl) ?_
      rintro ⟨x1, hx1⟩
      go_wp2
      rename_i K hK
      refine hK _ _ ?_
      simp only [List.getElem_toArray, List.getElem_cons_zero]
      clear hK K
      go_wp2
      refine ⟨C, hx1, fun _ h => h, ?_⟩
      clear hx1 x1
      refine mix_main (by rfl) ?_
      rintro ⟨x1, hx1⟩
      go_wp2
      refine ⟨C, hx1, fun _ h => h, ?_⟩
      clear hx1 x1
      refine mix_main (by rfl) ?_
      rintro ⟨x1, hx1⟩
      go_wp2
      refine ⟨C, hx1, fun _ h => h, ?_⟩
      clear hx1 x1
      refine mix_end ?_
      rintro ⟨x9, hx9⟩
      dsimp only
      have B9 := hide (CW.out x9 hx9)
      obtain ⟨e0, e1, f0, f1, f2, f3, f4⟩ := KEEP.out x9 B9.out
      clear hx9 g0 g1 l0 hna
      by_cases hok : okOrder (a, ac, sd, pr, q) = 0
      · have M4' := hide (M4.out rfl hok)
        have M5' := hide (fun h3 => M5.out rfl hok h3 _ rfl)
        have CA' := hide (CA.out hok)
        have BO' := hide (fun hm => BO.out hm hok)
        have OS := hide (okOrder_sd hok)
        have OP := hide (okOrder_pq hok)
        go_wp2_with fail
        refine (refCheckOrder_grow a ac sd pr q _).mono ?_
        rintro e w2 ⟨rfl, k2, os2, hw2⟩
        have hb2 := grow_below x9 k2 os2
        rw [← hw2] at hb2
        clear hw2 os2 k2
        rw [hok]
        have B2 := hide (B9.out.trans (hb2.mono B9.out.size))
        obtain ⟨e0, e1, f0, f1, f2, f3, f4⟩ := KEEP.out w2 B2.out
        clear hb2 hok M3 M4 M5 CA BO
        go_wp2_with fail
        refine (OR.out _ (BW.out.trans (B2.out.mono BW.out.size))).mono ?_
        rintro e W3 ⟨g, cap, rfl, har, hb3⟩
        have B3 := hide (B2.out.trans (hb3.mono B2.out.size))
        have AR := hide har
        clear har hb3 e0 e1 f0 f1 f2 f3 f4 OR
        by_cases hfull : n = 40
        · have EB := hide (RBAD.out 7 (M4'.out (by omega)) (by decide))
          subst hfull
          have TX := hide (two_below T.out B3.out)
          have BX := hide (BW.out.trans (B3.out.mono BW.out.size))
          obtain ⟨u0, u1, t0, t1, t2, t3⟩ := two_facts TX.out
          go_wp2
          obtain ⟨s0, s1⟩ := two_set TX.out (.slice none 0 0) (.slice none 0 0)
          refine bodyPost_ret (v := .tuple #[.agg #[.slice none 0 0, .slice none 0 0], .int .i64 7]) (by simp [results, Try.results43, go_sem, s0, s1]) rfl (EB.out _ (two_below_set BX.out (by omega) _ _))
        · have hfz : ¬ (n : Int) = 40 := by omega
          have M6 := hide (M5'.out (by omega))
          clear M4' M5' hfull
          go_wp2_with fail
          rw [show ((n : Int) == 40) = false from by simp; omega]
          clear hfz
          go_loopw [38] (fun vi wr => ∃ k : Nat, vi = .int .i64 k ∧ k ≤ n ∧ Hid ((L.take k).any (against (a, ac, sd, pr, q)) = false) ∧ Hid (Below W3.heap.size W3 wr)) (fun vi _ => n - (intOf vi).toNat)
          case atStart => exact ⟨0, rfl, Nat.zero_le _, hide rfl, hide (Below.refl _ _)⟩
          case round =>
            obtain ⟨k, rfl, hk, HF, HB⟩ := hrel
            have B4 := hide (B3.out.trans (HB.out.mono B3.out.size))
            by_cases hlt : k < n
            · have hltz : (k : Int) < n := by omega
              have hkx : k < L.length := by rw [HN.out]; exact hlt
              obtain ⟨c0, c1, c2, c3, c4⟩ := orow_cells (w := wr) (b := g) (off := 0) (xs := L) (fun j hj i v hv => (HB.out.cell AR.out.lt).trans (ar_row AR.out j hj i v hv)) hkx
              rw [Nat.zero_add] at c0 c1 c2 c3 c4
              have AS := hide (any_snoc (against (a, ac, sd, pr, q)) hkx)
              have OX := OKX.out L[k]! (by rw [getElem!_pos L k hkx]; exact List.getElem_mem hkx)
              generalize L[k]! = x at c0 c1 c2 c3 c4 AS OX
              obtain ⟨xa, xc, xd, xp, xq⟩ := x
              dsimp only [oid, oac, osd, opr, oqt] at c0 c1 c2 c3 c4 OX
              have B5 := hide (B4.out.trans (((Below.refl _ wr).alloc (Nat.le_refl _) (.cells #[.int .i64 xa, .int .i64 xc, .int .i64 xd, .int .i64 xp, .int .i64 xq] 44)).mono B4.out.size))
              have HB5 := hide (HB.out.trans (((Below.refl _ wr).alloc (Nat.le_refl _) (.cells #[.int .i64 xa, .int .i64 xc, .int .i64 xd, .int .i64 xp, .int .i64 xq] 44)).mono HB.out.size))
              obtain ⟨-, -, f0, f1, f2, f3, f4⟩ := KEEP.out _ B5.out
              by_cases hsd : xd = sd
              · have hsb : (xd != sd) = false := by simp [hsd]
                have HF1 : Hid ((L.take (k + 1)).any (against (a, ac, sd, pr, q)) = false) := by rw [AS.out, HF.out]; exact hide (by simp [against, osd, hsd])
                clear hsd AS HF
                go_wp2
                go_roundw
                case rel => exact ⟨k + 1, by go_num, by omega, HF1, HB5⟩
                case measure => simp [intOf]; omega
              · have B6 := hide (B5.out.trans (((Below.refl _ (wr.alloc (.cells #[.int .i64 xa, .int .i64 xc, .int .i64 xd, .int .i64 xp, .int .i64 xq] 44))).alloc (Nat.le_refl _) (.cells #[.int .i64 a, .int .i64 ac, .int .i64 sd, .int .i64 pr, .int .i64 q] 44)).mono B5.out.size))
                have HB6 := hide (HB5.out.trans (((Below.refl _ (wr.alloc (.cells #[.int .i64 xa, .int .i64 xc, .int .i64 xd, .int .i64 xp, .int .i64 xq] 44))).alloc (Nat.le_refl _) (.cells #[.int .i64 a, .int .i64 ac, .int .i64 sd, .int .i64 pr, .int .i64 q] 44)).mono HB5.out.size))
                have MT := hide (meets_any a ac sd pr q xp (wr.alloc (.cells #[.int .i64 xa, .int .i64 xc, .int .i64 xd, .int .i64 xp, .int .i64 xq] 44)) OS.out OP.out.1 OP.out.2.1 OX.1 OX.2)
                have AG : Hid (against (a, ac, sd, pr, q) (xa, xc, xd, xp, xq) = meets (a, ac, sd, pr, q) xp) := by simp [against, osd, hsd, hide]
                cases hm : meets (a, ac, sd, pr, q) xp with
                | true =>
                  rw [hm] at MT
                  have EB := hide (RBAD.out 9 (by rw [M6.out, CA'.out, any_take (k := k + 1) _ (by rw [AS.out, AG.out, hm, Bool.or_true])]; rfl) (by decide))
                  have TX := hide (two_below T.out B6.out)
                  have BX := hide (BW.out.trans (B6.out.mono BW.out.size))
                  obtain ⟨u0, u1, t0, t1, t2, t3⟩ := two_facts TX.out
                  clear AS HF AG hm
                  go_wp2_with (go_at_call 86; refine MT.out.mono ?_; rintro e w' ⟨rfl, rfl⟩)
                  obtain ⟨s0, s1⟩ := two_set TX.out (.slice none 0 0) (.slice none 0 0)
                  refine bodyPost_ret (v := .tuple #[.agg #[.slice none 0 0, .slice none 0 0], .int .i64 9]) (by simp [results, Try.results43, go_sem, s0, s1]) rfl (EB.out _ (two_below_set BX.out (by omega) _ _))
                | false =>
                  rw [hm] at MT
                  have HF1 : Hid ((L.take (k + 1)).any (against (a, ac, sd, pr, q)) = false) := by rw [AS.out, HF.out, AG.out, hm]; exact hide rfl
                  clear AS HF AG hm
                  go_wp2_with (go_at_call 86; refine MT.out.mono ?_; rintro e w' ⟨rfl, rfl⟩)
                  go_roundw
                  case rel => exact ⟨k + 1, by go_num, by omega, HF1, HB6⟩
                  case measure => simp [intOf]; omega
            · have hk' : k = n := by omega
              subst hk'
              have hmr : mr = 0 := by
                have := HF.out
                rw [show L.take k = L from List.take_of_length_le (by rw [HN.out]; exact Nat.le_refl _)] at this
                rw [M6.out, CA'.out, this]; rfl
              have RX := hide (ROK.out hmr)
              have BX := hide (BO'.out hmr)
              have hLk := HN.out
              subst hLk
              obtain ⟨e0, e1, f0, f1, f2, f3, f4⟩ := KEEP.out wr B4.out
              have hbA := HB.out.trans (((Below.refl _ wr).alloc (Nat.le_refl _) (.cells #[.int .i64 a, .int .i64 ac, .int .i64 sd, .int .i64 pr, .int .i64 q] 44)).mono HB.out.size)
              have AX := hide (ar_same AR.out hbA.size (hbA.block g AR.out.lt))
              have BA := hide (B3.out.trans (hbA.mono B3.out.size))
              have OVN := hide (ov_new wr a ac sd pr q)
              clear hmr hbA e0 e1 HF M6 CA' BO' RBAD ROK
              go_wp2_with (at_builtin; refine ar_append AX.out OVN.out ?_ hi hz0 hz1 hz2 ?_ (.tmp 55) (.tmp 57) ?_ ?_ ?_ ?_; (simp; omega); exact rfl; exact rfl; exact rfl; exact rfl; intro g2 cap2 x7 har har0 hbel; generalize hm : (L ++ [(a, ac, sd, pr, q)]).length = m)
              have B7 := hide (BA.out.trans (hbel.mono B2.out.size))
              have CB := hide (BX.out x7 (some ⟨g2, 0, none⟩) m cap2 hm (by rw [← hm, List.length_append]; simp; omega) (ar_ov har).row)
              clear har har0 hbel hm
              go_wp2_with fail
              refine CB.out.mono ?_
              rintro e w8 ⟨p0, c0, p1, c1, rfl, v0, v1, z0, z1, hb8⟩
              have hs7 : w.heap.size + 2 < x7.heap.size := Nat.lt_of_lt_of_le SZ.out B7.out.size
              have B8 := hide (B7.out.trans (hb8.mono B7.out.size))
              have V0 := hide (ov_below_two (t := w.heap.size + 1 + 1) (v0 := .slice p0 TB.length c0) (v1 := .slice p1 TA.length c1) v0 (fun a ha => by have := z0 a ha; omega))
              have V1 := hide (ov_below_two (t := w.heap.size + 1 + 1) (v0 := .slice p0 TB.length c0) (v1 := .slice p1 TA.length c1) v1 (fun a ha => by have := z1 a ha; omega))
              have Z0 : Hid (∀ a, p0 = some a → w.heap.size ≤ a.block) := fun a ha => by have := z0 a ha; omega
              have Z1 : Hid (∀ a, p1 = some a → w.heap.size ≤ a.block) := fun a ha => by have := z1 a ha; omega
              have TX := hide (two_below T.out B8.out)
              have BX8 := hide (BW.out.trans (B8.out.mono BW.out.size))
              clear v0 v1 z0 z1 hb8 hs7 CB
              obtain ⟨u0, u1, t0, t1, t2, t3⟩ := two_facts TX.out
              go_wp2
              obtain ⟨s0, s1⟩ := two_set TX.out (.slice p0 TB.length c0) (.slice p1 TA.length c1)
              refine bodyPost_ret (v := .tuple #[.agg #[.slice p0 TB.length c0, .slice p1 TA.length c1], .int .i64 0]) (by simp [results, Try.results43, go_sem, s0, s1]) rfl (RX.out _ _ ⟨p0, c0, p1, c1, rfl, V0.out, V1.out, Z0.out, Z1.out⟩ (two_below_set BX8.out (by omega) _ _))
      · have MB := hide (M3.out rfl hok)
        have TX := hide (two_below T.out B9.out)
        have BX := hide (BW.out.trans (B9.out.mono BW.out.size))
        go_wp2_with fail
        refine (refCheckOrder_grow a ac sd pr q _).mono ?_
        rintro e w2 ⟨rfl, k2, os2, hw2⟩
        have hb2 := grow_below x9 k2 os2
        rw [← hw2] at hb2
        clear hw2 os2 k2
        have T2 := hide (two_below TX.out hb2)
        have B2 := hide (BX.out.trans (hb2.mono BX.out.size))
        have E2 := hide (RBAD.out _ MB.out hok)
        clear hb2
        generalize okOrder (a, ac, sd, pr, q) = eo at hok E2 ⊢
        obtain ⟨u0, u1, t0, t1, t2, t3⟩ := two_facts T2.out
        go_wp2
        obtain ⟨s0, s1⟩ := two_set T2.out (.slice none 0 0) (.slice none 0 0)
        refine bodyPost_ret (v := .tuple #[.agg #[.slice none 0 0, .slice none 0 0], .int .i64 eo]) (by simp [results, Try.results43, go_sem, s0, s1]) rfl (E2.out _ (two_below_set B2.out (by omega) _ _))
end Go.Proofs.Ytbphljnncbiddaa.Rk
