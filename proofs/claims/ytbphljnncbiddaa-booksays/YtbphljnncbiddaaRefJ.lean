/-
  A row of orders of one side, sorted by the library: the one sorted list of these orders.
-/
import Derived.Test.YtbphljnncbiddaaStC
import Derived.Test.YtbphljnncbiddaaBkRem
namespace Go.Proofs.Ytbphljnncbiddaa.Rk
open Go.Shelf Go.RowKit Go.Lib Go.Sort Go.Maps Go.Proofs.Ytbphljnncbiddaa.Bk
open Go.Proofs.Ytbphljnncbiddaa.St hiding hide

def to4 (x : Odr) : O4 := (x.1, x.2.1, x.2.2.2.1, x.2.2.2.2)
theorem mk_to {s : Int} {x : Odr} (h : osd x = s) : mk4 s (to4 x) = x := by
  obtain ⟨a, b, c, d, e⟩ := x
  simp [osd] at h
  subst h
  rfl
theorem map_to {s : Int} {xs : List Odr} (h : ∀ x, x ∈ xs → osd x = s) : (xs.map to4).map (mk4 s) = xs := by
  rw [List.map_map]
  have : ∀ x ∈ xs, (mk4 s ∘ to4) x = id x := fun x hx => mk_to (h x hx)
  rw [List.map_congr_left this, List.map_id]

theorem hold_own {s : Int} {w : World} {B g n cap : Nat} {xs : List Odr} (h : w.ownsRow B 44 5 (.slice (some ⟨g, 0, none⟩) n cap) n (flat xs)) (hl : xs.length = n) (hs : ∀ x, x ∈ xs → osd x = s) : HoldsK (enc4 s) 5 w g 0 (xs.map to4).toArray := by
  intro t ht
  have ht' : t < n * 5 := by simpa [hl] using ht
  have hi : t / 5 < xs.length := by omega
  have hj : t % 5 < 5 := Nat.mod_lt _ (by decide)
  have e1 : (xs.map to4).toArray[t / 5]! = to4 xs[t / 5]! := by
    rw [getElem!_pos _ _ (by simpa using hi), getElem!_pos xs _ hi]
    simp
  have e2 : enc4 s (xs.map to4).toArray[t / 5]! = Bk.enc xs[t / 5]! := by
    unfold enc4
    rw [e1, mk_to (hs _ (by rw [getElem!_pos xs _ hi]; exact List.getElem_mem hi))]
  refine ⟨?_, by rw [Nat.zero_add]; exact h.frozenAt t⟩
  rw [get_flatK _ _ _ _ (by simpa [hl] using ht'), e2, Nat.zero_add, h.cellAt t ht']
  have := flat_get xs (t / 5) (t % 5) hi hj
  rw [show t / 5 * 5 + t % 5 = t by omega] at this
  rw [this]
  have hlen : t % 5 < (Bk.enc xs[t / 5]!).length := hj
  rw [List.getElem?_eq_getElem hlen, id_eq, getElem!_pos (Bk.enc xs[t / 5]!) (t % 5) hlen]

theorem swk_grown {s : Int} {w0 W : World} {blk off : Nat} {dk : Array O4} (h : SWK (enc4 s) 5 w0 blk off dk W) : w0.grownBy W (some blk) := by
  obtain ⟨n, os, rfl⟩ := h
  refine ⟨rfl, rfl, rfl, ?_, fun k hk hne => ?_⟩
  · unfold sortWorldK
    rw [size_grow, size_putRowK]
    show w0.heap.size ≤ w0.heap.size + _
    omega
  · have hne' : ¬ blk = k := fun e => hne (by rw [e])
    unfold sortWorldK
    show ((putRowK (enc4 s) 5 (Sort.ahead w0 n) blk off dk).heap ++ os)[k]? = _
    rw [Array.getElem?_append_left (by rw [size_putRowK]; exact hk)]
    simp [putRowK, putRow, mapBlock, Sort.ahead, Array.getElem?_modify, hne']

theorem orow_holds {s : Int} {w : World} {g : Nat} {d : Array O4} {xs : List Odr} (h : HoldsK (enc4 s) 5 w g 0 d) (hx : d.toList.map (mk4 s) = xs) : ORow w (some ⟨g, 0, none⟩) xs := by
  subst hx
  refine .inr ⟨g, 0, rfl, fun j hj i v hv => ?_⟩
  have hj' : j < d.size := by simpa using hj
  have e : (d.toList.map (mk4 s))[j]! = mk4 s d[j]! := by
    rw [getElem!_pos (d.toList.map (mk4 s)) j hj, getElem!_pos d j hj']
    simp
  rw [e] at hv
  have hi : i < 5 := by have := (List.getElem?_eq_some_iff.1 hv).1; exact this
  rw [(h.cell (i := j) (c := i) hj' hi).1]
  congr 1
  have hlen : i < (enc4 s d[j]!).length := hi
  rw [getElem!_pos (enc4 s d[j]!) i hlen]
  exact (List.getElem?_eq_some_iff.1 hv).2

/-- the one sorted list of these orders. -/
theorem sorted_list {s : Int} {T : List Odr} (sT : Side s T) (nT : (T.map oid).Nodup) {d d' : Array O4} {n : Nat} (hn : d.size = n) (hp : (d.toList.map (mk4 s)).Perm T) (p : PermIn 0 n d d') (so : SortedIn (lt4 s) 0 n d') : d'.toList.map (mk4 s) = T := by
  have hs : d'.size = n := p.1.trans hn
  have p1 : d'.toList.Perm d.toList := by
    have := p.2.2
    rwa [show d'.extract 0 n = d' from by rw [← hs]; simp, show d.extract 0 n = d from by rw [← hn]; simp] at this
  have p2 : (d'.toList.map (mk4 s)).Perm T := (p1.map _).trans hp
  have nd : ((d'.toList.map (mk4 s)).map oid).Nodup := (p2.map oid).nodup_iff.2 nT
  refine side_eq ⟨fun o ho => sT.ok o (p2.mem_iff.1 ho), fun o ho => sT.sd o (p2.mem_iff.1 ho), ?_⟩ sT (fun x => p2.mem_iff)
  rw [List.pairwise_iff_getElem]
  intro i j hi hj hij
  have hi' : i < d'.size := by simpa using hi
  have hj' : j < d'.size := by simpa using hj
  have h := so i j (Nat.zero_le _) hij (by omega)
  rw [getElem!_pos d' i hi', getElem!_pos d' j hj'] at h
  have e1 : (d'.toList.map (mk4 s))[i] = mk4 s d'[i] := by simp
  have e2 : (d'.toList.map (mk4 s))[j] = mk4 s d'[j] := by simp
  rw [e1, e2]
  refine ahead_total (a := mk4 s d'[j]) (b := mk4 s d'[i]) rfl (fun e => ?_) h
  have := (List.pairwise_iff_getElem.1 nd) i j (by simpa using hi') (by simpa using hj') hij
  apply this
  simp only [List.getElem_map] at e1 e2 ⊢
  rw [e1, e2]
  exact e.symm
end Go.Proofs.Ytbphljnncbiddaa.Rk
