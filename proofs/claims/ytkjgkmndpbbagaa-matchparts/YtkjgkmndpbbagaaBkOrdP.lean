/-
  Plain mathematics for BookOrder: orders come to rest one by one, in whatever order they came.
-/
import Derived.Test.YtkjgkmndpbbagaaBk2
namespace Go.Proofs.Ytkjgkmndpbbagaa.Bk

/-- of this book's orders L are still to come, the others rest. -/
structure Taken (bids asks L XB XA : List Odr) : Prop where
  right : Right XB XA
  perm : (L ++ (XB ++ XA)).Perm (bids ++ asks)

theorem laid_perm (l : List Odr) (o : Odr) : (laid l o).Perm (o :: l) := by
  unfold laid
  refine List.perm_middle.trans ?_
  rw [List.take_append_drop]
theorem rest_perm (XB XA : List Odr) (o : Odr) : (restB XB o ++ restA XA o).Perm (o :: (XB ++ XA)) := by
  unfold restB restA
  by_cases h : osd o = 1
  · rw [if_pos h, if_pos h, ← List.cons_append]
    exact (laid_perm XB o).append_right XA
  · rw [if_neg h, if_neg h]
    exact ((laid_perm XA o).append_left XB).trans List.perm_middle

theorem Taken.start {bids asks : List Odr} : Taken bids asks (bids ++ asks) [] [] :=
  ⟨bookErr_zero.1 (by decide), by simp⟩

theorem Taken.next {bids asks L XB XA : List Odr} (hR : Right bids asks) (h : Taken bids asks L XB XA) {k : Nat} (hk : k < L.length) :
    mayRest XB XA L[k]! = 0 ∧ Taken bids asks (L.take k ++ L.drop (k + 1)) (restB XB L[k]!) (restA XA L[k]!) := by
  have hp := h.perm
  have hLk : L = L.take k ++ L[k]! :: L.drop (k + 1) := by
    rw [getElem!_pos L k hk, ← List.drop_eq_getElem_cons hk, List.take_append_drop]
  have hmL : L[k]! ∈ L := by rw [getElem!_pos L k hk]; exact List.getElem_mem hk
  generalize L[k]! = o at hLk hmL
  have hmo : o ∈ bids ++ asks := hp.subset (List.mem_append.2 (.inl hmL))
  have hnod : ((L ++ (XB ++ XA)).map oid).Nodup := by
    have := hR.nod
    rw [← List.map_append] at this
    exact (hp.map oid).nodup_iff.2 this
  rw [List.map_append, List.nodup_append] at hnod
  have hno : oid o ∉ (XB ++ XA).map oid := fun e => hnod.2.2 (oid o) (List.mem_map.2 ⟨o, hmL, rfl⟩) (oid o) e rfl
  rw [List.map_append, List.mem_append, not_or] at hno
  have ho : okOrder o = 0 := by
    rcases List.mem_append.1 hmo with e | e
    · exact hR.b.ok o e
    · exact hR.a.ok o e
  have hlen := hp.length_eq
  simp only [List.length_append] at hlen
  have hfew := hR.few
  have hpos : 0 < L.length := by omega
  have hm : mayRest XB XA o = 0 := by
    rw [mayRest_zero]
    refine ⟨h.right, hno.1, hno.2, ho, by omega, ?_, ?_⟩
    · intro hs x hx
      have hxm : x ∈ bids ++ asks := hp.subset (List.mem_append.2 (.inr (List.mem_append.2 (.inr hx))))
      have hxs := h.right.a.sd x hx
      rcases List.mem_append.1 hmo with e | e
      · rcases List.mem_append.1 hxm with f | f
        · have := hR.b.sd x f; omega
        · exact hR.below e f
      · have := hR.a.sd o e; omega
    · intro hs x hx
      have hxm : x ∈ bids ++ asks := hp.subset (List.mem_append.2 (.inr (List.mem_append.2 (.inl hx))))
      have hxs := h.right.b.sd x hx
      rcases List.mem_append.1 hmo with e | e
      · have := hR.b.sd o e; omega
      · rcases List.mem_append.1 hxm with f | f
        · exact hR.below f e
        · have := hR.a.sd x f; omega
  refine ⟨hm, rest_right hm, ?_⟩
  refine ((rest_perm XB XA o).append_left _).trans ?_
  refine List.perm_middle.trans ?_
  refine List.Perm.trans ?_ hp
  conv => rhs; rw [hLk]
  rw [List.append_assoc, List.append_assoc, List.cons_append]
  exact List.perm_middle.symm

theorem Taken.done {bids asks XB XA : List Odr} (hR : Right bids asks) (h : Taken bids asks [] XB XA) : XB = bids ∧ XA = asks := by
  have hp : (XB ++ XA).Perm (bids ++ asks) := h.perm
  constructor
  · refine side_eq h.right.b hR.b fun x => ?_
    constructor
    · intro hx
      rcases List.mem_append.1 (hp.subset (List.mem_append.2 (.inl hx))) with e | e
      · exact e
      · have := h.right.b.sd x hx; have := hR.a.sd x e; omega
    · intro hx
      rcases List.mem_append.1 (hp.symm.subset (List.mem_append.2 (.inl hx))) with e | e
      · exact e
      · have := hR.b.sd x hx; have := h.right.a.sd x e; omega
  · refine side_eq h.right.a hR.a fun x => ?_
    constructor
    · intro hx
      rcases List.mem_append.1 (hp.subset (List.mem_append.2 (.inr hx))) with e | e
      · have := h.right.a.sd x hx; have := hR.b.sd x e; omega
      · exact e
    · intro hx
      rcases List.mem_append.1 (hp.symm.subset (List.mem_append.2 (.inr hx))) with e | e
      · have := hR.a.sd x hx; have := h.right.b.sd x e; omega
      · exact e
end Go.Proofs.Ytkjgkmndpbbagaa.Bk
