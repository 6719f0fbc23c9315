/-
  Plain mathematics for package book, more: what rests and is removed; what is removed and rests.
-/
import Derived.Test.YtbphljnncbiddaaBk
namespace Go.Proofs.Ytbphljnncbiddaa.Bk

theorem hasId_iff (id : Int) (o : Odr) : hasId id o = true ↔ oid o = id := by simp [hasId]
theorem any_hasId (id : Int) (l : List Odr) : l.any (hasId id) = true ↔ id ∈ l.map oid := by
  simp only [List.any_eq_true, List.mem_map, hasId_iff]

/-- those ahead of o stand in front. -/
theorem place_parts (o : Odr) : ∀ (l : List Odr), (∀ x, x ∈ l → osd x = osd o) → l.Pairwise (fun a b => ahead a b = true) →
    (∀ x, x ∈ l.take (place l o) → ahead x o = true) ∧ (∀ x, x ∈ l.drop (place l o) → ahead x o = false) ∧ place l o ≤ l.length
  | [], _, _ => by simp [place]
  | y :: l, hs, hp => by
    obtain ⟨h1, h2⟩ := List.pairwise_cons.1 hp
    obtain ⟨i1, i2, i3⟩ := place_parts o l (fun x hx => hs x (by simp [hx])) h2
    cases hy : ahead y o with
    | true =>
      have e : place (y :: l) o = place l o + 1 := by simp [place, hy]
      rw [e]
      refine ⟨?_, ?_, by simp; omega⟩
      · intro x hx
        rw [List.take_succ_cons, List.mem_cons] at hx
        rcases hx with rfl | hx
        · exact hy
        · exact i1 x hx
      · intro x hx
        rw [List.drop_succ_cons] at hx
        exact i2 x hx
    | false =>
      have hno : ∀ x, x ∈ l → ahead x o = false := by
        intro x hx
        cases e : ahead x o
        · rfl
        · have := ahead_trans (by rw [hs y (by simp), hs x (by simp [hx])]) (h1 x hx) e
          rw [hy] at this; cases this
      have e0 : place l o = 0 := by
        unfold place; rw [List.countP_eq_zero]; intro x hx; simp [hno x hx]
      have e : place (y :: l) o = 0 := by
        unfold place at e0 ⊢; rw [List.countP_cons, e0]; simp [hy]
      rw [e]
      refine ⟨by simp, ?_, by simp⟩
      intro x hx
      simp only [List.drop_zero, List.mem_cons] at hx
      rcases hx with rfl | hx
      · exact hy
      · exact hno x hx

theorem mem_laid {l : List Odr} {o x : Odr} : x ∈ laid l o ↔ x = o ∨ x ∈ l := by
  unfold laid
  constructor
  · intro h
    rcases List.mem_append.1 h with h | h
    · exact .inr (List.mem_of_mem_take h)
    · rcases List.mem_cons.1 h with h | h
      · exact .inl h
      · exact .inr (List.mem_of_mem_drop h)
  · rintro (h | h)
    · simp [h]
    · rw [← List.take_append_drop (place l o) l] at h
      rcases List.mem_append.1 h with h | h
      · exact List.mem_append.2 (.inl h)
      · exact List.mem_append.2 (.inr (List.mem_cons_of_mem _ h))
theorem length_laid (l : List Odr) (o : Odr) : (laid l o).length = l.length + 1 := by
  unfold laid
  rw [List.length_append, List.length_cons, List.length_take, List.length_drop]
  omega

theorem laid_side {s : Int} {l : List Odr} {o : Odr} (h : Side s l) (ho : okOrder o = 0) (hs : osd o = s) (hn : oid o ∉ l.map oid) : Side s (laid l o) := by
  obtain ⟨p1, p2, _⟩ := place_parts o l (fun x hx => by rw [h.sd x hx, hs]) h.srt
  have hmem := @List.take_append_drop _ (place l o) l
  refine ⟨?_, ?_, ?_⟩
  · intro x hx
    rcases mem_laid.1 hx with rfl | hx
    · exact ho
    · exact h.ok x hx
  · intro x hx
    rcases mem_laid.1 hx with rfl | hx
    · exact hs
    · exact h.sd x hx
  · have hp := h.srt
    rw [← hmem, List.pairwise_append] at hp
    obtain ⟨q1, q2, q3⟩ := hp
    unfold laid
    rw [List.pairwise_append, List.pairwise_cons]
    refine ⟨q1, ⟨?_, q2⟩, ?_⟩
    · intro x hx
      have hx' := List.mem_of_mem_drop hx
      refine ahead_total (by rw [h.sd x hx', hs]) ?_ (p2 x hx)
      intro e
      exact hn (List.mem_map.2 ⟨x, hx', e⟩)
    · intro x hx y hy
      rcases List.mem_cons.1 hy with rfl | hy
      · exact p1 x hx
      · exact q3 x hx y hy

theorem without_none {id : Int} {l : List Odr} (h : id ∉ l.map oid) : without id l = l := by
  unfold without
  rw [List.filter_eq_self]
  intro x hx
  have : oid x ≠ id := fun e => h (List.mem_map.2 ⟨x, hx, e⟩)
  simp [hasId, this]
theorem without_laid {l : List Odr} {o : Odr} (hn : oid o ∉ l.map oid) : without (oid o) (laid l o) = l := by
  have e := without_none hn
  conv at e => lhs; rw [← List.take_append_drop (place l o) l]
  unfold laid
  unfold without at e ⊢
  rw [List.filter_append] at e ⊢
  rw [List.filter_cons]
  simp only [hasId, decide_true, Bool.not_true]
  simpa [hasId] using e

theorem laid_ids (l : List Odr) (o : Odr) : (laid l o).map oid = (l.map oid).take (place l o) ++ oid o :: (l.map oid).drop (place l o) := by
  simp [laid, List.map_take, List.map_drop]
theorem nodup_put {α : Type} (A B C : List α) (x : α) (k : Nat) (h : (A ++ B ++ C).Nodup) (hx : x ∉ A ++ B ++ C) : (A ++ (B.take k ++ x :: B.drop k) ++ C).Nodup := by
  have hb := List.take_append_drop k B
  rw [← hb] at h hx
  generalize B.take k = P at *
  generalize B.drop k = Q at *
  simp only [List.append_assoc, List.cons_append] at *
  rw [List.nodup_append] at h ⊢
  rw [List.nodup_append] at h ⊢
  simp only [List.mem_append, not_or] at hx
  obtain ⟨h1, ⟨h2, h3, h4⟩, h5⟩ := h
  refine ⟨h1, ⟨h2, ?_, ?_⟩, ?_⟩
  · rw [List.nodup_cons]
    exact ⟨by simp [hx], h3⟩
  · intro a ha b hb
    rcases List.mem_cons.1 hb with rfl | hb
    · rintro rfl; exact hx.2.1 ha
    · exact h4 a ha b hb
  · intro a ha b hb
    rcases List.mem_append.1 hb with hb' | hb'
    · exact h5 a ha b (by simp [hb'])
    · rcases List.mem_cons.1 hb' with rfl | hb'
      · rintro rfl; exact hx.1 ha
      · exact h5 a ha b (List.mem_append.2 (.inr hb'))

/-- the first of a side stands ahead of all others: of the bids none is greater, of the asks none is lower. -/
theorem head_bid {l : List Odr} (h : Side 1 l) {x y : Odr} (hx : l.head? = some x) (hy : y ∈ l) : opr y ≤ opr x := by
  cases l with
  | nil => cases hy
  | cons z l =>
    simp only [List.head?_cons, Option.some.injEq] at hx
    subst hx
    rcases List.mem_cons.1 hy with rfl | hy
    · exact Int.le_refl _
    · have := (List.pairwise_cons.1 h.srt).1 y hy
      have hs := h.sd z (by simp)
      rw [ahead_iff] at this; omega
theorem head_ask {l : List Odr} (h : Side (-1) l) {x y : Odr} (hx : l.head? = some x) (hy : y ∈ l) : opr x ≤ opr y := by
  cases l with
  | nil => cases hy
  | cons z l =>
    simp only [List.head?_cons, Option.some.injEq] at hx
    subst hx
    rcases List.mem_cons.1 hy with rfl | hy
    · exact Int.le_refl _
    · have := (List.pairwise_cons.1 h.srt).1 y hy
      have hs := h.sd z (by simp)
      rw [ahead_iff] at this; omega
/-- not crossed: each bid is below each ask. -/
theorem Right.below {bids asks : List Odr} (h : Right bids asks) {x y : Odr} (hx : x ∈ bids) (hy : y ∈ asks) : opr x < opr y := by
  cases hb : bids.head? with
  | none => rw [List.head?_eq_none_iff] at hb; subst hb; cases hx
  | some p =>
    cases ha : asks.head? with
    | none => rw [List.head?_eq_none_iff] at ha; subst ha; cases hy
    | some q =>
      have := h.un p q hb ha
      have := head_bid h.b hb hx
      have := head_ask h.a ha hy
      omega
theorem mem_of_head? {l : List Odr} {x : Odr} (h : l.head? = some x) : x ∈ l := by
  cases l with
  | nil => cases h
  | cons y l => simp only [List.head?_cons, Option.some.injEq] at h; simp [h]

theorem crosses_false {o : Odr} (hs : osd o = 1 ∨ osd o = -1) {l : List Odr} : crosses o l = false ↔ ∀ x, l.head? = some x → (osd o = 1 → opr o < opr x) ∧ (osd o = -1 → opr x < opr o) := by
  cases l with
  | nil => simp [crosses]
  | cons y l =>
    simp only [crosses, List.head?_cons, Option.some.injEq]
    constructor
    · rintro h x rfl
      split at h <;> simp at h <;> constructor <;> intro _ <;> omega
    · intro h
      have := h y rfl
      split <;> simp <;> omega

/-- what rests. -/
def restB (bids : List Odr) (o : Odr) : List Odr := if osd o = 1 then laid bids o else bids
def restA (asks : List Odr) (o : Odr) : List Odr := if osd o = 1 then asks else laid asks o

theorem mayRest_zero {bids asks : List Odr} {o : Odr} : mayRest bids asks o = 0 ↔
    Right bids asks ∧ oid o ∉ bids.map oid ∧ oid o ∉ asks.map oid ∧ okOrder o = 0 ∧ bids.length + asks.length < 40 ∧ (osd o = 1 → ∀ x, x ∈ asks → opr o < opr x) ∧ (osd o = -1 → ∀ x, x ∈ bids → opr x < opr o) := by
  constructor
  · intro h
    unfold mayRest at h
    split at h
    · exact absurd h (by assumption)
    next h0 =>
      have hR := bookErr_zero.1 (Decidable.not_not.1 h0)
      split at h
      · cases h
      next h1 =>
        split at h
        · exact absurd h (by assumption)
        next h2 =>
          split at h
          · cases h
          next h3 =>
            cases h4 : crosses o (if osd o = -1 then bids else asks)
            case true => rw [h4] at h; cases h
            case false =>
              have ho := Decidable.not_not.1 h2
              have h1' : ¬ (oid o ∈ bids.map oid ∨ oid o ∈ asks.map oid) := by
                rw [Bool.or_eq_true, any_hasId, any_hasId] at h1; exact h1
              have h4' := (crosses_false (okOrder_sd ho)).1 h4
              refine ⟨hR, fun e => h1' (.inl e), fun e => h1' (.inr e), ho, by omega, ?_, ?_⟩
              · intro hs x hx
                rw [if_neg (by omega)] at h4'
                cases ha : asks.head? with
                | none => rw [List.head?_eq_none_iff] at ha; subst ha; cases hx
                | some q =>
                  have := (h4' q ha).1 hs
                  have := head_ask hR.a ha hx
                  omega
              · intro hs x hx
                rw [if_pos hs] at h4'
                cases ha : bids.head? with
                | none => rw [List.head?_eq_none_iff] at ha; subst ha; cases hx
                | some q =>
                  have := (h4' q ha).2 hs
                  have := head_bid hR.b ha hx
                  omega
  · rintro ⟨hR, n1, n2, ho, hl, c1, c2⟩
    unfold mayRest
    rw [if_neg (by rw [bookErr_zero.2 hR]; simp), if_neg, if_neg (by simp [ho]), if_neg (by omega), if_neg]
    · have : crosses o (if osd o = -1 then bids else asks) = false := by
        rw [crosses_false (okOrder_sd ho)]
        intro x hx
        constructor
        · intro hs
          rw [if_neg (by omega)] at hx
          exact c1 hs x (mem_of_head? hx)
        · intro hs
          rw [if_pos hs] at hx
          exact c2 hs x (mem_of_head? hx)
      simp [this]
    · rw [Bool.or_eq_true, any_hasId, any_hasId]
      rintro (e | e)
      · exact n1 e
      · exact n2 e

theorem rest_right {bids asks : List Odr} {o : Odr} (h : mayRest bids asks o = 0) : Right (restB bids o) (restA asks o) := by
  obtain ⟨hR, n1, n2, ho, hl, c1, c2⟩ := mayRest_zero.1 h
  have hn : oid o ∉ bids.map oid ++ asks.map oid := by simp only [List.mem_append, not_or]; exact ⟨n1, n2⟩
  unfold restB restA
  by_cases hs : osd o = 1
  · rw [if_pos hs, if_pos hs]
    refine ⟨by rw [length_laid]; omega, laid_side hR.b ho hs n1, hR.a, ?_, ?_⟩
    · rw [laid_ids]
      exact nodup_put [] _ _ _ _ (by simpa using hR.nod) (by simpa using hn)
    · intro x y hx hy
      rcases mem_laid.1 (mem_of_head? hx) with rfl | hx
      · exact c1 hs y (mem_of_head? hy)
      · exact hR.below hx (mem_of_head? hy)
  · have hs' : osd o = -1 := by rcases okOrder_sd ho with e | e <;> omega
    rw [if_neg hs, if_neg hs]
    refine ⟨by rw [length_laid]; omega, hR.b, laid_side hR.a ho hs' n2, ?_, ?_⟩
    · rw [laid_ids]
      have := nodup_put (bids.map oid) (asks.map oid) [] (oid o) (place asks o) (by simpa using hR.nod) (by simpa using hn)
      simpa using this
    · intro x y hx hy
      rcases mem_laid.1 (mem_of_head? hy) with rfl | hy
      · exact c2 hs' x (mem_of_head? hx)
      · exact hR.below (mem_of_head? hx) hy

theorem rest_without {bids asks : List Odr} {o : Odr} (h : mayRest bids asks o = 0) : without (oid o) (restB bids o) = bids ∧ without (oid o) (restA asks o) = asks := by
  obtain ⟨hR, n1, n2, ho, hl, c1, c2⟩ := mayRest_zero.1 h
  unfold restB restA
  by_cases hs : osd o = 1
  · rw [if_pos hs, if_pos hs]; exact ⟨without_laid n1, without_none n2⟩
  · rw [if_neg hs, if_neg hs]; exact ⟨without_none n1, without_laid n2⟩

/-- the order of this ID: of the bids, of the asks. -/
def findIn (id : Int) (bids asks : List Odr) : Option Odr := (bids ++ asks).find? (hasId id)

theorem find_unique {l : List Odr} (hn : (l.map oid).Nodup) {o : Odr} (ho : o ∈ l) : l.find? (hasId (oid o)) = some o := by
  induction l with
  | nil => cases ho
  | cons x l ih =>
    rw [List.map_cons, List.nodup_cons] at hn
    rw [List.find?_cons]
    rcases List.mem_cons.1 ho with rfl | ho
    · simp [hasId]
    · have : hasId (oid o) x = false := by
        simp only [hasId, decide_eq_false_iff_not]
        intro e; exact hn.1 (e ▸ List.mem_map.2 ⟨o, ho, rfl⟩)
      rw [this]; exact ih hn.2 ho
theorem find_mem {id : Int} {l : List Odr} {o : Odr} (h : l.find? (hasId id) = some o) : o ∈ l ∧ oid o = id :=
  ⟨List.mem_of_find?_eq_some h, by simpa [hasId] using List.find?_some h⟩

theorem without_sub (id : Int) (l : List Odr) : (without id l).Sublist l := List.filter_sublist
theorem without_side {s : Int} {l : List Odr} (id : Int) (h : Side s l) : Side s (without id l) :=
  ⟨fun o ho => h.ok o ((without_sub id l).subset ho), fun o ho => h.sd o ((without_sub id l).subset ho), h.srt.sublist (without_sub id l)⟩
theorem without_ids {id : Int} {l : List Odr} : id ∉ (without id l).map oid := by
  intro h
  obtain ⟨x, hx, e⟩ := List.mem_map.1 h
  have := (List.mem_filter.1 hx).2
  simp [hasId, e] at this
theorem mem_without {id : Int} {l : List Odr} {x : Odr} : x ∈ without id l ↔ x ∈ l ∧ oid x ≠ id := by
  simp [without, List.mem_filter, hasId]
theorem length_without {id : Int} {l : List Odr} (h : id ∈ l.map oid) : (without id l).length < l.length := by
  unfold without
  obtain ⟨x, hx, e⟩ := List.mem_map.1 h
  refine Nat.lt_of_le_of_ne (List.length_filter_le _ _) fun he => ?_
  have hs := List.Sublist.eq_of_length (without_sub id l) he
  have : x ∈ without id l := by rw [hs]; exact hx
  exact (mem_without.1 this).2 e

theorem remove_right {bids asks : List Odr} (id : Int) (h : Right bids asks) : Right (without id bids) (without id asks) := by
  refine ⟨?_, without_side id h.b, without_side id h.a, ?_, ?_⟩
  · have := (without_sub id bids).length_le
    have := (without_sub id asks).length_le
    have := h.few
    omega
  · exact h.nod.sublist (((without_sub id bids).map oid).append ((without_sub id asks).map oid))
  · intro x y hx hy
    exact h.below (mem_without.1 (mem_of_head? hx)).1 (mem_without.1 (mem_of_head? hy)).1

/-- a sorted side is one: of the same orders there is one way. -/
theorem side_eq {s : Int} : ∀ {l m : List Odr}, Side s l → Side s m → (∀ x, x ∈ l ↔ x ∈ m) → l = m
  | [], [], _, _, _ => rfl
  | [], y :: m, _, _, h => absurd ((h y).2 (by simp)) (by simp)
  | x :: l, [], _, _, h => absurd ((h x).1 (by simp)) (by simp)
  | x :: l, y :: m, hl, hm, h => by
    obtain ⟨l1, l2⟩ := List.pairwise_cons.1 hl.srt
    obtain ⟨m1, m2⟩ := List.pairwise_cons.1 hm.srt
    have hxy : x = y := by
      rcases List.mem_cons.1 ((h x).1 (by simp)) with e | hx
      · exact e
      · rcases List.mem_cons.1 ((h y).2 (by simp)) with e | hy
        · exact e.symm
        · have a1 := m1 x hx
          have a2 := l1 y hy
          have := ahead_asymm (by rw [hl.sd x (by simp), hm.sd y (by simp)]) a2
          rw [a1] at this; cases this
    subst hxy
    have : l = m := by
      refine side_eq ⟨fun o ho => hl.ok o (by simp [ho]), fun o ho => hl.sd o (by simp [ho]), l2⟩ ⟨fun o ho => hm.ok o (by simp [ho]), fun o ho => hm.sd o (by simp [ho]), m2⟩ fun z => ?_
      constructor
      · intro hz
        rcases List.mem_cons.1 ((h z).1 (by simp [hz])) with e | hz'
        · subst e
          have := l1 z hz
          rw [ahead_irrefl] at this; cases this
        · exact hz'
      · intro hz
        rcases List.mem_cons.1 ((h z).2 (by simp [hz])) with e | hz'
        · subst e
          have := m1 z hz
          rw [ahead_irrefl] at this; cases this
        · exact hz'
    rw [this]

theorem nod_parts {bids asks : List Odr} (h : Right bids asks) : (bids.map oid).Nodup ∧ (asks.map oid).Nodup ∧ ∀ i, i ∈ bids.map oid → i ∉ asks.map oid := by
  have := h.nod
  rw [List.nodup_append] at this
  exact ⟨this.1, this.2.1, fun i hi hj => this.2.2 i hi i hj rfl⟩
theorem same_id {l : List Odr} (hn : (l.map oid).Nodup) {x y : Odr} (hx : x ∈ l) (hy : y ∈ l) (e : oid x = oid y) : x = y := by
  have h1 := find_unique hn hx
  rw [e, find_unique hn hy] at h1
  exact (Option.some.inj h1).symm

theorem removed_rests {bids asks : List Odr} {id : Int} {o : Odr} (h : Right bids asks) (hf : findIn id bids asks = some o) :
    mayRest (without id bids) (without id asks) o = 0 ∧ restB (without id bids) o = bids ∧ restA (without id asks) o = asks := by
  obtain ⟨hm, e⟩ := find_mem hf
  obtain ⟨d1, d2, d3⟩ := nod_parts h
  have hR := remove_right id h
  have ho : okOrder o = 0 := by
    rcases List.mem_append.1 hm with hm | hm
    · exact h.b.ok o hm
    · exact h.a.ok o hm
  have h0 : mayRest (without id bids) (without id asks) o = 0 := by
    rw [mayRest_zero]
    refine ⟨hR, e ▸ without_ids, e ▸ without_ids, ho, ?_, ?_, ?_⟩
    · have := (without_sub id bids).length_le
      have := (without_sub id asks).length_le
      have := h.few
      rcases List.mem_append.1 hm with hm | hm
      · have := @length_without id bids (e ▸ List.mem_map.2 ⟨o, hm, rfl⟩)
        omega
      · have := @length_without id asks (e ▸ List.mem_map.2 ⟨o, hm, rfl⟩)
        omega
    · intro hs x hx
      have hx' := (mem_without.1 hx).1
      rcases List.mem_append.1 hm with hm | hm
      · exact h.below hm hx'
      · have := h.a.sd o hm; omega
    · intro hs x hx
      have hx' := (mem_without.1 hx).1
      rcases List.mem_append.1 hm with hm | hm
      · have := h.b.sd o hm; omega
      · exact h.below hx' hm
  refine ⟨h0, ?_, ?_⟩
  · unfold restB
    by_cases hs : osd o = 1
    · rw [if_pos hs]
      have hm' : o ∈ bids := by
        rcases List.mem_append.1 hm with hm | hm
        · exact hm
        · have := h.a.sd o hm; omega
      refine side_eq (laid_side hR.b ho hs (e ▸ without_ids)) h.b fun x => ?_
      rw [mem_laid, mem_without]
      constructor
      · rintro (rfl | hx)
        · exact hm'
        · exact hx.1
      · intro hx
        by_cases he : oid x = id
        · exact .inl (same_id d1 hx hm' (he.trans e.symm))
        · exact .inr ⟨hx, he⟩
    · rw [if_neg hs]
      refine without_none fun hi => ?_
      obtain ⟨x, hx, hxe⟩ := List.mem_map.1 hi
      rcases List.mem_append.1 hm with hm | hm
      · exact hs (h.b.sd o hm)
      · exact d3 id hi (List.mem_map.2 ⟨o, hm, e⟩)
  · unfold restA
    by_cases hs : osd o = 1
    · rw [if_pos hs]
      refine without_none fun hi => ?_
      rcases List.mem_append.1 hm with hm | hm
      · exact d3 id (List.mem_map.2 ⟨o, hm, e⟩) hi
      · have := h.a.sd o hm; omega
    · rw [if_neg hs]
      have hm' : o ∈ asks := by
        rcases List.mem_append.1 hm with hm | hm
        · exact absurd (h.b.sd o hm) hs
        · exact hm
      have hs' : osd o = -1 := h.a.sd o hm'
      refine side_eq (laid_side hR.a ho hs' (e ▸ without_ids)) h.a fun x => ?_
      rw [mem_laid, mem_without]
      constructor
      · rintro (rfl | hx)
        · exact hm'
        · exact hx.1
      · intro hx
        by_cases he : oid x = id
        · exact .inl (same_id d2 hx hm' (he.trans e.symm))
        · exact .inr ⟨hx, he⟩

theorem rest_found {bids asks : List Odr} {o : Odr} (h : mayRest bids asks o = 0) : findIn (oid o) (restB bids o) (restA asks o) = some o := by
  have hR := rest_right h
  refine find_unique (by rw [List.map_append]; exact hR.nod) ?_
  unfold restB restA
  by_cases hs : osd o = 1
  · rw [if_pos hs, if_pos hs]; exact List.mem_append.2 (.inl (mem_laid.2 (.inl rfl)))
  · rw [if_neg hs, if_neg hs]; exact List.mem_append.2 (.inr (mem_laid.2 (.inl rfl)))

end Go.Proofs.Ytbphljnncbiddaa.Bk
