/-
  Plain mathematics for package book: no program in sight. An order is five numbers: its ID, account, side, price, quantity.
-/
import Derived.WalkKit
namespace Go.Proofs.Ytbphljnncbiddaa.Bk

abbrev Odr := Int × Int × Int × Int × Int
abbrev oid (o : Odr) : Int := o.1
abbrev oac (o : Odr) : Int := o.2.1
abbrev osd (o : Odr) : Int := o.2.2.1
abbrev opr (o : Odr) : Int := o.2.2.2.1
abbrev oqt (o : Odr) : Int := o.2.2.2.2
abbrev noOdr : Odr := (0, 0, 0, 0, 0)

/-- may there be such an order? -/
def okOrder (o : Odr) : Int :=
  if oid o < 1 ∨ 100000 < oid o ∨ oac o < 0 ∨ 8 ≤ oac o then 5
  else if osd o ≠ 1 ∧ osd o ≠ -1 then 4
  else if opr o < 1 ∨ 10000 < opr o ∨ oqt o < 1 ∨ 1000 < oqt o then 3
  else 0

def ahead (a b : Odr) : Bool :=
  if opr a = opr b then decide (oid a < oid b) else if osd a = 1 then decide (opr b < opr a) else decide (opr a < opr b)

/-- what is wrong with a side: behind 'prev', with the IDs that were seen. -/
def sideErr (side : Int) : Option Odr → List Int → List Odr → Int
  | _, _, [] => 0
  | prev, seen, o :: l =>
    if okOrder o ≠ 0 then okOrder o
    else if osd o ≠ side ∨ (prev.elim false fun p => !ahead p o) = true then 4
    else if oid o ∈ seen then 6
    else sideErr side (some o) (seen ++ [oid o]) l

/-- would o trade with the first of the other side? -/
def crosses (o : Odr) : List Odr → Bool
  | [] => false
  | x :: _ => if osd o = 1 then decide (opr x ≤ opr o) else decide (opr o ≤ opr x)

def crossed (bids asks : List Odr) : Bool :=
  match bids with
  | [] => false
  | b :: _ => crosses b asks

def bookErr (bids asks : List Odr) : Int :=
  if 40 < bids.length + asks.length then 2
  else if sideErr 1 none [] bids ≠ 0 then sideErr 1 none [] bids
  else if sideErr (-1) none (bids.map oid) asks ≠ 0 then sideErr (-1) none (bids.map oid) asks
  else if crossed bids asks then 4 else 0

def hasId (id : Int) (o : Odr) : Bool := decide (oid o = id)

def mayRest (bids asks : List Odr) (o : Odr) : Int :=
  if bookErr bids asks ≠ 0 then bookErr bids asks
  else if bids.any (hasId (oid o)) || asks.any (hasId (oid o)) then 6
  else if okOrder o ≠ 0 then okOrder o
  else if 40 ≤ bids.length + asks.length then 7
  else if crosses o (if osd o = -1 then bids else asks) then 9 else 0

/-- o behind those that are ahead of it: 'at' of them. -/
def place (l : List Odr) (o : Odr) : Nat := l.countP fun x => ahead x o
def laid (l : List Odr) (o : Odr) : List Odr := l.take (place l o) ++ o :: l.drop (place l o)
def without (id : Int) (l : List Odr) : List Odr := l.filter fun x => !hasId id x
def firstPrice : List Odr → Int
  | [] => 0
  | o :: _ => opr o

/-- a right side. -/
structure Side (side : Int) (l : List Odr) : Prop where
  ok : ∀ o, o ∈ l → okOrder o = 0
  sd : ∀ o, o ∈ l → osd o = side
  srt : l.Pairwise fun a b => ahead a b = true

theorem okOrder_id {o : Odr} (h : okOrder o = 0) : 1 ≤ oid o ∧ oid o ≤ 100000 := by
  unfold okOrder at h; split at h
  · cases h
  · omega
theorem okOrder_sd {o : Odr} (h : okOrder o = 0) : osd o = 1 ∨ osd o = -1 := by
  unfold okOrder at h; split at h
  · cases h
  · split at h
    · cases h
    · omega
theorem okOrder_pq {o : Odr} (h : okOrder o = 0) : 1 ≤ opr o ∧ opr o ≤ 10000 ∧ 1 ≤ oqt o ∧ oqt o ≤ 1000 := by
  unfold okOrder at h; split at h
  · cases h
  · split at h
    · cases h
    · split at h
      · cases h
      · omega
theorem okOrder_ac {o : Odr} (h : okOrder o = 0) : 0 ≤ oac o ∧ oac o ≤ 7 := by
  unfold okOrder at h; split at h
  · cases h
  · omega

theorem ahead_iff (a b : Odr) : ahead a b = true ↔ (opr a = opr b ∧ oid a < oid b) ∨ (opr a ≠ opr b ∧ osd a = 1 ∧ opr b < opr a) ∨ (opr a ≠ opr b ∧ osd a ≠ 1 ∧ opr a < opr b) := by
  unfold ahead
  split
  · simp; omega
  · split <;> simp <;> omega
theorem ahead_trans {a b c : Odr} (hs : osd a = osd b) (h1 : ahead a b = true) (h2 : ahead b c = true) : ahead a c = true := by
  rw [ahead_iff] at *; omega
theorem ahead_irrefl (a : Odr) : ahead a a = false := by
  simp [ahead]
theorem ahead_asymm {a b : Odr} (hs : osd a = osd b) (h1 : ahead a b = true) : ahead b a = false := by
  cases h : ahead b a
  · rfl
  · rw [ahead_iff] at *; omega
theorem ahead_total {a b : Odr} (hs : osd a = osd b) (hi : oid a ≠ oid b) (h1 : ahead a b = false) : ahead b a = true := by
  cases h : ahead b a
  · have h1' : ¬ ahead a b = true := by rw [h1]; decide
    have h' : ¬ ahead b a = true := by rw [h]; decide
    rw [ahead_iff] at *; omega
  · rfl

/-- a side that is right, told by what comes of the check. -/
theorem sideErr_zero {side : Int} : ∀ (l : List Odr) (prev : Option Odr) (seen : List Int), sideErr side prev seen l = 0 →
    (∀ o, o ∈ l → okOrder o = 0) ∧ (∀ o, o ∈ l → osd o = side) ∧ (∀ p, prev = some p → ∀ o, l.head? = some o → ahead p o = true) ∧ l.Pairwise (fun a b => ahead a b = true) ∧ (l.map oid).Nodup ∧ (∀ i, i ∈ seen → i ∉ l.map oid)
  | [], _, _, _ => by simp
  | o :: l, prev, seen, h => by
    unfold sideErr at h
    split at h
    · exact absurd h (by assumption)
    next h1 =>
      split at h
      · cases h
      next h2 =>
        split at h
        · cases h
        next h3 =>
          obtain ⟨a1, a2, a3, a4, a5, a6⟩ := sideErr_zero l (some o) (seen ++ [oid o]) h
          have hso : osd o = side := by
            by_cases e : osd o = side
            · exact e
            · exact absurd (Or.inl e) h2
          have h1' : okOrder o = 0 := by
            by_cases e : okOrder o = 0
            · exact e
            · exact absurd e h1
          have hall : ∀ x, x ∈ l → ahead o x = true := by
            intro x hx
            cases l with
            | nil => cases hx
            | cons y l =>
              have hy := a3 o rfl y rfl
              rcases List.mem_cons.1 hx with rfl | hx
              · exact hy
              · exact ahead_trans (by rw [hso, a2 y (by simp)]) hy ((List.pairwise_cons.1 a4).1 x hx)
          refine ⟨?_, ?_, ?_, ?_, ?_, ?_⟩
          · intro x hx
            rcases List.mem_cons.1 hx with rfl | hx
            · exact h1'
            · exact a1 x hx
          · intro x hx
            rcases List.mem_cons.1 hx with rfl | hx
            · exact hso
            · exact a2 x hx
          · intro p hp x hx
            subst hp
            simp only [List.head?_cons, Option.some.injEq] at hx
            subst hx
            cases e : ahead p o
            · exact absurd (Or.inr (by simp [e])) h2
            · rfl
          · exact List.pairwise_cons.2 ⟨hall, a4⟩
          · rw [List.map_cons, List.nodup_cons]
            exact ⟨a6 _ (by simp), a5⟩
          · intro i hi
            rw [List.map_cons, List.mem_cons]
            rintro (e | e)
            · rw [e] at hi; exact h3 hi
            · exact a6 i (by simp [hi]) e

theorem sideErr_mk {side : Int} : ∀ (l : List Odr) (prev : Option Odr) (seen : List Int),
    (∀ o, o ∈ l → okOrder o = 0) → (∀ o, o ∈ l → osd o = side) → (∀ p, prev = some p → ∀ o, l.head? = some o → ahead p o = true) → l.Pairwise (fun a b => ahead a b = true) → (l.map oid).Nodup → (∀ i, i ∈ seen → i ∉ l.map oid) → sideErr side prev seen l = 0
  | [], _, _, _, _, _, _, _, _ => by simp [sideErr]
  | o :: l, prev, seen, a1, a2, a3, a4, a5, a6 => by
    unfold sideErr
    rw [if_neg (by simp [a1 o (by simp)]), if_neg ?_, if_neg ?_]
    · refine sideErr_mk l (some o) (seen ++ [oid o]) (fun x hx => a1 x (by simp [hx])) (fun x hx => a2 x (by simp [hx])) ?_ (List.pairwise_cons.1 a4).2 ?_ ?_
      · intro p hp x hx
        cases hp
        cases l with
        | nil => cases hx
        | cons y l =>
          simp only [List.head?_cons, Option.some.injEq] at hx
          subst hx
          exact (List.pairwise_cons.1 a4).1 _ (by simp)
      · rw [List.map_cons, List.nodup_cons] at a5; exact a5.2
      · rw [List.map_cons, List.nodup_cons] at a5
        intro i hi
        rcases List.mem_append.1 hi with hi | hi
        · intro e; exact a6 i hi (by rw [List.map_cons]; simp [e])
        · simp only [List.mem_singleton] at hi; subst hi; exact a5.1
    · intro e; exact a6 _ e (by simp)
    · rintro (e | e)
      · exact e (a2 o (by simp))
      · cases prev with
        | none => simp at e
        | some p => simp [a3 p rfl o rfl] at e

/-- a right book. -/
structure Right (bids asks : List Odr) : Prop where
  few : bids.length + asks.length ≤ 40
  b : Side 1 bids
  a : Side (-1) asks
  nod : (bids.map oid ++ asks.map oid).Nodup
  un : ∀ x y, bids.head? = some x → asks.head? = some y → opr x < opr y

theorem crossed_iff {bids asks : List Odr} (hb : ∀ o, o ∈ bids → osd o = 1) : crossed bids asks = false ↔ ∀ x y, bids.head? = some x → asks.head? = some y → opr x < opr y := by
  cases bids with
  | nil => simp [crossed]
  | cons b bs =>
    cases asks with
    | nil => simp [crossed, crosses]
    | cons a as =>
      have := hb b (by simp)
      simp only [crossed, crosses, this, if_true, List.head?_cons, Option.some.injEq]
      constructor
      · rintro h x y rfl rfl
        simp at h; omega
      · intro h
        have := h b a rfl rfl
        simp; omega

theorem bookErr_zero {bids asks : List Odr} : bookErr bids asks = 0 ↔ Right bids asks := by
  constructor
  · intro h
    unfold bookErr at h
    split at h
    · cases h
    next h0 =>
      split at h
      · exact absurd h (by assumption)
      next h1 =>
        split at h
        · exact absurd h (by assumption)
        next h2 =>
          split at h
          · cases h
          next h3 =>
            have h1' : sideErr 1 none [] bids = 0 := Decidable.not_not.1 h1
            have h2' : sideErr (-1) none (bids.map oid) asks = 0 := Decidable.not_not.1 h2
            obtain ⟨a1, a2, _, a4, a5, _⟩ := sideErr_zero _ _ _ h1'
            obtain ⟨b1, b2, _, b4, b5, b6⟩ := sideErr_zero _ _ _ h2'
            refine ⟨by omega, ⟨a1, a2, a4⟩, ⟨b1, b2, b4⟩, ?_, ?_⟩
            · rw [List.nodup_append]
              exact ⟨a5, b5, fun x hx y hy e => b6 x hx (e ▸ hy)⟩
            · exact (crossed_iff a2).1 (by simpa using h3)
  · rintro ⟨h0, ⟨a1, a2, a4⟩, ⟨b1, b2, b4⟩, hn, hu⟩
    rw [List.nodup_append] at hn
    have e1 : sideErr 1 none [] bids = 0 := sideErr_mk _ _ _ a1 a2 (by simp) a4 hn.1 (by simp)
    have e2 : sideErr (-1) none (bids.map oid) asks = 0 := sideErr_mk _ _ _ b1 b2 (by simp) b4 hn.2.1 (fun i hi hj => hn.2.2 i hi i hj rfl)
    have e3 := (crossed_iff (asks := asks) a2).2 hu
    simp [bookErr, e1, e2, e3]; omega

end Go.Proofs.Ytbphljnncbiddaa.Bk
