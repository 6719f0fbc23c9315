/-
  Plain mathematics for MatchFair: what is taken, one fill at a time; a book stays one.
-/
import Derived.Test.YtbphljnncbiddaaMtCome3
namespace Go.Proofs.Ytbphljnncbiddaa.Bk

theorem less_ok {x : Odr} {qq : Int} (h : okOrder x = 0) (h1 : 0 ≤ qq) (h2 : qq < oqt x) : okOrder (less x qq) = 0 := by
  have a1 := okOrder_id h
  have a2 := okOrder_ac h
  have a3 := okOrder_sd h
  have a4 := okOrder_pq h
  obtain ⟨a, ac, sd, pr, q⟩ := x
  dsimp only [oid, oac, osd, opr, oqt] at *
  unfold okOrder less
  dsimp only [oid, oac, osd, opr, oqt]
  rw [if_neg (by omega), if_neg (by omega), if_neg (by omega)]
theorem less_ahead (x y : Odr) (qq : Int) : ahead (less x qq) y = ahead x y := rfl
theorem ahead_less (x y : Odr) (qq : Int) : ahead y (less x qq) = ahead y x := rfl

theorem takes_side {s : Int} (o : Odr) : ∀ (xs : List Odr) (left : Int), 0 ≤ left → Side s xs → Side s (takes o left xs).1
  | [], _, _, h => h
  | x :: l, left, h0, h => by
    unfold takes
    split
    · split
      · exact h
      · have hl : Side s l := ⟨fun o ho => h.ok o (by simp [ho]), fun o ho => h.sd o (by simp [ho]), (List.pairwise_cons.1 h.srt).2⟩
        split
        · exact takes_side o l _ (by omega) hl
        · refine ⟨?_, ?_, ?_⟩
          · intro y hy
            rcases List.mem_cons.1 hy with rfl | hy
            · exact less_ok (h.ok x (by simp)) h0 (by omega)
            · exact hl.ok y hy
          · intro y hy
            rcases List.mem_cons.1 hy with rfl | hy
            · exact h.sd x (by simp)
            · exact hl.sd y hy
          · rw [List.pairwise_cons]
            exact ⟨fun y hy => (List.pairwise_cons.1 h.srt).1 y hy, hl.srt⟩
    · exact h
theorem takes_ids (o : Odr) : ∀ (xs : List Odr) (left : Int), ((takes o left xs).1.map oid).Sublist (xs.map oid)
  | [], _ => List.Sublist.refl _
  | x :: l, left => by
    unfold takes
    split
    · split
      · exact List.Sublist.refl _
      · split
        · exact (takes_ids o l _).trans (List.sublist_cons_self _ _)
        · exact List.Sublist.refl _
    · exact List.Sublist.refl _
theorem takes_few (o : Odr) : ∀ (xs : List Odr) (left : Int), (takes o left xs).2.1.length ≤ xs.length
  | [], _ => by simp [takes]
  | x :: l, left => by
    unfold takes
    split
    · split
      · simp
      · split
        · have := takes_few o l (left - oqt x); simp; omega
        · simp
    · simp
theorem takes_price (o : Odr) : ∀ (xs : List Odr) (left : Int) (x : Odr), x ∈ (takes o left xs).1 → ∃ y, y ∈ xs ∧ opr x = opr y
  | [], _, x, h => by simp [takes] at h
  | z :: l, left, x, h => by
    unfold takes at h
    split at h
    · split at h
      · exact ⟨x, h, rfl⟩
      · split at h
        · obtain ⟨y, hy, e⟩ := takes_price o l _ x h
          exact ⟨y, by simp [hy], e⟩
        · rcases List.mem_cons.1 h with rfl | h
          · exact ⟨z, by simp, rfl⟩
          · exact ⟨x, by simp [h], rfl⟩
    · exact ⟨x, h, rfl⟩

theorem take_right {bids asks : List Odr} {o : Odr} (h : Right bids asks) (ho : okOrder o = 0) : Right (takeB bids asks o) (takeA bids asks o) := by
  have hq := okOrder_pq ho
  have tl := take_len bids asks o
  have hf := h.few
  unfold takeB takeA takeT at *
  by_cases hs : osd o = 1
  · simp only [if_pos hs] at *
    refine ⟨by omega, h.b, takes_side o asks _ (by omega) h.a, ?_, ?_⟩
    · exact h.nod.sublist ((List.Sublist.refl _).append (takes_ids o asks _))
    · intro x y hx hy
      obtain ⟨z, hz, e⟩ := takes_price o asks _ y (mem_of_head? hy)
      rw [e]
      exact h.below (mem_of_head? hx) hz
  · simp only [if_neg hs] at *
    refine ⟨by omega, takes_side o bids _ (by omega) h.b, h.a, ?_, ?_⟩
    · exact h.nod.sublist ((takes_ids o bids _).append (List.Sublist.refl _))
    · intro x y hx hy
      obtain ⟨z, hz, e⟩ := takes_price o bids _ x (mem_of_head? hx)
      rw [e]
      exact h.below hz (mem_of_head? hy)

def fqt (f : Fil) : Int := f.2.2.2.2.2.2
def sumQ (F : List Fil) : Int := (F.map fqt).sum
theorem sumQ_snoc (F : List Fil) (f : Fil) : sumQ (F ++ [f]) = sumQ F + fqt f := by unfold sumQ; simp

/-- the book while o takes: its own side stays, of the other one this is left. -/
def nowB (bids : List Odr) (o : Odr) (Y : List Odr) : List Odr := if osd o = 1 then bids else Y
def nowA (asks : List Odr) (o : Odr) (Y : List Odr) : List Odr := if osd o = 1 then Y else asks

/-- so far F1 was taken; Y is left of the other side. -/
structure Fair (bids asks : List Odr) (o : Odr) (F1 : List Fil) (l : Int) (Y : List Odr) : Prop where
  t : TInv o (oqt o) (if osd o = 1 then asks else bids) F1 l Y
  r : Right (nowB bids o Y) (nowA asks o Y)
  sum : l + sumQ F1 = oqt o

theorem Fair.start {bids asks : List Odr} {o : Odr} (h : Right bids asks) (ho : okOrder o = 0) : Fair bids asks o [] (oqt o) (if osd o = 1 then asks else bids) := by
  have hq := okOrder_pq ho
  refine ⟨TInv.start (by omega) ?_, ?_, by simp [sumQ]⟩
  · intro x hx
    by_cases hs : osd o = 1
    · rw [if_pos hs] at hx; exact (okOrder_pq (h.a.ok x hx)).2.2
    · rw [if_neg hs] at hx; exact (okOrder_pq (h.b.ok x hx)).2.2
  · unfold nowB nowA
    by_cases hs : osd o = 1
    · simp only [if_pos hs]; exact h
    · simp only [if_neg hs]; exact h

theorem Fair.fills {bids asks : List Odr} {o : Odr} {F1 : List Fil} {l : Int} {Y : List Odr} (h : Fair bids asks o F1 l Y) : (takeT bids asks o).2.1 = F1 ++ (takes o l Y).2.1 := by
  unfold takeT; rw [h.t.all]

/-- the other side's orders: side, and that the first stands ahead. -/
theorem Fair.side {bids asks : List Odr} {o : Odr} {F1 : List Fil} {l : Int} {Y : List Odr} (h : Fair bids asks o F1 l Y) (ho : okOrder o = 0) : Side (-(osd o)) Y := by
  have hr := h.r
  unfold nowB nowA at hr
  rcases okOrder_sd ho with hs | hs
  · rw [if_pos hs, if_pos hs] at hr; rw [hs]; exact hr.a
  · rw [if_neg (by omega), if_neg (by omega)] at hr; rw [hs]; exact hr.b

/-- what the k-th fill is. -/
structure Step (bids asks : List Odr) (o : Odr) (F1 : List Fil) (l : Int) (x : Odr) (Y : List Odr) (qq : Int) : Prop where
  f : Fair bids asks o F1 l (x :: Y)
  xe : xes o (opr x) = true
  ac : ¬ oac x = oac o
  q1 : 1 ≤ qq
  q2 : qq ≤ oqt x
  q3 : qq ≤ l

theorem now_tail {bids asks : List Odr} {o x : Odr} {Y : List Odr} (h : Right (nowB bids o (x :: Y)) (nowA asks o (x :: Y))) :
    without (oid x) (nowB bids o (x :: Y)) = nowB bids o Y ∧ without (oid x) (nowA asks o (x :: Y)) = nowA asks o Y ∧ findIn (oid x) (nowB bids o (x :: Y)) (nowA asks o (x :: Y)) = some x := by
  obtain ⟨d1, d2, d3⟩ := nod_parts h
  have hw : ∀ Z : List Odr, (((x :: Z).map oid).Nodup) → without (oid x) (x :: Z) = Z := by
    intro Z hZ
    rw [List.map_cons, List.nodup_cons] at hZ
    unfold without
    rw [List.filter_cons]
    simp only [hasId, decide_true, Bool.not_true]
    have := without_none hZ.1
    unfold without at this
    simpa [hasId] using this
  have hf : findIn (oid x) (nowB bids o (x :: Y)) (nowA asks o (x :: Y)) = some x := by
    refine find_unique (by rw [List.map_append]; exact h.nod) ?_
    unfold nowB nowA
    by_cases hs : osd o = 1
    · rw [if_pos hs, if_pos hs]; simp
    · rw [if_neg hs, if_neg hs]; simp
  refine ⟨?_, ?_, hf⟩
  · unfold nowB nowA at *
    by_cases hs : osd o = 1
    · simp only [if_pos hs] at *
      exact without_none fun e => d3 _ e (by simp)
    · simp only [if_neg hs] at *
      exact hw Y d1
  · unfold nowB nowA at *
    by_cases hs : osd o = 1
    · simp only [if_pos hs] at *
      exact hw Y d2
    · simp only [if_neg hs] at *
      exact without_none fun e => d3 _ (by simp) e

theorem laid_first {Y : List Odr} {x : Odr} {s : Int} (h : Side s (x :: Y)) (qq : Int) : laid Y (less x qq) = less x qq :: Y := by
  have h0 : place Y (less x qq) = 0 := by
    unfold place
    rw [List.countP_eq_zero]
    intro y hy
    rw [ahead_less]
    have := (List.pairwise_cons.1 h.srt).1 y hy
    have := ahead_asymm (by rw [h.sd x (by simp), h.sd y (by simp [hy])]) this
    simp [this]
  unfold laid
  rw [h0]
  simp

theorem now_rest {bids asks : List Odr} {o x : Odr} {Y : List Odr} {qq : Int} (hx : Side (-(osd o)) (x :: Y)) (ho : okOrder o = 0) (h : Right (nowB bids o (x :: Y)) (nowA asks o (x :: Y))) (h1 : 0 ≤ qq) (h2 : qq < oqt x) :
    mayRest (nowB bids o Y) (nowA asks o Y) (less x qq) = 0 ∧ restB (nowB bids o Y) (less x qq) = nowB bids o (less x qq :: Y) ∧ restA (nowA asks o Y) (less x qq) = nowA asks o (less x qq :: Y) := by
  obtain ⟨w1, w2, w3⟩ := now_tail h
  have hR := remove_right (oid x) h
  rw [w1, w2] at hR
  obtain ⟨r1, -, -⟩ := removed_rests h w3
  rw [w1, w2] at r1
  obtain ⟨-, n1, n2, hok, hl, c1, c2⟩ := mayRest_zero.1 r1
  have hlk := less_ok hok h1 h2
  refine ⟨mayRest_zero.2 ⟨hR, n1, n2, hlk, hl, c1, c2⟩, ?_, ?_⟩
  · have hsx := hx.sd x (by simp)
    unfold restB nowB
    rcases okOrder_sd ho with hs | hs
    · rw [if_neg (show ¬ osd (less x qq) = 1 by show ¬ osd x = 1; omega), if_pos hs, if_pos hs]
    · rw [if_pos (show osd (less x qq) = 1 by show osd x = 1; omega), if_neg (by omega), if_neg (by omega)]
      exact laid_first hx qq
  · have hsx := hx.sd x (by simp)
    unfold restA nowA
    rcases okOrder_sd ho with hs | hs
    · rw [if_neg (show ¬ osd (less x qq) = 1 by show ¬ osd x = 1; omega), if_pos hs, if_pos hs]
      exact laid_first hx qq
    · rw [if_pos (show osd (less x qq) = 1 by show osd x = 1; omega), if_neg (by omega), if_neg (by omega)]

theorem Fair.step {bids asks : List Odr} {o : Odr} {F1 : List Fil} {l : Int} {Y : List Odr} (h : Fair bids asks o F1 l Y) (ho : okOrder o = 0) (hk : F1.length < (takeT bids asks o).2.1.length) :
    ∃ x Y' qq, Y = x :: Y' ∧ Step bids asks o F1 l x Y' qq ∧ (takeT bids asks o).2.1[F1.length]! = fillOf x o qq ∧
      ((qq = oqt x ∧ Fair bids asks o (F1 ++ [fillOf x o qq]) (l - qq) Y') ∨ (qq < oqt x ∧ Fair bids asks o (F1 ++ [fillOf x o qq]) (l - qq) (less x qq :: Y'))) := by
  have hF := h.fills
  have hne : (takes o l Y).2.1 ≠ [] := by
    intro e
    rw [hF, e] at hk
    simp at hk
  have hsd := h.side ho
  cases Y with
  | nil => exact absurd rfl hne
  | cons x Y' =>
    have hgo : 0 < l ∧ xes o (opr x) = true := by
      by_cases hc : 0 < l ∧ xes o (opr x) = true
      · exact hc
      · rw [takes_stop hc] at hne; exact absurd rfl hne
    have hac : ¬ oac x = oac o := by
      intro e
      rw [takes_own hgo.1 hgo.2 e] at hne
      exact hne rfl
    have hqx := h.t.qty x (by simp)
    have hget : ∀ f G, (takes o l (x :: Y')).2.1 = f :: G → (takeT bids asks o).2.1[F1.length]! = f := by
      intro f G e
      rw [hF, e]
      simp
    obtain ⟨w1, w2, w3⟩ := now_tail h.r
    have hR := remove_right (oid x) h.r
    rw [w1, w2] at hR
    by_cases hqt : oqt x ≤ l
    · refine ⟨x, Y', oqt x, rfl, ⟨h, hgo.2, hac, hqx.1, Int.le_refl _, hqt⟩, hget _ _ (by rw [takes_full hgo.1 hgo.2 hac hqt]), .inl ⟨rfl, h.t.full hgo.1 hgo.2 hac hqt, hR, ?_⟩⟩
      rw [sumQ_snoc]
      have := h.sum
      show l - oqt x + (sumQ F1 + oqt x) = oqt o
      omega
    · obtain ⟨m1, m2, m3⟩ := now_rest (qq := l) hsd ho h.r h.t.pos (by omega)
      have hR2 := rest_right m1
      rw [m2, m3] at hR2
      refine ⟨x, Y', l, rfl, ⟨h, hgo.2, hac, by omega, by omega, Int.le_refl _⟩, hget _ _ (by rw [takes_part hgo.1 hgo.2 hac hqt]), .inr ⟨by omega, ?_, hR2, ?_⟩⟩
      · rw [Int.sub_self]
        exact h.t.part hgo.1 hgo.2 hac hqt
      · rw [sumQ_snoc]
        have := h.sum
        show l - l + (sumQ F1 + l) = oqt o
        omega

/-- when all fills are told: the book is what Take left. -/
theorem Fair.done {bids asks : List Odr} {o : Odr} {F1 : List Fil} {l : Int} {Y : List Odr} (h : Fair bids asks o F1 l Y) (hk : F1.length = (takeT bids asks o).2.1.length) :
    nowB bids o Y = takeB bids asks o ∧ nowA asks o Y = takeA bids asks o ∧ l = (takeT bids asks o).2.2.1 ∧ F1 = (takeT bids asks o).2.1 := by
  have hF := h.fills
  have he : (takes o l Y).2.1 = [] := by
    rw [hF, List.length_append] at hk
    exact List.eq_nil_of_length_eq_zero (by omega)
  have hst : (takes o l Y).1 = Y ∧ (takes o l Y).2.2.1 = l := by
    cases Y with
    | nil => exact ⟨rfl, rfl⟩
    | cons x Y' =>
      by_cases hc : 0 < l ∧ xes o (opr x) = true
      · by_cases hac : oac x = oac o
        · rw [takes_own hc.1 hc.2 hac]; exact ⟨rfl, rfl⟩
        · by_cases hqt : oqt x ≤ l
          · rw [takes_full hc.1 hc.2 hac hqt] at he; cases he
          · rw [takes_part hc.1 hc.2 hac hqt] at he; cases he
      · rw [takes_stop hc]; exact ⟨rfl, rfl⟩
  have hall := h.t.all
  have hT : (takeT bids asks o).1 = Y ∧ (takeT bids asks o).2.2.1 = l := by
    unfold takeT
    rw [hall]
    exact hst
  refine ⟨?_, ?_, hT.2.symm, ?_⟩
  · unfold nowB takeB
    by_cases hs : osd o = 1
    · rw [if_pos hs, if_pos hs]
    · rw [if_neg hs, if_neg hs, hT.1]
  · unfold nowA takeA
    by_cases hs : osd o = 1
    · rw [if_pos hs, if_pos hs, hT.1]
    · rw [if_neg hs, if_neg hs]
  · rw [hF, he, List.append_nil]

/-- what Come's answer tells. -/
theorem come_facts {bids asks : List Odr} {o : Odr} {how : Int} (h : comeE bids asks o how = 0) :
    Right bids asks ∧ okOrder o = 0 ∧ findIn (oid o) bids asks = none ∧ (takeT bids asks o).2.2.2 = false ∧ (how = 4 → (takeT bids asks o).2.1 = []) ∧ (how = 3 → ¬ 0 < (takeT bids asks o).2.2.1) ∧
    (stays how (takeT bids asks o).2.2.1 = false → mayRest (takeB bids asks o) (takeA bids asks o) (restO o (takeT bids asks o).2.2.1) = 0) := by
  unfold comeE at h
  by_cases h1 : mayComeE bids asks (oid o) how = 0
  · rw [if_neg (by simpa using h1)] at h
    by_cases h2 : takeErr bids asks o = 0
    · rw [if_neg (by simpa using h2)] at h
      obtain ⟨hR, hok⟩ := takeErr_zero.1 h2
      generalize hT : takeT bids asks o = T at h
      obtain ⟨R, F, left, met⟩ := T
      dsimp only at h ⊢
      by_cases h3 : allowsE how F.length left met = 0
      · rw [if_neg (by simpa using h3)] at h
        refine ⟨hR, hok, ?_, ?_, ?_, ?_, ?_⟩
        · unfold mayComeE at h1
          rw [if_neg (by simp [bookErr_zero.2 hR])] at h1
          unfold findE at h1
          rw [if_pos (bookErr_zero.2 hR)] at h1
          cases hf : findIn (oid o) bids asks with
          | none => rfl
          | some y => rw [hf] at h1; simp at h1
        · cases met with
          | false => rfl
          | true =>
            unfold allowsE at h3
            by_cases h4 : how = 4 ∧ (0 < F.length ∨ true = true)
            · rw [if_pos h4] at h3; cases h3
            · rw [if_neg h4, if_pos rfl] at h3; cases h3
        · intro h4
          unfold allowsE at h3
          cases F with
          | nil => rfl
          | cons f F => rw [if_pos ⟨h4, .inl (by simp)⟩] at h3; cases h3
        · intro h4 hl
          unfold allowsE at h3
          rw [if_neg (by omega)] at h3
          by_cases hm : met = true
          · rw [if_pos hm] at h3; cases h3
          · rw [if_neg hm, if_pos ⟨h4, hl⟩] at h3; cases h3
        · intro hs
          rw [hs] at h
          simpa using h
      · rw [if_pos (by simpa using h3)] at h
        exact absurd h h3
    · rw [if_pos (by simpa using h2)] at h
      exact absurd h h2
  · rw [if_pos (by simpa using h1)] at h
    exact absurd h h1

theorem come_right {bids asks : List Odr} {o : Odr} {how : Int} (h : comeE bids asks o how = 0) : Right (comeB bids asks o how) (comeA bids asks o how) := by
  obtain ⟨hR, hok, -, -, -, -, hm⟩ := come_facts h
  have := take_right hR hok
  unfold comeB comeA
  cases hs : stays how (takeT bids asks o).2.2.1
  · simp only [Bool.false_eq_true, if_false]
    exact rest_right (hm hs)
  · simp only [if_true]
    exact this

theorem none_ids {l : List Odr} {id : Int} (h : l.find? (hasId id) = none) : id ∉ l.map oid := by
  intro e
  obtain ⟨x, hx, rfl⟩ := List.mem_map.1 e
  have := List.find?_eq_none.1 h x hx
  simp [hasId] at this
theorem ids_none {l : List Odr} {id : Int} (h : id ∉ l.map oid) : l.find? (hasId id) = none := by
  rw [List.find?_eq_none]
  intro x hx e
  exact h (List.mem_map.2 ⟨x, hx, by simpa [hasId] using e⟩)

/-- o's ID is in none of the sides that Take leaves. -/
theorem take_none {bids asks : List Odr} {o : Odr} (h : findIn (oid o) bids asks = none) : findIn (oid o) (takeB bids asks o) (takeA bids asks o) = none := by
  have h1 := none_ids h
  rw [List.map_append, List.mem_append, not_or] at h1
  unfold findIn
  refine ids_none ?_
  rw [List.map_append, List.mem_append, not_or]
  unfold takeB takeA takeT
  by_cases hs : osd o = 1
  · simp only [if_pos hs]
    exact ⟨h1.1, fun e => h1.2 ((takes_ids o asks _).subset e)⟩
  · simp only [if_neg hs]
    exact ⟨fun e => h1.1 ((takes_ids o bids _).subset e), h1.2⟩

/-- nobody stands ahead of the first. -/
theorem Step.first {bids asks : List Odr} {o : Odr} {F1 : List Fil} {l : Int} {x : Odr} {Y : List Odr} {qq : Int} (h : Step bids asks o F1 l x Y qq) (ho : okOrder o = 0) :
    ∀ y, y ∈ nowB bids o (x :: Y) ++ nowA asks o (x :: Y) → osd y = osd x → ¬ oid y = oid x → ahead y x = false := by
  intro y hy hs hi
  have hsd := h.f.side ho
  have hx := hsd.sd x (by simp)
  have hY : y ∈ x :: Y := by
    have hr := h.f.r
    unfold nowB nowA at hy hr
    rcases okOrder_sd ho with e | e
    · rw [if_pos e, if_pos e] at hy hr
      rcases List.mem_append.1 hy with m | m
      · have := hr.b.sd y m; omega
      · exact m
    · rw [if_neg (by omega), if_neg (by omega)] at hy hr
      rcases List.mem_append.1 hy with m | m
      · exact m
      · have := hr.a.sd y m; omega
  rcases List.mem_cons.1 hY with rfl | m
  · exact absurd rfl hi
  · exact ahead_asymm (by rw [hs]) ((List.pairwise_cons.1 hsd.srt).1 y m)
end Go.Proofs.Ytbphljnncbiddaa.Bk
