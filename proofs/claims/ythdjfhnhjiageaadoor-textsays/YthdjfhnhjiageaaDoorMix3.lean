/-
  A region that draws its order, walked by a tree: calls that answer one value in every world of a class, and let it grow only, are readers, too: they come as soon as they can. Classes are closed under growth.
-/
import Derived.Test.YthdjfhnhjiageaaDoorMix2
import Derived.Below
namespace Go.Proofs.YthdjfhnhjiageaaDoor.Mix
open Go.RowKit

def Sh (C : World → Prop) : Prop := ∀ x y, C x → Below x.heap.size x y → C y

inductive Tg where
  | done : Tg
  | give : Nat → Tg → Tg
  | main : Nat → Tg → Tg
  | fork : Nat → Tg → Nat → Tg → Tg
  | fork3 : Nat → Tg → Nat → Tg → Nat → Tg → Tg
def Tg.depth : Tg → Nat
  | .done => 0
  | .give _ t => t.depth + 1
  | .main _ t => t.depth + 1
  | .fork _ t _ _ => t.depth + 1
  | .fork3 _ t _ _ _ _ => t.depth + 1

section
variable {P : Program} {ops : Array Oper} {md : Region.Mode}

/-- in every world of the class it yields v, there or in a world that has grown out of it. -/
def YieldsG (P : Program) (ops : Array Oper) (C : World → Prop) (o : Oper) (v : Value) (a : Act) : Prop :=
  (Region.wanted o (yielded ops a.tmps) = true ∧ ∀ w, C w → Oper.quietUpon P (fun y => Below w.heap.size w y) w v ((execOp a.eval o).run P w)) ∨
  (Region.wanted o (yielded ops a.tmps) = false ∧ v = undef)
theorem YieldsG.sub {C C' : World → Prop} {o : Oper} {v : Value} {a : Act} (h : YieldsG P ops C o v a) (hs : ∀ x, C' x → C x) : YieldsG P ops C' o v a := by
  rcases h with ⟨h1, h2⟩ | h
  · exact .inl ⟨h1, fun w hw => h2 w (hs w hw)⟩
  · exact .inr h
theorem YieldsG.same {C : World → Prop} {o : Oper} {v : Value} {a a' : Act} (hy : YieldsG P ops C o v a) (he : execOp a'.eval o = execOp a.eval o)
    (hw : Region.wanted o (yielded ops a'.tmps) = Region.wanted o (yielded ops a.tmps)) : YieldsG P ops C o v a' := by
  unfold YieldsG at *
  rw [he, hw]
  exact hy
theorem Yields.grow {C : World → Prop} {o : Oper} {v : Value} {a : Act} (h : Yields P ops C o v a) : YieldsG P ops C o v a := by
  rcases h with ⟨h1, h2⟩ | h
  · refine .inl ⟨h1, fun w hw => ?_⟩
    rcases h2 w hw with e | ⟨e, rfl⟩
    · rw [e]; exact ⟨rfl, rfl⟩
    · rw [e]; exact ⟨rfl, rfl⟩
  · exact .inr h
theorem YieldsG.firm {i : Nat} {o : Oper} {v : Value} {C : World → Prop} {a : Act} (hi : ops[i]? = some o) (hy : YieldsG P ops C o v a) (hS : Sh C) {K : (World → Prop) → Act → Prop} (h : K C (a.put o.dst v)) :
    firm P ops i (fun C' a' => Sh C' ∧ K C' a') C a := by
  intro w hw
  simp only [hi]
  rcases hy with ⟨hwt, hv⟩ | ⟨hwt, rfl⟩
  · rw [if_pos hwt]
    have H := hv w hw
    unfold Oper.wp
    generalize (execOp a.eval o).run P w = r at H ⊢
    cases r with
    | ok n w' =>
      cases n <;> simp only [Oper.quietUpon, Oper.upon] at H ⊢
      case value u =>
        obtain ⟨rfl, rfl⟩ := H
        exact ⟨C, hw, fun _ h => h, hS, h⟩
      case skip =>
        obtain ⟨rfl, rfl⟩ := H
        exact ⟨C, hw, fun _ h => h, hS, h⟩
      case enter f args =>
        obtain ⟨rfl, H⟩ := H
        refine Calls.mono H fun e w'' he => ?_
        obtain ⟨rfl, hb⟩ := he
        exact ⟨C, hS _ _ hw hb, fun _ h => h, hS, h⟩
    | halt x w' => simp only [Oper.quietUpon] at H
  · rw [if_neg (by rw [hwt]; exact Bool.false_ne_true)]
    exact ⟨C, hw, fun _ h => h, hS, h⟩

theorem firm_putG {j : Nat} {oi oj : Oper} {v : Value} {C : World → Prop} (hj : ops[j]? = some oj) (hap : oi.apart ops oj = true)
    (hsi : ∀ cs b, oi.op ≠ .select cs b) (hsj : ∀ cs b, oj.op ≠ .select cs b) {K : (World → Prop) → Act → Prop} {a : Act}
    (hy : YieldsG P ops C oi v a) (h : firm P ops j K C (a.put oi.dst v)) :
    firm P ops j (fun C' a' => YieldsG P ops C' oi v a' ∧ K C' (a'.put oi.dst v)) C a := by
  obtain ⟨h1, h2, h3⟩ := Oper.apart_spec hap
  have keep : ∀ (a : Act), YieldsG P ops C oi v a → ∀ u, YieldsG P ops C oi v (a.put oj.dst u) := fun a hy u =>
    hy.same (execOp_put oi hsi a oj.dst u h3) (wanted_put oi a oj.dst u h3)
  intro w hw
  have H := h w hw
  simp only [hj] at H ⊢
  rw [wanted_put oj a oi.dst v h1] at H
  split
  · rename_i hwt
    rw [if_pos hwt] at H
    unfold Oper.wp at H ⊢
    rw [execOp_put oj hsj a oi.dst v h1] at H
    generalize (execOp a.eval oj).run P w = r at H ⊢
    cases r with
    | ok n w' =>
      cases n <;> simp only [Oper.upon] at H ⊢
      case value u =>
        obtain ⟨C', c1, c2, c3⟩ := H
        exact ⟨C', c1, c2, (keep a hy u).sub c2, by rw [← Act.put_comm a v u h2]; exact c3⟩
      case skip =>
        obtain ⟨C', c1, c2, c3⟩ := H
        exact ⟨C', c1, c2, (keep a hy undef).sub c2, by rw [← Act.put_comm a v undef h2]; exact c3⟩
      case defer d =>
        obtain ⟨C', c1, c2, c3⟩ := H
        refine ⟨C', c1, c2, ?_, ?_⟩
        · have hy' : YieldsG P ops C oi v ({ a with defers := d :: a.defers } : Act) := hy
          exact (keep _ hy' undef).sub c2
        · rw [put_defers] at c3
          rw [← Act.put_comm _ v undef h2]
          exact c3
      case enter f args =>
        refine Calls.mono H fun e w'' he => ?_
        cases e with
        | returned u =>
          obtain ⟨C', c1, c2, c3⟩ := he
          exact ⟨C', c1, c2, (keep a hy u).sub c2, by rw [← Act.put_comm a v u h2]; exact c3⟩
        | panicked chain => exact he
        | outgrown => exact he
      case row row args =>
        refine Rows.mono H fun u w'' he => ?_
        obtain ⟨C', c1, c2, c3⟩ := he
        exact ⟨C', c1, c2, (keep a hy u).sub c2, by rw [← Act.put_comm a v u h2]; exact c3⟩
    | halt x w' => cases x <;> simp only [Oper.upon] at H ⊢ <;> exact H
  · rename_i hwt
    rw [if_neg hwt] at H
    obtain ⟨C', c1, c2, c3⟩ := H
    exact ⟨C', c1, c2, (keep a hy undef).sub c2, by rw [← Act.put_comm a v undef h2]; exact c3⟩

def anyG (P : Program) (md : Region.Mode) (ops : Array Oper) (Q : Act → World → Prop) : Nat → Array Bool → (World → Prop) → Act → Prop
  | 0, listed, C, a => Region.ready md ops listed = [] ∧ ∀ w, C w → Q a w
  | fuel + 1, listed, C, a =>
    (Region.ready md ops listed = [] → ∀ w, C w → Q a w) ∧
    ∀ i ∈ Region.ready md ops listed, firm P ops i (fun C' a' => Sh C' ∧ anyG P md ops Q fuel (listed.setIfInBounds i true) C' a') C a

theorem anyG_first {Q : Act → World → Prop} {i : Nat} {oi : Oper} {v : Value} (hi : ops[i]? = some oi) (hsel : ∀ (j : Nat) (o : Oper) cs b, ops[j]? = some o → o.op ≠ .select cs b) :
    ∀ (fuel : Nat) (listed : Array Bool) (C : World → Prop) (a : Act), Sh C →
      (∀ j oj, ops[j]? = some oj → j ≠ i → listed.getD j true = false → (∀ e ∈ oj.after, Region.binds md e = true → e.on ≠ i) → oi.apart ops oj = true) →
      i ∈ Region.ready md ops listed → YieldsG P ops C oi v a →
      anyG P md ops Q fuel (listed.setIfInBounds i true) C (a.put oi.dst v) → anyG P md ops Q (fuel + 1) listed C a := by
  intro fuel
  induction fuel with
  | zero =>
    intro listed C a hS _ hr hy H
    refine ⟨fun h => (by rw [h] at hr; cases hr), fun j hj => ?_⟩
    by_cases hji : j = i
    · subst hji; exact hy.firm hi hS H
    · have := ready_mono hj hji
      rw [H.1] at this
      cases this
  | succ fuel ih =>
    intro listed C a hS hfree hr hy H
    refine ⟨fun h => (by rw [h] at hr; cases hr), fun j hj => ?_⟩
    by_cases hji : j = i
    · subst hji; exact hy.firm hi hS H
    · have h1 := H.2 j (ready_mono hj hji)
      obtain ⟨hjun, oj, hoj, hall⟩ := mem_ready.1 hj
      have hnot : ∀ e ∈ oj.after, Region.binds md e = true → e.on ≠ i := fun e he hb heq => by
        have h1 := hall e he hb
        have h0 := (mem_ready.1 hr).1
        rw [heq] at h1
        rcases Nat.lt_or_ge i listed.size with h' | h'
        · simp [h'] at h0 h1; rw [h0] at h1; cases h1
        · simp [Array.getElem?_eq_none h'] at h1
      have h2 := firm_putG hoj (hfree j oj hoj hji hjun hnot) (fun cs b => hsel i oi cs b hi) (fun cs b => hsel j oj cs b hoj) hy h1
      have hfree' : ∀ k ok, ops[k]? = some ok → k ≠ i → (listed.setIfInBounds j true).getD k true = false →
          (∀ e ∈ ok.after, Region.binds md e = true → e.on ≠ i) → oi.apart ops ok = true := fun k ok hk hki hun hno => by
        refine hfree k ok hk hki ?_ hno
        by_cases hjk : j = k
        · subst hjk; exact hjun
        · rw [getD_set_ne true hjk] at hun; exact hun
      refine firm_mono (fun C' a' _ h3 => ⟨h3.2.1, ih (listed.setIfInBounds j true) C' a' h3.2.1 hfree' (ready_mono hr (Ne.symm hji)) h3.1 ?_⟩) h2
      rw [Array.setIfInBounds_comm _ _ hji]
      exact h3.2.2

theorem any_of_anyG {Q : Act → World → Prop} {Q' : Exit → Act → World → Prop} (hQ : ∀ a w, Q a w → Q' .normal a w) : ∀ (fuel : Nat) (listed : Array Bool) (C : World → Prop) (a : Act) (w : World), C w →
    anyG P md ops Q fuel listed C a → wpAny P md ops Q' fuel listed a w
  | 0, _, _, _, _, hw, h => ⟨h.1, hQ _ _ (h.2 _ hw)⟩
  | fuel + 1, listed, C, a, w, hw, h => by
    refine ⟨fun h0 => hQ _ _ (h.1 h0 _ hw), fun i hi => ?_⟩
    have := h.2 i hi w hw
    unfold wpOp
    cases ho : ops[i]? with
    | none => simp only [ho] at this ⊢; obtain ⟨C', h1, _, _, h3⟩ := this; exact any_of_anyG hQ fuel _ C' a w h1 h3
    | some o =>
      simp only [ho] at this ⊢
      split
      · rename_i hwt
        rw [if_pos hwt] at this
        exact .inl (wp_exits (Oper.wp_mono (fun a' w' ⟨C', h1, _, _, h3⟩ => any_of_anyG hQ fuel _ C' a' w' h1 h3) this))
      · rename_i hwt
        rw [if_neg hwt] at this
        obtain ⟨C', h1, _, _, h3⟩ := this
        exact any_of_anyG hQ fuel _ C' _ w h1 h3

def segG (md : Region.Mode) (ops : Array Oper) : Tg → Array Bool → Bool
  | .done, listed => (Region.ready md ops listed).isEmpty
  | .give k rest, listed => (Region.ready md ops listed).contains k && Region.free md ops listed k && (ops[k]?).isSome && segG md ops rest (listed.setIfInBounds k true)
  | .main k rest, listed => Region.ready md ops listed == [k] && segG md ops rest (listed.setIfInBounds k true)
  | .fork k t k' t', listed => Region.ready md ops listed == [k, k'] && t.depth == t'.depth && segG md ops t (listed.setIfInBounds k true) && segG md ops t' (listed.setIfInBounds k' true)
  | .fork3 k t k' t' k'' t'', listed => Region.ready md ops listed == [k, k', k''] && t.depth == t'.depth && t.depth == t''.depth && segG md ops t (listed.setIfInBounds k true) && segG md ops t' (listed.setIfInBounds k' true) && segG md ops t'' (listed.setIfInBounds k'' true)

/-- what the walk of one operation must show that is no reader. -/
abbrev stepG (P : Program) (ops : Array Oper) (K : (World → Prop) → Act → Prop) (C : World → Prop) (k : Nat) (a : Act) : Prop :=
  ∀ p : InC C, wpList P ops (fun e a' w' => e = .normal ∧ ∃ C', C' w' ∧ (∀ x, C' x → C x) ∧ Sh C' ∧ K C' a') (ops[k]?.toList) a p.w
def mixG (P : Program) (ops : Array Oper) (Q : Act → World → Prop) : Tg → (World → Prop) → Act → Prop
  | .done, C, a => ∀ p : InC C, Q a p.w
  | .give k rest, C, a => ∀ o, ops[k]? = some o → ∃ v, YieldsG P ops C o v a ∧ mixG P ops Q rest C (a.put o.dst v)
  | .main k rest, C, a => stepG P ops (mixG P ops Q rest) C k a
  | .fork k t k' t', C, a => stepG P ops (mixG P ops Q t) C k a ∧ stepG P ops (mixG P ops Q t') C k' a
  | .fork3 k t k' t' k'' t'', C, a => stepG P ops (mixG P ops Q t) C k a ∧ stepG P ops (mixG P ops Q t') C k' a ∧ stepG P ops (mixG P ops Q t'') C k'' a

theorem firm_stepG {i : Nat} {C : World → Prop} {a : Act} {K : (World → Prop) → Act → Prop} {o : Oper} (ho : ops[i]? = some o) (h : stepG P ops K C i a) : firm P ops i (fun C' a' => Sh C' ∧ K C' a') C a := firm_main ho h

theorem anyG_tree {Q : Act → World → Prop} (hs : Region.noSelect ops = true) : ∀ (t : Tg) (listed : Array Bool) (C : World → Prop) (a : Act), Sh C →
    segG md ops t listed = true → mixG P ops Q t C a → anyG P md ops Q t.depth listed C a
  | .done, listed, C, a, _, hB, h => ⟨by simpa [segG] using hB, fun w hw => h ⟨w, hw⟩⟩
  | .give k rest, listed, C, a, hS, hB, h => by
    simp only [segG, Bool.and_eq_true] at hB
    obtain ⟨⟨⟨hr, hf⟩, hp⟩, hB'⟩ := hB
    cases ho : ops[k]? with
    | none => rw [ho] at hp; cases hp
    | some o =>
      obtain ⟨v, hy, hK⟩ := h o ho
      exact anyG_first ho (Region.noSelect_spec hs) rest.depth listed C a hS (Region.free_spec ho hf) (by simpa using hr) hy (anyG_tree hs rest _ _ _ hS hB' hK)
  | .main k rest, listed, C, a, _, hB, h => by
    simp only [segG, Bool.and_eq_true, beq_iff_eq] at hB
    obtain ⟨hr, hB'⟩ := hB
    refine ⟨fun h0 => (by rw [hr] at h0; cases h0), fun i hi => ?_⟩
    have hir := hi
    rw [hr, List.mem_singleton] at hi
    subst hi
    obtain ⟨_, o, ho, _⟩ := mem_ready.1 hir
    exact firm_mono (fun C' a' _ h3 => ⟨h3.1, anyG_tree hs rest _ _ _ h3.1 hB' h3.2⟩) (firm_stepG ho h)
  | .fork k t k' t', listed, C, a, _, hB, h => by
    simp only [segG, Bool.and_eq_true, beq_iff_eq] at hB
    obtain ⟨⟨⟨hr, hd⟩, hB1⟩, hB2⟩ := hB
    refine ⟨fun h0 => (by rw [hr] at h0; cases h0), fun i hi => ?_⟩
    have hir := hi
    rw [hr, List.mem_cons, List.mem_singleton] at hi
    obtain ⟨_, o, ho, _⟩ := mem_ready.1 hir
    rcases hi with rfl | rfl
    · exact firm_mono (fun C' a' _ h3 => ⟨h3.1, anyG_tree hs t _ _ _ h3.1 hB1 h3.2⟩) (firm_stepG ho h.1)
    · refine firm_mono (fun C' a' _ h3 => ⟨h3.1, ?_⟩) (firm_stepG ho h.2)
      have := anyG_tree hs t' _ _ _ h3.1 hB2 h3.2
      rw [← hd] at this
      exact this
  | .fork3 k t k' t' k'' t'', listed, C, a, _, hB, h => by
    simp only [segG, Bool.and_eq_true, beq_iff_eq] at hB
    obtain ⟨⟨⟨⟨⟨hr, hd⟩, hd2⟩, hB1⟩, hB2⟩, hB3⟩ := hB
    refine ⟨fun h0 => (by rw [hr] at h0; cases h0), fun i hi => ?_⟩
    have hir := hi
    rw [hr, List.mem_cons, List.mem_cons, List.mem_singleton] at hi
    obtain ⟨_, o, ho, _⟩ := mem_ready.1 hir
    rcases hi with rfl | rfl | rfl
    · exact firm_mono (fun C' a' _ h3 => ⟨h3.1, anyG_tree hs t _ _ _ h3.1 hB1 h3.2⟩) (firm_stepG ho h.1)
    · refine firm_mono (fun C' a' _ h3 => ⟨h3.1, ?_⟩) (firm_stepG ho h.2.1)
      have := anyG_tree hs t' _ _ _ h3.1 hB2 h3.2
      rw [← hd] at this
      exact this
    · refine firm_mono (fun C' a' _ h3 => ⟨h3.1, ?_⟩) (firm_stepG ho h.2.2)
      have := anyG_tree hs t'' _ _ _ h3.1 hB3 h3.2
      rw [← hd2] at this
      exact this

theorem mixG_end {Q : Act → World → Prop} {C : World → Prop} {a : Act} (h : ∀ p : InC C, Q a p.w) : mixG P ops Q .done C a := h
theorem mixG_still {Q : Act → World → Prop} {C : World → Prop} {a : Act} {k : Nat} {rest : Tg} {o : Oper} {l : List Oper} (ho : nth l k = some o) (hp : plainB o.op = true) (h : wpQuiet P l.toArray (fun x => ∃ p : InC C, x = p.w) (mixG P l.toArray Q rest C) [o] a) : mixG P l.toArray Q (.give k rest) C a := by
  unfold mixG
  intro o' ho'
  rw [nth_eq, ho] at ho'
  cases ho'
  obtain ⟨v, hy, hK⟩ := yields_of_quietB hp h
  exact ⟨v, hy.grow, hK⟩
theorem mixG_call {Q : Act → World → Prop} {C : World → Prop} {a : Act} {k : Nat} {rest : Tg} {o : Oper} {l : List Oper} (ho : nth l k = some o) (hw : Region.wanted o (yielded l.toArray a.tmps) = true) (f : FuncId) (args : Array Value) (v : Value)
    (hr : ∀ w, (execOp a.eval o).run P w = .ok (.enter f args) w) (hc : ∀ w, C w → Calls P f args w fun e w' => e = .returned v ∧ Below w.heap.size w w') (h : mixG P l.toArray Q rest C (a.put o.dst v)) : mixG P l.toArray Q (.give k rest) C a := by
  unfold mixG
  intro o' ho'
  rw [nth_eq, ho] at ho'
  cases ho'
  refine ⟨v, .inl ⟨hw, fun w hC => ?_⟩, h⟩
  rw [hr w]
  exact ⟨rfl, hc w hC⟩
theorem mixG_value {Q : Act → World → Prop} {C : World → Prop} {a : Act} {k : Nat} {rest : Tg} {o : Oper} {l : List Oper} (ho : nth l k = some o) (hw : Region.wanted o (yielded l.toArray a.tmps) = true) (v : Value)
    (hr : ∀ w, C w → (execOp a.eval o).run P w = .ok (.value v) w) (h : mixG P l.toArray Q rest C (a.put o.dst v)) : mixG P l.toArray Q (.give k rest) C a := by
  unfold mixG
  intro o' ho'
  rw [nth_eq, ho] at ho'
  cases ho'
  refine ⟨v, .inl ⟨hw, fun w hC => ?_⟩, h⟩
  rw [hr w hC]
  exact ⟨rfl, rfl⟩
theorem stepG_of {K : (World → Prop) → Act → Prop} {C : World → Prop} {a : Act} {k : Nat} {o : Oper} {l : List Oper} (ho : nth l k = some o) (h : ∀ p : InC C, wpList P l.toArray (fun e a' w' => e = .normal ∧ ∃ C', C' w' ∧ (∀ x, C' x → C x) ∧ Sh C' ∧ K C' a') [o] a p.w) : stepG P l.toArray K C k a := by
  unfold stepG; rw [nth_eq, ho]; exact h
theorem mixG_main {Q : Act → World → Prop} {C : World → Prop} {a : Act} {k : Nat} {rest : Tg} (h : stepG P ops (mixG P ops Q rest) C k a) : mixG P ops Q (.main k rest) C a := h
theorem mixG_fork {Q : Act → World → Prop} {C : World → Prop} {a : Act} {k k' : Nat} {t t' : Tg} (h : stepG P ops (mixG P ops Q t) C k a) (h' : stepG P ops (mixG P ops Q t') C k' a) : mixG P ops Q (.fork k t k' t') C a := ⟨h, h'⟩
theorem mixG_fork3 {Q : Act → World → Prop} {C : World → Prop} {a : Act} {k k' k'' : Nat} {t t' t'' : Tg} (h : stepG P ops (mixG P ops Q t) C k a) (h' : stepG P ops (mixG P ops Q t') C k' a) (h'' : stepG P ops (mixG P ops Q t'') C k'' a) : mixG P ops Q (.fork3 k t k' t' k'' t'') C a := ⟨h, h', h''⟩

theorem wp_region_grow {id : Nat} {Q : Exit → Act → World → Prop} {a : Act} {w : World} {l : List Oper} (t : Tg) (C : World → Prop) (hm : P.follows .mixedOrders = true)
    (hB : (Region.noSelect l.toArray && t.depth == l.toArray.size && segG .any l.toArray t (Array.replicate l.toArray.size false)) = true) (hS : Sh C) (hC : C { w with drawn := w.drawn + 1 })
    (h : mixG P l.toArray (Q .normal) t C a) : (Code.region id l.toArray true).wp P Q a w := by
  simp only [Bool.and_eq_true, beq_iff_eq] at hB
  obtain ⟨⟨h1, h2⟩, h3⟩ := hB
  refine wp_region_any hm ?_
  have := anyG_tree h1 t _ C a hS h3 h
  rw [h2] at this
  exact any_of_anyG (fun _ _ h => h) _ _ C a _ hC this
end
end Go.Proofs.YthdjfhnhjiageaaDoor.Mix
