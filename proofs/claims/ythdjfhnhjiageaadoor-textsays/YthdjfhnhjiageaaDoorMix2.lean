/-
  A region that draws its order, walked by a tree (builtins that read are readers, too): where two operations that are no readers can come (new memory, a call), both ways are walked.
-/
import Derived.Test.YthdjfhnhjiageaaDoorMix
namespace Go.Proofs.YthdjfhnhjiageaaDoor.Mix

inductive Tr where
  | done : Tr
  | still : Nat → Tr → Tr
  | main : Nat → Tr → Tr
  | fork : Nat → Tr → Nat → Tr → Tr

def Tr.depth : Tr → Nat
  | .done => 0
  | .still _ t => t.depth + 1
  | .main _ t => t.depth + 1
  | .fork _ t _ _ => t.depth + 1

section
variable {P : Program} {ops : Array Oper} {md : Region.Mode}

/-- what reads, builtins among them. -/
def plainB : Op → Bool
  | .call c => match c.callee with
    | .builtin .len => true
    | .builtin .min => true
    | .builtin .max => true
    | _ => false
  | op => plain op
theorem then_value {r : Result Value} {n : Next} {w' : World} (h : (r.andThen fun a w' => Result.ok (Next.value a) w') = .ok n w') : ∃ v, n = .value v := by
  cases r with
  | ok v w1 => simp [Result.andThen] at h; exact ⟨v, h.1.symm⟩
  | halt x w1 => simp [Result.andThen] at h
theorem plainB_value {o : Oper} (h : plainB o.op = true) {ρ : Operand → Value} {w w' : World} {n : Next} (hr : (execOp ρ o).run P w = .ok n w') : ∃ v, n = .value v := by
  cases ho : o.op
  case call c =>
    rw [ho] at h
    unfold execOp at hr
    rw [ho] at hr
    obtain ⟨callee, args, argTypes⟩ := c
    cases callee
    case builtin b =>
      cases b <;> simp only [plainB] at h <;> first | (cases h; done) | (simp only [resolve, invoke, builtin, Sem.run_bind, Sem.run_pure, Result.andThen_ok] at hr; exact then_value hr)
    all_goals (cases h; done)
  all_goals (rw [ho] at h; exact plain_value (by rw [ho]; exact h) hr)
theorem yields_of_quietB {o : Oper} {C : World → Prop} {K : Act → Prop} {a : Act} (hp : plainB o.op = true) (h : wpQuiet P ops (fun x => ∃ p : InC C, x = p.w) K [o] a) : ∃ v, Yields P ops C o v a ∧ K (a.put o.dst v) := by
  unfold wpQuiet at h
  split at h
  · rename_i hw
    obtain ⟨v, h1, h2⟩ := h
    refine ⟨v, .inl ⟨hw, fun w hC => ?_⟩, h2⟩
    have := h1 w ⟨⟨w, hC⟩, rfl⟩
    unfold Oper.quietAt at this
    generalize hr : (execOp a.eval o).run P w = r at this
    cases r with
    | ok n w' =>
      obtain ⟨u, rfl⟩ := plainB_value hp hr
      obtain ⟨e1, e2⟩ := this
      rw [e1, e2]
      exact .inl rfl
    | halt x w' => exact False.elim this
  · rename_i hw
    exact ⟨undef, .inr ⟨by simpa using hw, rfl⟩, h⟩

def segT (md : Region.Mode) (ops : Array Oper) : Tr → Array Bool → Bool
  | .done, listed => (Region.ready md ops listed).isEmpty
  | .still k rest, listed => (Region.ready md ops listed).contains k && Region.free md ops listed k && (match ops[k]? with | some o => plainB o.op | none => false) && segT md ops rest (listed.setIfInBounds k true)
  | .main k rest, listed => Region.ready md ops listed == [k] && segT md ops rest (listed.setIfInBounds k true)
  | .fork k t k' t', listed => Region.ready md ops listed == [k, k'] && t.depth == t'.depth && segT md ops t (listed.setIfInBounds k true) && segT md ops t' (listed.setIfInBounds k' true)

def mixT (P : Program) (ops : Array Oper) (Q : Act → World → Prop) : Tr → (World → Prop) → Act → Prop
  | .done, C, a => ∀ p : InC C, Q a p.w
  | .still k rest, C, a => wpQuiet P ops (fun x => ∃ p : InC C, x = p.w) (mixT P ops Q rest C) (ops[k]?.toList) a
  | .main k rest, C, a => ∀ p : InC C, wpList P ops (fun e a' w' => e = .normal ∧ ∃ C', C' w' ∧ (∀ x, C' x → C x) ∧ mixT P ops Q rest C' a') (ops[k]?.toList) a p.w
  | .fork k t k' t', C, a => (∀ p : InC C, wpList P ops (fun e a' w' => e = .normal ∧ ∃ C', C' w' ∧ (∀ x, C' x → C x) ∧ mixT P ops Q t C' a') (ops[k]?.toList) a p.w) ∧
      ∀ p : InC C, wpList P ops (fun e a' w' => e = .normal ∧ ∃ C', C' w' ∧ (∀ x, C' x → C x) ∧ mixT P ops Q t' C' a') (ops[k']?.toList) a p.w

theorem firm_main {i : Nat} {C : World → Prop} {a : Act} {K : (World → Prop) → Act → Prop} {o : Oper} (ho : ops[i]? = some o)
    (h : ∀ p : InC C, wpList P ops (fun e a' w' => e = .normal ∧ ∃ C', C' w' ∧ (∀ x, C' x → C x) ∧ K C' a') (ops[i]?.toList) a p.w) : firm P ops i K C a := by
  intro w hw
  have H := h ⟨w, hw⟩
  rw [ho] at H ⊢
  simp only [Option.toList_some] at H ⊢
  unfold wpList at H
  split
  · rename_i hwt
    rw [if_pos hwt] at H
    rcases H with H | ⟨_, hl⟩
    · refine Oper.wp_mono (fun a' w' hK => ?_) (o := o) (Q := noExit) (K := fun a' w' => wpList P ops (fun e a' w' => e = .normal ∧ ∃ C', C' w' ∧ (∀ x, C' x → C x) ∧ K C' a') [] a' w') ?_
      · exact hK.2
      · unfold Oper.wp at H ⊢
        generalize (execOp a.eval o).run P w = r at H ⊢
        cases r with
        | ok n w' =>
          cases n <;> simp only [Oper.upon] at H ⊢ <;> try exact H
          case enter f args =>
            refine Calls.mono H fun e w'' he => ?_
            cases e with
            | returned u => exact he
            | panicked chain => cases he.1
            | outgrown => obtain ⟨_, _, he, _⟩ := he; cases he
        | halt x w' => cases x <;> simp only [Oper.upon] at H ⊢ <;> first | exact H | cases H.1
    · obtain ⟨_, _, he, _⟩ := hl
      cases he
  · rename_i hwt
    rw [if_neg hwt] at H
    exact H.2

theorem anyM_tree {Q : Act → World → Prop} (hs : Region.noSelect ops = true) : ∀ (t : Tr) (listed : Array Bool) (C : World → Prop) (a : Act),
    segT md ops t listed = true → mixT P ops Q t C a → anyM P md ops Q t.depth listed C a
  | .done, listed, C, a, hB, h => ⟨by simpa [segT] using hB, fun w hw => h ⟨w, hw⟩⟩
  | .still k rest, listed, C, a, hB, h => by
    simp only [segT, Bool.and_eq_true] at hB
    obtain ⟨⟨⟨hr, hf⟩, hp⟩, hB'⟩ := hB
    cases ho : ops[k]? with
    | none => rw [ho] at hp; cases hp
    | some o =>
      rw [ho] at hp
      unfold mixT at h
      rw [ho] at h
      obtain ⟨v, hy, hK⟩ := yields_of_quietB hp h
      exact anyM_first ho (Region.noSelect_spec hs) rest.depth listed C a (Region.free_spec ho hf) (by simpa using hr) hy (anyM_tree hs rest _ _ _ hB' hK)
  | .main k rest, listed, C, a, hB, h => by
    simp only [segT, Bool.and_eq_true, beq_iff_eq] at hB
    obtain ⟨hr, hB'⟩ := hB
    refine ⟨fun h0 => (by rw [hr] at h0; cases h0), fun i hi => ?_⟩
    have hir := hi
    rw [hr, List.mem_singleton] at hi
    subst hi
    obtain ⟨_, o, ho, _⟩ := mem_ready.1 hir
    exact firm_mono (fun C' a' _ h3 => anyM_tree hs rest _ _ _ hB' h3) (firm_main ho h)
  | .fork k t k' t', listed, C, a, hB, h => by
    simp only [segT, Bool.and_eq_true, beq_iff_eq] at hB
    obtain ⟨⟨⟨hr, hd⟩, hB1⟩, hB2⟩ := hB
    refine ⟨fun h0 => (by rw [hr] at h0; cases h0), fun i hi => ?_⟩
    have hir := hi
    rw [hr, List.mem_cons, List.mem_singleton] at hi
    obtain ⟨_, o, ho, _⟩ := mem_ready.1 hir
    rcases hi with rfl | rfl
    · exact firm_mono (fun C' a' _ h3 => anyM_tree hs t _ _ _ hB1 h3) (firm_main ho h.1)
    · refine firm_mono (fun C' a' _ h3 => ?_) (firm_main ho h.2)
      have := anyM_tree hs t' _ _ _ hB2 h3
      rw [← hd] at this
      exact this

theorem mixT_end {Q : Act → World → Prop} {C : World → Prop} {a : Act} (h : ∀ p : InC C, Q a p.w) : mixT P ops Q .done C a := h
theorem mixT_still {Q : Act → World → Prop} {C : World → Prop} {a : Act} {k : Nat} {rest : Tr} {o : Oper} {l : List Oper} (ho : nth l k = some o) (h : wpQuiet P l.toArray (fun x => ∃ p : InC C, x = p.w) (mixT P l.toArray Q rest C) [o] a) : mixT P l.toArray Q (.still k rest) C a := by
  unfold mixT; rw [nth_eq, ho]; exact h
theorem mixT_main {Q : Act → World → Prop} {C : World → Prop} {a : Act} {k : Nat} {rest : Tr} {o : Oper} {l : List Oper} (ho : nth l k = some o) (h : ∀ p : InC C, wpList P l.toArray (fun e a' w' => e = .normal ∧ ∃ C', C' w' ∧ (∀ x, C' x → C x) ∧ mixT P l.toArray Q rest C' a') [o] a p.w) : mixT P l.toArray Q (.main k rest) C a := by
  unfold mixT; rw [nth_eq, ho]; exact h
theorem mixT_fork {Q : Act → World → Prop} {C : World → Prop} {a : Act} {k k' : Nat} {t t' : Tr} {o o' : Oper} {l : List Oper} (ho : nth l k = some o) (ho' : nth l k' = some o')
    (h : ∀ p : InC C, wpList P l.toArray (fun e a' w' => e = .normal ∧ ∃ C', C' w' ∧ (∀ x, C' x → C x) ∧ mixT P l.toArray Q t C' a') [o] a p.w)
    (h' : ∀ p : InC C, wpList P l.toArray (fun e a' w' => e = .normal ∧ ∃ C', C' w' ∧ (∀ x, C' x → C x) ∧ mixT P l.toArray Q t' C' a') [o'] a p.w) : mixT P l.toArray Q (.fork k t k' t') C a := by
  unfold mixT; rw [nth_eq, ho, nth_eq, ho']; exact ⟨h, h'⟩

theorem wp_region_tree {id : Nat} {Q : Exit → Act → World → Prop} {a : Act} {w : World} {l : List Oper} (t : Tr) (C : World → Prop) (hm : P.follows .mixedOrders = true)
    (hB : (Region.noSelect l.toArray && t.depth == l.toArray.size && segT .any l.toArray t (Array.replicate l.toArray.size false)) = true) (hC : C { w with drawn := w.drawn + 1 })
    (h : mixT P l.toArray (Q .normal) t C a) : (Code.region id l.toArray true).wp P Q a w := by
  simp only [Bool.and_eq_true, beq_iff_eq] at hB
  obtain ⟨⟨h1, h2⟩, h3⟩ := hB
  refine wp_region_any hm ?_
  have := anyM_tree h1 t _ C a h3 h
  rw [h2] at this
  exact any_of_anyM (fun _ _ h => h) _ _ C a _ hC this
end
end Go.Proofs.YthdjfhnhjiageaaDoor.Mix
