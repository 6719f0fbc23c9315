/-
  The reference's Rested, by a contract.
-/
import Derived.Test.YtbphljnncbiddaaRefO
import Derived.Test.YtbphljnncbiddaaRefL
namespace Go.Proofs.Ytbphljnncbiddaa.Rk
open Go.RowKit Go.Sort Go.Maps Go.Proofs.Ytbphljnncbiddaa.Mix Go.Proofs.Ytbphljnncbiddaa.Bk

/-- a book, as a call of its own made it. -/
def BookOut (w : World) (TB TA : List Odr) (v : Value) (w' : World) : Prop :=
  ∃ p0 c0 p1 c1, v = .agg #[.slice p0 TB.length c0, .slice p1 TA.length c1] ∧ OV w' p0 c0 TB ∧ OV w' p1 c1 TA ∧ (∀ a, p0 = some a → w.heap.size ≤ a.block) ∧ (∀ a, p1 = some a → w.heap.size ≤ a.block)
theorem out_none (w w' : World) : BookOut w [] [] (.agg #[.slice none 0 0, .slice none 0 0]) w' := ⟨none, 0, none, 0, rfl, ov_nil _, ov_nil _, (by simp), (by simp)⟩
/-- what Rested answers. -/
def restedB (bids asks : List Odr) (o : Odr) : List Odr := if mayRest bids asks o = 0 then restB bids o else []
def restedA (bids asks : List Odr) (o : Odr) : List Odr := if mayRest bids asks o = 0 then restA asks o else []

theorem laid_perm (l : List Odr) (o : Odr) : (l ++ [o]).Perm (laid l o) :=
  (List.perm_append_singleton o l).trans (by unfold laid; exact (List.perm_middle.trans (by rw [List.take_append_drop])).symm)
theorem rest_permB {bids asks : List Odr} {o : Odr} (hR : Right bids asks) (ho : okOrder o = 0) : ((bids ++ asks ++ [o]).filter keepB).Perm (restB bids o) := by
  have := okOrder_pq ho
  rw [List.filter_append, keepB_cat hR.b hR.a]
  unfold restB
  split
  · rename_i h
    rw [show [o].filter keepB = [o] from List.filter_eq_self.2 fun x hx => by
      rw [List.mem_singleton.1 hx]; unfold keepB; simp only [Bool.and_eq_true, decide_eq_true_eq]; omega]
    exact laid_perm _ _
  · rename_i h
    rw [show [o].filter keepB = [] from List.filter_eq_nil_iff.2 fun x hx => by
      rw [List.mem_singleton.1 hx]; unfold keepB; simp only [Bool.and_eq_true, decide_eq_true_eq]; omega, List.append_nil]
theorem rest_permA {bids asks : List Odr} {o : Odr} (hR : Right bids asks) (ho : okOrder o = 0) : ((bids ++ asks ++ [o]).filter keepA).Perm (restA asks o) := by
  have := okOrder_pq ho
  rw [List.filter_append, keepA_cat hR.b hR.a]
  unfold restA
  split
  · rename_i h
    rw [show [o].filter keepA = [] from List.filter_eq_nil_iff.2 fun x hx => by
      rw [List.mem_singleton.1 hx]; unfold keepA; simp only [Bool.and_eq_true, Bool.not_eq_true', decide_eq_true_eq, decide_eq_false_iff_not]; omega, List.append_nil]
  · rename_i h
    rw [show [o].filter keepA = [o] from List.filter_eq_self.2 fun x hx => by
      rw [List.mem_singleton.1 hx]; unfold keepA; simp only [Bool.and_eq_true, Bool.not_eq_true', decide_eq_true_eq, decide_eq_false_iff_not]; omega]
    exact laid_perm _ _

/-- does this one stand against o, and does o's price meet its? -/
def against (o x : Odr) : Bool := decide (¬ osd x = osd o) && meets o (opr x)
theorem bool_eq_of_false {a b : Bool} (h : a = false ↔ b = false) : a = b := by cases a <;> cases b <;> simp_all
theorem crosses_all {bids asks : List Odr} {o : Odr} (hR : Right bids asks) (ho : okOrder o = 0) : crosses o (if osd o = -1 then bids else asks) = (bids ++ asks).any (against o) := by
  refine bool_eq_of_false ?_
  rw [crosses_false (okOrder_sd ho), List.any_eq_false]
  rcases okOrder_sd ho with hs | hs
  · rw [if_neg (by rw [hs]; decide)]
    constructor
    · intro h x hx
      rcases List.mem_append.1 hx with hx | hx
      · simp [against, hs, hR.b.sd x hx]
      · cases asks with
        | nil => cases hx
        | cons y l =>
          have h1 := (h y rfl).1 hs
          have h2 := head_ask hR.a (x := y) rfl hx
          unfold against meets
          simp only [Bool.and_eq_true, decide_eq_true_eq, hs]
          omega
    · intro h x hx
      refine ⟨fun _ => ?_, fun e => by omega⟩
      have h1 := h x (List.mem_append_right _ (mem_of_head? hx))
      have h2 := hR.a.sd x (mem_of_head? hx)
      unfold against meets at h1
      simp only [Bool.and_eq_true, decide_eq_true_eq, hs, h2] at h1
      omega
  · rw [if_pos hs]
    constructor
    · intro h x hx
      rcases List.mem_append.1 hx with hx | hx
      · cases bids with
        | nil => cases hx
        | cons y l =>
          have h1 := (h y rfl).2 hs
          have h2 := head_bid hR.b (x := y) rfl hx
          unfold against meets
          simp only [Bool.and_eq_true, decide_eq_true_eq, hs]
          omega
      · simp [against, hs, hR.a.sd x hx]
    · intro h x hx
      refine ⟨fun e => by omega, fun _ => ?_⟩
      have h1 := h x (List.mem_append_left _ (mem_of_head? hx))
      have h2 := hR.b.sd x (mem_of_head? hx)
      unfold against meets at h1
      simp only [Bool.and_eq_true, decide_eq_true_eq, hs, h2] at h1
      omega
theorem any_find (a : Int) (bids asks : List Odr) : (bids.any (hasId a) || asks.any (hasId a)) = (findIn a bids asks).isSome := by
  unfold findIn
  rw [← List.any_append, Bool.eq_iff_iff, List.find?_isSome, List.any_eq_true]
theorem any_snoc {xs : List Odr} {k : Nat} (f : Odr → Bool) (hk : k < xs.length) : (xs.take (k + 1)).any f = ((xs.take k).any f || f xs[k]!) := by
  rw [List.take_succ_eq_append_getElem hk, List.any_append]
  simp only [List.any_cons, List.any_nil, Bool.or_false, getElem!_pos xs k hk]
theorem any_take {xs : List Odr} {k : Nat} (f : Odr → Bool) (h : (xs.take k).any f = true) : xs.any f = true := by
  rw [← List.take_append_drop k xs, List.any_append, h]; rfl
end Go.Proofs.Ytbphljnncbiddaa.Rk
