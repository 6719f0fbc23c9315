/-
  Lists of accounts in memory.
-/
import Derived.Test.YtbphljnncbiddabFuPay
namespace Go.Proofs.Ytbphljnncbiddab.Ac
open Go.RowKit Go.Proofs.Ytbphljnncbiddab.Num Go.Proofs.Ytbphljnncbiddab.Fix Go.Proofs.Ytbphljnncbiddab.AcP Go.Proofs.Ytbphljnncbiddab.FuP

/-- an account, as it lies in a list: where its positions are, and what they are. -/
structure Am where
  id : Int
  bal : Int
  p : Option Addr
  n : Nat
  c : Nat
  pos : List Int
def Am.acc (a : Am) : Acc := (a.id, a.bal, a.pos)
def encA (a : Am) : List Value := [.int .i64 a.id, .int .i64 a.bal, .slice a.p a.n a.c]
def flatA : List Am → List Value
  | [] => []
  | a :: l => encA a ++ flatA l
theorem flatA_len : ∀ (l : List Am), (flatA l).length = l.length * 3
  | [] => rfl
  | a :: l => by
    have := flatA_len l
    simp [flatA, encA, this]
    omega
theorem flatA_app : ∀ (l m : List Am), flatA (l ++ m) = flatA l ++ flatA m
  | [], m => rfl
  | a :: l, m => by simp [flatA, flatA_app l m]
theorem flatA_one : ∀ (l : List Am), ∀ u ∈ flatA l, u.oneCell' = true
  | [], u, h => by cases h
  | a :: l, u, h => by
    rcases List.mem_append.1 h with h | h
    · simp [encA] at h
      rcases h with rfl | rfl | rfl <;> rfl
    · exact flatA_one l u h
theorem flatA_get : ∀ (l : List Am) (j : Nat) (h : j < l.length) (i : Nat), i < 3 → (flatA l)[j * 3 + i]? = (encA (l[j]'h))[i]?
  | a :: l, 0, _, i, hi => by
    rw [flatA, Nat.zero_mul, Nat.zero_add, List.getElem?_append_left (by simp [encA]; omega)]
    rfl
  | a :: l, j + 1, h, i, hi => by
    rw [flatA, List.getElem?_append_right (by simp [encA]; omega), show (j + 1) * 3 + i - (encA a).length = j * 3 + i by simp [encA]; omega]
    exact flatA_get l j (by simpa using h) i hi
theorem flatA_set1 : ∀ (l : List Am) (a : Am) (m : List Am) (v : Int), (flatA (l ++ a :: m)).set (l.length * 3 + 1) (.int .i64 v) = flatA (l ++ { a with bal := v } :: m)
  | [], a, m, v => by simp [flatA, encA]
  | b :: l, a, m, v => by
    have := flatA_set1 l a m v
    rw [List.cons_append, flatA, List.cons_append, flatA, ← this, List.set_append, if_neg (by simp [encA]; omega)]
    congr 2
    simp [encA]
    omega
theorem flatA_set2 : ∀ (l : List Am) (a : Am) (m : List Am) (p : Option Addr) (n c : Nat), (flatA (l ++ a :: m)).set (l.length * 3 + 2) (.slice p n c) = flatA (l ++ { a with p := p, n := n, c := c } :: m)
  | [], a, m, p, n, c => by simp [flatA, encA]
  | b :: l, a, m, p, n, c => by
    have := flatA_set2 l a m p n c
    rw [List.cons_append, flatA, List.cons_append, flatA, ← this, List.set_append, if_neg (by simp [encA]; omega)]
    congr 2
    simp [encA]
    omega

/-- an account that can be read. -/
structure AOk (w : World) (a : Am) : Prop where
  len : a.pos.length = a.n
  few : a.n * 8 ≤ 140737488351232
  nil : a.p = none → a.c = 0
  row : Row w a.p a.pos
theorem AOk.below {w w' : World} {a : Am} (h : AOk w a) (hb : Below w.heap.size w w') : AOk w' a := ⟨h.len, h.few, h.nil, row_below h.row hb⟩
/-- a list of accounts. -/
structure AL (w : World) (p : Option Addr) (l : List Am) : Prop where
  row : l = [] ∨ ∃ b off, p = some ⟨b, off, none⟩ ∧ ∀ j u, (flatA l)[j]? = some u → w.cell? ⟨b, off + j, none⟩ = some u
  each : ∀ a, a ∈ l → AOk w a
theorem AL.below {w w' : World} {p : Option Addr} {l : List Am} (h : AL w p l) (hb : Below w.heap.size w w') : AL w' p l := by
  refine ⟨?_, fun a ha => (h.each a ha).below hb⟩
  rcases h.row with h0 | ⟨b, off, rfl, hc⟩
  · exact .inl h0
  · exact .inr ⟨b, off, rfl, fun j u hu => (hb.cell (World.block_lt_of_cell? _ _ (hc j u hu))).trans (hc j u hu)⟩
theorem al_nil (w : World) (p : Option Addr) : AL w p [] := ⟨.inl rfl, fun _ h => by cases h⟩
/-- the cells of one of them. -/
theorem al_cells {w : World} {b off : Nat} {l : List Am} (hc : ∀ j u, (flatA l)[j]? = some u → w.cell? ⟨b, off + j, none⟩ = some u) {k : Nat} (hk : k < l.length) :
    w.cell? ⟨b, off + k * 3, none⟩ = some (.int .i64 (l[k]'hk).id) ∧ w.cell? ⟨b, off + k * 3 + 1, none⟩ = some (.int .i64 (l[k]'hk).bal) ∧ w.cell? ⟨b, off + k * 3 + 2, none⟩ = some (.slice (l[k]'hk).p (l[k]'hk).n (l[k]'hk).c) := by
  have h0 := flatA_get l k hk 0 (by omega)
  have h1 := flatA_get l k hk 1 (by omega)
  have h2 := flatA_get l k hk 2 (by omega)
  exact ⟨hc (k * 3) _ h0, hc (k * 3 + 1) _ h1, hc (k * 3 + 2) _ h2⟩
end Go.Proofs.Ytbphljnncbiddab.Ac
