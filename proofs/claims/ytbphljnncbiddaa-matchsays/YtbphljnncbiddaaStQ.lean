/-
  One element among sorted ones, plainly: shifted to its place.
-/
import Derived.Test.YtbphljnncbiddaaStP
namespace Go.Proofs.Ytbphljnncbiddaa.St
open Go.Sort
variable {α : Type} [Inhabited α]

/-- what stood at a stands at q, those between one place ahead. -/
def Shift (a q : Nat) (d dk : Array α) : Prop :=
  dk.size = d.size ∧ (∀ t, a ≤ t → t < q → dk[t]! = d[t + 1]!) ∧ dk[q]! = d[a]! ∧ ∀ t, t < a ∨ q < t → dk[t]! = d[t]!
theorem shift_zero (a : Nat) (d : Array α) : Shift a a d d := ⟨rfl, fun t h h' => by omega, rfl, fun _ _ => rfl⟩
theorem shift_step {a q : Nat} {d dk : Array α} (h : Shift a q d dk) (haq : a ≤ q) (hq : q + 1 < d.size) : Shift a (q + 1) d (swp dk q (q + 1)) := by
  obtain ⟨h1, h2, h3, h4⟩ := h
  refine ⟨by rw [size_swp]; exact h1, fun t ha ht => ?_, ?_, fun t ht => ?_⟩
  · by_cases e : t = q
    · subst e
      rw [swp_left _ _ _ (by omega) (by omega)]
      exact h4 _ (by omega)
    · rw [swp_other _ _ _ _ (by omega) (by omega)]
      exact h2 t ha (by omega)
  · rw [swp_right _ _ _ (by omega)]; exact h3
  · rw [swp_other _ _ _ _ (by omega) (by omega)]
    exact h4 t (by omega)
theorem shift_sorted {lt : α → α → Bool} (hO : SWO lt) {a i b : Nat} {d dk : Array α} (h : Shift a (i - 1) d dk) (hs : SortedIn lt (a + 1) b d) (hai : a + 1 ≤ i) (hib : i ≤ b)
    (hlo : i = a + 1 ∨ lt d[i - 1]! d[a]! = true) (hhi : i = b ∨ lt d[i]! d[a]! = false) : SortedIn lt a b dk := by
  obtain ⟨h1, h2, h3, h4⟩ := h
  intro x y hx hxy hy
  by_cases hy1 : y < i - 1
  · rw [h2 x hx (by omega), h2 y (by omega) hy1]; exact hs _ _ (by omega) (by omega) (by omega)
  · have hl : ∀ x, a ≤ x → x < i - 1 → lt d[a]! d[x + 1]! = false := fun x hx hxi => by
      have : lt d[i - 1]! d[a]! = true := by
        rcases hlo with h | h
        · omega
        · exact h
      exact hO.ntrans _ _ _ (asym hO this) (sorted_le hO hs (i := x + 1) (j := i - 1) (by omega) (by omega) (by omega))
    have hh : ∀ y, i ≤ y → y < b → lt d[y]! d[a]! = false := fun y hyi hyb => by
      have : lt d[i]! d[a]! = false := by
        rcases hhi with h | h
        · omega
        · exact h
      exact hO.ntrans _ _ _ (sorted_le hO hs (i := i) (j := y) (by omega) hyi hyb) this
    by_cases hy2 : y = i - 1
    · subst hy2
      rw [h3, h2 x hx hxy]
      exact hl x hx hxy
    · rw [h4 y (by omega)]
      by_cases hx1 : x < i - 1
      · rw [h2 x hx hx1]; exact hs _ _ (by omega) (by omega) hy
      · by_cases hx2 : x = i - 1
        · subst hx2
          rw [h3]
          exact hh y (by omega) hy
        · rw [h4 x (by omega)]; exact hs _ _ (by omega) hxy hy

/-- what stood at m stands at q, those between one place behind. -/
def Back (m q : Nat) (d dk : Array α) : Prop :=
  dk.size = d.size ∧ (∀ t, q < t → t ≤ m → dk[t]! = d[t - 1]!) ∧ dk[q]! = d[m]! ∧ ∀ t, t < q ∨ m < t → dk[t]! = d[t]!
theorem back_zero (m : Nat) (d : Array α) : Back m m d d := ⟨rfl, fun t h h' => by omega, rfl, fun _ _ => rfl⟩
theorem back_step {m q : Nat} {d dk : Array α} (h : Back m q d dk) (hq : 0 < q) (hqm : q ≤ m) (hm : m < d.size) : Back m (q - 1) d (swp dk q (q - 1)) := by
  obtain ⟨h1, h2, h3, h4⟩ := h
  refine ⟨by rw [size_swp]; exact h1, fun t hl ht => ?_, ?_, fun t ht => ?_⟩
  · by_cases e : t = q
    · subst e
      rw [swp_left _ _ _ (by omega) (by omega)]
      exact h4 _ (by omega)
    · rw [swp_other _ _ _ _ (by omega) (by omega)]
      exact h2 t (by omega) ht
  · rw [swp_right _ _ _ (by omega)]; exact h3
  · rw [swp_other _ _ _ _ (by omega) (by omega)]
    exact h4 t (by omega)
theorem back_sorted {lt : α → α → Bool} (hO : SWO lt) {a i m : Nat} {d dk : Array α} (h : Back m i d dk) (hs : SortedIn lt a m d) (hai : a ≤ i) (him : i ≤ m)
    (hlo : i = a ∨ lt d[m]! d[i - 1]! = false) (hhi : i = m ∨ lt d[m]! d[i]! = true) : SortedIn lt a (m + 1) dk := by
  obtain ⟨h1, h2, h3, h4⟩ := h
  intro x y hx hxy hy
  by_cases hy1 : y < i
  · rw [h4 x (by omega), h4 y (by omega)]; exact hs _ _ hx hxy (by omega)
  · have hl : ∀ x, a ≤ x → x < i → lt d[m]! d[x]! = false := fun x hx hxi => by
      have : lt d[m]! d[i - 1]! = false := by
        rcases hlo with h | h
        · omega
        · exact h
      exact hO.ntrans _ _ _ this (sorted_le hO hs (i := x) (j := i - 1) hx (by omega) (by omega))
    have hh : ∀ y, i ≤ y → y < m → lt d[y]! d[m]! = false := fun y hyi hym => by
      have : lt d[m]! d[i]! = true := by
        rcases hhi with h | h
        · omega
        · exact h
      exact hO.ntrans _ _ _ (sorted_le hO hs (i := i) (j := y) hai hyi hym) (asym hO this)
    by_cases hy2 : y = i
    · subst hy2
      rw [h3, h4 x (by omega)]
      exact hl x hx hxy
    · rw [h2 y (by omega) (by omega)]
      by_cases hx1 : x < i
      · rw [h4 x (by omega)]; exact hs _ _ hx (by omega) (by omega)
      · by_cases hx2 : x = i
        · subst hx2
          rw [h3]
          exact hh (y - 1) (by omega) (by omega)
        · rw [h2 x (by omega) (by omega)]; exact hs _ _ (by omega) (by omega) (by omega)
theorem swp_perm {lo hi p q : Nat} {d dk : Array α} (h : PermIn lo hi d dk) (h1 : lo ≤ p) (h2 : p < hi) (h3 : lo ≤ q) (h4 : q < hi) (hs : hi ≤ d.size) : PermIn lo hi d (swp dk p q) :=
  permIn_trans d dk _ lo hi h (swp_permIn dk lo hi p q h1 h2 h3 h4 (by rw [h.1]; exact hs))
end Go.Proofs.Ytbphljnncbiddaa.St
