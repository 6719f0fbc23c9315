/-
  A stable sort's merge, plainly: ranges exchanged, parts turned round, two sorted parts merged. No program in sight.
-/
import Derived.Sort.LotA
namespace Go.Proofs.Ytbphljnncbiddaa.St
open Go.Sort
variable {α : Type} [Inhabited α]

/-- n places from a on, and n from b on, are exchanged. -/
def SR (a b n : Nat) (d d' : Array α) : Prop :=
  d'.size = d.size ∧ (∀ t, t < n → d'[a + t]! = d[b + t]! ∧ d'[b + t]! = d[a + t]!) ∧ ∀ t, (t < a ∨ a + n ≤ t) → (t < b ∨ b + n ≤ t) → d'[t]! = d[t]!
theorem sr_zero (a b : Nat) (d : Array α) : SR a b 0 d d := ⟨rfl, fun _ h => absurd h (Nat.not_lt_zero _), fun _ _ _ => rfl⟩
theorem sr_step {a b i : Nat} {d dk : Array α} (h : SR a b i d dk) (hab : a + i < b) (hb : b + i < d.size) : SR a b (i + 1) d (swp dk (a + i) (b + i)) := by
  obtain ⟨h1, h2, h3⟩ := h
  refine ⟨by rw [size_swp]; exact h1, fun t ht => ?_, fun t ha hb' => ?_⟩
  · by_cases e : t = i
    · subst e
      rw [swp_left _ _ _ (by omega) (by omega), swp_right _ _ _ (by omega)]
      exact ⟨h3 _ (by omega) (by omega), h3 _ (by omega) (by omega)⟩
    · rw [swp_other _ _ _ _ (by omega) (by omega), swp_other _ _ _ _ (by omega) (by omega)]
      exact h2 t (by omega)
  · rw [swp_other _ _ _ _ (by omega) (by omega)]
    exact h3 t (by omega) (by omega)
theorem sr_perm {a b i lo hi : Nat} {d dk : Array α} (h : PermIn lo hi d dk) (hlo : lo ≤ a) (hab : a + i < b) (hb : b + i < hi) (hs : hi ≤ d.size) : PermIn lo hi d (swp dk (a + i) (b + i)) :=
  permIn_trans d dk _ lo hi h (swp_permIn dk lo hi (a + i) (b + i) (by omega) (by omega) (by omega) (by omega) (by rw [h.1]; exact hs))
theorem sr_at {a b n : Nat} {d d' : Array α} (h : SR a b n d d') {t : Nat} (h1 : a ≤ t) (h2 : t < a + n) : d'[t]! = d[b + (t - a)]! := by
  have := (h.2.1 (t - a) (by omega)).1
  rwa [show a + (t - a) = t by omega] at this
theorem sr_bt {a b n : Nat} {d d' : Array α} (h : SR a b n d d') {t : Nat} (h1 : b ≤ t) (h2 : t < b + n) : d'[t]! = d[a + (t - b)]! := by
  have := (h.2.1 (t - b) (by omega)).2
  rwa [show b + (t - b) = t by omega] at this

/-- the parts [a, m) and [m, b) have changed places. -/
def Rot (a m b : Nat) (d d' : Array α) : Prop :=
  d'.size = d.size ∧ (∀ t, a ≤ t → t < a + (b - m) → d'[t]! = d[t + (m - a)]!) ∧ (∀ t, a + (b - m) ≤ t → t < b → d'[t]! = d[t - (b - m)]!) ∧ ∀ t, t < a ∨ b ≤ t → d'[t]! = d[t]!
theorem rot_big {m i j : Nat} {d dk d' : Array α} (hi : i ≤ m) (hij : j < i) (h : SR (m - i) m j d dk) (hr : Rot (m - (i - j)) m (m + j) dk d') : Rot (m - i) m (m + j) d d' := by
  obtain ⟨r1, r2, r3, r4⟩ := hr
  refine ⟨r1.trans h.1, fun t h1 h2 => ?_, fun t h1 h2 => ?_, fun t ht => ?_⟩
  · rw [r4 t (by omega), sr_at h h1 (by omega)]
    congr 1; omega
  · by_cases hc : t < m - (i - j) + (m + j - m)
    · rw [r2 t (by omega) hc, sr_bt h (by omega) (by omega)]
      congr 1; omega
    · rw [r3 t (by omega) h2]
      exact h.2.2 _ (by omega) (by omega)
  · rw [r4 t (by omega)]
    exact h.2.2 t (by omega) (by omega)
theorem rot_small {m i j : Nat} {d dk d' : Array α} (hi : i ≤ m) (hij : i < j) (h : SR (m - i) (m + j - i) i d dk) (hr : Rot (m - i) m (m + (j - i)) dk d') : Rot (m - i) m (m + j) d d' := by
  obtain ⟨r1, r2, r3, r4⟩ := hr
  refine ⟨r1.trans h.1, fun t h1 h2 => ?_, fun t h1 h2 => ?_, fun t ht => ?_⟩
  · by_cases hc : t < m - i + (m + (j - i) - m)
    · rw [r2 t h1 hc]
      exact h.2.2 _ (by omega) (by omega)
    · rw [r3 t (by omega) (by omega), sr_at h (by omega) (by omega)]
      congr 1; omega
  · rw [r4 t (by omega), sr_bt h (by omega) (by omega)]
    congr 1; omega
  · rw [r4 t (by omega)]
    exact h.2.2 t (by omega) (by omega)
theorem rot_same {m i : Nat} {d d' : Array α} (hi : i ≤ m) (h : SR (m - i) m i d d') : Rot (m - i) m (m + i) d d' := by
  refine ⟨h.1, fun t h1 h2 => ?_, fun t h1 h2 => ?_, fun t ht => ?_⟩
  · rw [sr_at h h1 (by omega)]
    congr 1; omega
  · rw [sr_bt h (by omega) (by omega)]
    congr 1; omega
  · exact h.2.2 t (by omega) (by omega)

/-- what the middle's search found, and the parts turned round: four sorted parts, and nothing behind the middle is less than what is ahead of it. -/
structure Cut (lt : α → α → Bool) (a s mid e b : Nat) (d : Array α) : Prop where
  p1 : SortedIn lt a s d
  p2 : SortedIn lt s mid d
  p3 : SortedIn lt mid e d
  p4 : SortedIn lt e b d
  le : ∀ i j, a ≤ i → i < mid → mid ≤ j → j < b → lt d[j]! d[i]! = false

theorem sorted_le {lt : α → α → Bool} (hO : SWO lt) {a b : Nat} {d : Array α} (h : SortedIn lt a b d) {i j : Nat} (h1 : a ≤ i) (h2 : i ≤ j) (h3 : j < b) : lt d[j]! d[i]! = false := by
  by_cases e : i = j
  · subst e; exact hO.irrefl _
  · exact h i j h1 (by omega) h3
omit [Inhabited α] in
theorem asym {lt : α → α → Bool} (hO : SWO lt) {x y : α} (h : lt x y = true) : lt y x = false := by
  cases e : lt y x with
  | false => rfl
  | true => have := hO.trans _ _ _ h e; rw [hO.irrefl] at this; cases this

theorem cut_rot {lt : α → α → Bool} (hO : SWO lt) {a s m mid e b : Nat} {d d' : Array α} (h1 : SortedIn lt a m d) (h2 : SortedIn lt m b d) (has : a ≤ s) (hsm : s < m) (hme : m < e) (heb : e ≤ b) (hse : s + e = mid + m)
    (hlo : s = a ∨ e = b ∨ lt d[e]! d[s - 1]! = false) (hhi : lt d[e - 1]! d[s]! = true) (hr : Rot s m e d d') : Cut lt a s mid e b d' := by
  obtain ⟨r1, r2, r3, r4⟩ := hr
  have q1 : ∀ t, t < s → d'[t]! = d[t]! := fun t ht => r4 t (.inl ht)
  have q2 : ∀ t, s ≤ t → t < mid → d'[t]! = d[t + (m - s)]! := fun t h h' => r2 t h (by omega)
  have q3 : ∀ t, mid ≤ t → t < e → d'[t]! = d[t - (e - m)]! := fun t h h' => r3 t (by omega) h'
  have q4 : ∀ t, e ≤ t → d'[t]! = d[t]! := fun t ht => r4 t (.inr ht)
  refine ⟨fun i j hi hij hj => ?_, fun i j hi hij hj => ?_, fun i j hi hij hj => ?_, fun i j hi hij hj => ?_, fun i j hi him hj hjb => ?_⟩
  · rw [q1 i (by omega), q1 j hj]; exact h1 i j hi hij (by omega)
  · rw [q2 i hi (by omega), q2 j (by omega) hj]; exact h2 _ _ (by omega) (by omega) (by omega)
  · rw [q3 i hi (by omega), q3 j (by omega) hj]; exact h1 _ _ (by omega) (by omega) (by omega)
  · rw [q4 i hi, q4 j (by omega)]; exact h2 _ _ (by omega) hij hj
  · by_cases his : i < s
    · rw [q1 i his]
      by_cases hje : j < e
      · rw [q3 j hj hje]; exact h1 _ _ hi (by omega) (by omega)
      · rw [q4 j (by omega)]
        have hl : lt d[e]! d[s - 1]! = false := by
          rcases hlo with h | h | h
          · omega
          · omega
          · exact h
        exact hO.ntrans _ _ _ (sorted_le hO h2 (i := e) (j := j) (by omega) (by omega) hjb) (hO.ntrans _ _ _ hl (sorted_le hO h1 (i := i) (j := s - 1) hi (by omega) (by omega)))
    · rw [q2 i (by omega) him]
      by_cases hje : j < e
      · rw [q3 j hj hje]
        exact hO.ntrans _ _ _ (sorted_le hO h1 (i := s) (j := j - (e - m)) has (by omega) (by omega)) (hO.ntrans _ _ _ (asym hO hhi) (sorted_le hO h2 (i := i + (m - s)) (j := e - 1) (by omega) (by omega) (by omega)))
      · rw [q4 j (by omega)]; exact h2 _ _ (by omega) (by omega) hjb

/-- nothing is turned round where one part is empty. -/
theorem cut_left {lt : α → α → Bool} (hO : SWO lt) {a m mid e b : Nat} {d : Array α} (h1 : SortedIn lt a m d) (h2 : SortedIn lt m b d) (hme : m ≤ e) (heb : e ≤ b) (he : e = mid)
    (hlo : m = a ∨ e = b ∨ lt d[e]! d[m - 1]! = false) : Cut lt a m mid e b d := by
  subst he
  refine ⟨h1, fun i j hi hij hj => h2 i j hi hij (by omega), fun i j hi hij hj => by omega, fun i j hi hij hj => h2 i j (by omega) hij hj, fun i j hi him hj hjb => ?_⟩
  by_cases his : i < m
  · have hl : lt d[e]! d[m - 1]! = false := by
      rcases hlo with h | h | h
      · omega
      · omega
      · exact h
    exact hO.ntrans _ _ _ (sorted_le hO h2 (i := e) (j := j) (by omega) (by omega) hjb) (hO.ntrans _ _ _ hl (sorted_le hO h1 (i := i) (j := m - 1) hi (by omega) (by omega)))
  · exact h2 i j (by omega) (by omega) hjb
theorem cut_right {lt : α → α → Bool} (hO : SWO lt) {a s m mid b : Nat} {d : Array α} (h1 : SortedIn lt a m d) (h2 : SortedIn lt m b d) (has : a ≤ s) (hsm : s ≤ m) (hs : s = mid)
    (hlo : s = a ∨ m = b ∨ lt d[m]! d[s - 1]! = false) : Cut lt a s mid m b d := by
  subst hs
  refine ⟨fun i j hi hij hj => h1 i j hi hij (by omega), fun i j hi hij hj => by omega, fun i j hi hij hj => h1 i j (by omega) hij hj, h2, fun i j hi him hj hjb => ?_⟩
  by_cases hjm : j < m
  · exact h1 i j hi (by omega) hjm
  · have hl : lt d[m]! d[s - 1]! = false := by
      rcases hlo with h | h | h
      · omega
      · omega
      · exact h
    exact hO.ntrans _ _ _ (sorted_le hO h2 (i := m) (j := j) (by omega) (by omega) hjb) (hO.ntrans _ _ _ hl (sorted_le hO h1 (i := i) (j := s - 1) hi (by omega) (by omega)))

/-- both halves sorted: the whole is. -/
theorem cut_join {lt : α → α → Bool} {a mid b : Nat} {d d1 d2 : Array α} (ham : a ≤ mid) (hmb : mid ≤ b) (hb : b ≤ d.size) (hle : ∀ i j, a ≤ i → i < mid → mid ≤ j → j < b → lt d[j]! d[i]! = false)
    (p1 : PermIn a mid d d1) (s1 : SortedIn lt a mid d1) (p2 : PermIn mid b d1 d2) (s2 : SortedIn lt mid b d2) : PermIn a b d d2 ∧ SortedIn lt a b d2 := by
  have z1 := p1.1
  refine ⟨permIn_trans _ _ _ a b (permIn_mono _ _ a mid a b (Nat.le_refl _) hmb hb p1) (permIn_mono _ _ mid b a b ham (Nat.le_refl _) (by omega) p2), fun i j hi hij hj => ?_⟩
  by_cases him : i < mid
  · by_cases hjm : j < mid
    · rw [p2.2.1 i (.inl him), p2.2.1 j (.inl hjm)]; exact s1 i j hi hij hjm
    · rw [p2.2.1 i (.inl him)]
      have e1 : ∀ j, mid ≤ j → j < b → lt d1[j]! d1[i]! = false := fun j hj hjb => by
        rw [p1.2.1 j (.inr hj)]
        exact permIn_all d d1 a mid (fun x => lt d[j]! x = false) (by omega) p1 (fun i' h h' => hle i' j h h' hj hjb) i hi him
      exact permIn_all d1 d2 mid b (fun x => lt x d1[i]! = false) (by omega) p2 e1 j (by omega) hj
  · exact s2 i j (by omega) hij hj
end Go.Proofs.Ytbphljnncbiddaa.St
