/-
  Rows of orders, cell by cell; slices that hold orders; what the call owns.
-/
import Derived.Test.YtbphljnncbiddaaBkMay
import Derived.Laws.OwnMore
import Derived.Laws.AppendOwnNone
namespace Go.Proofs.Ytbphljnncbiddaa.Bk
open Go.RowKit Go.Sort Go.Maps Go.Proofs.Ytbphljnncbiddaa.Mix

theorem enc_length (o : Odr) : (enc o).length = 5 := rfl
/-- the cells of a row. -/
def flat (xs : List Odr) : List Value := xs.flatMap enc
theorem flat_cons (x : Odr) (xs : List Odr) : flat (x :: xs) = enc x ++ flat xs := rfl
theorem flat_append (xs ys : List Odr) : flat (xs ++ ys) = flat xs ++ flat ys := by unfold flat; rw [List.flatMap_append]
theorem flat_length : ∀ xs : List Odr, (flat xs).length = xs.length * 5
  | [] => rfl
  | x :: xs => by rw [flat_cons, List.length_append, enc_length, flat_length xs, List.length_cons]; omega
theorem flat_get : ∀ (xs : List Odr) (j i : Nat), j < xs.length → i < 5 → (flat xs)[j * 5 + i]? = (enc xs[j]!)[i]?
  | [], j, _, h, _ => absurd h (by simp)
  | x :: xs, 0, i, _, hi => by
    rw [flat_cons, Nat.zero_mul, Nat.zero_add, List.getElem?_append_left (by rw [enc_length]; exact hi)]; rfl
  | x :: xs, j + 1, i, h, hi => by
    rw [flat_cons, List.getElem?_append_right (by rw [enc_length]; omega), enc_length, show (j + 1) * 5 + i - 5 = j * 5 + i by omega, flat_get xs j i (by simpa using h) hi]; rfl
theorem flat_one (xs : List Odr) : ∀ u ∈ flat xs, u.oneCell' = true := by
  intro u hu
  obtain ⟨x, _, hx⟩ := List.mem_flatMap.1 hu
  simp only [enc, List.mem_cons, List.not_mem_nil, or_false] at hx
  rcases hx with rfl | rfl | rfl | rfl | rfl <;> rfl

theorem add_lit (b off j : Nat) : (⟨b, off, none⟩ : Addr).add j = ⟨b, off + j, none⟩ := by unfold Addr.add; split <;> simp_all
/-- cells of a row, from its orders. -/
theorem flat_cells {w : World} {b off : Nat} {xs : List Odr} (hc : ∀ j, j < xs.length → ∀ i v, (enc xs[j]!)[i]? = some v → w.cell? ⟨b, off + j * 5 + i, none⟩ = some v) :
    ∀ j u, (flat xs)[j]? = some u → w.cell? ((⟨b, off, none⟩ : Addr).add j) = some u := by
  intro j u hu
  have hj : j < xs.length * 5 := by
    rw [← flat_length]
    exact (List.getElem?_eq_some_iff.1 hu).1
  have e : j = (j / 5) * 5 + j % 5 := by omega
  rw [e, flat_get xs (j / 5) (j % 5) (by omega) (by omega)] at hu
  rw [add_lit]
  have := hc (j / 5) (by omega) (j % 5) u hu
  rw [show off + j = off + j / 5 * 5 + j % 5 by omega]
  exact this
theorem cells_flat {w : World} {b off : Nat} {xs : List Odr} (h : ∀ j u, (flat xs)[j]? = some u → w.cell? ⟨b, off + j, none⟩ = some u) :
    ∀ j, j < xs.length → ∀ i v, (enc xs[j]!)[i]? = some v → w.cell? ⟨b, off + j * 5 + i, none⟩ = some v := by
  intro j hj i v hv
  have hi : i < 5 := by have := (List.getElem?_eq_some_iff.1 hv).1; rw [enc_length] at this; exact this
  rw [Nat.add_assoc]
  exact h (j * 5 + i) v (by rw [flat_get xs j i hj hi]; exact hv)

/-- a slice that holds these orders. -/
structure OV (w : World) (p : Option Addr) (c : Nat) (xs : List Odr) : Prop where
  row : ORow w p xs
  nil : p = none → c = 0
  cap : xs.length ≤ c
theorem OV.below {w w' : World} {p : Option Addr} {c : Nat} {xs : List Odr} (h : OV w p c xs) (hb : Below w.heap.size w w') : OV w' p c xs := ⟨orow_below h.row hb, h.nil, h.cap⟩
theorem ov_nil (w : World) : OV w none 0 [] := ⟨.inl rfl, fun _ => rfl, Nat.le_refl _⟩

/-- what the call owns is such a slice. -/
theorem own_ov {w : World} {B : Nat} {v : Value} {xs : List Odr} (h : w.ownsRow B 44 5 v xs.length (flat xs)) : ∃ p c, v = .slice p xs.length c ∧ OV w p c xs ∧ (∀ a, p = some a → B ≤ a.block ∧ a.block < w.heap.size) := by
  have hc := fun g => h.cells (g := g)
  have hl := h.lt
  rcases h.2 with ⟨rfl, hn⟩ | ⟨g, cap, cur, rfl, hb, hg, hnc, hm, hs, ht⟩
  · have hx : xs = [] := List.eq_nil_of_length_eq_zero hn
    subst hx
    exact ⟨none, 0, rfl, ov_nil w, fun a ha => by cases ha⟩
  · refine ⟨some ⟨g, 0, none⟩, cap, rfl, ⟨.inr ⟨g, 0, rfl, cells_flat fun j u hu => ?_⟩, (fun h => by cases h), hnc⟩, fun a ha => ?_⟩
    · have := hc g rfl j u hu
      rw [add_lit] at this
      exact this
    · cases ha
      exact hl g rfl

theorem Try.infoO : (Try.prog.info? 44).map (fun i => (i.zero, i.size, i.bytes)) = some (some (odrV noOdr), 5, 40) := by kernel_rfl

set_option maxHeartbeats 1000000 in
theorem copyOf_any (p : Option Addr) (c : Nat) (xs : List Odr) (w : World) (h : OV w p c xs) (hn : xs.length * 40 ≤ 140737488351232) :
    Calls Try.prog 75 #[.slice p xs.length c] w fun e w' => ∃ v, e = .returned v ∧ w'.ownsRow w.heap.size 44 5 v xs.length (flat xs) ∧ Below w.heap.size w w' := by
  obtain ⟨i0, hi, hz0, hz1, hz2⟩ := info_parts Try.infoO
  cases p with
  | none =>
    have hc0 := h.nil rfl
    subst hc0
    have hx : xs = [] := List.eq_nil_of_length_eq_zero (Nat.le_zero.1 h.cap)
    subst hx
    go_enter Try.func75, Try.ntmps75
    go_wp2_with (at_builtin; refine wpList_append_own_none rfl _ _ 40 rfl w.heap.size 44 i0 5 Try.underlying40 hi _ 0 [] rfl (World.ownsRow_nil _ _ _ _) rfl ?_)
    go_ret
    exact ⟨_, rfl, World.ownsRow_nil _ _ _ _, Below.refl _ _⟩
  | some ad =>
    have hcells : Hid (∀ j u, (flat xs)[j]? = some u → w.cell? (ad.add j) = some u) := by
      rcases h.row with rfl | ⟨b, off, he, hc⟩
      · intro j u hu; simp [flat] at hu
      · cases he; exact flat_cells hc
    have hfl := hide (flat_length xs)
    have hf1 := hide (flat_one xs)
    generalize hfx : flat xs = fl at hcells hfl hf1 ⊢
    generalize hxn : xs.length = n at hfl hn ⊢
    clear h hfx hxn xs
    go_enter Try.func75, Try.ntmps75
    go_wp2_with (at_builtin; refine wpList_append_own _ rfl _ _ 40 rfl w.heap.size 44 i0 (odrV noOdr) 5 40 Try.underlying40 hi hz0 hz1 hz2 rfl (by decide) _ 0 [] rfl (World.ownsRow_nil _ _ _ _) ad n c fl rfl hfl.out hcells.out hf1.out (by unfold maxLen; omega) (by omega) (Nat.le_refl _) ?_; intro v' w1 hown1 hgrow1 hnil1)
    go_ret
    refine ⟨_, rfl, ?_, ?_⟩
    · rw [Nat.zero_add, List.nil_append] at hown1; exact hown1
    · exact (Below.refl _ _).grown hgrow1 (Nat.le_refl _) (fun k hk => by cases hk)
end Go.Proofs.Ytbphljnncbiddaa.Bk
