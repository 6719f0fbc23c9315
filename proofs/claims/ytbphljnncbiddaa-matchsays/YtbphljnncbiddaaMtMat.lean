/-
  Rows of fills, as they are read; the law's closed fact.
-/
import Derived.Test.YtbphljnncbiddaaMtCome3
namespace Go.Proofs.Ytbphljnncbiddaa.Bk
open Go.RowKit Go.Sort Go.Maps Go.Proofs.Ytbphljnncbiddaa.Mix

/-- a slice that holds these fills. -/
structure FV (w : World) (p : Option Addr) (c : Nat) (F : List Fil) : Prop where
  row : F = [] ∨ ∃ b off, p = some ⟨b, off, none⟩ ∧ ∀ j u, (flatF F)[j]? = some u → w.cell? ⟨b, off + j, none⟩ = some u
  nil : p = none → c = 0
  cap : F.length ≤ c
theorem FV.below {w w' : World} {p : Option Addr} {c : Nat} {F : List Fil} (h : FV w p c F) (hb : Below w.heap.size w w') : FV w' p c F := by
  refine ⟨?_, h.nil, h.cap⟩
  rcases h.row with rfl | ⟨b, off, rfl, hc⟩
  · exact .inl rfl
  · exact .inr ⟨b, off, rfl, fun j u hu => (hb.cell (World.block_lt_of_cell? _ _ (hc j u hu))).trans (hc j u hu)⟩
theorem fv_nil (w : World) : FV w none 0 [] := ⟨.inl rfl, fun _ => rfl, Nat.le_refl _⟩
theorem ownF_fv {w : World} {B : Nat} {v : Value} {F : List Fil} (h : w.ownsRow B 74 7 v F.length (flatF F)) : ∃ p c, v = .slice p F.length c ∧ FV w p c F ∧ (∀ a, p = some a → B ≤ a.block ∧ a.block < w.heap.size) := by
  have hc := fun g => h.cells (g := g)
  have hl := h.lt
  rcases h.2 with ⟨rfl, hn⟩ | ⟨g, cap, cur, rfl, hb, hg, hnc, hm, hs, ht⟩
  · have hx : F = [] := List.eq_nil_of_length_eq_zero hn
    subst hx
    exact ⟨none, 0, rfl, fv_nil w, fun a ha => by cases ha⟩
  · refine ⟨some ⟨g, 0, none⟩, cap, rfl, ⟨.inr ⟨g, 0, rfl, fun j u hu => ?_⟩, (fun h => by cases h), hnc⟩, fun a ha => ?_⟩
    · have := hc g rfl j u hu
      rw [add_lit] at this
      exact this
    · cases ha
      exact hl g rfl
theorem flatF_get : ∀ (F : List Fil) (j i : Nat), j < F.length → i < 7 → (flatF F)[j * 7 + i]? = (encF F[j]!)[i]?
  | [], j, _, h, _ => absurd h (by simp)
  | x :: xs, 0, i, _, hi => by
    rw [flatF_cons, Nat.zero_mul, Nat.zero_add, List.getElem?_append_left (by rw [encF_length]; exact hi)]; rfl
  | x :: xs, j + 1, i, h, hi => by
    rw [flatF_cons, List.getElem?_append_right (by rw [encF_length]; omega), encF_length, show (j + 1) * 7 + i - 7 = j * 7 + i by omega, flatF_get xs j i (by simpa using h) hi]; rfl
/-- the j-th fill's cells. -/
theorem fv_cells {w : World} {b off : Nat} {F : List Fil} (hc : ∀ j u, (flatF F)[j]? = some u → w.cell? ⟨b, off + j, none⟩ = some u) {j : Nat} (hj : j < F.length) :
    w.cell? ⟨b, off + j * 7, none⟩ = some (.int .i64 (F[j]!).1) ∧ w.cell? ⟨b, off + j * 7 + 1, none⟩ = some (.int .i64 (F[j]!).2.1) ∧ w.cell? ⟨b, off + j * 7 + 2, none⟩ = some (.int .i64 (F[j]!).2.2.1) ∧ w.cell? ⟨b, off + j * 7 + 3, none⟩ = some (.int .i64 (F[j]!).2.2.2.1) ∧ w.cell? ⟨b, off + j * 7 + 4, none⟩ = some (.int .i64 (F[j]!).2.2.2.2.1) ∧ w.cell? ⟨b, off + j * 7 + 5, none⟩ = some (.int .i64 (F[j]!).2.2.2.2.2.1) ∧ w.cell? ⟨b, off + j * 7 + 6, none⟩ = some (.int .i64 (F[j]!).2.2.2.2.2.2) := by
  have hh := fun i hi => hc (j * 7 + i) _ ((flatF_get F j i hj hi).trans (List.getElem?_eq_getElem (by rw [encF_length]; exact hi)))
  refine ⟨hh 0 (by omega), ?_, ?_, ?_, ?_, ?_, ?_⟩
  · rw [Nat.add_assoc]; exact hh 1 (by omega)
  · rw [Nat.add_assoc]; exact hh 2 (by omega)
  · rw [Nat.add_assoc]; exact hh 3 (by omega)
  · rw [Nat.add_assoc]; exact hh 4 (by omega)
  · rw [Nat.add_assoc]; exact hh 5 (by omega)
  · rw [Nat.add_assoc]; exact hh 6 (by omega)

abbrev mA : List Odr := [(1, 1, -1, 100, 3), (2, 1, -1, 101, 4)]
abbrev mF : List Fil := [(1, 3, 1, 0, 1, 100, 3), (2, 3, 1, 0, 1, 101, 2)]
theorem mat1 (p : Option Addr) (c : Nat) (w : World) (h : OV w p c mA) : Calls Try.prog 50 #[.agg #[.slice none 0 0, .slice p 2 c], .agg #[.int .i64 3, .int .i64 0, .int .i64 1, .int .i64 101, .int .i64 5], .int .i64 1] w (ComePost w [] [(2, 1, -1, 101, 2)] mF 0) :=
  come_ok none p 0 c [] mA (3, 0, 1, 101, 5) 1 w (ov_nil w) h (by decide +kernel)
theorem mat2 (p : Option Addr) (c : Nat) (w : World) (h : OV w p c mA) : Calls Try.prog 50 #[.agg #[.slice none 0 0, .slice p 2 c], .agg #[.int .i64 3, .int .i64 1, .int .i64 1, .int .i64 101, .int .i64 5], .int .i64 1] w (ComeFail w 11) :=
  come_bad none p 0 c [] mA (3, 1, 1, 101, 5) 1 w (ov_nil w) h (by decide) (by decide) (by decide +kernel)

set_option maxHeartbeats 1000000 in
set_option maxRecDepth 100000 in
theorem matched_any (w : World) : Calls Try.prog 51 #[] w fun e w' => e = .returned (.bool true) ∧ Below w.heap.size w w' := by
  go_enter Try.func51, Try.ntmps51
  go_wp2_with fail
  have c00 : ∀ j u, (flat mA)[j]? = some u → ((w.alloc (.cells (flat mA).toArray 44)).alloc (.cells #[.slice none 0 0, .slice (some ⟨w.heap.size, 0, none⟩) 2 2] 42)).cell? ⟨w.heap.size, 0 + j, none⟩ = some u := fun j u hu => by
    rw [Nat.zero_add]
    exact cell_alloc (new_cell w (flat mA).toArray _ j u (by simpa using hu)) _
  have O : OV ((w.alloc (.cells (flat mA).toArray 44)).alloc (.cells #[.slice none 0 0, .slice (some ⟨w.heap.size, 0, none⟩) 2 2] 42)) (some ⟨w.heap.size, 0, none⟩) 2 mA := ⟨.inr ⟨_, 0, rfl, cells_flat c00⟩, (fun e => by cases e), Nat.le_refl _⟩
  have B0 := ((Below.refl w.heap.size w).alloc (Nat.le_refl _) (.cells (flat mA).toArray 44)).alloc (by simp) (.cells #[.slice none 0 0, .slice (some ⟨w.heap.size, 0, none⟩) 2 2] 42)
  have k0 : ((w.alloc (.cells (flat mA).toArray 44)).alloc (.cells #[.slice none 0 0, .slice (some ⟨w.heap.size, 0, none⟩) 2 2] 42)).cell? ⟨w.heap.size + 1, 0, none⟩ = some (.slice none 0 0) := new_cell2 _ _ _ _ _ _ rfl
  have k1 : ((w.alloc (.cells (flat mA).toArray 44)).alloc (.cells #[.slice none 0 0, .slice (some ⟨w.heap.size, 0, none⟩) 2 2] 42)).cell? ⟨w.heap.size + 1, 1, none⟩ = some (.slice (some ⟨w.heap.size, 0, none⟩) 2 2) := new_cell2 _ _ _ _ _ _ rfl
  clear c00
  refine (mat1 _ _ _ O).mono ?_
  rintro e w1 ⟨p1, c1, p2, c2, vF, rfl, o1, o2, of, b1, g1, g2⟩
  obtain ⟨pF, cF, rfl, fv, -⟩ := ownF_fv of
  have al := (Below.refl w1.heap.size w1).alloc (Nat.le_refl _) (.cells #[.slice p1 0 c1, .slice p2 1 c2] 42)
  have b1' := b1.trans (al.mono b1.size)
  have O1 := hide (O.below b1')
  have h0 := (b1'.cell (World.block_lt_of_cell? _ _ k0)).trans k0
  have h1 := (b1'.cell (World.block_lt_of_cell? _ _ k1)).trans k1
  have B1 := hide (B0.trans (b1'.mono B0.size))
  have FV1 := hide (fv.below al)
  have V2 := hide (o2.below al)
  have m0 := new_cell w1 #[.slice p1 0 c1, .slice p2 1 c2] 42 0 _ rfl
  have m1 := new_cell w1 #[.slice p1 0 c1, .slice p2 1 c2] 42 1 _ rfl
  have M2 := hide (mat2 _ _ _ O1.out)
  clear O B0 k0 k1 o1 o2 of b1 g1 g2 fv al b1'
  go_wp2_with fail
  refine M2.out.mono ?_
  rintro e w2 ⟨rfl, b2⟩
  have al := (Below.refl w2.heap.size w2).alloc (Nat.le_refl _) (.cells #[.slice none 0 0, .slice none 0 0] 42)
  have b2' := b2.trans (al.mono b2.size)
  have B2 := hide (B1.out.trans (b2'.mono B1.out.size))
  have n0 := (b2'.cell (World.block_lt_of_cell? _ _ m0)).trans m0
  have n1 := (b2'.cell (World.block_lt_of_cell? _ _ m1)).trans m1
  obtain ⟨fb, fo, rfl, fc⟩ : ∃ b off, pF = some ⟨b, off, none⟩ ∧ ∀ j u, (flatF mF)[j]? = some u → ((w2.alloc (.cells #[.slice none 0 0, .slice none 0 0] 42))).cell? ⟨b, off + j, none⟩ = some u := by
    rcases (FV1.out.below b2').row with e | e
    · cases e
    · exact e
  have f5 := fc 5 _ rfl
  have f6 := fc 6 _ rfl
  have f12 := fc 12 _ rfl
  have f13 := fc 13 _ rfl
  obtain ⟨ab, ao, rfl, hc⟩ : ∃ b off, p2 = some ⟨b, off, none⟩ ∧ ((w2.alloc (.cells #[.slice none 0 0, .slice none 0 0] 42))).cell? ⟨b, off + 4, none⟩ = some (.int .i64 2) := by
    rcases (V2.out.below b2').row with e | ⟨b, off, e1, e2⟩
    · cases e
    · exact ⟨b, off, e1, e2 0 (by decide) 4 _ rfl⟩
  clear fc al b2 b2' M2 m0 m1 h0 h1 O1 B1 FV1 V2
  go_wp2
  go_ret
  exact ⟨rfl, B2.out⟩
end Go.Proofs.Ytbphljnncbiddaa.Bk
