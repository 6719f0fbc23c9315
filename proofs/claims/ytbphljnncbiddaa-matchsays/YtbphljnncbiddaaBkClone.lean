/-
  slices.Clone and slices.Delete at orders, by contracts.
-/
import Derived.Test.YtbphljnncbiddaaBkDel
import Derived.Deep.RegionLaw
namespace Go.Proofs.Ytbphljnncbiddaa.Bk
open Go.RowKit Go.Sort Go.Maps Go.Proofs.Ytbphljnncbiddaa.Mix

theorem two_lt {x : World} {t : Nat} (h : Two x t) : t < x.heap.size := by
  obtain ⟨_, _, h⟩ := h
  exact (Array.getElem?_eq_some_iff.1 h).1
def sliceLen : Value → Nat
  | .slice _ n _ => n
  | _ => 0

set_option maxHeartbeats 1000000 in
set_option maxRecDepth 100000 in
theorem clone_any (p : Option Addr) (c : Nat) (xs : List Odr) (w : World) (h : OV w p c xs) (hn : xs.length * 40 ≤ 140737488351232) :
    Calls Try.prog 48 #[.slice p xs.length c] w fun e w' => ∃ v, e = .returned v ∧ w'.ownsRow w.heap.size 44 5 v xs.length (flat xs) ∧ Below w.heap.size w w' := by
  obtain ⟨i0, hi, hz0, hz1, hz2⟩ := info_parts Try.infoO
  have q : ∀ (w : World) (a : Option Addr) (n c n' c' : Nat), Sem.run Try.prog (binOp .eql 40 (.slice a n c) (.slice none n' c')) w = .ok (.bool a.isNone) w := fun w a n c n' c' => Lib.run_eql_slice_nil w _ _ a n c n' c' Try.underlying40
  cases p with
  | none =>
    have hc0 := h.nil rfl
    subst hc0
    have hx : xs = [] := List.eq_nil_of_length_eq_zero (Nat.le_zero.1 h.cap)
    subst hx
    go_enter Try.func48, Try.ntmps48
    go_wp2
    go_ret
    exact ⟨_, rfl, World.ownsRow_nil _ _ _ _, Below.refl _ _⟩
  | some ad =>
    have hcells : Hid (∀ j u, (flat xs)[j]? = some u → (w.alloc (.cells #[] 44)).cell? (ad.add j) = some u) := by
      rcases h.row with rfl | ⟨b, off, he, hc⟩
      · intro j u hu; simp [flat] at hu
      · cases he; exact fun j u hu => cell_alloc (flat_cells hc j u hu) _
    have hfl := hide (flat_length xs)
    have hf1 := hide (flat_one xs)
    have OW : Hid ((w.alloc (.cells #[] 44)).ownsRow w.heap.size 44 5 (.slice (some ⟨w.heap.size, 0, none⟩) 0 0) 0 []) := hide (World.ownsRow_lit w #[] 0 (Nat.le_refl _) (by decide) rfl)
    generalize hfx : flat xs = fl at hcells hfl hf1 ⊢
    generalize hxn : xs.length = n at hfl hn ⊢
    clear h hfx hxn xs
    go_enter Try.func48, Try.ntmps48
    go_wp2_with (at_builtin; refine wpList_append_own _ rfl _ _ 40 rfl w.heap.size 44 i0 (odrV noOdr) 5 40 Try.underlying40 hi hz0 hz1 hz2 rfl (by decide) _ 0 [] rfl OW.out ad n c fl rfl hfl.out hcells.out hf1.out (by unfold maxLen; omega) (by omega) (by simp) ?_; intro v' w1 hown1 hgrow1 hnil1)
    go_ret
    refine ⟨_, rfl, ?_, ?_⟩
    · rw [Nat.zero_add, List.nil_append] at hown1; exact hown1
    · exact ((Below.refl _ w).alloc (Nat.le_refl _) _).grown hgrow1 (by simp) (fun k hk => by cases hk; exact Nat.le_refl _)

theorem setCells_lay (g : Nat) : ∀ (vs : List Value) (o : Nat) (w : World) (cur : Array Value) (t : TypeId), w.heap[g]? = some (.cells cur t (0, 0)) → o + vs.length ≤ cur.size →
    ∃ cur', (w.setCells g o vs).heap[g]? = some (.cells cur' t (0, 0)) ∧ cur'.size = cur.size ∧ cur'.toList.take (o + vs.length) = cur.toList.take o ++ vs
  | [], o, w, cur, t, h, _ => ⟨cur, h, rfl, by simp⟩
  | v :: r, o, w, cur, t, h, hl => by
    obtain ⟨cur', h1, h2, h3⟩ := setCells_lay g r (o + 1) (w.setCell ⟨g, o, none⟩ v) (cur.setIfInBounds o v) t (by simp [World.setCell, Array.getElem?_modify, h]) (by simp at hl ⊢; omega)
    refine ⟨cur', h1, by simpa using h2, ?_⟩
    rw [List.length_cons, show o + (r.length + 1) = o + 1 + r.length by omega, h3]
    simp only [Array.toList_setIfInBounds]
    rw [List.take_add_one, List.take_set_of_le (Nat.le_refl _), List.getElem?_set_self (by simp at hl ⊢; omega)]
    simp

theorem ownG_take {cur : List Value} {xs : List Odr} (h3 : cur.take (xs.length * 5) = flat xs) (i : Nat) (hi : i ≤ xs.length) : cur.take (i * 5) = flat (xs.take i) := by
  have hl : (xs.take i).length = i := by rw [List.length_take]; omega
  have e : flat xs = flat (xs.take i) ++ flat (xs.drop i) := by rw [← flat_append, List.take_append_drop]
  have e2 : (flat xs).take (i * 5) = flat (xs.take i) := by
    rw [e, List.take_append_of_le_length (by rw [flat_length, hl]; exact Nat.le_refl _), List.take_of_length_le (by rw [flat_length, hl]; exact Nat.le_refl _)]
  have h4 := congrArg (List.take (i * 5)) h3
  rw [List.take_take, Nat.min_eq_left (by omega), e2] at h4
  exact h4

theorem ownG_lay {w : World} {g cap : Nat} {xs : List Odr} (h : OwnG w g cap xs) (i j : Nat) (hij : i ≤ j) (hj : j ≤ xs.length) : OwnG (w.setCells g (i * 5) (flat (xs.drop j))) g cap (xs.take i ++ xs.drop j) := by
  obtain ⟨h0, cur, h1, h2, h3⟩ := h
  have hl : (flat (xs.drop j)).length = (xs.length - j) * 5 := by rw [flat_length, List.length_drop]
  obtain ⟨cur', k1, k2, k3⟩ := setCells_lay g (flat (xs.drop j)) (i * 5) w cur _ h1 (by rw [hl, h2]; omega)
  have hti : (xs.take i).length = i := by rw [List.length_take]; omega
  refine ⟨by rw [List.length_append, hti, List.length_drop]; omega, cur', k1, by rw [k2, h2], ?_⟩
  rw [List.length_append, hti, List.length_drop, Nat.add_mul, ← hl, k3, flat_append, ownG_take h3 i (by omega)]

theorem slice_three {p : Option Addr} {n c k : Nat} (hk : k < n) (hc : n ≤ c) (x : World) : Sem.run Try.prog (Instr.sliceAt 40 (.slice p n c) (some (.int .i64 (k : Nat))) (some (.int .i64 ((k : Int) + 1))) (some (.int .i64 (n : Nat)))) x = .ok (.slice (if n = k then p else p.map (·.add (k * 5))) 1 (n - k)) x := by
  have h1 : (k : Int) + 1 ≤ (n : Int) := by omega
  have h2 : (n : Int) ≤ (c : Int) := by omega
  have h3 : ((k : Int) + 1).toNat = k + 1 := by omega
  go_simp
  intro h; omega

theorem slice_two {p : Option Addr} {n c i j : Nat} (h1 : i ≤ j) (h2 : j ≤ c) (x : World) : Sem.run Try.prog (Instr.sliceAt 40 (.slice p n c) (some (.int .i64 (i : Nat))) (some (.int .i64 (j : Nat))) none) x = .ok (.slice (if c = i then p else p.map (·.add (i * 5))) (j - i) (c - i)) x := by
  have h3 : (i : Int) ≤ (j : Int) := by omega
  have h4 : (j : Int) ≤ (c : Int) := by omega
  go_simp

theorem flat_drop {xs : List Odr} {i : Nat} (hi : i ≤ xs.length) : flat (xs.drop i) = (flat xs).drop (i * 5) := by
  have e : flat xs = flat (xs.take i) ++ flat (xs.drop i) := by rw [← flat_append, List.take_append_drop]
  have hl : (flat (xs.take i)).length = i * 5 := by rw [flat_length, List.length_take, Nat.min_eq_left hi]
  rw [e, ← hl, List.drop_left]

set_option maxHeartbeats 2000000 in
set_option maxRecDepth 100000 in
theorem delete_own (g cap k : Nat) (xs : List Odr) (w : World) (h : OwnG w g cap xs) (hk : k < xs.length) :
    Calls Try.prog 47 #[.slice (some ⟨g, 0, none⟩) xs.length cap, .int .i64 k, .int .i64 ((k : Int) + 1)] w fun e w' =>
      e = .returned (.slice (some ⟨g, 0, none⟩) (xs.take k ++ xs.drop (k + 1)).length cap) ∧ OwnG w' g cap (xs.take k ++ xs.drop (k + 1)) ∧ Below g w w' := by
  obtain ⟨i0, hi, hz0, hz1, hz2⟩ := info_parts Try.infoO
  have hcap := h.1
  obtain ⟨m, hm⟩ : ∃ m, xs.length = k + 1 + m := ⟨xs.length - (k + 1), by omega⟩
  have hL : (xs.take k ++ xs.drop (k + 1)).length = k + m := by rw [List.length_append, List.length_take, List.length_drop]; omega
  obtain ⟨news, hnews⟩ : ∃ news, news = flat (xs.drop (k + 1)) := ⟨_, rfl⟩
  have s1 : Hid (news.length = m * 5) := by rw [hnews, flat_length, List.length_drop, hm]; show (k + 1 + m - (k + 1)) * 5 = m * 5; omega
  have s2 : Hid (∀ u ∈ news, u.oneCell' = true) := by rw [hnews]; exact flat_one _
  obtain ⟨A, hA, hsrc⟩ : ∃ A : Addr, (if cap = k + 1 then some (⟨g, 0, none⟩ : Addr) else some ⟨g, (k + 1) * 5, none⟩) = some A ∧ Hid (∀ t u, news[t]? = some u → w.drew.cell? (A.add t) = some u) := by
    by_cases hc : cap = k + 1
    · refine ⟨⟨g, 0, none⟩, by simp [hc], fun t u hu => ?_⟩
      have h0 : news.length = 0 := by rw [s1.out]; omega
      rw [List.length_eq_zero_iff.1 h0] at hu
      simp at hu
    · refine ⟨⟨g, (k + 1) * 5, none⟩, by simp [hc], fun t u hu => ?_⟩
      rw [hnews, flat_drop (by omega), List.getElem?_drop] at hu
      have := flat_cells (ownG_cells h) _ u hu
      rw [add_lit] at this ⊢
      rw [Nat.zero_add] at this
      exact this
  have s3 : Hid (∀ t, t < news.length → (w.drew.cell? ⟨g, 0 + k * 5 + t, none⟩).isSome = true ∧ w.drew.frozen? ⟨g, 0 + k * 5 + t, none⟩ = false) := by
    intro t ht
    rw [s1.out] at ht
    exact ownG_some (w := w) h (k := 0 + k * 5 + t) (by omega)
  obtain ⟨W1, hW1⟩ : ∃ W1, W1 = w.drew.setCells g (0 + k * 5) news := ⟨_, rfl⟩
  have OD : OwnG w.drew g cap xs := h
  have O1 : Hid (OwnG W1 g cap (xs.take k ++ xs.drop (k + 1))) := by
    have := ownG_lay OD k (k + 1) (by omega) (by omega)
    rw [hW1, hnews, Nat.zero_add]; exact this
  have hcl := fun ty => run_clear5 W1 g cap _ O1.out (k + m) (k + 1 + m) (cap - (k + m)) ty (by omega) (by omega)
  have O2 : Hid (OwnG (W1.setCells g ((k + m) * 5) (List.replicate ((k + 1 + m - (k + m)) * 5) (.int .i64 0))) g cap (xs.take k ++ xs.drop (k + 1))) := by
    have := ownG_clear O1.out (k + m) (by rw [hL]; exact Nat.le_refl _) (List.replicate ((k + 1 + m - (k + m)) * 5) (.int .i64 0))
    rw [List.take_of_length_le (by rw [hL]; exact Nat.le_refl _)] at this
    exact this
  have B2 : Hid (Below g w (W1.setCells g ((k + m) * 5) (List.replicate ((k + 1 + m - (k + m)) * 5) (.int .i64 0)))) := by
    refine setCells_below (Nat.le_refl g) _ _ _ ?_
    rw [hW1]
    exact setCells_below (Nat.le_refl g) _ _ _ (Below.refl _ w).drew
  have hW : Hid (W1 = w.drew.setCells g (0 + k * 5) news) := hW1
  have e1 := fun x => slice_three (p := some ⟨g, 0, none⟩) (n := k + 1 + m) (c := cap) (k := k) (by omega) (by omega) x
  have e2 := fun x => slice_to (p := some ⟨g, 0, none⟩) (n := k + 1 + m) (c := cap) (k := k) (by omega) x
  have e3 := fun x => slice_from (p := some ⟨g, 0, none⟩) (n := k + 1 + m) (c := cap) (k := k + 1) (by omega) x
  have e4 := fun x => slice_two (p := some ⟨g, 0, none⟩) (n := k + m) (c := cap) (i := k + m) (j := k + 1 + m) (by omega) (by omega) x
  rw [if_neg (by omega), Option.map_some, add_lit, Nat.zero_add] at e4
  rw [Option.map_some, add_lit, Nat.zero_add, hA, show k + 1 + m - (k + 1) = m by omega] at e3
  push_cast at e1 e3 e4
  have hkm : k + m ≤ cap := by omega
  rw [hm, hL]
  generalize xs.take k ++ xs.drop (k + 1) = ys at O2 ⊢
  clear hW1 O1 OD hnews hL h hk hm
  have hkb : ((k : Int) == (k : Int) + 1) = false := by simp; omega
  go_enter Try.func47, Try.ntmps47
  go_wp2_with fail
  go_region_law (refine step_append_room rfl (.tmp 22) (.tmp 25) 40 rfl 44 i0 5 Try.underlying40 hi hz1 g 0 k cap (by simp [Act.eval, Act.put]) A m (cap - (k + 1)) news (by simp [Act.eval, Act.put]) s1.out hsrc.out s2.out (by omega) s3.out ?_; rw [← hW.out])
  go_wp2
  go_ret
  exact ⟨rfl, O2.out, B2.out⟩
end Go.Proofs.Ytbphljnncbiddaa.Bk
