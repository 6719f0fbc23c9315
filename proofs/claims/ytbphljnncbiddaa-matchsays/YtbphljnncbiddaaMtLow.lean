/-
  Package match by contracts: crossing, its two functions, fill, copyOf.
-/
import Derived.Test.YtbphljnncbiddaaMt
import Derived.Test.YtbphljnncbiddaaBkCat
namespace Go.Proofs.Ytbphljnncbiddaa.Bk
open Go.RowKit Go.Sort Go.Maps Go.Proofs.Ytbphljnncbiddaa.Mix

set_option maxHeartbeats 1000000 in
set_option maxRecDepth 100000 in
theorem mcopyOf_any (p : Option Addr) (c : Nat) (xs : List Odr) (w : World) (h : OV w p c xs) (hn : xs.length * 40 ≤ 140737488351232) :
    Calls Try.prog 90 #[.slice p xs.length c] w fun e w' => ∃ v, e = .returned v ∧ w'.ownsRow w.heap.size 44 5 v xs.length (flat xs) ∧ Below w.heap.size w w' := by
  obtain ⟨i0, hi, hz0, hz1, hz2⟩ := info_parts Try.infoO
  cases p with
  | none =>
    have hc0 := h.nil rfl
    subst hc0
    have hx : xs = [] := List.eq_nil_of_length_eq_zero (Nat.le_zero.1 h.cap)
    subst hx
    go_enter Try.func90, Try.ntmps90
    go_wp2_with (at_builtin; refine wpList_append_own_none rfl _ _ 40 rfl w.heap.size 44 i0 5 Try.underlying40 hi _ 0 [] rfl (World.ownsRow_nil _ _ _ _) rfl ?_)
    go_ret
    exact ⟨_, rfl, World.ownsRow_nil _ _ _ _, Below.refl _ _⟩
  | some ad =>
    have hcells : Hid (∀ j u, (flat xs)[j]? = some u → w.cell? (ad.add j) = some u) := by
      rcases h.row with rfl | ⟨b, off, he, hc⟩
      · intro j u hu; simp [flat] at hu
      · cases he; exact flat_cells hc
    have hfl := hide (flat_length xs)
    have hf1 := hide (flat_one xs)
    generalize hfx : flat xs = fl at hcells hfl hf1 ⊢
    generalize hxn : xs.length = n at hfl hn ⊢
    clear h hfx hxn xs
    go_enter Try.func90, Try.ntmps90
    go_wp2_with (at_builtin; refine wpList_append_own _ rfl _ _ 40 rfl w.heap.size 44 i0 (odrV noOdr) 5 40 Try.underlying40 hi hz0 hz1 hz2 rfl (by decide) _ 0 [] rfl (World.ownsRow_nil _ _ _ _) ad n c fl rfl hfl.out hcells.out hf1.out (by unfold maxLen; omega) (by omega) (Nat.le_refl _) ?_; intro v' w1 hown1 hgrow1 hnil1)
    go_ret
    refine ⟨_, rfl, ?_, ?_⟩
    · rw [Nat.zero_add, List.nil_append] at hown1; exact hown1
    · exact (Below.refl _ _).grown hgrow1 (Nat.le_refl _) (fun k hk => by cases hk)

theorem cross1_any (price pr : Int) (B : Nat) (w : World) (hc : w.cell? ⟨B, 3, none⟩ = some (.int .i64 pr)) :
    Calls Try.prog 119 #[.int .i64 price, .pointer (some ⟨B, 0, none⟩)] w fun e w' => e = .returned (.bool (decide (price ≤ pr))) ∧ w' = w := by
  go_enter Try.func119, Try.ntmps119
  go_wp2
  go_ret
  exact ⟨rfl, rfl⟩
theorem cross2_any (price pr : Int) (B : Nat) (w : World) (hc : w.cell? ⟨B, 3, none⟩ = some (.int .i64 pr)) :
    Calls Try.prog 120 #[.int .i64 price, .pointer (some ⟨B, 0, none⟩)] w fun e w' => e = .returned (.bool (decide (pr ≤ price))) ∧ w' = w := by
  go_enter Try.func120, Try.ntmps120
  go_wp2
  go_ret
  exact ⟨rfl, rfl⟩

/-- a function that tells which prices o trades at, over the box B of o. -/
structure XFn (o : Odr) (fid : FuncId) : Prop where
  enters : ∀ args w, (callFunc fid args).run Try.prog w = .ok (.enter fid args) w
  tells : ∀ (price : Int) (B : Nat) (w : World), w.cell? ⟨B, 3, none⟩ = some (.int .i64 (opr o)) → Calls Try.prog fid #[.int .i64 price, .pointer (some ⟨B, 0, none⟩)] w fun e w' => e = .returned (.bool (xes o price)) ∧ w' = w

theorem crossing_any (a ac sd pr q : Int) (w : World) :
    Calls Try.prog 110 #[.agg #[.int .i64 a, .int .i64 ac, .int .i64 sd, .int .i64 pr, .int .i64 q]] w fun e w' =>
      ∃ fid, e = .returned (.func (.func fid) #[] #[.pointer (some ⟨w.heap.size, 0, none⟩)]) ∧ XFn (a, ac, sd, pr, q) fid ∧ w' = w.alloc (.cells #[.int .i64 a, .int .i64 ac, .int .i64 sd, .int .i64 pr, .int .i64 q] 44) := by
  by_cases h : sd = 1
  · have X : XFn (a, ac, sd, pr, q) 119 := ⟨enters_of Try.func119 (by kernel_rfl) rfl, fun price B w hc => by
      have := cross1_any price pr B w hc
      unfold xes
      rw [if_pos h]
      exact this⟩
    subst h
    go_enter Try.func110, Try.ntmps110
    go_wp2
    go_ret
    exact ⟨_, rfl, X, rfl⟩
  · have X : XFn (a, ac, sd, pr, q) 120 := ⟨enters_of Try.func120 (by kernel_rfl) rfl, fun price B w hc => by
      have := cross2_any price pr B w hc
      unfold xes
      rw [if_neg h]
      exact this⟩
    have e2 : (sd == 1) = false := by simp [h]
    go_enter Try.func110, Try.ntmps110
    go_wp2
    go_ret
    exact ⟨_, rfl, X, rfl⟩

abbrev filV (f : Fil) : Value := .agg #[.int .i64 f.1, .int .i64 f.2.1, .int .i64 f.2.2.1, .int .i64 f.2.2.2.1, .int .i64 f.2.2.2.2.1, .int .i64 f.2.2.2.2.2.1, .int .i64 f.2.2.2.2.2.2]

set_option maxHeartbeats 1000000 in
set_option maxRecDepth 100000 in
theorem fill_any (a ac sd pr q a' ac' sd' pr' q' n : Int) (w : World) :
    Calls Try.prog 111 #[.agg #[.int .i64 a, .int .i64 ac, .int .i64 sd, .int .i64 pr, .int .i64 q], .agg #[.int .i64 a', .int .i64 ac', .int .i64 sd', .int .i64 pr', .int .i64 q'], .int .i64 n] w fun e w' =>
      e = .returned (filV (fillOf (a, ac, sd, pr, q) (a', ac', sd', pr', q') n)) ∧ Below w.heap.size w w' := by
  go_enter Try.func111, Try.ntmps111
  go_wp2
  refine bodyPost_ret (v := filV (fillOf (a, ac, sd, pr, q) (a', ac', sd', pr', q') n)) (by simp [results, Try.results111, go_sem, fillOf]) rfl ⟨rfl, ?_⟩
  exact (((Below.refl _ w).alloc (Nat.le_refl _) _).alloc (by simp) _).alloc (by simp; omega) _

def encF (f : Fil) : List Value := [.int .i64 f.1, .int .i64 f.2.1, .int .i64 f.2.2.1, .int .i64 f.2.2.2.1, .int .i64 f.2.2.2.2.1, .int .i64 f.2.2.2.2.2.1, .int .i64 f.2.2.2.2.2.2]
theorem encF_length (f : Fil) : (encF f).length = 7 := rfl
def flatF (fs : List Fil) : List Value := fs.flatMap encF
theorem flatF_cons (x : Fil) (xs : List Fil) : flatF (x :: xs) = encF x ++ flatF xs := rfl
theorem flatF_append (xs ys : List Fil) : flatF (xs ++ ys) = flatF xs ++ flatF ys := by unfold flatF; rw [List.flatMap_append]
theorem flatF_one (x : Fil) : flatF [x] = encF x := by simp [flatF]
theorem flatF_length : ∀ xs : List Fil, (flatF xs).length = xs.length * 7
  | [] => rfl
  | x :: xs => by rw [flatF_cons, List.length_append, encF_length, flatF_length xs, List.length_cons]; omega
theorem encF_cell (x : Fil) : ∀ u ∈ encF x, u.oneCell' = true := by
  intro u hu
  simp only [encF, List.mem_cons, List.not_mem_nil, or_false] at hu
  rcases hu with rfl | rfl | rfl | rfl | rfl | rfl | rfl <;> rfl
abbrev noFil : Fil := (0, 0, 0, 0, 0, 0, 0)
theorem Try.infoF : (Try.prog.info? 74).map (fun i => (i.zero, i.size, i.bytes)) = some (some (filV noFil), 7, 56) := by kernel_rfl
end Go.Proofs.Ytbphljnncbiddaa.Bk
