/-
  Package account by contracts: tooGreat, slices.ContainsFunc with it, Check.
-/
import Derived.Test.YtbphljnncbiddabDoorFix
import Derived.Test.YtbphljnncbiddabDoorAcP
import Derived.Shelf.Abstract
import Derived.Deep.LoopGhost
import Derived.RowKit
namespace Go.Proofs.YtbphljnncbiddabDoor.Ac
open Go.RowKit Go.Proofs.YtbphljnncbiddabDoor.Num Go.Proofs.YtbphljnncbiddabDoor.Fix Go.Proofs.YtbphljnncbiddabDoor.AcP

abbrev bigFn : Value := .func (.func 46) #[] #[]

theorem pos1_lo {x : Int} (h : x < -1000) : pos1 x = false := betw_no (.inl h)
theorem pos1_hi {x : Int} (h : 1000 < x) : pos1 x = false := betw_no (.inr h)
theorem pos1_mk {x : Int} (h : ¬ x < -1000) (g : ¬ 1000 < x) : pos1 x = true := betw_mk (by omega)

theorem tooGreat_any (x : Int) (w : World) :
    Calls Tryd.prog 46 #[.int .i64 x] w fun e w' => e = .returned (.bool (!pos1 x)) ∧ w' = w := by
  by_cases h1 : x < -1000
  · rw [pos1_lo h1]
    go_enter Tryd.func46, Tryd.ntmps46
    go_wp2
    go_ret
    exact ⟨rfl, rfl⟩
  · by_cases h2 : 1000 < x
    · rw [pos1_hi h2]
      go_enter Tryd.func46, Tryd.ntmps46
      go_wp2
      go_ret
      exact ⟨rfl, rfl⟩
    · rw [pos1_mk h1 h2]
      go_enter Tryd.func46, Tryd.ntmps46
      go_wp2
      go_ret
      exact ⟨rfl, rfl⟩

/-- the place of the first one that is too great, counted from k. -/
def idxAt : List Int → Nat → Int
  | [], _ => -1
  | x :: l, k => if pos1 x = true then idxAt l (k + 1) else (k : Int)
theorem idxAt_hit {xs : List Int} {k : Nat} (h : k < xs.length) (he : pos1 (xs.getD k 0) = false) : idxAt (xs.drop k) k = k := by
  rw [drop_get xs k h]; unfold idxAt; rw [he]; rfl
theorem idxAt_miss {xs : List Int} {k : Nat} (h : k < xs.length) (he : pos1 (xs.getD k 0) = true) : idxAt (xs.drop k) k = idxAt (xs.drop (k + 1)) (k + 1) := by
  rw [drop_get xs k h]; conv => lhs; unfold idxAt
  rw [he]; rfl
theorem idxAt_end {xs : List Int} {k : Nat} : idxAt (xs.drop xs.length) k = -1 := by
  rw [List.drop_length]; rfl
theorem idxAt_all : ∀ (xs : List Int) (k : Nat), decide (0 ≤ idxAt xs k) = !xs.all pos1
  | [], k => rfl
  | x :: l, k => by
    unfold idxAt
    cases h : pos1 x with
    | true => simp [h, idxAt_all l (k + 1)]
    | false => simp [h]

set_option maxHeartbeats 2000000 in
set_option maxRecDepth 100000 in
theorem indexFunc_some (b off c : Nat) (xs : List Int) (w : World) (hn : xs.length ≤ 140737488351232)
    (hc : ∀ j, j < xs.length → w.cell? ⟨b, off + j, none⟩ = some (.int .i64 (xs.getD j 0))) :
    Calls Tryd.prog 60 #[.slice (some ⟨b, off, none⟩) xs.length c, bigFn] w fun e w' => e = .returned (.int .i64 (idxAt xs 0)) ∧ w' = w := by
  have eg : ∀ args w, (callFunc 46 args).run Tryd.prog w = .ok (.enter 46 args) w := enters_of Tryd.func46 (by kernel_rfl) rfl
  generalize hr : idxAt xs 0 = r
  have R0 : Hid (idxAt (xs.drop 0) 0 = r) := hr
  clear hr
  have HC := hide hc
  clear hc
  generalize hxn : xs.length = n at hn ⊢
  have N := hide hxn
  clear hxn
  go_enter Tryd.func60, Tryd.ntmps60
  go_wp2
  go_loop [8] (fun i => ∃ k : Nat, k ≤ n ∧ i = .int .i64 k ∧ Hid (idxAt (xs.drop k) k = r)) (fun i => n - (intOf i).toNat)
  case atStart => exact ⟨0, Nat.zero_le _, rfl, R0⟩
  case round =>
    obtain ⟨k, hk, rfl, R⟩ := hrel
    by_cases hlt : k < n
    · have hltz : (k : Int) < (n : Int) := by omega
      have hkx : k < xs.length := by rw [N.out]; exact hlt
      have c0 := HC.out k hkx
      generalize hx : xs.getD k 0 = x at c0
      have X := hide hx
      clear hx
      have hcall := tooGreat_any x w
      cases hh : pos1 x with
      | false =>
        rw [hh] at hcall
        go_wp2_with (go_at_fn 46; refine hcall.mono ?_; rintro e w' ⟨rfl, rfl⟩)
        go_ret
        refine ⟨?_, rfl⟩
        rw [← R.out, idxAt_hit hkx (by rw [X.out]; exact hh)]
        rfl
      | true =>
        rw [hh] at hcall
        go_wp2_with (go_at_fn 46; refine hcall.mono ?_; rintro e w' ⟨rfl, rfl⟩)
        go_round
        case rel =>
          refine ⟨k + 1, by omega, by go_num, ?_⟩
          show idxAt (xs.drop (k + 1)) (k + 1) = r
          rw [← R.out]
          exact (idxAt_miss hkx (by rw [X.out]; exact hh)).symm
        case measure => simp [intOf]; omega
    · have hk' : k = n := by omega
      subst hk'
      go_wp2
      go_ret
      refine ⟨?_, rfl⟩
      rw [← R.out, ← N.out, idxAt_end]
      rfl

set_option maxRecDepth 100000 in
theorem indexFunc_none (p : Option Addr) (c : Nat) (f : Value) (w : World) :
    Calls Tryd.prog 60 #[.slice p 0 c, f] w fun e w' => e = .returned (.int .i64 (-1)) ∧ w' = w := by
  go_enter Tryd.func60, Tryd.ntmps60
  go_wp2
  refine wp_loop_rounds 1 ?_
  rw [rounds_succ]
  go_wp2
  go_ret
  exact ⟨rfl, rfl⟩

theorem containsFunc_any (p : Option Addr) (n c : Nat) (xs : List Int) (w : World) (hl : xs.length = n) (hn : n ≤ 140737488351232) (h : Row w p xs) :
    Calls Tryd.prog 45 #[.slice p n c, bigFn] w fun e w' => e = .returned (.bool (!xs.all pos1)) ∧ w' = w := by
  have hcon : Calls Tryd.prog 60 #[.slice p xs.length c, bigFn] w fun e w' => e = .returned (.int .i64 (idxAt xs 0)) ∧ w' = w := by
    rcases h with rfl | ⟨b, off, rfl, hc⟩
    · exact indexFunc_none p c bigFn w
    · exact indexFunc_some b off c xs w (by omega) hc
  rw [← idxAt_all xs 0]
  rw [hl] at hcon
  generalize idxAt xs 0 = r at hcon ⊢
  clear h hl
  go_enter Tryd.func45, Tryd.ntmps45
  go_wp2_with (go_at_call 60; refine hcon.mono ?_; rintro e w' ⟨rfl, rfl⟩)
  go_ret
  exact ⟨rfl, rfl⟩

/-- an account, as it is handed. -/
abbrev accV (id bal : Int) (p : Option Addr) (n c : Nat) : Value := .agg #[.int .i64 id, .int .i64 bal, .slice p n c]

theorem accErr_who {id bal : Int} {pos : List Int} {m : Int} (h : betw 0 id 7 = false) : accErr id bal pos m = 5 := by unfold accErr; rw [h]; rfl
theorem accErr_form {id bal : Int} {pos : List Int} {m : Int} (h : betw 0 id 7 = true) (g : ¬ (betw 1 m 2 = true ∧ (pos.length : Int) = m)) : accErr id bal pos m = 4 := by unfold accErr; rw [if_pos h, if_neg g]
theorem accErr_range {id bal : Int} {pos : List Int} {m : Int} (h : betw 0 id 7 = true) (g : betw 1 m 2 = true ∧ (pos.length : Int) = m) (f : ¬ (money bal = true ∧ pos.all pos1 = true)) : accErr id bal pos m = 3 := by unfold accErr; rw [if_pos h, if_pos g, if_neg f]

/-- an account, as it lies. -/
abbrev accO (id bal : Int) (p : Option Addr) (n c : Nat) : Obj := .cells #[.int .i64 id, .int .i64 bal, .slice p n c] 25

theorem row_below {w w' : World} {a : Option Addr} {xs : List Int} (h : Row w a xs) (hb : Below w.heap.size w w') : Row w' a xs := by
  rcases h with h | ⟨b, off, rfl, hc⟩
  · exact .inl h
  · refine .inr ⟨b, off, rfl, fun i hi => ?_⟩
    exact (hb.cell (World.block_lt_of_cell? _ _ (hc i hi))).trans (hc i hi)
theorem below_alloc (w : World) (o : Obj) : Below w.heap.size w (w.alloc o) := (Below.refl _ _).alloc (Nat.le_refl _) o

set_option maxHeartbeats 1000000 in
theorem check_any (id bal : Int) (p : Option Addr) (n c : Nat) (pos : List Int) (m : Int) (w : World) (hl : pos.length = n) (hn : n ≤ 140737488351232) (h : Row w p pos) :
    Calls Tryd.prog 26 #[accV id bal p n c, .int .i64 m] w fun e w' => e = .returned (.int .i64 (accErr id bal pos m)) ∧ w' = w.alloc (accO id bal p n c) := by
  by_cases h1 : id < 0
  · rw [accErr_who (betw_no (.inl h1))]
    clear h hl
    go_enter Tryd.func26, Tryd.ntmps26
    go_wp2
    go_ret
    exact ⟨rfl, rfl⟩
  by_cases h2 : 8 ≤ id
  · rw [accErr_who (betw_no (.inr (by omega)))]
    clear h hl
    go_enter Tryd.func26, Tryd.ntmps26
    go_wp2
    go_ret
    exact ⟨rfl, rfl⟩
  have hid : betw 0 id 7 = true := betw_mk (by omega)
  by_cases h3 : m < 1
  · rw [accErr_form hid (fun hh => by have := betw_true hh.1; omega)]
    clear h hl hid
    go_enter Tryd.func26, Tryd.ntmps26
    go_wp2
    go_ret
    exact ⟨rfl, rfl⟩
  by_cases h4 : 2 < m
  · rw [accErr_form hid (fun hh => by have := betw_true hh.1; omega)]
    clear h hl hid
    go_enter Tryd.func26, Tryd.ntmps26
    go_wp2
    go_ret
    exact ⟨rfl, rfl⟩
  by_cases h5 : (n : Int) = m
  · subst h5
    have hf : betw 1 (n : Int) 2 = true ∧ (pos.length : Int) = n := ⟨betw_mk (by omega), by rw [hl]⟩
    have hcon := containsFunc_any p n c pos (w.alloc (accO id bal p n c)) hl hn (row_below h (below_alloc w _))
    cases hb : money bal
    · rw [accErr_range hid hf (fun hh => by rw [hb] at hh; cases hh.1)]
      clear h hl hid hf
      go_enter Tryd.func26, Tryd.ntmps26
      go_wp2_with (first | (go_at_call 44; refine (money_any _ _).mono ?_; rintro e w' ⟨rfl, rfl⟩) | (go_at_call 45; refine hcon.mono ?_; rintro e w' ⟨rfl, rfl⟩))
      go_ret
      exact ⟨rfl, rfl⟩
    · cases ha : pos.all pos1
      · rw [accErr_range hid hf (fun hh => by rw [ha] at hh; cases hh.2)]
        rw [ha] at hcon
        clear h hl hid hf ha
        go_enter Tryd.func26, Tryd.ntmps26
        go_wp2_with (first | (go_at_call 44; refine (money_any _ _).mono ?_; rintro e w' ⟨rfl, rfl⟩) | (go_at_call 45; refine hcon.mono ?_; rintro e w' ⟨rfl, rfl⟩))
        go_ret
        exact ⟨rfl, rfl⟩
      · rw [accErr_mk hid hf.1 hf.2 hb ha]
        rw [ha] at hcon
        clear h hl hid hf ha
        go_enter Tryd.func26, Tryd.ntmps26
        go_wp2_with (first | (go_at_call 44; refine (money_any _ _).mono ?_; rintro e w' ⟨rfl, rfl⟩) | (go_at_call 45; refine hcon.mono ?_; rintro e w' ⟨rfl, rfl⟩))
        go_ret
        exact ⟨rfl, rfl⟩
  · rw [accErr_form hid (fun hh => h5 (by rw [← hl]; exact hh.2))]
    clear h hl hid
    go_enter Tryd.func26, Tryd.ntmps26
    go_wp2
    go_ret
    exact ⟨rfl, rfl⟩
end Go.Proofs.YtbphljnncbiddabDoor.Ac
