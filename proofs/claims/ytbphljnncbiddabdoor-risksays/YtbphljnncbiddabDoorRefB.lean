/-
  The reference's chapter 4 by contracts: CheckAccount, SameAccount, FeeOf; account.Same.
-/
import Derived.Test.YtbphljnncbiddabDoorAc6
import Derived.Test.YtbphljnncbiddabDoorAc5
import Derived.Test.YtbphljnncbiddabDoorRefA
namespace Go.Proofs.YtbphljnncbiddabDoor.Ac
open Go.RowKit Go.Proofs.YtbphljnncbiddabDoor.Num Go.Proofs.YtbphljnncbiddabDoor.Fix Go.Proofs.YtbphljnncbiddabDoor.AcP

set_option maxHeartbeats 1000000 in
theorem checkAccount_early (id bal : Int) (p : Option Addr) (n c : Nat) (pos : List Int) (m : Int) (w : World) (hl : pos.length = n)
    (he : ¬ (betw 0 id 7 = true ∧ betw 1 m 2 = true ∧ (pos.length : Int) = m)) :
    Calls Tryd.prog 32 #[accV id bal p n c, .int .i64 m] w fun e w' => e = .returned (.int .i64 (accErr id bal pos m)) ∧ w' = w.alloc (accO id bal p n c) := by
  by_cases h1 : id < 0
  · rw [accErr_who (betw_no (.inl h1))]
    clear hl he
    go_enter Tryd.func32, Tryd.ntmps32
    go_wp2
    go_ret
    exact ⟨rfl, rfl⟩
  by_cases h2 : 7 < id
  · rw [accErr_who (betw_no (.inr h2))]
    clear hl he
    go_enter Tryd.func32, Tryd.ntmps32
    go_wp2
    go_ret
    exact ⟨rfl, rfl⟩
  have hid : betw 0 id 7 = true := betw_mk (by omega)
  rw [accErr_form hid (fun hh => he ⟨hid, hh⟩)]
  by_cases h3 : m = 1
  · subst h3
    have hn : ¬ (n : Int) = 1 := fun e => he ⟨hid, by decide, by omega⟩
    clear hl he hid
    go_enter Tryd.func32, Tryd.ntmps32
    go_wp2
    go_ret
    exact ⟨rfl, rfl⟩
  by_cases h4 : m = 2
  · subst h4
    have hn : ¬ (n : Int) = 2 := fun e => he ⟨hid, by decide, by omega⟩
    clear hl he hid h3
    go_enter Tryd.func32, Tryd.ntmps32
    go_wp2
    go_ret
    exact ⟨rfl, rfl⟩
  clear hl he hid
  go_enter Tryd.func32, Tryd.ntmps32
  go_wp2
  go_ret
  exact ⟨rfl, rfl⟩

theorem all_of {pos : List Int} {n : Nat} (hl : pos.length = n) (h : ∀ j, j < n → pos1 (pos.getD j 0) = true) : pos.all pos1 = true := by
  rw [List.all_eq_true]
  intro x hx
  obtain ⟨j, hj, rfl⟩ := List.getElem_of_mem hx
  have := h j (by omega)
  rwa [List.getD_eq_getElem?_getD, List.getElem?_eq_getElem hj] at this

set_option maxHeartbeats 1000000 in
theorem checkAccount_1 (id bal : Int) (b off c : Nat) (pos : List Int) (w : World) (hl : pos.length = 1) (h : ∀ i, i < pos.length → w.cell? ⟨b, off + i, none⟩ = some (.int .i64 (pos.getD i 0))) (hid : betw 0 id 7 = true) :
    Calls Tryd.prog 32 #[accV id bal (some ⟨b, off, none⟩) 1 c, .int .i64 ((1 : Nat) : Int)] w fun e w' => e = .returned (.int .i64 (accErr id bal pos ((1 : Nat) : Int))) ∧ w' = w.alloc (accO id bal (some ⟨b, off, none⟩) 1 c) := by
  obtain ⟨i1, i2⟩ := betw_true hid
  cases hb : money bal
  · rw [accErr_range hid ⟨by decide, by rw [hl]⟩ (fun hh => by rw [hb] at hh; cases hh.1)]
    clear h hid
    go_enter Tryd.func32, Tryd.ntmps32
    go_wp2_with (go_at_call 49; refine (RefA.isMoney_any _ _).mono ?_; rintro e w' ⟨rfl, hw'⟩; rw [hw']; clear hw')
    go_ret
    exact ⟨rfl, rfl⟩
  · have OKE : Hid ((∀ j, j < 1 → pos1 (pos.getD j 0) = true) → accErr id bal pos ((1 : Nat) : Int) = 0) := fun hh => accErr_mk hid (by decide) (by rw [hl]) hb (all_of hl hh)
    have BADE : Hid (∀ j, j < 1 → pos1 (pos.getD j 0) = false → accErr id bal pos ((1 : Nat) : Int) = 3) := fun j hj hh => accErr_range hid ⟨by decide, by rw [hl]⟩ (fun hf => by rw [all_get hf.2 (k := j) (by omega)] at hh; cases hh)
    have HC := hide h
    have HL := hide hl
    clear h hid hl
    generalize accErr id bal pos ((1 : Nat) : Int) = r at OKE BADE ⊢
    go_enter Tryd.func32, Tryd.ntmps32
    go_wp2_with (go_at_call 49; refine (RefA.isMoney_any _ _).mono ?_; rintro e w' ⟨rfl, hw'⟩; rw [hw']; clear hw')
    go_loop [35] (fun i => ∃ k : Nat, k ≤ 1 ∧ i = .int .i64 k ∧ Hid (∀ j, j < k → pos1 (pos.getD j 0) = true)) (fun i => 1 - (intOf i).toNat)
    case atStart => exact ⟨0, Nat.zero_le _, rfl, fun j hj => absurd hj (Nat.not_lt_zero _)⟩
    case round =>
      obtain ⟨k, hk, rfl, R⟩ := hrel
      by_cases hlt : k < 1
      · have hltz : (k : Int) < (1 : Int) := by omega
        have c0 := fun o => cell_alloc (HC.out k (by rw [HL.out]; exact hlt)) o
        generalize hx : pos.getD k 0 = x at c0
        have X := hide hx
        clear hx
        by_cases hx1 : x < -1000
        · have E := hide (BADE.out k hlt (by rw [X.out]; exact pos1_lo hx1))
          go_wp2
          go_ret
          rw [E.out]
          exact ⟨rfl, rfl⟩
        by_cases hx2 : 1000 < x
        · have E := hide (BADE.out k hlt (by rw [X.out]; exact pos1_hi hx2))
          go_wp2
          go_ret
          rw [E.out]
          exact ⟨rfl, rfl⟩
        have P := hide (pos1_mk hx1 hx2)
        go_wp2
        go_round
        case rel =>
          refine ⟨k + 1, by omega, by go_num, fun j hj => ?_⟩
          by_cases hjk : j = k
          · rw [hjk, X.out]; exact P.out
          · exact R.out j (by omega)
        case measure => simp [intOf]; omega
      · have hkn : k = 1 := by omega
        subst hkn
        have E := hide (OKE.out R.out)
        go_wp2
        go_ret
        rw [E.out]
        exact ⟨rfl, rfl⟩
set_option maxHeartbeats 1000000 in
theorem checkAccount_2 (id bal : Int) (b off c : Nat) (pos : List Int) (w : World) (hl : pos.length = 2) (h : ∀ i, i < pos.length → w.cell? ⟨b, off + i, none⟩ = some (.int .i64 (pos.getD i 0))) (hid : betw 0 id 7 = true) :
    Calls Tryd.prog 32 #[accV id bal (some ⟨b, off, none⟩) 2 c, .int .i64 ((2 : Nat) : Int)] w fun e w' => e = .returned (.int .i64 (accErr id bal pos ((2 : Nat) : Int))) ∧ w' = w.alloc (accO id bal (some ⟨b, off, none⟩) 2 c) := by
  obtain ⟨i1, i2⟩ := betw_true hid
  cases hb : money bal
  · rw [accErr_range hid ⟨by decide, by rw [hl]⟩ (fun hh => by rw [hb] at hh; cases hh.1)]
    clear h hid
    go_enter Tryd.func32, Tryd.ntmps32
    go_wp2_with (go_at_call 49; refine (RefA.isMoney_any _ _).mono ?_; rintro e w' ⟨rfl, hw'⟩; rw [hw']; clear hw')
    go_ret
    exact ⟨rfl, rfl⟩
  · have OKE : Hid ((∀ j, j < 2 → pos1 (pos.getD j 0) = true) → accErr id bal pos ((2 : Nat) : Int) = 0) := fun hh => accErr_mk hid (by decide) (by rw [hl]) hb (all_of hl hh)
    have BADE : Hid (∀ j, j < 2 → pos1 (pos.getD j 0) = false → accErr id bal pos ((2 : Nat) : Int) = 3) := fun j hj hh => accErr_range hid ⟨by decide, by rw [hl]⟩ (fun hf => by rw [all_get hf.2 (k := j) (by omega)] at hh; cases hh)
    have HC := hide h
    have HL := hide hl
    clear h hid hl
    generalize accErr id bal pos ((2 : Nat) : Int) = r at OKE BADE ⊢
    go_enter Tryd.func32, Tryd.ntmps32
    go_wp2_with (go_at_call 49; refine (RefA.isMoney_any _ _).mono ?_; rintro e w' ⟨rfl, hw'⟩; rw [hw']; clear hw')
    go_loop [35] (fun i => ∃ k : Nat, k ≤ 2 ∧ i = .int .i64 k ∧ Hid (∀ j, j < k → pos1 (pos.getD j 0) = true)) (fun i => 2 - (intOf i).toNat)
    case atStart => exact ⟨0, Nat.zero_le _, rfl, fun j hj => absurd hj (Nat.not_lt_zero _)⟩
    case round =>
      obtain ⟨k, hk, rfl, R⟩ := hrel
      by_cases hlt : k < 2
      · have hltz : (k : Int) < (2 : Int) := by omega
        have c0 := fun o => cell_alloc (HC.out k (by rw [HL.out]; exact hlt)) o
        generalize hx : pos.getD k 0 = x at c0
        have X := hide hx
        clear hx
        by_cases hx1 : x < -1000
        · have E := hide (BADE.out k hlt (by rw [X.out]; exact pos1_lo hx1))
          go_wp2
          go_ret
          rw [E.out]
          exact ⟨rfl, rfl⟩
        by_cases hx2 : 1000 < x
        · have E := hide (BADE.out k hlt (by rw [X.out]; exact pos1_hi hx2))
          go_wp2
          go_ret
          rw [E.out]
          exact ⟨rfl, rfl⟩
        have P := hide (pos1_mk hx1 hx2)
        go_wp2
        go_round
        case rel =>
          refine ⟨k + 1, by omega, by go_num, fun j hj => ?_⟩
          by_cases hjk : j = k
          · rw [hjk, X.out]; exact P.out
          · exact R.out j (by omega)
        case measure => simp [intOf]; omega
      · have hkn : k = 2 := by omega
        subst hkn
        have E := hide (OKE.out R.out)
        go_wp2
        go_ret
        rw [E.out]
        exact ⟨rfl, rfl⟩

theorem checkAccount_any (id bal : Int) (p : Option Addr) (n c : Nat) (pos : List Int) (m : Int) (w : World) (hl : pos.length = n) (h : Row w p pos) :
    Calls Tryd.prog 32 #[accV id bal p n c, .int .i64 m] w fun e w' => e = .returned (.int .i64 (accErr id bal pos m)) ∧ w' = w.alloc (accO id bal p n c) := by
  by_cases he : betw 0 id 7 = true ∧ betw 1 m 2 = true ∧ (pos.length : Int) = m
  · obtain ⟨h1, h2, h3⟩ := he
    have := betw_true h2
    obtain ⟨b, off, rfl, -⟩ := row_at h (k := 0) (by omega)
    have hc : ∀ i, i < pos.length → w.cell? ⟨b, off + i, none⟩ = some (.int .i64 (pos.getD i 0)) := fun i hi => by
      obtain ⟨b', off', e, hc⟩ := row_at h hi
      cases e
      exact hc
    have : n = 1 ∨ n = 2 := by omega
    rcases this with rfl | rfl
    · rw [← h3, hl]
      exact checkAccount_1 id bal b off c pos w hl hc h1
    · rw [← h3, hl]
      exact checkAccount_2 id bal b off c pos w hl hc h1
  · exact checkAccount_early id bal p n c pos m w hl he

/-- are they alike? -/
def accEq (id bal : Int) (pos : List Int) (id2 bal2 : Int) (pos2 : List Int) : Bool := decide (id = id2) && (decide (bal = bal2) && decide (pos = pos2))

theorem fee_way {co : Int} : (co + 1999) / 2000 = divUp (co * 5) 10000 true := by
  unfold divUp
  rw [if_pos rfl]
  omega
end Go.Proofs.YtbphljnncbiddabDoor.Ac
