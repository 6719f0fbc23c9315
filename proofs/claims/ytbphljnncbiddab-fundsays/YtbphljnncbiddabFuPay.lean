/-
  Package fund by contracts: Pays.
-/
import Derived.Test.YtbphljnncbiddabAc3
import Derived.Test.YtbphljnncbiddabFuP
namespace Go.Proofs.Ytbphljnncbiddab.Ac
open Go.RowKit Go.Proofs.Ytbphljnncbiddab.Num Go.Proofs.Ytbphljnncbiddab.Fix Go.Proofs.Ytbphljnncbiddab.AcP Go.Proofs.Ytbphljnncbiddab.FuP

theorem due_part {x m r : Int} (hx : pos1 x = true) (hm : betw 0 m 10000 = true) (hr : betw (-100) r 100 = true) : partR (x * m) r 10000 true = (divUp (x * m * r) 10000 true, 0) := by
  have h1 := worth_bd hx hm
  have h2 := due_bd h1 hr
  have h3 := betw_true hr
  have h4 := up_bd (x * m * r)
  unfold partR
  rw [if_pos ⟨money_mk (by omega), betw_mk (by omega), by decide⟩, if_pos (money_mk (by omega))]

set_option maxHeartbeats 1000000 in
set_option maxRecDepth 100000 in
theorem pays_acc (id bal : Int) (p : Option Addr) (n c : Nat) (pos : List Int) (mk mark rate : Int) (w : World) (hl : pos.length = n) (hn : n ≤ 140737488351232) (h : Row w p pos) (he : ¬ accErr id bal pos n = 0) :
    Calls Try.prog 11 #[accV id bal p n c, .int .i64 mk, .int .i64 mark, .int .i64 rate] w fun e w' => e = .returned (.tuple #[.int .i64 0, .int .i64 (accErr id bal pos n)]) ∧ Below w.heap.size w w' := by
  have CK := hide (fun W hW => check_any id bal p n c pos n W hl hn (row_below h hW))
  clear h
  generalize accErr id bal pos n = r at he CK ⊢
  go_enter Try.func11, Try.ntmps11
  go_wp2_with fail
  refine (CK.out _ (below_alloc w _)).mono ?_
  rintro e W ⟨rfl, rfl⟩
  go_wp2
  go_ret2
  exact ⟨rfl, below_alloc2 _ _ _⟩

set_option maxHeartbeats 1000000 in
set_option maxRecDepth 100000 in
theorem pays_early (id bal : Int) (p : Option Addr) (n c : Nat) (pos : List Int) (mk mark rate : Int) (w : World) (hl : pos.length = n) (hn : n ≤ 140737488351232) (h : Row w p pos) (he : accErr id bal pos n = 0) (r : Int)
    (hr : (¬ (0 ≤ mk ∧ mk < n) ∧ r = 5) ∨ ((0 ≤ mk ∧ mk < n) ∧ ¬ betw (-100) rate 100 = true ∧ r = 3)) :
    Calls Try.prog 11 #[accV id bal p n c, .int .i64 mk, .int .i64 mark, .int .i64 rate] w fun e w' => e = .returned (.tuple #[.int .i64 0, .int .i64 r]) ∧ Below w.heap.size w w' := by
  have CK := hide (fun W hW => check_any id bal p n c pos n W hl hn (row_below h hW))
  rw [he] at CK
  clear h he hl
  rcases hr with ⟨h1, rfl⟩ | ⟨⟨h1, h2⟩, h3, rfl⟩
  · by_cases h2 : mk < 0
    · clear h1
      go_enter Try.func11, Try.ntmps11
      go_wp2_with fail
      refine (CK.out _ (below_alloc w _)).mono ?_
      rintro e W ⟨rfl, rfl⟩
      go_wp2
      go_ret2
      exact ⟨rfl, below_alloc2 _ _ _⟩
    · have h3 : (n : Int) ≤ mk := by omega
      clear h1
      go_enter Try.func11, Try.ntmps11
      go_wp2_with fail
      refine (CK.out _ (below_alloc w _)).mono ?_
      rintro e W ⟨rfl, rfl⟩
      go_wp2
      go_ret2
      exact ⟨rfl, below_alloc2 _ _ _⟩
  · have h4 := betw_false (by simpa using h3)
    clear h3
    by_cases h5 : rate < -100
    · clear h4
      go_enter Try.func11, Try.ntmps11
      go_wp2_with fail
      refine (CK.out _ (below_alloc w _)).mono ?_
      rintro e W ⟨rfl, rfl⟩
      go_wp2
      go_ret2
      exact ⟨rfl, below_alloc2 _ _ _⟩
    · have h6 : 100 < rate := by omega
      clear h4
      go_enter Try.func11, Try.ntmps11
      go_wp2_with fail
      refine (CK.out _ (below_alloc w _)).mono ?_
      rintro e W ⟨rfl, rfl⟩
      go_wp2
      go_ret2
      exact ⟨rfl, below_alloc2 _ _ _⟩

set_option maxHeartbeats 1000000 in
set_option maxRecDepth 100000 in
theorem pays_mark (id bal : Int) (b off n c : Nat) (pos : List Int) (k : Nat) (mark rate : Int) (w : World) (hl : pos.length = n) (hn : n ≤ 140737488351232) (h : Row w (some ⟨b, off, none⟩) pos) (he : accErr id bal pos n = 0) (hk : k < n) (hr : betw (-100) rate 100 = true)
    (x : Int) (hc : w.cell? ⟨b, off + k, none⟩ = some (.int .i64 x)) (hm : betw 0 mark 10000 = false) :
    Calls Try.prog 11 #[accV id bal (some ⟨b, off, none⟩) n c, .int .i64 k, .int .i64 mark, .int .i64 rate] w fun e w' => e = .returned (.tuple #[.int .i64 0, .int .i64 3]) ∧ Below w.heap.size w w' := by
  have CK := hide (fun W hW => check_any id bal (some ⟨b, off, none⟩) n c pos n W hl hn (row_below h hW))
  rw [he] at CK
  have H2 : ∀ o1 o2, ((w.alloc o1).alloc o2).cell? ⟨b, off + k, none⟩ = some (.int .i64 x) := fun o1 o2 => cell_alloc (cell_alloc hc o1) o2
  have hkz : (k : Int) < n := by omega
  obtain ⟨r1, r2⟩ := betw_true hr
  clear h he hl hc
  have WO := hide (fun W => worth_no x mark W (.inr hm))
  clear hm hr
  go_enter Try.func11, Try.ntmps11
  go_wp2_with fail
  refine (CK.out _ (below_alloc w _)).mono ?_
  rintro e W ⟨rfl, rfl⟩
  go_wp2_with (go_at_call 19; refine (WO.out _).mono ?_; rintro e w' ⟨rfl, rfl⟩)
  go_ret2
  exact ⟨rfl, below_alloc2 _ _ _⟩
set_option maxHeartbeats 1000000 in
set_option maxRecDepth 100000 in
theorem pays_done (id bal : Int) (b off n c : Nat) (pos : List Int) (k : Nat) (mark rate : Int) (w : World) (hl : pos.length = n) (hn : n ≤ 140737488351232) (h : Row w (some ⟨b, off, none⟩) pos) (he : accErr id bal pos n = 0) (hk : k < n) (hr : betw (-100) rate 100 = true)
    (x : Int) (hc : w.cell? ⟨b, off + k, none⟩ = some (.int .i64 x)) (hx : pos1 x = true) (hm : betw 0 mark 10000 = true) :
    Calls Try.prog 11 #[accV id bal (some ⟨b, off, none⟩) n c, .int .i64 k, .int .i64 mark, .int .i64 rate] w fun e w' => e = .returned (.tuple #[.int .i64 (divUp (x * mark * rate) 10000 true), .int .i64 0]) ∧ Below w.heap.size w w' := by
  have CK := hide (fun W hW => check_any id bal (some ⟨b, off, none⟩) n c pos n W hl hn (row_below h hW))
  rw [he] at CK
  have H2 : ∀ o1 o2, ((w.alloc o1).alloc o2).cell? ⟨b, off + k, none⟩ = some (.int .i64 x) := fun o1 o2 => cell_alloc (cell_alloc hc o1) o2
  have hkz : (k : Int) < n := by omega
  obtain ⟨r1, r2⟩ := betw_true hr
  clear h he hl hc
  have WO := hide (fun W => worth_yes x mark W hx hm)
  have PA := hide (due_part hx hm hr)
  clear hm hr hx
  generalize x * mark = co at WO PA ⊢
  generalize divUp (co * rate) 10000 true = T at PA ⊢
  go_enter Try.func11, Try.ntmps11
  go_wp2_with fail
  refine (CK.out _ (below_alloc w _)).mono ?_
  rintro e W ⟨rfl, rfl⟩
  go_wp2_with (go_at_call 19; refine (WO.out _).mono ?_; rintro e w' ⟨rfl, rfl⟩)
  refine (part_any _ _ _ _ _).mono ?_
  rintro e w2 ⟨rfl, kk, rfl⟩
  rw [PA.out]
  go_wp2
  go_ret2
  exact ⟨rfl, below_drewN (below_alloc2 _ _ _) _⟩

theorem pays_any (id bal : Int) (p : Option Addr) (n c : Nat) (pos : List Int) (mk mark rate : Int) (w : World) (hl : pos.length = n) (hn : n ≤ 140737488351232) (h : Row w p pos) :
    Calls Try.prog 11 #[accV id bal p n c, .int .i64 mk, .int .i64 mark, .int .i64 rate] w fun e w' => e = .returned (.tuple #[.int .i64 (paysR id bal pos mk mark rate).1, .int .i64 (paysR id bal pos mk mark rate).2]) ∧ Below w.heap.size w w' := by
  by_cases h1 : accErr id bal pos n = 0
  · by_cases h2 : 0 ≤ mk ∧ mk < n
    · by_cases h3 : betw (-100) rate 100 = true
      · obtain ⟨k, rfl⟩ : ∃ k : Nat, mk = k := ⟨mk.toNat, by omega⟩
        have hk : k < n := by omega
        obtain ⟨b, off, rfl, hc⟩ := row_at h (k := k) (by omega)
        by_cases h4 : betw 0 mark 10000 = true
        · rw [paysR_ok (by rw [hl]; exact h1) (by rw [hl]; exact h2) h3 h4]
          exact pays_done id bal b off n c pos k mark rate w hl hn h h1 hk h3 _ hc (all_get (accErr_ok h1).2.2.2.2 (by omega)) h4
        · rw [paysR_mark (by rw [hl]; exact h1) (by rw [hl]; exact h2) h3 h4]
          exact pays_mark id bal b off n c pos k mark rate w hl hn h h1 hk h3 _ hc (by simpa using h4)
      · rw [paysR_rate (by rw [hl]; exact h1) (by rw [hl]; exact h2) h3]
        exact pays_early id bal p n c pos mk mark rate w hl hn h h1 3 (.inr ⟨h2, h3, rfl⟩)
    · rw [paysR_who (by rw [hl]; exact h1) (by rw [hl]; exact h2)]
      exact pays_early id bal p n c pos mk mark rate w hl hn h h1 5 (.inl ⟨h2, rfl⟩)
  · rw [paysR_acc (by rw [hl]; exact h1), hl]
    exact pays_acc id bal p n c pos mk mark rate w hl hn h h1
end Go.Proofs.Ytbphljnncbiddab.Ac
