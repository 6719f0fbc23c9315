/-
  Package account by contracts: Trade.
-/
import Derived.Test.YtbphljnncbiddabDoorAc
namespace Go.Proofs.YtbphljnncbiddabDoor.Ac
open Go.RowKit Go.Proofs.YtbphljnncbiddabDoor.Num Go.Proofs.YtbphljnncbiddabDoor.Fix Go.Proofs.YtbphljnncbiddabDoor.AcP

abbrev noA : Value := .agg #[.int .i64 0, .int .i64 0, .slice none 0 0]
abbrev noO : Obj := .cells #[.int .i64 0, .int .i64 0, .slice none 0 0] 25

theorem fail_any (x : Int) (w : World) :
    Calls Tryd.prog 59 #[.int .i64 x] w fun e w' => e = .returned (.tuple #[noA, .int .i64 x]) ∧ Below w.heap.size w w' := by
  go_enter Tryd.func59, Tryd.ntmps59
  go_wp2
  refine bodyPost_ret (v := .tuple #[noA, .int .i64 x]) (by simp [results, Tryd.results59, go_sem]) rfl ⟨rfl, ?_⟩
  exact below_alloc w _

/-- three cells that may be written, at this block. -/
def Three (x : World) (t : Nat) : Prop := ∃ u0 u1 u2, x.heap[t]? = some (.cells #[u0, u1, u2] 25 (0, 0))
theorem three_below {x y : World} {t : Nat} (h : Three x t) (hb : Below x.heap.size x y) : Three y t := by
  obtain ⟨u0, u1, u2, h⟩ := h
  exact ⟨u0, u1, u2, (hb.block t (Array.getElem?_eq_some_iff.1 h).1).trans h⟩
theorem three_facts {x : World} {t : Nat} (h : Three x t) : ∃ u0 u1 u2, x.cell? ⟨t, 0, none⟩ = some u0 ∧ x.cell? ⟨t, 1, none⟩ = some u1 ∧ x.cell? ⟨t, 2, none⟩ = some u2 ∧ x.frozen? ⟨t, 0, none⟩ = false ∧ x.frozen? ⟨t, 1, none⟩ = false ∧ x.frozen? ⟨t, 2, none⟩ = false := by
  obtain ⟨u0, u1, u2, h⟩ := h
  refine ⟨u0, u1, u2, ?_, ?_, ?_, ?_, ?_, ?_⟩ <;> simp [World.cell?, World.frozen?, h]
theorem three_made (w : World) (u0 u1 u2 : Value) : Three (w.alloc (.cells #[u0, u1, u2] 25)) w.heap.size :=
  ⟨u0, u1, u2, by have := heap_alloc_new w (.cells #[u0, u1, u2] 25); simpa using this⟩
theorem three_made2 (w : World) (o : Obj) (u0 u1 u2 : Value) : Three ((w.alloc o).alloc (.cells #[u0, u1, u2] 25)) (w.heap.size + 1) := by
  have := three_made (w.alloc o) u0 u1 u2
  simpa using this
theorem three_alloc {x : World} {t : Nat} (h : Three x t) (o : Obj) : Three (x.alloc o) t := three_below h (below_alloc x o)
theorem three_set {x : World} {t : Nat} (h : Three x t) (v0 v1 v2 : Value) : (((x.setCell ⟨t, 0, none⟩ v0).setCell ⟨t, 1, none⟩ v1).setCell ⟨t, 2, none⟩ v2).heap[t]? = some (.cells #[v0, v1, v2] 25 (0, 0)) := by
  obtain ⟨u0, u1, u2, h⟩ := h
  simp [World.setCell, Array.getElem?_modify, h]
theorem three_read {x : World} {t : Nat} {v0 v1 v2 : Value} (h : x.heap[t]? = some (.cells #[v0, v1, v2] 25 (0, 0))) : x.cell? ⟨t, 0, none⟩ = some v0 ∧ x.cell? ⟨t, 1, none⟩ = some v1 ∧ x.cell? ⟨t, 2, none⟩ = some v2 := by
  refine ⟨?_, ?_, ?_⟩ <;> simp [World.cell?, h]
theorem three_below_set {B t : Nat} {w x : World} (h : Below B w x) (ht : B ≤ t) (v0 v1 v2 : Value) : Below B w (((x.setCell ⟨t, 0, none⟩ v0).setCell ⟨t, 1, none⟩ v1).setCell ⟨t, 2, none⟩ v2) := ((h.setCell ht _).setCell ht _).setCell ht _

theorem cell_alloc {w : World} {a : Addr} {v : Value} (h : w.cell? a = some v) (o : Obj) : (w.alloc o).cell? a = some v := ((below_alloc w o).cell (World.block_lt_of_cell? _ _ h)).trans h
theorem below_alloc2 (w : World) (o o' : Obj) : Below w.heap.size w ((w.alloc o).alloc o') := ((Below.refl _ w).alloc (Nat.le_refl _) _).alloc (by simp) _

theorem below3 (w : World) (o o' o3 : Obj) : Below w.heap.size w (((w.alloc o).alloc o').alloc o3) := (below_alloc2 w o o').alloc (by simp; omega) _
theorem below4 (w : World) (o o' o3 o4 : Obj) : Below w.heap.size w ((((w.alloc o).alloc o').alloc o3).alloc o4) := (below3 w o o' o3).alloc (by simp; omega) _

set_option maxHeartbeats 2000000 in
set_option maxRecDepth 100000 in
theorem trade_b1 (id bal : Int) (p : Option Addr) (n c : Nat) (pos : List Int) (mk q pr fee : Int) (w : World) (hl : pos.length = n) (hn : n ≤ 140737488351232) (h : Row w p pos) (he : ¬ accErr id bal pos n = 0) :
    Calls Tryd.prog 42 #[accV id bal p n c, .int .i64 mk, .int .i64 q, .int .i64 pr, .int .i64 fee] w fun e w' => e = .returned (.tuple #[noA, .int .i64 (accErr id bal pos n)]) ∧ Below w.heap.size w w' := by
  have eg : ∀ args w, (callFunc 59 args).run Tryd.prog w = .ok (.enter 59 args) w := enters_of Tryd.func59 (by kernel_rfl) rfl
  have CK := hide (fun W hW => check_any id bal p n c pos n W hl hn (row_below h hW))
  clear h
  generalize accErr id bal pos n = r at he CK ⊢
  go_enter Tryd.func42, Tryd.ntmps42
  go_wp2_with fail
  refine (CK.out _ (below_alloc2 _ _ _)).mono ?_
  rintro e W ⟨rfl, rfl⟩
  go_wp2_with fail
  go_at_fn 59
  refine (fail_any _ _).mono ?_
  rintro e W ⟨rfl, hb⟩
  have T := hide (three_below (three_alloc (three_made2 _ _ _ _ _) _) hb)
  have BW := hide ((below3 _ _ _ _).trans (hb.mono (by simp; omega)))
  obtain ⟨u0, u1, u2, t0, t1, t2, t3, t4, t5⟩ := three_facts T.out
  clear hb
  go_wp2
  obtain ⟨s0, s1, s2⟩ := three_read (three_set T.out (.int .i64 0) (.int .i64 0) (.slice none 0 0))
  refine bodyPost_ret (v := .tuple #[noA, .int .i64 r]) (by simp [results, Tryd.results42, go_sem, s0, s1, s2]) rfl ⟨rfl, three_below_set BW.out (by omega) _ _ _⟩

set_option maxHeartbeats 2000000 in
set_option maxRecDepth 100000 in
theorem trade_b2 (id bal : Int) (p : Option Addr) (n c : Nat) (pos : List Int) (mk q pr fee : Int) (w : World) (hl : pos.length = n) (hn : n ≤ 140737488351232) (h : Row w p pos) (he : accErr id bal pos n = 0) (hm : mk < 0 ∨ (n : Int) ≤ mk) :
    Calls Tryd.prog 42 #[accV id bal p n c, .int .i64 mk, .int .i64 q, .int .i64 pr, .int .i64 fee] w fun e w' => e = .returned (.tuple #[noA, .int .i64 5]) ∧ Below w.heap.size w w' := by
  have eg : ∀ args w, (callFunc 59 args).run Tryd.prog w = .ok (.enter 59 args) w := enters_of Tryd.func59 (by kernel_rfl) rfl
  have CK := hide (fun W hW => check_any id bal p n c pos n W hl hn (row_below h hW))
  clear h
  rw [he] at CK
  clear he
  by_cases h1 : mk < 0
  · clear hm
    go_enter Tryd.func42, Tryd.ntmps42
    go_wp2_with fail
    refine (CK.out _ (below_alloc2 _ _ _)).mono ?_
    rintro e W ⟨rfl, rfl⟩
    go_wp2_with fail
    go_at_fn 59
    refine (fail_any _ _).mono ?_
    rintro e W ⟨rfl, hb⟩
    have T := hide (three_below (three_alloc (three_made2 _ _ _ _ _) _) hb)
    have BW := hide ((below3 _ _ _ _).trans (hb.mono (by simp; omega)))
    obtain ⟨u0, u1, u2, t0, t1, t2, t3, t4, t5⟩ := three_facts T.out
    clear hb
    go_wp2
    obtain ⟨s0, s1, s2⟩ := three_read (three_set T.out (.int .i64 0) (.int .i64 0) (.slice none 0 0))
    refine bodyPost_ret (v := .tuple #[noA, .int .i64 5]) (by simp [results, Tryd.results42, go_sem, s0, s1, s2]) rfl ⟨rfl, three_below_set BW.out (by omega) _ _ _⟩
  · have h2 : (n : Int) ≤ mk := by omega
    clear hm
    go_enter Tryd.func42, Tryd.ntmps42
    go_wp2_with fail
    refine (CK.out _ (below_alloc2 _ _ _)).mono ?_
    rintro e W ⟨rfl, rfl⟩
    go_wp2_with fail
    go_at_fn 59
    refine (fail_any _ _).mono ?_
    rintro e W ⟨rfl, hb⟩
    have T := hide (three_below (three_alloc (three_made2 _ _ _ _ _) _) hb)
    have BW := hide ((below3 _ _ _ _).trans (hb.mono (by simp; omega)))
    obtain ⟨u0, u1, u2, t0, t1, t2, t3, t4, t5⟩ := three_facts T.out
    clear hb
    go_wp2
    obtain ⟨s0, s1, s2⟩ := three_read (three_set T.out (.int .i64 0) (.int .i64 0) (.slice none 0 0))
    refine bodyPost_ret (v := .tuple #[noA, .int .i64 5]) (by simp [results, Tryd.results42, go_sem, s0, s1, s2]) rfl ⟨rfl, three_below_set BW.out (by omega) _ _ _⟩

set_option maxHeartbeats 2000000 in
set_option maxRecDepth 100000 in
theorem trade_b3 (id bal : Int) (p : Option Addr) (n c : Nat) (pos : List Int) (mk q pr fee : Int) (w : World) (hl : pos.length = n) (hn : n ≤ 140737488351232) (h : Row w p pos) (he : accErr id bal pos n = 0) (hm : ¬ mk < 0) (hm2 : mk < n) (hq : betw (-1000) q 1000 = false ∨ betw 0 pr 10000 = false) :
    Calls Tryd.prog 42 #[accV id bal p n c, .int .i64 mk, .int .i64 q, .int .i64 pr, .int .i64 fee] w fun e w' => e = .returned (.tuple #[noA, .int .i64 3]) ∧ Below w.heap.size w w' := by
  have eg : ∀ args w, (callFunc 59 args).run Tryd.prog w = .ok (.enter 59 args) w := enters_of Tryd.func59 (by kernel_rfl) rfl
  have CK := hide (fun W hW => check_any id bal p n c pos n W hl hn (row_below h hW))
  clear h
  rw [he] at CK
  have WO := hide (fun W => worth_no q pr W hq)
  clear he hq
  go_enter Tryd.func42, Tryd.ntmps42
  go_wp2_with fail
  refine (CK.out _ (below_alloc2 _ _ _)).mono ?_
  rintro e W ⟨rfl, rfl⟩
  go_wp2_with (first | (go_at_call 27; refine (WO.out _).mono ?_; rintro e w' ⟨rfl, rfl⟩) | fail)
  go_at_fn 59
  refine (fail_any _ _).mono ?_
  rintro e W ⟨rfl, hb⟩
  have T := hide (three_below (three_alloc (three_made2 _ _ _ _ _) _) hb)
  have BW := hide ((below3 _ _ _ _).trans (hb.mono (by simp; omega)))
  obtain ⟨u0, u1, u2, t0, t1, t2, t3, t4, t5⟩ := three_facts T.out
  clear hb
  go_wp2
  obtain ⟨s0, s1, s2⟩ := three_read (three_set T.out (.int .i64 0) (.int .i64 0) (.slice none 0 0))
  refine bodyPost_ret (v := .tuple #[noA, .int .i64 3]) (by simp [results, Tryd.results42, go_sem, s0, s1, s2]) rfl ⟨rfl, three_below_set BW.out (by omega) _ _ _⟩

set_option maxHeartbeats 2000000 in
set_option maxRecDepth 100000 in
theorem trade_b4 (id bal : Int) (p : Option Addr) (n c : Nat) (pos : List Int) (mk q pr fee : Int) (w : World) (hl : pos.length = n) (hn : n ≤ 140737488351232) (h : Row w p pos) (he : accErr id bal pos n = 0) (hm : ¬ mk < 0) (hm2 : mk < n) (hq : betw (-1000) q 1000 = true) (hp : betw 0 pr 10000 = true)
    (s r : Int) (ha : addFrom 0 [bal, -(q * pr), wrap64 (-fee)] = (s, r)) (hr : ¬ r = 0) :
    Calls Tryd.prog 42 #[accV id bal p n c, .int .i64 mk, .int .i64 q, .int .i64 pr, .int .i64 fee] w fun e w' => e = .returned (.tuple #[noA, .int .i64 r]) ∧ Below w.heap.size w w' := by
  have eg : ∀ args w, (callFunc 59 args).run Tryd.prog w = .ok (.enter 59 args) w := enters_of Tryd.func59 (by kernel_rfl) rfl
  have CK := hide (fun W hW => check_any id bal p n c pos n W hl hn (row_below h hW))
  clear h
  rw [he] at CK
  have WO := hide (fun W => worth_yes q pr W hq hp)
  have ⟨m1, m2⟩ := mul_bd (n := q) (a := pr) (by have := betw_true hq; omega) (by have := betw_true hp; omega)
  have HA := hide ha
  clear he hq hp ha
  go_enter Tryd.func42, Tryd.ntmps42
  go_wp2_with fail
  refine (CK.out _ (below_alloc2 _ _ _)).mono ?_
  rintro e W ⟨rfl, rfl⟩
  go_wp2_with (first | (go_at_call 27; refine (WO.out _).mono ?_; rintro e w' ⟨rfl, rfl⟩) | fail)
  refine (add_any _ 3 3 [bal, -(q * pr), wrap64 (-fee)] _ rfl (by decide) (.inr ⟨_, _, rfl, ?_⟩)).mono ?_
  · intro i hi
    rw [World.cell?_alloc_at _ _ _ _ (by simp)]
    match i, hi with
    | 0, _ => rfl
    | 1, _ => rfl
    | 2, _ => rfl
  rintro e w' ⟨rfl, rfl⟩
  rw [HA.out]
  go_wp2_with fail
  go_at_fn 59
  refine (fail_any _ _).mono ?_
  rintro e W ⟨rfl, hb⟩
  have T := hide (three_below (three_alloc (three_alloc (three_made2 _ _ _ _ _) _) _) hb)
  have BW := hide ((below4 _ _ _ _ _).trans (hb.mono (by simp; omega)))
  obtain ⟨u0, u1, u2, t0, t1, t2, t3, t4, t5⟩ := three_facts T.out
  clear hb
  go_wp2
  obtain ⟨s0, s1, s2⟩ := three_read (three_set T.out (.int .i64 0) (.int .i64 0) (.slice none 0 0))
  refine bodyPost_ret (v := .tuple #[noA, .int .i64 r]) (by simp [results, Tryd.results42, go_sem, s0, s1, s2]) rfl ⟨rfl, three_below_set BW.out (by omega) _ _ _⟩

set_option maxHeartbeats 2000000 in
set_option maxRecDepth 100000 in
theorem trade_b5 (id bal : Int) (b off : Nat) (n c : Nat) (pos : List Int) (k : Nat) (q pr fee : Int) (w : World) (hl : pos.length = n) (hn : n ≤ 140737488351232) (h : Row w (some ⟨b, off, none⟩) pos) (he : accErr id bal pos n = 0) (hm2 : k < n) (hq : betw (-1000) q 1000 = true) (hp : betw 0 pr 10000 = true)
    (s : Int) (ha : addFrom 0 [bal, -(q * pr), wrap64 (-fee)] = (s, 0)) (x : Int) (hx : pos.getD k 0 = x) (hc : w.cell? ⟨b, off + k, none⟩ = some (.int .i64 x)) (hx1 : -1000 ≤ x) (hx2 : x ≤ 1000) (hg : pos1 (x + q) = false) :
    Calls Tryd.prog 42 #[accV id bal (some ⟨b, off, none⟩) n c, .int .i64 k, .int .i64 q, .int .i64 pr, .int .i64 fee] w fun e w' => e = .returned (.tuple #[noA, .int .i64 7]) ∧ Below w.heap.size w w' := by
  have eg : ∀ args w, (callFunc 59 args).run Tryd.prog w = .ok (.enter 59 args) w := enters_of Tryd.func59 (by kernel_rfl) rfl
  have CK := hide (fun W hW => check_any id bal (some ⟨b, off, none⟩) n c pos n W hl hn (row_below h hW))
  have H4 : ∀ o1 o2 o3 o4, ((((w.alloc o1).alloc o2).alloc o3).alloc o4).cell? ⟨b, off + k, none⟩ = some (.int .i64 x) := fun o1 o2 o3 o4 => cell_alloc (cell_alloc (cell_alloc (cell_alloc hc o1) o2) o3) o4
  clear h hc
  rw [he] at CK
  have WO := hide (fun W => worth_yes q pr W hq hp)
  have ⟨m1, m2⟩ := mul_bd (n := q) (a := pr) (by have := betw_true hq; omega) (by have := betw_true hp; omega)
  obtain ⟨q1, q2⟩ := betw_true hq
  have HA := hide ha
  have HX := hide hx
  have hkz : (k : Int) < n := by omega
  clear he hq hp ha hx
  go_enter Tryd.func42, Tryd.ntmps42
  go_wp2_with fail
  refine (CK.out _ (below_alloc2 _ _ _)).mono ?_
  rintro e W ⟨rfl, rfl⟩
  go_wp2_with (first | (go_at_call 27; refine (WO.out _).mono ?_; rintro e w' ⟨rfl, rfl⟩) | fail)
  refine (add_any _ 3 3 [bal, -(q * pr), wrap64 (-fee)] _ rfl (by decide) (.inr ⟨_, _, rfl, ?_⟩)).mono ?_
  · intro i hi
    rw [World.cell?_alloc_at _ _ _ _ (by simp)]
    match i, hi with
    | 0, _ => rfl
    | 1, _ => rfl
    | 2, _ => rfl
  rintro e w' ⟨rfl, rfl⟩
  rw [HA.out]
  go_wp2_with (first | (go_at_call 46; refine (tooGreat_any _ _).mono ?_; rintro e w' ⟨rfl, rfl⟩; rw [hg]) | fail)
  go_at_fn 59
  refine (fail_any _ _).mono ?_
  rintro e W ⟨rfl, hb⟩
  have T := hide (three_below (three_alloc (three_alloc (three_made2 _ _ _ _ _) _) _) hb)
  have BW := hide ((below4 _ _ _ _ _).trans (hb.mono (by simp; omega)))
  obtain ⟨u0, u1, u2, t0, t1, t2, t3, t4, t5⟩ := three_facts T.out
  clear hb
  go_wp2
  obtain ⟨s0, s1, s2⟩ := three_read (three_set T.out (.int .i64 0) (.int .i64 0) (.slice none 0 0))
  refine bodyPost_ret (v := .tuple #[noA, .int .i64 7]) (by simp [results, Tryd.results42, go_sem, s0, s1, s2]) rfl ⟨rfl, three_below_set BW.out (by omega) _ _ _⟩

end Go.Proofs.YtbphljnncbiddabDoor.Ac
