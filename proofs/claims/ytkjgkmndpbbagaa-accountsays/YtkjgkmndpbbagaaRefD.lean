/-
  The reference's chapter 4 by contracts: Traded.
-/
import Derived.Test.YtkjgkmndpbbagaaRefC
namespace Go.Proofs.Ytkjgkmndpbbagaa.Ac
open Go.RowKit Go.Proofs.Ytkjgkmndpbbagaa.Num Go.Proofs.Ytkjgkmndpbbagaa.Fix Go.Proofs.Ytkjgkmndpbbagaa.AcP

set_option maxHeartbeats 2000000 in
set_option maxRecDepth 100000 in
theorem traded_b1 (id bal : Int) (p : Option Addr) (n c : Nat) (pos : List Int) (mk q pr fee : Int) (w : World) (hl : pos.length = n) (h : Row w p pos) (he : ¬ accErr id bal pos n = 0) :
    Calls Try.prog 61 #[accV id bal p n c, .int .i64 mk, .int .i64 q, .int .i64 pr, .int .i64 fee] w fun e w' => e = .returned (.tuple #[noA, .int .i64 (accErr id bal pos n)]) ∧ Below w.heap.size w w' := by
  have CK := hide (fun W hW => checkAccount_any id bal p n c pos n W hl (row_below h hW))
  clear h
  generalize accErr id bal pos n = r at he CK ⊢
  go_enter Try.func61, Try.ntmps61
  go_wp2_with fail
  refine (CK.out _ (below_alloc2 _ _ _)).mono ?_
  rintro e W ⟨rfl, rfl⟩
  go_wp2
  refine bodyPost_ret (v := .tuple #[noA, .int .i64 r]) (by simp [results, Try.results61, go_sem]) rfl ⟨rfl, below3 _ _ _ _⟩

set_option maxHeartbeats 2000000 in
set_option maxRecDepth 100000 in
theorem traded_b2 (id bal : Int) (p : Option Addr) (n c : Nat) (pos : List Int) (mk q pr fee : Int) (w : World) (hl : pos.length = n) (h : Row w p pos) (he : accErr id bal pos n = 0) (hm : mk < 0 ∨ (n : Int) ≤ mk) :
    Calls Try.prog 61 #[accV id bal p n c, .int .i64 mk, .int .i64 q, .int .i64 pr, .int .i64 fee] w fun e w' => e = .returned (.tuple #[noA, .int .i64 5]) ∧ Below w.heap.size w w' := by
  have CK := hide (fun W hW => checkAccount_any id bal p n c pos n W hl (row_below h hW))
  clear h
  rw [he] at CK
  clear he
  by_cases h1 : mk < 0
  · clear hm
    go_enter Try.func61, Try.ntmps61
    go_wp2_with fail
    refine (CK.out _ (below_alloc2 _ _ _)).mono ?_
    rintro e W ⟨rfl, rfl⟩
    go_wp2
    refine bodyPost_ret (v := .tuple #[noA, .int .i64 5]) (by simp [results, Try.results61, go_sem]) rfl ⟨rfl, below3 _ _ _ _⟩
  · have h2 : (n : Int) ≤ mk := by omega
    clear hm
    go_enter Try.func61, Try.ntmps61
    go_wp2_with fail
    refine (CK.out _ (below_alloc2 _ _ _)).mono ?_
    rintro e W ⟨rfl, rfl⟩
    go_wp2
    refine bodyPost_ret (v := .tuple #[noA, .int .i64 5]) (by simp [results, Try.results61, go_sem]) rfl ⟨rfl, below3 _ _ _ _⟩

set_option maxHeartbeats 2000000 in
set_option maxRecDepth 100000 in
theorem traded_b3 (id bal : Int) (p : Option Addr) (n c : Nat) (pos : List Int) (mk q pr fee : Int) (w : World) (hl : pos.length = n) (h : Row w p pos) (he : accErr id bal pos n = 0) (hm : ¬ mk < 0) (hm2 : mk < n) (hq : betw (-1000) q 1000 = false ∨ betw 0 pr 10000 = false) :
    Calls Try.prog 61 #[accV id bal p n c, .int .i64 mk, .int .i64 q, .int .i64 pr, .int .i64 fee] w fun e w' => e = .returned (.tuple #[noA, .int .i64 3]) ∧ Below w.heap.size w w' := by
  have CK := hide (fun W hW => checkAccount_any id bal p n c pos n W hl (row_below h hW))
  clear h
  rw [he] at CK
  have WO := hide (fun W => RefA.worthOf_no q pr W hq)
  clear he hq
  go_enter Try.func61, Try.ntmps61
  go_wp2_with fail
  refine (CK.out _ (below_alloc2 _ _ _)).mono ?_
  rintro e W ⟨rfl, rfl⟩
  go_wp2_with (first | (go_at_call 21; refine (WO.out _).mono ?_; rintro e w' ⟨rfl, hw'⟩; rw [hw']; clear hw') | (go_at_call 24; refine (RefA.isMoney_any _ _).mono ?_; rintro e w' ⟨rfl, hw'⟩; rw [hw']; clear hw'))
  refine bodyPost_ret (v := .tuple #[noA, .int .i64 3]) (by simp [results, Try.results61, go_sem]) rfl ⟨rfl, below3 _ _ _ _⟩

set_option maxHeartbeats 2000000 in
set_option maxRecDepth 100000 in
theorem traded_b4 (id bal : Int) (p : Option Addr) (n c : Nat) (pos : List Int) (mk q pr fee : Int) (w : World) (hl : pos.length = n) (h : Row w p pos) (he : accErr id bal pos n = 0) (hm : ¬ mk < 0) (hm2 : mk < n) (hq : betw (-1000) q 1000 = true) (hp : betw 0 pr 10000 = true) (r : Int)
    (hr : (money (bal - q * pr) = false ∧ r = 7) ∨ (money (bal - q * pr) = true ∧ money fee = false ∧ r = 3) ∨ (money (bal - q * pr) = true ∧ money fee = true ∧ money (bal - q * pr - fee) = false ∧ r = 7)) :
    Calls Try.prog 61 #[accV id bal p n c, .int .i64 mk, .int .i64 q, .int .i64 pr, .int .i64 fee] w fun e w' => e = .returned (.tuple #[noA, .int .i64 r]) ∧ Below w.heap.size w w' := by
  have CK := hide (fun W hW => checkAccount_any id bal p n c pos n W hl (row_below h hW))
  clear h
  rw [he] at CK
  have WO := hide (fun W => RefA.worthOf_yes q pr W hq hp)
  have hco := money_true (cost_money hq hp)
  obtain ⟨ba1, ba2⟩ := money_true (accErr_ok he).2.2.2.1
  generalize q * pr = co at WO hco hr
  obtain ⟨co1, co2⟩ := hco
  clear he hq hp
  rcases hr with ⟨h1, rfl⟩ | ⟨h1, h2, rfl⟩ | ⟨h1, h2, h3, rfl⟩
  · go_enter Try.func61, Try.ntmps61
    go_wp2_with fail
    refine (CK.out _ (below_alloc2 _ _ _)).mono ?_
    rintro e W ⟨rfl, rfl⟩
    go_wp2_with (first | (go_at_call 21; refine (WO.out _).mono ?_; rintro e w' ⟨rfl, hw'⟩; rw [hw']; clear hw') | (go_at_call 24; refine (RefA.isMoney_any _ _).mono ?_; rintro e w' ⟨rfl, hw'⟩; rw [hw']; clear hw'))
    refine bodyPost_ret (v := .tuple #[noA, .int .i64 7]) (by simp [results, Try.results61, go_sem]) rfl ⟨rfl, below3 _ _ _ _⟩
  · go_enter Try.func61, Try.ntmps61
    go_wp2_with fail
    refine (CK.out _ (below_alloc2 _ _ _)).mono ?_
    rintro e W ⟨rfl, rfl⟩
    go_wp2_with (first | (go_at_call 21; refine (WO.out _).mono ?_; rintro e w' ⟨rfl, hw'⟩; rw [hw']; clear hw') | (go_at_call 24; refine (RefA.isMoney_any _ _).mono ?_; rintro e w' ⟨rfl, hw'⟩; rw [hw']; clear hw'))
    refine bodyPost_ret (v := .tuple #[noA, .int .i64 3]) (by simp [results, Try.results61, go_sem]) rfl ⟨rfl, below3 _ _ _ _⟩
  · obtain ⟨f1, f2⟩ := money_true h2
    go_enter Try.func61, Try.ntmps61
    go_wp2_with fail
    refine (CK.out _ (below_alloc2 _ _ _)).mono ?_
    rintro e W ⟨rfl, rfl⟩
    go_wp2_with (first | (go_at_call 21; refine (WO.out _).mono ?_; rintro e w' ⟨rfl, hw'⟩; rw [hw']; clear hw') | (go_at_call 24; refine (RefA.isMoney_any _ _).mono ?_; rintro e w' ⟨rfl, hw'⟩; rw [hw']; clear hw'))
    refine bodyPost_ret (v := .tuple #[noA, .int .i64 7]) (by simp [results, Try.results61, go_sem]) rfl ⟨rfl, below3 _ _ _ _⟩
end Go.Proofs.Ytkjgkmndpbbagaa.Ac
