/-
  AccountEven, whole.
-/
import Derived.Test.YtkjgkmndpbbagaaAc8
namespace Go.Proofs.Ytkjgkmndpbbagaa.Ac
open Go.RowKit Go.Proofs.Ytkjgkmndpbbagaa.Num Go.Proofs.Ytkjgkmndpbbagaa.Fix Go.Proofs.Ytkjgkmndpbbagaa.AcP Go.Proofs.Ytkjgkmndpbbagaa.Adds

theorem worths_marks : ∀ (ps ms l : List Int), worths ps ms = some l → ps.length = ms.length → ∀ i, i < ms.length → 0 ≤ ms.getD i 0 ∧ ms.getD i 0 ≤ 10000
  | [], [], _, _, _, i, hi => by simp at hi
  | p :: ps, m :: ms, l, h, hl, i, hi => by
    simp only [worths] at h
    split at h
    next hb =>
      have hm := betw_true hb.2
      cases hw : worths ps ms with
      | none => rw [hw] at h; cases h
      | some l' =>
        match i, hi with
        | 0, _ => simpa using hm
        | i + 1, hi =>
          have := worths_marks ps ms l' hw (by simpa using hl) i (by simpa using hi)
          simpa using this
    next => cases h
  | [], _ :: _, _, _, hl, _, _ => by simp at hl
  | _ :: _, [], _, _, hl, _, _ => by simp at hl

theorem equity_marks {id bal : Int} {pos marks : List Int} {n : Int} (h : equityR id bal pos marks = (n, 0)) : money n = true ∧ ∀ i, i < marks.length → 0 ≤ marks.getD i 0 ∧ marks.getD i 0 ≤ 10000 := by
  have ⟨h1, _⟩ := equity_ok h
  obtain ⟨_, _, h3, _, _⟩ := accErr_ok h1
  unfold equityR at h
  rw [if_pos h1] at h
  split at h
  next => cases h
  next l hl => exact ⟨addFrom_money (by decide) h, worths_marks pos marks l hl (by omega)⟩

theorem even_any (id bal : Int) (p : Option Addr) (n c : Nat) (pos : List Int) (id2 bal2 : Int) (p2 : Option Addr) (n2 c2 : Nat) (pos2 : List Int) (mk q pr fee : Int) (p3 : Option Addr) (n3 c3 : Nat) (marks : List Int) (w : World) (hl : pos.length = n) (hl2 : pos2.length = n2) (hl3 : marks.length = n3) (hn : n ≤ 140737488351232) (hn2 : n2 ≤ 140737488351232) (h : Row w p pos) (h2 : Row w p2 pos2) (h3 : Row w p3 marks)
    (f1 : -9223372036854775808 ≤ fee) (f2 : fee ≤ 9223372036854775807) :
    Calls Try.prog 14 #[accV id bal p n c, accV id2 bal2 p2 n2 c2, .int .i64 mk, .int .i64 q, .int .i64 pr, .int .i64 fee, .slice p3 n3 c3] w fun e w' => e = .returned (.bool true) ∧ Below w.heap.size w w' := by
  by_cases ht : tradeErr id bal pos mk q pr fee = 0
  · obtain ⟨z1, z2, z3, z4, z5, z6, z7, z8⟩ := tradeErr_ok ht
    obtain ⟨k, rfl⟩ : ∃ k : Nat, mk = k := ⟨mk.toNat, by omega⟩
    by_cases he : (equityR id bal pos marks).2 = 0
    · by_cases he2 : (equityR id (bal - q * pr - fee) (pos.set k (pos.getD k 0 + q)) marks).2 = 0
      · obtain ⟨t1, e1⟩ : ∃ t1, equityR id bal pos marks = (t1, 0) := ⟨_, Prod.ext rfl he⟩
        obtain ⟨t2, e2⟩ : ∃ t2, equityR id (bal - q * pr - fee) (pos.set k (pos.getD k 0 + q)) marks = (t2, 0) := ⟨_, Prod.ext rfl he2⟩
        obtain ⟨hv, hkm⟩ := even1 ht e1 (by simpa using e2)
        simp only [Int.toNat_natCast] at hv
        have hkm' : k < marks.length := by omega
        obtain ⟨b3, off3, rfl, -⟩ := row_at h3 hkm'
        obtain ⟨g1, g2⟩ := equity_marks e1
        have g3 := money_true g1
        have g4 := g2 k hkm'
        have g5 := betw_true z3
        have g6 := betw_true z4
        have g7 := mul_bd (n := q) (a := marks.getD k 0 - pr) (by omega) (by omega)
        rw [hv] at e2
        exact even_3 id bal p n c pos id2 bal2 p2 n2 c2 pos2 k q pr fee b3 off3 n3 c3 marks w hl hl2 hl3 hn hn2 h h2 h3 ht t1 _ e1 e2 rfl hkm' g3.1 g3.2 g4.1 g4.2 g7.1 g7.2
      · obtain ⟨t1, e1⟩ : ∃ t1, equityR id bal pos marks = (t1, 0) := ⟨_, Prod.ext rfl he⟩
        exact even_2 id bal p n c pos id2 bal2 p2 n2 c2 pos2 k q pr fee p3 n3 c3 marks w hl hl2 hl3 hn hn2 h h2 h3 ht t1 _ e1 rfl he2
    · exact even_1 id bal p n c pos id2 bal2 p2 n2 c2 pos2 k q pr fee p3 n3 c3 marks w hl hl2 hl3 hn hn2 h h2 h3 ht _ _ rfl rfl he
  · exact even_bad id bal p n c pos id2 bal2 p2 n2 c2 mk q pr fee p3 n3 c3 w hl hn h f1 f2 ht
end Go.Proofs.Ytkjgkmndpbbagaa.Ac
