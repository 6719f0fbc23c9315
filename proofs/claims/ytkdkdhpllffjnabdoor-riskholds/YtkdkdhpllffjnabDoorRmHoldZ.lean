/-
  RiskHolds, walked: all cases together.
-/
import Derived.Test.YtkdkdhpllffjnabDoorRmHoldA
import Derived.Test.YtkdkdhpllffjnabDoorRmHoldB
import Derived.Test.YtkdkdhpllffjnabDoorRmHoldC
import Derived.Test.YtkdkdhpllffjnabDoorRmHoldD
namespace Go.Proofs.YtkdkdhpllffjnabDoor.Rm
open Go.RowKit Go.Proofs.YtkdkdhpllffjnabDoor.Num Go.Proofs.YtkdkdhpllffjnabDoor.Fix Go.Proofs.YtkdkdhpllffjnabDoor.AcP Go.Proofs.YtkdkdhpllffjnabDoor.RkP Go.Proofs.YtkdkdhpllffjnabDoor.Ac Go.Proofs.YtkdkdhpllffjnabDoor.Rk

theorem mark_facts {bids asks : List Bk.Odr} {idx last : Int} (h : (markR bids asks idx last).2 = 0) :
    1 ≤ idx ∧ idx ≤ 10000 ∧ 1 ≤ (markR bids asks idx last).1 ∧ idx - idx.tdiv 20 ≤ (markR bids asks idx last).1 ∧ (markR bids asks idx last).1 ≤ idx + idx.tdiv 20 := by
  unfold markR at *
  split at h
  · rename_i hm
    rw [if_pos hm]
    obtain ⟨-, h2, -⟩ := marketErr_ok hm
    exact ⟨(betw_true h2).1, (betw_true h2).2, mark_bd _ _ h2⟩
  · rename_i hm
    exact absurd h hm
theorem sound_facts {id bal : Int} {pos marks : List Int} (h : (soundR id bal pos marks).2.2 = 0) (hb : (soundR id bal pos marks).1 = true) : (soundR id bal pos marks).2.1 = true := by
  unfold soundR at *
  split at h
  · rename_i hm
    obtain ⟨x, y, hxy⟩ : ∃ x y, marginsR id bal pos marks = (x, y, 0) := ⟨_, _, by rw [← hm]⟩
    have := margins_order hxy
    rw [if_pos hm] at hb ⊢
    split at h
    · rename_i he
      rw [if_pos he] at hb ⊢
      rw [hxy] at hb ⊢
      simp only [decide_eq_true_eq] at hb ⊢
      omega
    · rename_i he
      exact absurd h he
  · rename_i hm
    exact absurd h hm
theorem sound_zero {id bal : Int} {pos marks : List Int} (hm : (marginsR id bal pos marks).2.2 = 0) (he : (equityR id bal pos marks).2 = 0) : (soundR id bal pos marks).2.2 = 0 := by
  unfold soundR
  rw [if_pos hm, if_pos he]
theorem bank_facts {id bal : Int} {pos marks : List Int} {mk : Int} (h : (bankR id bal pos marks mk).2 = 0) : (equityR id bal pos marks).2 = 0 ∧ ∃ k : Nat, mk = k ∧ k < pos.length ∧ ¬ pos.getD k 0 = 0 := by
  unfold bankR at h
  split at h
  · rename_i he
    refine ⟨he, ?_⟩
    split at h
    · rename_i hb
      obtain ⟨b1, b2⟩ := betw_true hb
      split at h
      · simp at h
      · rename_i hq
        exact ⟨mk.toNat, by omega, by omega, hq⟩
    · simp at h
  · rename_i he
    exact absurd h he

theorem holds_any (p p' : Option Addr) (c c' : Nat) (bids asks : List Bk.Odr) (idx last : Int) (id bal : Int) (ap mp : Option Addr) (n ac n2 mc : Nat) (pos marks : List Int) (mk : Int) (w : World)
    (ho : Bk.ORow w p bids) (ho' : Bk.ORow w p' asks) (hnb : bids.length ≤ 140737488351232) (hna : asks.length ≤ 140737488351232)
    (hl : pos.length = n) (hl2 : marks.length = n2) (hn : n ≤ 140737488351232) (hL : Laid w) (h : Row w ap pos) (h' : Row w mp marks) :
    Calls Tryd.prog 4 #[mktV p p' bids.length c asks.length c' idx last, accV id bal ap n ac, .slice mp n2 mc, .int .i64 mk] w fun e w' => e = .returned (.bool true) ∧ Below w.heap.size w w' := by
  have MK := hide (fun W hW => mark_any p p' c c' bids asks idx last W (Bk.orow_below ho hW) (Bk.orow_below ho' hW) hnb hna)
  have MA := hide (fun W hW => margins_any id bal ap mp n ac n2 mc pos marks W hl hl2 hn (hL.next hW) (row_below h hW) (row_below h' hW))
  have WE := hide (fun W hW => weighed_any W (hL.next hW))
  have SO := hide (fun W hW => sound_any id bal ap mp n ac n2 mc pos marks W hl hl2 hn (hL.next hW) (row_below h hW) (row_below h' hW))
  have BA := hide (fun W hW => bankrupt_any id bal ap mp n ac n2 mc pos marks mk W hl hl2 hn (row_below h hW) (row_below h' hW))
  have i1 : (markR bids asks idx last).2 = 0 → 1 ≤ idx := fun e => (mark_facts e).1
  have i2 : (markR bids asks idx last).2 = 0 → idx ≤ 10000 := fun e => (mark_facts e).2.1
  have hmv := fun e => (mark_facts (bids := bids) (asks := asks) (idx := idx) (last := last) e).2.2
  have hxy : (marginsR id bal pos marks).2.2 = 0 → 0 ≤ (marginsR id bal pos marks).2.1 ∧ (marginsR id bal pos marks).2.1 ≤ (marginsR id bal pos marks).1 := fun e => margins_order (Prod.ext rfl (Prod.ext rfl e))
  by_cases hbad : ¬ (marginsR id bal pos marks).2.2 = 0 ∨ ¬ (bankR id bal pos marks mk).2 = 0
  · exact holds_bad p p' bids.length c asks.length c' idx last id bal ap mp n ac n2 mc mk w _ _ _ _ _ _ _ _ _ _ i1 i2 hmv hxy sound_facts hbad MK MA WE SO BA
  · have hm : (marginsR id bal pos marks).2.2 = 0 := Classical.byContradiction fun e => hbad (.inl e)
    have hb : (bankR id bal pos marks mk).2 = 0 := Classical.byContradiction fun e => hbad (.inr e)
    obtain ⟨he, k, rfl, hk, hq⟩ := bank_facts hb
    obtain ⟨f0, f1, -, f3⟩ := equity_facts he
    have BR := broke he hk hq
    obtain ⟨y1, y2⟩ := hxy hm
    have hs := sound_zero hm he
    have hsf := sound_facts hs
    obtain rfl : n2 = n := by omega
    rcases h with rfl | ⟨b, off, rfl, hc⟩
    · simp at hk
    have hrow : Row w (some ⟨b, off, none⟩) pos := .inr ⟨b, off, rfl, hc⟩
    have CL := hide (fun W hW => Own.clone_any mp n2 mc marks W hl2 (by have := accErr_ok f0; have := betw_true this.2.1; omega) (row_below h' hW))
    have EQ := hide (fun (W : World) (ms : List Int) (mq : Option Addr) (cq : Nat) (hW : Below w.heap.size w W) (hml : ms.length = n2) (hr : Row W mq ms) => equity_any id bal (some ⟨b, off, none⟩) mq n2 ac n2 cq pos ms W hl hml hn (row_below hrow hW) hr)
    have CQ := hide (hc k hk)
    have KN : Hid (k < n2) := by have : k < n2 := by omega
                                 exact this
    rw [hm] at MA
    rw [hb] at BA
    rw [hs] at SO
    by_cases hme : (markR bids asks idx last).2 = 0
    · cases hsb : (soundR id bal pos marks).1
      · rw [hsb] at SO
        exact holds_B p p' bids.length c asks.length c' idx last id bal b off mp n2 ac mc k w _ _ _ _ _ _ pos marks _ i1 i2 hmv y1 y2 hme KN hl2 CQ hq rfl BR MK MA WE SO BA CL EQ
      · rw [hsb, hsf hsb] at SO
        exact holds_A p p' bids.length c asks.length c' idx last id bal b off mp n2 ac mc k w _ _ _ _ _ pos marks _ i1 i2 hmv y1 y2 hme KN hl2 CQ hq rfl BR MK MA WE SO BA CL EQ
    · cases hsb : (soundR id bal pos marks).1
      · rw [hsb] at SO
        exact holds_D p p' bids.length c asks.length c' idx last id bal b off mp n2 ac mc k w _ _ _ _ _ _ pos marks _ y1 y2 hme KN hl2 CQ hq rfl BR MK MA WE SO BA CL EQ
      · rw [hsb, hsf hsb] at SO
        exact holds_C p p' bids.length c asks.length c' idx last id bal b off mp n2 ac mc k w _ _ _ _ _ pos marks _ y1 y2 hme KN hl2 CQ hq rfl BR MK MA WE SO BA CL EQ
end Go.Proofs.YtkdkdhpllffjnabDoor.Rm
