/-
  FundEven, plainly.
-/
import Derived.Test.YtbphljnncbiddabFuSet
namespace Go.Proofs.Ytbphljnncbiddab.Ac
open Go.RowKit Go.Proofs.Ytbphljnncbiddab.Num Go.Proofs.Ytbphljnncbiddab.Fix Go.Proofs.Ytbphljnncbiddab.AcP Go.Proofs.Ytbphljnncbiddab.FuP

theorem ev_bd {A : List Acc} {mk mark rate : Int} (h : setE mk mark rate A = 0) (hn : A.length ≤ 8) (k : Nat) :
    (-8000000000000 ≤ balS (A.take k) ∧ balS (A.take k) ≤ 8000000000000) ∧ (-8000000000000 ≤ balS ((A.map (setA mk mark rate)).take k) ∧ balS ((A.map (setA mk mark rate)).take k) ≤ 8000000000000) ∧ (-8000 ≤ posS mk.toNat (A.take k) ∧ posS mk.toNat (A.take k) ≤ 8000) := by
  have hz := setE_zero h
  have h1 := balS_bd (A.take k) (fun a ha => (pay_facts (hz a (List.mem_of_mem_take ha)).1).1)
  have h2 := balS_bd ((A.map (setA mk mark rate)).take k) (fun a ha => by
    obtain ⟨b, hb, rfl⟩ := List.mem_map.1 (List.mem_of_mem_take ha)
    exact (hz b hb).2)
  have h3 := posS_bd (j := mk.toNat) (A.take k) (fun a ha => (pay_facts (hz a (List.mem_of_mem_take ha)).1).2.1)
  have e1 : ((A.take k).length : Int) ≤ 8 := by simp; omega
  have e2 : (((A.map (setA mk mark rate)).take k).length : Int) ≤ 8 := by simp; omega
  omega

/-- what is reckoned up to k. -/
structure EInv (A : List Acc) (mk mark rate : Int) (k : Nat) (was now ps : Int) : Prop where
  was : was = balS (A.take k)
  now : now = balS ((A.map (setA mk mark rate)).take k)
  ps : ps = posS mk.toNat (A.take k)
theorem EInv.start (A : List Acc) (mk mark rate : Int) : EInv A mk mark rate 0 0 0 0 := ⟨rfl, rfl, rfl⟩
theorem EInv.next {A : List Acc} {mk mark rate : Int} {k : Nat} {was now ps : Int} (h : EInv A mk mark rate k was now ps) (hk : k < A.length) {b d x : Int} (hb : (A[k]).2.1 = b) (hd : (setA mk mark rate A[k]).2.1 = d) (hx : (A[k]).2.2.getD mk.toNat 0 = x) :
    EInv A mk mark rate (k + 1) (was + b) (now + d) (ps + x) := by
  refine ⟨?_, ?_, ?_⟩
  · rw [balS_take hk, h.was, hb]
  · rw [balS_take (by simpa using hk), h.now, List.getElem_map, hd]
  · rw [posS_take hk, h.ps, hx]
theorem EInv.bd {A : List Acc} {mk mark rate : Int} {k : Nat} {was now ps : Int} (h : EInv A mk mark rate k was now ps) (he : setE mk mark rate A = 0) (hn : A.length ≤ 8) : (-8000000000000 ≤ was ∧ was ≤ 8000000000000) ∧ (-8000000000000 ≤ now ∧ now ≤ 8000000000000) ∧ (-8000 ≤ ps ∧ ps ≤ 8000) := by
  have := ev_bd he hn k
  rw [← h.was, ← h.now, ← h.ps] at this
  exact this
theorem EInv.done {A : List Acc} {mk mark rate : Int} {was now ps : Int} (h : EInv A mk mark rate A.length was now ps) (he : setE mk mark rate A = 0) :
    was = now + setL mk mark rate A ∧ (ps = 0 → 0 ≤ setL mk mark rate A ∧ (setL mk mark rate A = 0 ∨ setL mk mark rate A < A.length)) := by
  have e1 := h.was
  have e2 := h.now
  have e3 := h.ps
  rw [List.take_length] at e1 e3
  rw [List.take_of_length_le (by simp)] at e2
  refine ⟨by rw [e1, e2]; exact no_money A, fun h0 => left_even he (by rw [← e3]; exact h0)⟩
end Go.Proofs.Ytbphljnncbiddab.Ac
