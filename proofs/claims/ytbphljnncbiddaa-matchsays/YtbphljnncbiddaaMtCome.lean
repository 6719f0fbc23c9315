/-
  Package match by contracts: mayCome, allows, Come.
-/
import Derived.Test.YtbphljnncbiddaaMtTake2
namespace Go.Proofs.Ytbphljnncbiddaa.Bk
open Go.RowKit Go.Sort Go.Maps Go.Proofs.Ytbphljnncbiddaa.Mix

def mayComeE (bids asks : List Odr) (id how : Int) : Int :=
  if bookErr bids asks ≠ 0 then bookErr bids asks else if findE bids asks id = 0 then 6 else if how < 1 ∨ 4 < how then 4 else 0
def allowsE (how : Int) (nf : Nat) (left : Int) (met : Bool) : Int :=
  if how = 4 ∧ (0 < nf ∨ met = true) then 9 else if met = true then 11 else if how = 3 ∧ 0 < left then 10 else 0
def restO (o : Odr) (left : Int) : Odr := (oid o, oac o, osd o, opr o, left)
def stays (how left : Int) : Bool := decide (left = 0) || decide (how = 2)
def comeE (bids asks : List Odr) (o : Odr) (how : Int) : Int :=
  if mayComeE bids asks (oid o) how ≠ 0 then mayComeE bids asks (oid o) how
  else if takeErr bids asks o ≠ 0 then takeErr bids asks o
  else if allowsE how (takeT bids asks o).2.1.length (takeT bids asks o).2.2.1 (takeT bids asks o).2.2.2 ≠ 0 then allowsE how (takeT bids asks o).2.1.length (takeT bids asks o).2.2.1 (takeT bids asks o).2.2.2
  else if stays how (takeT bids asks o).2.2.1 = true then 0
  else mayRest (takeB bids asks o) (takeA bids asks o) (restO o (takeT bids asks o).2.2.1)

theorem come1_any (x : Int) (w : World) :
    Calls Try.prog 92 #[.int .i64 x] w fun e w' => e = .returned (.tuple #[.agg #[.slice none 0 0, .slice none 0 0], .slice none 0 0, .int .i64 0, .int .i64 x]) ∧ Below w.heap.size w w' := by
  go_enter Try.func92, Try.ntmps92
  go_wp2
  refine bodyPost_ret (v := .tuple #[.agg #[.slice none 0 0, .slice none 0 0], .slice none 0 0, .int .i64 0, .int .i64 x]) (by simp [results, Try.results92, go_sem]) rfl ⟨rfl, ?_⟩
  exact (Below.refl _ w).alloc (Nat.le_refl _) _

theorem allows_any (how : Int) (nf : Nat) (left : Int) (met : Bool) (w : World) :
    Calls Try.prog 94 #[.int .i64 how, .int .i64 (nf : Nat), .int .i64 left, .bool met] w fun e w' => e = .returned (.int .i64 (allowsE how nf left met)) ∧ w' = w := by
  unfold allowsE
  by_cases h1 : how = 4
  · subst h1
    by_cases h2 : 0 < nf
    · have h2' : (0 : Int) < (nf : Int) := by omega
      rw [if_pos ⟨rfl, .inl h2⟩]
      go_enter Try.func94, Try.ntmps94
      go_wp2
      go_ret
      exact ⟨rfl, rfl⟩
    · have h2' : ¬ (0 : Int) < (nf : Int) := by omega
      cases met with
      | true =>
        rw [if_pos ⟨rfl, .inr rfl⟩]
        go_enter Try.func94, Try.ntmps94
        go_wp2
        go_ret
        exact ⟨rfl, rfl⟩
      | false =>
        rw [if_neg (by rintro ⟨_, h | h⟩ <;> first | exact h2 h | cases h), if_neg (by simp), if_neg (by simp)]
        go_enter Try.func94, Try.ntmps94
        go_wp2
        go_ret
        exact ⟨rfl, rfl⟩
  · have e1 : (how == 4) = false := by simp [h1]
    rw [if_neg (fun e => h1 e.1)]
    cases met with
    | true =>
      rw [if_pos rfl]
      go_enter Try.func94, Try.ntmps94
      go_wp2
      go_ret
      exact ⟨rfl, rfl⟩
    | false =>
      rw [if_neg (by simp)]
      by_cases h3 : how = 3
      · subst h3
        by_cases h4 : 0 < left
        · rw [if_pos ⟨rfl, h4⟩]
          go_enter Try.func94, Try.ntmps94
          go_wp2
          go_ret
          exact ⟨rfl, rfl⟩
        · rw [if_neg (fun e => h4 e.2)]
          go_enter Try.func94, Try.ntmps94
          go_wp2
          go_ret
          exact ⟨rfl, rfl⟩
      · have e3 : (how == 3) = false := by simp [h3]
        rw [if_neg (fun e => h3 e.1)]
        go_enter Try.func94, Try.ntmps94
        go_wp2
        go_ret
        exact ⟨rfl, rfl⟩

set_option maxHeartbeats 1000000 in
set_option maxRecDepth 100000 in
theorem mayCome_any (p p' : Option Addr) (c c' : Nat) (bids asks : List Odr) (id how : Int) (w : World) (h : ORow w p bids) (h' : ORow w p' asks) (hn : bids.length ≤ 140737488351232) (hn' : asks.length ≤ 140737488351232) :
    Calls Try.prog 93 #[.agg #[.slice p bids.length c, .slice p' asks.length c'], .int .i64 id, .int .i64 how] w fun e w' => e = .returned (.int .i64 (mayComeE bids asks id how)) ∧ Below w.heap.size w w' := by
  have hb0 : ∀ o1, Below w.heap.size w (w.alloc o1) := fun o1 => ((Below.refl _ w).alloc (Nat.le_refl _) _)
  have CK := hide (fun X (hX : Below w.heap.size w X) => check_any p p' c c' bids asks X (orow_below h hX) (orow_below h' hX) hn hn')
  have FI := hide (fun X (hX : Below w.heap.size w X) => find_any p p' c c' bids asks id X (orow_below h hX) (orow_below h' hX) hn hn')
  unfold mayComeE
  generalize findE bids asks id = fe at FI ⊢
  generalize findO bids asks id = fo at FI ⊢
  generalize bookErr bids asks = r at CK ⊢
  generalize bids.length = nb at CK FI ⊢
  generalize asks.length = na at CK FI ⊢
  clear h h' hn hn'
  by_cases hr : r = 0
  · subst hr
    rw [if_neg (by simp)]
    obtain ⟨fa, fac, fsd, fpr, fq⟩ := fo
    by_cases hf : fe = 0
    · subst hf
      rw [if_pos rfl]
      go_enter Try.func93, Try.ntmps93
      go_wp2_with fail
      refine (CK.out _ (hb0 _)).mono ?_
      rintro e W ⟨rfl, hb⟩
      have BW := hide ((hb0 _).trans (hb.mono (by simp)))
      have e0 : W.cell? ⟨w.heap.size, 0, none⟩ = some (.slice p nb c) := (hb.cell (by simp)).trans (new_cell _ _ _ _ _ rfl)
      have e1 : W.cell? ⟨w.heap.size, 1, none⟩ = some (.slice p' na c') := (hb.cell (by simp)).trans (new_cell _ _ _ _ _ rfl)
      clear hb hb0 CK
      go_wp2_with fail
      refine (FI.out _ BW.out).mono ?_
      rintro e W2 ⟨rfl, hb2⟩
      have B2 := BW.out.trans (hb2.mono BW.out.size)
      have B3 := hide (B2.alloc B2.size (.cells #[.int .i64 fa, .int .i64 fac, .int .i64 fsd, .int .i64 fpr, .int .i64 fq] 44))
      clear hb2 e0 e1 FI B2 BW
      go_wp2
      go_ret
      exact ⟨rfl, B3.out⟩
    · have ef : (fe == 0) = false := by simp [hf]
      rw [if_neg hf]
      by_cases h1 : how < 1
      · rw [if_pos (.inl h1)]
        go_enter Try.func93, Try.ntmps93
        go_wp2_with fail
        refine (CK.out _ (hb0 _)).mono ?_
        rintro e W ⟨rfl, hb⟩
        have BW := hide ((hb0 _).trans (hb.mono (by simp)))
        have e0 : W.cell? ⟨w.heap.size, 0, none⟩ = some (.slice p nb c) := (hb.cell (by simp)).trans (new_cell _ _ _ _ _ rfl)
        have e1 : W.cell? ⟨w.heap.size, 1, none⟩ = some (.slice p' na c') := (hb.cell (by simp)).trans (new_cell _ _ _ _ _ rfl)
        clear hb hb0 CK
        go_wp2_with fail
        refine (FI.out _ BW.out).mono ?_
        rintro e W2 ⟨rfl, hb2⟩
        have B2 := BW.out.trans (hb2.mono BW.out.size)
        have B3 := hide (B2.alloc B2.size (.cells #[.int .i64 fa, .int .i64 fac, .int .i64 fsd, .int .i64 fpr, .int .i64 fq] 44))
        clear hb2 e0 e1 FI B2 BW
        go_wp2
        go_ret
        exact ⟨rfl, B3.out⟩
      · by_cases h4 : 4 < how
        · rw [if_pos (.inr h4)]
          go_enter Try.func93, Try.ntmps93
          go_wp2_with fail
          refine (CK.out _ (hb0 _)).mono ?_
          rintro e W ⟨rfl, hb⟩
          have BW := hide ((hb0 _).trans (hb.mono (by simp)))
          have e0 : W.cell? ⟨w.heap.size, 0, none⟩ = some (.slice p nb c) := (hb.cell (by simp)).trans (new_cell _ _ _ _ _ rfl)
          have e1 : W.cell? ⟨w.heap.size, 1, none⟩ = some (.slice p' na c') := (hb.cell (by simp)).trans (new_cell _ _ _ _ _ rfl)
          clear hb hb0 CK
          go_wp2_with fail
          refine (FI.out _ BW.out).mono ?_
          rintro e W2 ⟨rfl, hb2⟩
          have B2 := BW.out.trans (hb2.mono BW.out.size)
          have B3 := hide (B2.alloc B2.size (.cells #[.int .i64 fa, .int .i64 fac, .int .i64 fsd, .int .i64 fpr, .int .i64 fq] 44))
          clear hb2 e0 e1 FI B2 BW
          go_wp2
          go_ret
          exact ⟨rfl, B3.out⟩
        · rw [if_neg (by omega)]
          go_enter Try.func93, Try.ntmps93
          go_wp2_with fail
          refine (CK.out _ (hb0 _)).mono ?_
          rintro e W ⟨rfl, hb⟩
          have BW := hide ((hb0 _).trans (hb.mono (by simp)))
          have e0 : W.cell? ⟨w.heap.size, 0, none⟩ = some (.slice p nb c) := (hb.cell (by simp)).trans (new_cell _ _ _ _ _ rfl)
          have e1 : W.cell? ⟨w.heap.size, 1, none⟩ = some (.slice p' na c') := (hb.cell (by simp)).trans (new_cell _ _ _ _ _ rfl)
          clear hb hb0 CK
          go_wp2_with fail
          refine (FI.out _ BW.out).mono ?_
          rintro e W2 ⟨rfl, hb2⟩
          have B2 := BW.out.trans (hb2.mono BW.out.size)
          have B3 := hide (B2.alloc B2.size (.cells #[.int .i64 fa, .int .i64 fac, .int .i64 fsd, .int .i64 fpr, .int .i64 fq] 44))
          clear hb2 e0 e1 FI B2 BW
          go_wp2
          go_ret
          exact ⟨rfl, B3.out⟩
  · have er : (r == 0) = false := by simp [hr]
    rw [if_pos hr]
    go_enter Try.func93, Try.ntmps93
    go_wp2_with fail
    refine (CK.out _ (hb0 _)).mono ?_
    rintro e W ⟨rfl, hb⟩
    have BW := hide ((hb0 _).trans (hb.mono (by simp)))
    clear hb hb0 CK FI
    go_wp2
    go_ret
    exact ⟨rfl, BW.out⟩
end Go.Proofs.Ytbphljnncbiddaa.Bk
