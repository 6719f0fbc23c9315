/-
  Plain mathematics: the best one, looked for in a list of all orders.
-/
import Derived.Test.YtbphljnncbiddaaMtFairP
import Derived.Test.YtbphljnncbiddaaRefL
import Derived.Test.YtbphljnncbiddaaRefAll
import Derived.Test.YtbphljnncbiddaaMtMat
import Derived.BigQuiet
namespace Go.Proofs.Ytbphljnncbiddaa.Tk
open Go.Proofs.Ytbphljnncbiddaa.Bk Go.Proofs.Ytbphljnncbiddaa.Rk

theorem meets_xes {o : Odr} {p : Int} (h : osd o = 1 ∨ osd o = -1) : meets o p = xes o p := by
  unfold meets xes
  rcases h with h | h <;> rw [h]
  · rw [if_pos rfl, decide_eq_decide]; omega
  · rw [if_neg (by decide), decide_eq_decide]; omega

/-- all orders: those that are passed over, what is left of the other side, again such. -/
structure TK (o : Odr) (L A1 Y R : List Odr) : Prop where
  eq : L = A1 ++ (Y ++ R)
  skA : ∀ x, x ∈ A1 → osd x = osd o ∨ oqt x = 0
  skR : ∀ x, x ∈ R → osd x = osd o ∨ oqt x = 0
  y : Side (-(osd o)) Y

/-- does the first one of what is left meet o? -/
def hm (o : Odr) : List Odr → Bool
  | [] => false
  | y :: _ => xes o (opr y)
/-- the best one among the first i. -/
def bestAt (o : Odr) (Y : List Odr) (k0 i : Nat) : Int := if hm o Y = true ∧ k0 < i then (k0 : Int) else -1

theorem hm_cons (o y : Odr) (Z : List Odr) : hm o (y :: Z) = xes o (opr y) := rfl
theorem bestAt_zero (o : Odr) (Y : List Odr) (k0 : Nat) : bestAt o Y k0 0 = -1 := by unfold bestAt; rw [if_neg (by omega)]
theorem worse {o y z : Odr} (ho : osd o = 1 ∨ osd o = -1) (hy : osd y = -(osd o)) (h : Bk.ahead y z = true) (hx : xes o (opr y) = false) : xes o (opr z) = false := by
  rw [ahead_iff] at h
  unfold xes at *
  rcases ho with ho | ho <;> rw [ho] at hx hy ⊢
  · rw [if_pos rfl] at hx ⊢
    simp at hx ⊢
    omega
  · rw [if_neg (by decide)] at hx ⊢
    simp at hx ⊢
    omega

/-- what the i-th one is: five ways. -/
theorem scan_way {o : Odr} {L A1 Y R : List Odr} (h : TK o L A1 Y R) (ho : osd o = 1 ∨ osd o = -1) {i : Nat} (hi : i < L.length) :
    (bestAt o Y A1.length (i + 1) = bestAt o Y A1.length i ∧ (osd L[i]! = osd o ∨ (¬ osd L[i]! = osd o ∧ ¬ 0 < oqt L[i]!) ∨
      (¬ osd L[i]! = osd o ∧ 0 < oqt L[i]! ∧ (1 ≤ opr L[i]! ∧ opr L[i]! ≤ 10000) ∧ meets o (opr L[i]!) = false) ∨
      (¬ osd L[i]! = osd o ∧ 0 < oqt L[i]! ∧ (1 ≤ opr L[i]! ∧ opr L[i]! ≤ 10000) ∧ meets o (opr L[i]!) = true ∧ bestAt o Y A1.length i = (A1.length : Int) ∧ A1.length < L.length ∧ Bk.ahead L[i]! L[A1.length]! = false))) ∨
    (bestAt o Y A1.length i = -1 ∧ bestAt o Y A1.length (i + 1) = (i : Int) ∧ ¬ osd L[i]! = osd o ∧ 0 < oqt L[i]! ∧ (1 ≤ opr L[i]! ∧ opr L[i]! ≤ 10000) ∧ meets o (opr L[i]!) = true) := by
  have hL := h.eq
  have hsd : ∀ y, y ∈ Y → ¬ osd y = osd o := fun y hy => by have := h.y.sd y hy; omega
  have hqt : ∀ y, y ∈ Y → 0 < oqt y ∧ (1 ≤ opr y ∧ opr y ≤ 10000) := fun y hy => by have := okOrder_pq (h.y.ok y hy); omega
  by_cases h1 : i < A1.length
  · have hx : L[i]! ∈ A1 := by
      rw [hL, getElem!_pos _ i (by rw [← hL]; exact hi), List.getElem_append_left h1]
      exact List.getElem_mem h1
    refine .inl ⟨?_, ?_⟩
    · unfold bestAt; rw [if_neg (by omega), if_neg (by omega)]
    · rcases h.skA _ hx with e | e
      · exact .inl e
      · by_cases e2 : osd L[i]! = osd o
        · exact .inl e2
        · exact .inr (.inl ⟨e2, by omega⟩)
  · by_cases h2 : i < A1.length + Y.length
    · have hj : i - A1.length < Y.length := by omega
      have hx : L[i]! = Y[i - A1.length] := by
        rw [getElem!_pos _ i hi]
        simp only [hL]
        rw [List.getElem_append_right (by omega), List.getElem_append_left hj]
      have hmem : L[i]! ∈ Y := by rw [hx]; exact List.getElem_mem hj
      have g1 := hsd _ hmem
      have g2 := hqt _ hmem
      cases Y with
      | nil => simp at hj
      | cons y Z =>
        have hme : ∀ p, meets o p = xes o p := fun p => meets_xes ho
        by_cases h3 : i = A1.length
        · have e0 : L[i]! = y := by rw [hx]; simp [h3]
          cases hm1 : xes o (opr y)
          · refine .inl ⟨?_, .inr (.inr (.inl ⟨g1, g2.1, g2.2, by rw [hme, e0]; exact hm1⟩))⟩
            unfold bestAt
            rw [hm_cons, hm1, if_neg (by simp), if_neg (by simp)]
          · refine .inr ⟨?_, ?_, g1, g2.1, g2.2, by rw [hme, e0]; exact hm1⟩
            · unfold bestAt; rw [if_neg (by omega)]
            · unfold bestAt; rw [hm_cons, if_pos ⟨hm1, by omega⟩, h3]
        · have hah : Bk.ahead y L[i]! = true := by
            have hz : L[i]! ∈ Z := by
              rw [hx]
              obtain ⟨j, hj2⟩ : ∃ j, i - A1.length = j + 1 := ⟨i - A1.length - 1, by omega⟩
              have hjj : j < Z.length := by simp at hj; omega
              have : (y :: Z)[i - A1.length] = Z[j] := by simp [hj2]
              rw [this]
              exact List.getElem_mem hjj
            exact (List.pairwise_cons.1 h.y.srt).1 _ hz
          have e1 : L[A1.length]! = y := by
            rw [getElem!_pos L A1.length (by rw [hL]; simp)]
            simp only [hL]
            rw [List.getElem_append_right (by omega)]
            simp
          cases hm1 : xes o (opr y)
          · have := worse ho (h.y.sd y (by simp)) hah hm1
            refine .inl ⟨?_, .inr (.inr (.inl ⟨g1, g2.1, g2.2, by rw [hme]; exact this⟩))⟩
            unfold bestAt
            rw [hm_cons, hm1, if_neg (by simp), if_neg (by simp)]
          · have e3 : bestAt o (y :: Z) A1.length i = (A1.length : Int) := by unfold bestAt; rw [hm_cons, if_pos ⟨hm1, by omega⟩]
            have e4 : bestAt o (y :: Z) A1.length (i + 1) = (A1.length : Int) := by unfold bestAt; rw [hm_cons, if_pos ⟨hm1, by omega⟩]
            refine .inl ⟨by rw [e3, e4], ?_⟩
            cases hm2 : meets o (opr L[i]!)
            · exact .inr (.inr (.inl ⟨g1, g2.1, g2.2, rfl⟩))
            · refine .inr (.inr (.inr ⟨g1, g2.1, g2.2, rfl, e3, by omega, ?_⟩))
              rw [e1]
              exact ahead_asymm (by rw [h.y.sd y (by simp), h.y.sd _ hmem]) hah
    · have hj : i - A1.length - Y.length < R.length := by
        have : L.length = A1.length + (Y.length + R.length) := by rw [hL]; simp
        omega
      have hx : L[i]! ∈ R := by
        rw [getElem!_pos _ i hi]
        simp only [hL]
        rw [List.getElem_append_right (by omega), List.getElem_append_right (by omega)]
        exact List.getElem_mem _
      refine .inl ⟨?_, ?_⟩
      · by_cases hh : hm o Y = true
        · have : 0 < Y.length := by
            cases Y with
            | nil => simp [hm] at hh
            | cons y Z => simp
          unfold bestAt
          rw [if_pos ⟨hh, by omega⟩, if_pos ⟨hh, by omega⟩]
        · unfold bestAt
          rw [if_neg (fun e => hh e.1), if_neg (fun e => hh e.1)]
      · rcases h.skR _ hx with e | e
        · exact .inl e
        · by_cases e2 : osd L[i]! = osd o
          · exact .inl e2
          · exact .inr (.inl ⟨e2, by omega⟩)

/-- behind the search: there is none, or it is the first of what is left. -/
theorem best_end {o : Odr} {L A1 Y R : List Odr} (h : TK o L A1 Y R) :
    (bestAt o Y A1.length L.length = -1 ∧ ∀ left, takes o left Y = (Y, [], left, false)) ∨
    ∃ y Z, Y = y :: Z ∧ bestAt o Y A1.length L.length = (A1.length : Int) ∧ A1.length < L.length ∧ L[A1.length]! = y ∧ xes o (opr y) = true := by
  have hL := h.eq
  cases Y with
  | nil => exact .inl ⟨by unfold bestAt hm; rw [if_neg (by simp)], fun left => takes_nil o left⟩
  | cons y Z =>
    have hlt : A1.length < L.length := by rw [hL]; simp
    cases hx : xes o (opr y)
    · refine .inl ⟨by unfold bestAt; rw [hm_cons, hx, if_neg (by simp)], fun left => takes_stop (by rw [hx]; simp)⟩
    · refine .inr ⟨y, Z, rfl, by unfold bestAt; rw [hm_cons, if_pos ⟨hx, hlt⟩], hlt, ?_, hx⟩
      rw [getElem!_pos L A1.length hlt]
      simp only [hL]
      rw [List.getElem_append_right (by omega)]
      simp

theorem TK.full {o y : Odr} {L A1 Z R : List Odr} (h : TK o L A1 (y :: Z) R) : TK o (L.set A1.length (less y (oqt y))) (A1 ++ [less y (oqt y)]) Z R := by
  refine ⟨?_, ?_, h.skR, ?_⟩
  · rw [h.eq, List.set_append_right _ _ (Nat.le_refl _)]
    simp
  · intro x hx
    rcases List.mem_append.1 hx with hx | hx
    · exact h.skA x hx
    · simp at hx
      subst hx
      exact .inr (by show oqt y - oqt y = 0; omega)
  · have hy := h.y
    exact ⟨fun x hx => hy.ok x (by simp [hx]), fun x hx => hy.sd x (by simp [hx]), (List.pairwise_cons.1 hy.srt).2⟩
theorem TK.part {o y : Odr} {L A1 Z R : List Odr} {n : Int} (h : TK o L A1 (y :: Z) R) (h0 : 0 ≤ n) (hn : n < oqt y) : TK o (L.set A1.length (less y n)) A1 (less y n :: Z) R := by
  refine ⟨?_, h.skA, h.skR, ?_⟩
  · rw [h.eq, List.set_append_right _ _ (Nat.le_refl _)]
    simp
  · have hy := h.y
    refine ⟨?_, ?_, ?_⟩
    · intro x hx
      rcases List.mem_cons.1 hx with rfl | hx
      · exact less_ok (hy.ok y (by simp)) h0 hn
      · exact hy.ok x (by simp [hx])
    · intro x hx
      rcases List.mem_cons.1 hx with rfl | hx
      · exact hy.sd y (by simp)
      · exact hy.sd x (by simp [hx])
    · rw [List.pairwise_cons]
      refine ⟨fun x hx => ?_, (List.pairwise_cons.1 hy.srt).2⟩
      rw [less_ahead]
      exact (List.pairwise_cons.1 hy.srt).1 x hx

/-- what is kept of both sides. -/
structure KP (A1 R SB SA : List Odr) : Prop where
  b : (A1 ++ R).filter keepB = SB
  a : (A1 ++ R).filter keepA = SA
theorem KP.full {A1 R SB SA : List Odr} (h : KP A1 R SB SA) (y : Odr) : KP (A1 ++ [less y (oqt y)]) R SB SA := by
  have e : oqt (less y (oqt y)) = 0 := by show oqt y - oqt y = 0; omega
  refine ⟨?_, ?_⟩
  · rw [← h.b]; simp [keepB, e]
  · rw [← h.a]; simp [keepA, e]
theorem keep_perm {L A1 Y R : List Odr} (hL : L = A1 ++ (Y ++ R)) (f : Odr → Bool) : (L.filter f).Perm ((A1 ++ R).filter f ++ Y.filter f) := by
  rw [hL, ← List.filter_append]
  refine List.Perm.filter _ ?_
  rw [List.append_assoc]
  exact List.Perm.append_left _ List.perm_append_comm
theorem keep_y {s : Int} {Y : List Odr} (h : Side s Y) (hs : s = 1) : Y.filter keepB = Y ∧ Y.filter keepA = [] := by
  refine ⟨List.filter_eq_self.2 fun x hx => ?_, List.filter_eq_nil_iff.2 fun x hx => ?_⟩
  · have h1 := h.sd x hx
    have h2 := okOrder_pq (h.ok x hx)
    simp [keepB]; omega
  · have h1 := h.sd x hx
    simp [keepA]; omega
theorem keep_y' {s : Int} {Y : List Odr} (h : Side s Y) (hs : s = -1) : Y.filter keepB = [] ∧ Y.filter keepA = Y := by
  refine ⟨List.filter_eq_nil_iff.2 fun x hx => ?_, List.filter_eq_self.2 fun x hx => ?_⟩
  · have h1 := h.sd x hx
    simp [keepB]; omega
  · have h1 := h.sd x hx
    have h2 := okOrder_pq (h.ok x hx)
    simp [keepA]; omega
end Go.Proofs.Ytbphljnncbiddaa.Tk
namespace Go.Proofs.Ytbphljnncbiddaa.Tk
open Go.RowKit Go.Sort Go.Maps Go.Proofs.Ytbphljnncbiddaa.Mix Go.Proofs.Ytbphljnncbiddaa.Bk Go.Proofs.Ytbphljnncbiddaa.Rk

theorem wp_region_inC {P : Program} {id : Nat} {Q : Exit → Act → World → Prop} {a : Act} {w : World} {l : List Oper} (C : World → Prop) (hm : P.follows .mixedOrders = true) (hB : Region.lexB .any l.toArray = true) (hC : C w.drew)
    (h : wpQuiet P l.toArray (fun x => ∃ p : InC C, x = p.w) (fun a' => ∀ w', (∃ p : InC C, w' = p.w) → Q .normal a' w') l a) : (Code.region id l.toArray true).wp P Q a w :=
  wp_region_quiet (C := fun x => ∃ p : InC C, x = p.w) hm hB ⟨⟨_, hC⟩, rfl⟩ (by simpa using h)
theorem calls_inC {P : Program} {f : FuncId} {args : Array Value} {C : World → Prop} {v : Value} (hs : ∀ x y, C x → Below x.heap.size x y → C y) (p : InC C)
    (h : Calls P f args p.w fun e w' => e = .returned v ∧ Below p.w.heap.size p.w w') : Calls P f args p.w fun e w'' => e = .returned v ∧ ∃ p' : InC C, w'' = p'.w :=
  h.mono fun _ w' ⟨he, hb⟩ => ⟨he, ⟨w', hs _ _ p.h hb⟩, rfl⟩

theorem ar_less {W x : World} {g cap : Nat} {L : List Odr} (h : AR W x g cap L) {k : Nat} (hk : k < L.length) (n : Int) :
    AR W (x.setCell ⟨g, k * 5 + 4, none⟩ (.int .i64 (oqt L[k]! - n))) g cap (L.set k (less L[k]! n)) := by
  have hd : L.drop k = L[k]! :: L.drop (k + 1) := by rw [List.drop_eq_getElem_cons hk, getElem!_pos _ k hk]
  have hf := (flat_set4 L k L[k]! (L.drop (k + 1)) n hd).1
  refine ⟨h.le, by simpa [World.setCell] using h.lt, fun j u hu => ?_, fun j hj => ?_, by simpa using h.fits⟩
  · rw [hf, List.getElem?_set] at hu
    by_cases e : k * 5 + 4 = j
    · subst e
      rw [if_pos rfl] at hu
      split at hu
      · rename_i hlt
        obtain ⟨u0, hu0⟩ : ∃ u0, (flat L)[k * 5 + 4]? = some u0 := ⟨_, List.getElem?_eq_getElem hlt⟩
        rw [World.cell?_setCell_same _ _ _ (h.cells _ _ hu0)]
        exact hu
      · cases hu
    · rw [if_neg e] at hu
      rw [World.cell?_setCell_other _ _ _ _ (by intro hh; injection hh with h1 h2; exact e h2)]
      exact h.cells j u hu
  · rw [World.frozen?_setCell]
    refine ⟨?_, (h.spare j hj).2⟩
    have := (h.spare j hj).1
    obtain ⟨u0, hu0⟩ := Option.isSome_iff_exists.1 this
    obtain ⟨v', hv'⟩ := cell?_setCell_some (p := ⟨g, k * 5 + 4, none⟩) (x := .int .i64 (oqt L[k]! - n)) hu0
    rw [hv']
    rfl
theorem ar_below {W x y : World} {g cap : Nat} {L : List Odr} (h : AR W x g cap L) (hb : Below x.heap.size x y) : AR W y g cap L := ar_same h hb.size (hb.block g h.lt)
theorem ar_cells {W x : World} {g cap : Nat} {L : List Odr} (h : AR W x g cap L) {k : Nat} (hk : k < L.length) :
    x.cell? ⟨g, k * 5, none⟩ = some (.int .i64 (oid L[k]!)) ∧ x.cell? ⟨g, k * 5 + 1, none⟩ = some (.int .i64 (oac L[k]!)) ∧ x.cell? ⟨g, k * 5 + 2, none⟩ = some (.int .i64 (osd L[k]!)) ∧ x.cell? ⟨g, k * 5 + 3, none⟩ = some (.int .i64 (opr L[k]!)) ∧ x.cell? ⟨g, k * 5 + 4, none⟩ = some (.int .i64 (oqt L[k]!)) := by
  have := orow_cells (w := x) (b := g) (off := 0) (xs := L) (ar_row h) hk
  simpa only [Nat.zero_add] using this

/-- what the outer loop has: W0 behind the boxes, W behind the list of all orders. -/
structure TO (o : Odr) (q0 : Int) (S0 SB SA : List Odr) (W0 W : World) (g cap n : Nat) (wr : World) (vF : Value) (F : List Fil) (lf : Int) (L A1 Y R : List Odr) : Prop where
  tk : TK o L A1 Y R
  kp : KP A1 R SB SA
  ti : TInv o q0 S0 F lf Y
  ar : AR W0 wr g cap L
  own : wr.ownsRow W.heap.size 74 7 vF F.length (flatF F)
  below : Below W0.heap.size W0 wr
  size : W.heap.size ≤ wr.heap.size
  gW : g < W.heap.size
  len : L.length = n
  few : (F.length : Int) + lf ≤ q0

theorem TO.on {o : Odr} {q0 : Int} {S0 SB SA : List Odr} {W0 W : World} {g cap n : Nat} {wr x : World} {vF : Value} {F : List Fil} {lf : Int} {L A1 Y R : List Odr} (h : TO o q0 S0 SB SA W0 W g cap n wr vF F lf L A1 Y R) (hb : Below wr.heap.size wr x) :
    TO o q0 S0 SB SA W0 W g cap n x vF F lf L A1 Y R :=
  ⟨h.tk, h.kp, h.ti, ar_below h.ar hb, h.own.kept (row := none) ⟨hb.os, hb.tape, hb.output, hb.size, fun k hk _ => hb.block k hk⟩ (by cases hv : vF.ownBlock <;> simp), h.below.trans (hb.mono h.below.size), Nat.le_trans h.size hb.size, h.gW, h.len, h.few⟩
theorem TO.grown {o : Odr} {q0 : Int} {S0 SB SA : List Odr} {W0 W : World} {g cap n : Nat} {x w1 : World} {vF : Value} {F : List Fil} {lf : Int} {L A1 Y R : List Odr} (h : TO o q0 S0 SB SA W0 W g cap n x vF F lf L A1 Y R) (hg : x.grownBy w1 vF.ownBlock) : AR W0 w1 g cap L :=
  ar_same h.ar hg.size (hg.block g h.ar.lt (fun e => by have h1 := (h.own.lt g e.symm).1; have h2 := h.gW; omega))
theorem TO.fill {o : Odr} {q0 : Int} {S0 SB SA : List Odr} {W0 W : World} {g cap n : Nat} {x w1 : World} {vF v' : Value} {F : List Fil} {lf lf' : Int} {L A1 Y R L' A1' Y' : List Odr} {f : Fil} (h : TO o q0 S0 SB SA W0 W g cap n x vF F lf L A1 Y R) (hg : x.grownBy w1 vF.ownBlock)
    (ho : w1.ownsRow W.heap.size 74 7 v' (F.length + 1) (flatF F ++ encF f)) {k : Nat} (hk : k < L.length) (nn : Int) (hL : L' = L.set k (less L[k]! nn)) (tk' : TK o L' A1' Y' R) (kp' : KP A1' R SB SA) (ti' : TInv o q0 S0 (F ++ [f]) lf' Y') (few' : (F.length : Int) + 1 + lf' ≤ q0) :
    TO o q0 S0 SB SA W0 W g cap n (w1.setCell ⟨g, k * 5 + 4, none⟩ (.int .i64 (oqt L[k]! - nn))) v' (F ++ [f]) lf' L' A1' Y' R := by
  have hW := h.gW
  have hs := h.size
  refine ⟨tk', kp', ti', ?_, ?_, ?_, ?_, h.gW, ?_, ?_⟩
  · rw [hL]
    exact ar_less (h.grown hg) hk nn
  · rw [flatF_append, flatF_one, List.length_append]
    exact ownsRow_setCell_below ho hW _
  · refine Below.setCell (h.below.grown hg h.below.size (fun j hj => ?_)) h.ar.le _
    have h1 := (h.own.lt j hj).1
    have h2 := h.ar.le
    omega
  · have := hg.size
    simp [World.setCell]
    omega
  · rw [hL, List.length_set]
    exact h.len
  · rw [List.length_append]
    simp
    omega
end Go.Proofs.Ytbphljnncbiddaa.Tk
namespace Go.Proofs.Ytbphljnncbiddaa.Tk
open Go.RowKit Go.Sort Go.Maps Go.Proofs.Ytbphljnncbiddaa.Mix Go.Proofs.Ytbphljnncbiddaa.Bk Go.Proofs.Ytbphljnncbiddaa.Rk

/-- what is answered: as package match's Take. -/
abbrev TakenPost (w : World) (B A : List Odr) (F : List Fil) (left : Int) (met : Bool) (e : Ending) (w' : World) : Prop :=
  ∃ p1 c1 p2 c2 vF, e = .returned (.tuple #[.agg #[.slice p1 B.length c1, .slice p2 A.length c2], vF, .int .i64 left, .bool met]) ∧ OV w' p1 c1 B ∧ OV w' p2 c2 A ∧ w'.ownsRow w.heap.size 74 7 vF F.length (flatF F) ∧ Below w.heap.size w w' ∧ (∀ a, p1 = some a → w.heap.size ≤ a.block) ∧ (∀ a, p2 = some a → w.heap.size ≤ a.block)

theorem grow_calls {f : Nat} {args : Array Value} {w : World} {E : Ending} (h : Calls Try.prog f args w fun e w' => e = E ∧ ∃ k os, w' = grow (w.drewN k) os) : Calls Try.prog f args w fun e w' => e = E ∧ Below w.heap.size w w' :=
  h.mono fun _ _ ⟨he, k, os, hw⟩ => ⟨he, hw ▸ grow_below w k os⟩

set_option maxHeartbeats 8000000 in
set_option maxRecDepth 100000 in
theorem taken_in (nb na c c' : Nat) (p p' : Option Addr) (a ac sd pr q : Int) (w : World) (S0 SB SA L0 A0 R0 TB TA : List Odr) (F0 : List Fil) (lf0 : Int) (m0 : Bool) (n : Nat)
    (hsd : sd = 1 ∨ sd = -1) (hpr : 1 ≤ pr ∧ pr ≤ 10000) (hq : 1 ≤ q ∧ q ≤ 1000)
    (hT : takes (a, ac, sd, pr, q) q S0 = ((if sd = 1 then TA else TB), F0, lf0, m0))
    (hk0 : TK (a, ac, sd, pr, q) L0 A0 S0 R0) (hp0 : KP A0 R0 SB SA) (hqt : ∀ x, x ∈ S0 → 1 ≤ oqt x ∧ oqt x ≤ 1000) (hlen : L0.length = n) (hn : n ≤ 40)
    (OR : ∀ W, Below w.heap.size w W → Calls Try.prog 85 #[.agg #[.slice p nb c, .slice p' na c']] W fun e w' => ∃ g cap, e = .returned (.slice (some ⟨g, 0, none⟩) n cap) ∧ AR W w' g cap L0 ∧ Below W.heap.size W w')
    (BO : ∀ (L A1 R : List Odr) W (g cap : Nat), TK (a, ac, sd, pr, q) L A1 (if sd = 1 then TA else TB) R → KP A1 R SB SA → L.length = n → ORow W (some ⟨g, 0, none⟩) L → Calls Try.prog 87 #[.slice (some ⟨g, 0, none⟩) n cap] W fun e w' => ∃ p0 c0 p1 c1, e = .returned (.agg #[.slice p0 TB.length c0, .slice p1 TA.length c1]) ∧ OV w' p0 c0 TB ∧ OV w' p1 c1 TA ∧ (∀ a, p0 = some a → W.heap.size ≤ a.block) ∧ (∀ a, p1 = some a → W.heap.size ≤ a.block) ∧ Below W.heap.size W w') :
    Calls Try.prog 52 #[.agg #[.slice p nb c, .slice p' na c'], .agg #[.int .i64 a, .int .i64 ac, .int .i64 sd, .int .i64 pr, .int .i64 q]] w fun e w' => TakenPost w TB TA F0 lf0 m0 e w' := by
  have mixed : Try.prog.follows .mixedOrders = true := by kernel_rfl
  obtain ⟨i0, hi0, hz0, hz1, hz2⟩ := info_parts Try.infoF
  have HOR := hide OR
  have HBO := hide BO
  have HT := hide hT
  have HK0 := hide hk0
  have HP0 := hide hp0
  have HQ := hide hqt
  have HLN := hide hlen
  have HSD := hide hsd
  have ME := hide (fun xp W (h3 : 1 ≤ xp) (h4 : xp ≤ 10000) => meets_any a ac sd pr q xp W hsd hpr.1 hpr.2 h3 h4)
  obtain ⟨q1, q2⟩ := hq
  clear OR BO hT hk0 hp0 hqt hlen hsd hpr
  go_enter Try.func52, Try.ntmps52
  go_wp2_with fail
  obtain ⟨W0, hW0⟩ : ∃ W0, W0 = ((w.alloc (.cells #[.slice p nb c, .slice p' na c'] 42)).alloc (.cells #[.int .i64 a, .int .i64 ac, .int .i64 sd, .int .i64 pr, .int .i64 q] 44)).alloc (.cells #[.slice none 0 0, .slice none 0 0] 42) := ⟨_, rfl⟩
  rw [← hW0]
  have SW0 : Hid (W0.heap.size = w.heap.size + 3) := by show _ = _; rw [hW0]; simp
  have BW0 : Hid (Below w.heap.size w W0) := by rw [hW0]; exact ((((Below.refl _ w).alloc (Nat.le_refl _) _).alloc (by simp) _).alloc (by simp; omega) _)
  have CO : Hid (∀ x, Below W0.heap.size W0 x → ∀ i v, (#[.int .i64 a, .int .i64 ac, .int .i64 sd, .int .i64 pr, .int .i64 q] : Array Value)[i]? = some v → x.cell? ⟨w.heap.size + 1, i, none⟩ = some v) := fun x hx i v hv => by
    have e : W0.cell? ⟨w.heap.size + 1, i, none⟩ = some v := by rw [hW0]; exact cell_alloc (new_cell2 w _ _ _ i v hv) _
    exact (hx.cell (World.block_lt_of_cell? _ _ e)).trans e
  have TW : Hid (∀ x, Below W0.heap.size W0 x → Two x (w.heap.size + 1 + 1)) := fun x hx => by
    refine two_below (x := W0) ⟨.slice none 0 0, .slice none 0 0, ?_⟩ hx
    rw [hW0]
    have := heap_alloc_new ((w.alloc (.cells #[.slice p nb c, .slice p' na c'] 42)).alloc (.cells #[.int .i64 a, .int .i64 ac, .int .i64 sd, .int .i64 pr, .int .i64 q] 44)) (.cells #[.slice none 0 0, .slice none 0 0] 42)
    simpa using this
  clear hW0
  refine (HOR.out _ BW0.out).mono ?_
  rintro e W ⟨g, cap, rfl, har, hbW⟩
  have HAR := hide har
  have BW := hide hbW
  have o4 := CO.out _ hbW 4 _ rfl
  clear har hbW HOR
  go_wp2
  go_loopw [5, 6, 7] (fun v5 v6 v7 wr => ∃ (F : List Fil) (lf : Int) (L A1 Y R : List Odr), v6 = .int .i64 lf ∧ v7 = .bool false ∧ 0 ≤ lf ∧ lf ≤ 1000 ∧ Hid (TO (a, ac, sd, pr, q) q S0 SB SA W0 W g cap n wr v5 F lf L A1 Y R)) (fun _ v6 _ _ => (intOf v6).toNat)
  case atStart =>
    refine ⟨[], q, L0, A0, S0, R0, rfl, rfl, by omega, q2, ?_⟩
    exact ⟨HK0.out, HP0.out, TInv.start (by omega) HQ.out, HAR.out, World.ownsRow_nil _ _ _ _, BW.out, Nat.le_refl _, HAR.out.lt, HLN.out, by simp⟩
  case round =>
    obtain ⟨F, lf, L, A1, Y, R, rfl, rfl, hl1, hl2, K⟩ := hrel
    by_cases hlf : 0 < lf
    · obtain ⟨wo, hwo⟩ : ∃ wo, wo = wr := ⟨_, rfl⟩
      rw [← hwo]
      rw [← hwo] at K
      clear hwo wr
      clear o4
      go_wp2
      go_loopw [9, 22] (fun v9 v22 wr => ∃ (i : Nat), i ≤ n ∧ v22 = .int .i64 i ∧ v9 = .int .i64 (bestAt (a, ac, sd, pr, q) Y A1.length i) ∧ Hid (Below wo.heap.size wo wr)) (fun _ v22 _ => n - (intOf v22).toNat)
      case atStart => exact ⟨0, Nat.zero_le _, rfl, by rw [bestAt_zero], Below.refl _ _⟩
      case round =>
        obtain ⟨i, hi, rfl, rfl, BR⟩ := hrel
        by_cases hlt : i < n
        · have hltz : (i : Int) < (n : Int) := by omega
          have KR := hide (K.out.on BR.out)
          have hiL : i < L.length := by rw [K.out.len]; exact hlt
          obtain ⟨c0, c1, c2, c3, c4⟩ := ar_cells KR.out.ar hiL
          have SWY := scan_way K.out.tk HSD.out hiL
          have AC : Hid (∀ k, k < L.length → ∀ x, Below wr.heap.size wr x → x.cell? ⟨g, k * 5, none⟩ = some (.int .i64 (oid L[k]!)) ∧ x.cell? ⟨g, k * 5 + 1, none⟩ = some (.int .i64 (oac L[k]!)) ∧ x.cell? ⟨g, k * 5 + 2, none⟩ = some (.int .i64 (osd L[k]!)) ∧ x.cell? ⟨g, k * 5 + 3, none⟩ = some (.int .i64 (opr L[k]!)) ∧ x.cell? ⟨g, k * 5 + 4, none⟩ = some (.int .i64 (oqt L[k]!))) := fun k hk x hx => ar_cells (ar_below KR.out.ar hx) hk
          have LN := hide K.out.len
          generalize L[i]! = x at c0 c1 c2 c3 c4 SWY
          obtain ⟨xa, xc, xd, xp, xq⟩ := x
          dsimp only [oid, oac, osd, opr, oqt] at c0 c1 c2 c3 c4 SWY
          obtain ⟨BA, hBA⟩ : ∃ b, b = bestAt (a, ac, sd, pr, q) Y A1.length i := ⟨_, rfl⟩
          rw [← hBA] at SWY ⊢
          clear hBA
          go_wp2_with fail
          obtain ⟨V, hV⟩ : ∃ V, V = wr.alloc (.cells #[.int .i64 xa, .int .i64 xc, .int .i64 xd, .int .i64 xp, .int .i64 xq] 44) := ⟨_, rfl⟩
          rw [← hV]
          have BV : Hid (Below wr.heap.size wr V) := by rw [hV]; exact (Below.refl _ wr).alloc (Nat.le_refl _) _
          have XV : Hid (∀ i v, (#[.int .i64 xa, .int .i64 xc, .int .i64 xd, .int .i64 xp, .int .i64 xq] : Array Value)[i]? = some v → V.cell? ⟨wr.heap.size, i, none⟩ = some v) := fun i v hv => by rw [hV]; exact new_cell wr _ _ i v hv
          clear hV c0 c1 c2 c3 c4
          have hC : ∀ z : InC (fun x => Below V.heap.size V x), Below V.heap.size V z.w := fun z => z.h
          generalize hCC : (fun x => Below V.heap.size V x) = C at hC
          have CS : ∀ x y, C x → Below x.heap.size x y → C y := by rw [← hCC]; exact fun x y hx hy => hx.trans (hy.mono hx.size)
          have C0 : Hid (C V.drew) := by rw [← hCC]; exact (Below.refl _ V).drew
          have CB : Hid (∀ x, C x → Below wr.heap.size wr x) := fun x hx => by rw [← hCC] at hx; exact BV.out.trans (hx.mono BV.out.size)
          have CW : Hid (∀ x, C x → Below W0.heap.size W0 x) := fun x hx => KR.out.below.trans ((CB.out x hx).mono KR.out.below.size)
          have xv := fun (z : InC C) i v hv => ((hC z).cell (World.block_lt_of_cell? _ _ (XV.out i v hv))).trans (XV.out i v hv)
          have x0 := fun z => xv z 0 _ rfl
          have x1 := fun z => xv z 1 _ rfl
          have x2 := fun z => xv z 2 _ rfl
          have x3 := fun z => xv z 3 _ rfl
          have x4 := fun z => xv z 4 _ rfl
          have o0 := fun (z : InC C) => CO.out z.w (CW.out z.w z.h) 0 _ rfl
          have o1 := fun (z : InC C) => CO.out z.w (CW.out z.w z.h) 1 _ rfl
          have o2 := fun (z : InC C) => CO.out z.w (CW.out z.w z.h) 2 _ rfl
          have o3 := fun (z : InC C) => CO.out z.w (CW.out z.w z.h) 3 _ rfl
          have o4 := fun (z : InC C) => CO.out z.w (CW.out z.w z.h) 4 _ rfl
          have HCS := hide CS
          clear xv hC hCC CS XV
          rcases SWY with ⟨hBE, h1 | ⟨h1, h2⟩ | ⟨h1, h2, ⟨h3, h4⟩, h5⟩ | ⟨h1, h2, ⟨h3, h4⟩, h5, h6, h7, h8⟩⟩ | ⟨h6, hBE, h1, h2, ⟨h3, h4⟩, h5⟩
          · have BE := hide hBE
            have e1 : (xd != sd) = false := by simp [h1]
            clear hBE h1
            refine wp_region_inC C mixed (by kernel_rfl) C0.out ?_
            repeat (go_big_quiet_step (first | (go_at_call 86; refine K1.out _) | (go_at_call 40; refine K2.out _) | exact rfl))
            refine wpQuiet_nil ?_
            intro _ hwq
            obtain ⟨qz, hwq'⟩ := hwq
            subst hwq'
            have BN := hide (BR.out.trans ((CB.out qz.w qz.h).mono BR.out.size))
            generalize qz.w = wz at BN ⊢
            clear x0 x1 x2 x3 x4 o0 o1 o2 o3 o4 C0
            go_wp2
            go_roundw
            case rel => exact ⟨i + 1, by omega, by go_num, by rw [BE.out], BN⟩
            case measure => simp [intOf]; omega
          · have BE := hide hBE
            have e1 : (xd != sd) = true := by simp [h1]
            have e2 : decide (0 < xq) = false := by simpa using h2
            clear hBE
            refine wp_region_inC C mixed (by kernel_rfl) C0.out ?_
            repeat (go_big_quiet_step (first | (go_at_call 86; refine K1.out _) | (go_at_call 40; refine K2.out _) | exact rfl))
            refine wpQuiet_nil ?_
            intro _ hwq
            obtain ⟨qz, hwq'⟩ := hwq
            subst hwq'
            have BN := hide (BR.out.trans ((CB.out qz.w qz.h).mono BR.out.size))
            generalize qz.w = wz at BN ⊢
            clear x0 x1 x2 x3 x4 o0 o1 o2 o3 o4 C0
            go_wp2
            go_roundw
            case rel => exact ⟨i + 1, by omega, by go_num, by rw [BE.out], BN⟩
            case measure => simp [intOf]; omega
          · have BE := hide hBE
            have e1 : (xd != sd) = true := by simp [h1]
            have e2 : decide (0 < xq) = true := by simpa using h2
            have K1 := hide (fun z : InC C => calls_inC HCS.out z ((ME.out xp z.w h3 h4).mono fun _ _ hh => ⟨hh.1, hh.2 ▸ (Below.refl _ _).alloc (Nat.le_refl _) _⟩))
            rw [h5] at K1
            clear hBE h5
            refine wp_region_inC C mixed (by kernel_rfl) C0.out ?_
            repeat (go_big_quiet_step (first | (go_at_call 86; refine K1.out _) | (go_at_call 40; refine K2.out _) | exact rfl))
            refine wpQuiet_nil ?_
            intro _ hwq
            obtain ⟨qz, hwq'⟩ := hwq
            subst hwq'
            have BN := hide (BR.out.trans ((CB.out qz.w qz.h).mono BR.out.size))
            generalize qz.w = wz at BN ⊢
            clear x0 x1 x2 x3 x4 o0 o1 o2 o3 o4 C0
            go_wp2
            go_roundw
            case rel => exact ⟨i + 1, by omega, by go_num, by rw [BE.out], BN⟩
            case measure => simp [intOf]; omega
          · have BE := hide hBE
            have e1 : (xd != sd) = true := by simp [h1]
            have e2 : decide (0 < xq) = true := by simpa using h2
            have K1 := hide (fun z : InC C => calls_inC HCS.out z ((ME.out xp z.w h3 h4).mono fun _ _ hh => ⟨hh.1, hh.2 ▸ (Below.refl _ _).alloc (Nat.le_refl _) _⟩))
            rw [h5] at K1
            subst h6
            have hkn : A1.length < n := by rw [← LN.out]; exact h7
            have hkz : (A1.length : Int) < (n : Int) := by omega
            have hk0 : (0 : Int) ≤ (A1.length : Int) := by omega
            have hkb : decide ((A1.length : Int) < 0) = false := by simp
            have YC := AC.out A1.length h7
            generalize L[A1.length]! = y at YC h8
            obtain ⟨ya, yc, yd, yp, yq⟩ := y
            dsimp only [oid, oac, osd, opr, oqt] at YC
            have y0 := fun z : InC C => (YC z.w (CB.out z.w z.h)).1
            have y1 := fun z : InC C => (YC z.w (CB.out z.w z.h)).2.1
            have y2 := fun z : InC C => (YC z.w (CB.out z.w z.h)).2.2.1
            have y3 := fun z : InC C => (YC z.w (CB.out z.w z.h)).2.2.2.1
            have y4 := fun z : InC C => (YC z.w (CB.out z.w z.h)).2.2.2.2
            have K2 := hide (fun z : InC C => calls_inC HCS.out z (grow_calls (St.isAhead_grow xa xc xd xp xq ya yc yd yp yq z.w)))
            rw [h8] at K2
            clear hBE h5 h8 YC h7
            refine wp_region_inC C mixed (by kernel_rfl) C0.out ?_
            repeat (go_big_quiet_step (first | (go_at_call 86; refine K1.out _) | (go_at_call 40; refine K2.out _) | exact rfl))
            refine wpQuiet_nil ?_
            intro _ hwq
            obtain ⟨qz, hwq'⟩ := hwq
            subst hwq'
            have BN := hide (BR.out.trans ((CB.out qz.w qz.h).mono BR.out.size))
            generalize qz.w = wz at BN ⊢
            clear x0 x1 x2 x3 x4 o0 o1 o2 o3 o4 C0
            go_wp2
            go_roundw
            case rel => exact ⟨i + 1, by omega, by go_num, by rw [BE.out], BN⟩
            case measure => simp [intOf]; omega
          · have BE := hide hBE
            have e1 : (xd != sd) = true := by simp [h1]
            have e2 : decide (0 < xq) = true := by simpa using h2
            have K1 := hide (fun z : InC C => calls_inC HCS.out z ((ME.out xp z.w h3 h4).mono fun _ _ hh => ⟨hh.1, hh.2 ▸ (Below.refl _ _).alloc (Nat.le_refl _) _⟩))
            rw [h5] at K1
            subst h6
            clear hBE h5
            refine wp_region_inC C mixed (by kernel_rfl) C0.out ?_
            repeat (go_big_quiet_step (first | (go_at_call 86; refine K1.out _) | (go_at_call 40; refine K2.out _) | exact rfl))
            refine wpQuiet_nil ?_
            intro _ hwq
            obtain ⟨qz, hwq'⟩ := hwq
            subst hwq'
            have BN := hide (BR.out.trans ((CB.out qz.w qz.h).mono BR.out.size))
            generalize qz.w = wz at BN ⊢
            clear x0 x1 x2 x3 x4 o0 o1 o2 o3 o4 C0
            go_wp2
            go_roundw
            case rel => exact ⟨i + 1, by omega, by go_num, by rw [BE.out], BN⟩
            case measure => simp [intOf]; omega
        · have hin : i = n := by omega
          subst hin
          have KR := hide (K.out.on BR.out)
          have BEND := best_end K.out.tk
          rw [K.out.len] at BEND
          rcases BEND with ⟨hb, hst⟩ | ⟨y, Z, hYZ, hb, hlt2, hy, hx⟩
          · have X := hide (KR.out.ti.stop (hst lf))
            rw [hb]
            clear hb hst hlt
            have XX := HT.out.symm.trans X.out
            have E1 : Hid ((if sd = 1 then TA else TB) = Y) := (Prod.mk.inj XX).1
            have E2 : Hid (F0 = F) := (Prod.mk.inj (Prod.mk.inj XX).2).1
            have E3 : Hid (lf0 = _) := (Prod.mk.inj (Prod.mk.inj (Prod.mk.inj XX).2).2).1
            have E4 : Hid (m0 = _) := (Prod.mk.inj (Prod.mk.inj (Prod.mk.inj XX).2).2).2
            have BB := hide (HBO.out L A1 R wr g cap (by rw [E1.out]; exact KR.out.tk) KR.out.kp KR.out.len (ar_ov KR.out.ar).row)
            clear XX X
            go_wp2_with fail
            skip
            refine BB.out.mono ?_
            rintro e w3 ⟨p0, c0, p1, c1, rfl, v0, v1, z0, z1, hb3⟩
            have B3 := hide (KR.out.below.trans (hb3.mono KR.out.below.size))
            have T5 := hide (TW.out w3 B3.out)
            have hsz : w.heap.size + 1 + 1 < W0.heap.size := by rw [SW0.out]; omega
            have hsz2 : W0.heap.size ≤ W.heap.size := BW.out.size
            have hsz3 : W0.heap.size ≤ (wr).heap.size := KR.out.below.size
            have V0 := hide (ov_below_two (t := w.heap.size + 1 + 1) (v0 := .slice p0 TB.length c0) (v1 := .slice p1 TA.length c1) v0 (fun a ha => by have := z0 a ha; omega))
            have V1 := hide (ov_below_two (t := w.heap.size + 1 + 1) (v0 := .slice p0 TB.length c0) (v1 := .slice p1 TA.length c1) v1 (fun a ha => by have := z1 a ha; omega))
            have OF : Hid (w3.ownsRow W.heap.size 74 7 u5 F.length (flatF F)) := (KR.out.on hb3).own
            have SZ := hide (And.intro hsz (And.intro hsz2 hsz3))
            have GZ := hide (And.intro z0 z1)
            clear hb3 v0 v1 z0 z1 hsz hsz2 hsz3 BB
            obtain ⟨d0, d1, t0, t1, t2, t3⟩ := two_facts T5.out
            go_wp2
            obtain ⟨s0, s1⟩ := two_set T5.out (.slice p0 TB.length c0) (.slice p1 TA.length c1)
            refine bodyPost_ret (v := .tuple #[.agg #[.slice p0 TB.length c0, .slice p1 TA.length c1], u5, .int .i64 lf0, .bool m0]) (by rw [E3.out, E4.out]; simp [results, Try.results52, go_sem, s0, s1]) rfl ⟨p0, c0, p1, c1, u5, rfl, V0.out, V1.out, ?_, ?_, fun a ha => ?_, fun a ha => ?_⟩
            · rw [E2.out]
              have g1 := SZ.out.1
              have g2 := SZ.out.2.1
              exact own_base (ownsRow_setCell_below (ownsRow_setCell_below OF.out (by show w.heap.size + 1 + 1 < _; omega) _) (by show w.heap.size + 1 + 1 < _; omega) _) (by have := SW0.out; omega)
            · refine two_below_set (BW0.out.trans (B3.out.mono BW0.out.size)) (by omega) _ _
            · have := GZ.out.1 a ha; have := SZ.out; have := BW0.out.size; omega
            · have := GZ.out.2 a ha; have := SZ.out; have := BW0.out.size; omega
          · subst hYZ
            have hQy := KR.out.ti.qty y (by simp)
            have hkL : A1.length < L.length := by rw [KR.out.len]; exact hlt2
            obtain ⟨c0, c1, c2, c3, c4⟩ := ar_cells KR.out.ar hkL
            rw [hy] at c0 c1 c2 c3 c4
            have HY := hide hy
            have HX := hide hx
            have HKL := hide hkL
            have HSP : Hid (A1.length * 5 + 4 < cap * 5) := by have := KR.out.ar.fits; exact hide (by omega)
            have hF : F.length ≤ 1000 := by have := KR.out.few; omega
            obtain ⟨ya, yc, yd, yp, yq⟩ := y
            dsimp only [oid, oac, osd, opr, oqt] at c0 c1 c2 c3 c4 hQy
            obtain ⟨hy1, hy2⟩ := hQy
            have hkz : (A1.length : Int) < (i : Int) := by omega
            have hk0 : (0 : Int) ≤ (A1.length : Int) := by omega
            have o0 := fun o => cell_alloc (CO.out wr KR.out.below 0 _ rfl) o
            have o1 := fun o => cell_alloc (CO.out wr KR.out.below 1 _ rfl) o
            have o2 := fun o => cell_alloc (CO.out wr KR.out.below 2 _ rfl) o
            rw [hb]
            clear hb hlt hx hy hkL hlt2
            by_cases hac : yc = ac
            · have X := hide (KR.out.ti.stop (takes_own hlf HX.out hac))
              have hab : (yc == ac) = true := by simp [hac]
              obtain ⟨V, hV⟩ : ∃ V, V = wr.alloc (.cells #[.int .i64 ya, .int .i64 yc, .int .i64 yd, .int .i64 yp, .int .i64 yq] 44) := ⟨_, rfl⟩
              have KV : Hid (TO (a, ac, sd, pr, q) q S0 SB SA W0 W g cap i V u5 F lf L A1 ((ya, yc, yd, yp, yq) :: Z) R) := by rw [hV]; exact KR.out.on ((Below.refl _ wr).alloc (Nat.le_refl _) _)
              clear hac KR
              have XX := HT.out.symm.trans X.out
              have E1 : Hid ((if sd = 1 then TA else TB) = (ya, yc, yd, yp, yq) :: Z) := (Prod.mk.inj XX).1
              have E2 : Hid (F0 = F) := (Prod.mk.inj (Prod.mk.inj XX).2).1
              have E3 : Hid (lf0 = _) := (Prod.mk.inj (Prod.mk.inj (Prod.mk.inj XX).2).2).1
              have E4 : Hid (m0 = _) := (Prod.mk.inj (Prod.mk.inj (Prod.mk.inj XX).2).2).2
              have BB := hide (HBO.out L A1 R V g cap (by rw [E1.out]; exact KV.out.tk) KV.out.kp KV.out.len (ar_ov KV.out.ar).row)
              clear XX X
              go_wp2_with fail
              rw [← hV]
              refine BB.out.mono ?_
              rintro e w3 ⟨p0, c0, p1, c1, rfl, v0, v1, z0, z1, hb3⟩
              have B3 := hide (KV.out.below.trans (hb3.mono KV.out.below.size))
              have T5 := hide (TW.out w3 B3.out)
              have hsz : w.heap.size + 1 + 1 < W0.heap.size := by rw [SW0.out]; omega
              have hsz2 : W0.heap.size ≤ W.heap.size := BW.out.size
              have hsz3 : W0.heap.size ≤ (V).heap.size := KV.out.below.size
              have V0 := hide (ov_below_two (t := w.heap.size + 1 + 1) (v0 := .slice p0 TB.length c0) (v1 := .slice p1 TA.length c1) v0 (fun a ha => by have := z0 a ha; omega))
              have V1 := hide (ov_below_two (t := w.heap.size + 1 + 1) (v0 := .slice p0 TB.length c0) (v1 := .slice p1 TA.length c1) v1 (fun a ha => by have := z1 a ha; omega))
              have OF : Hid (w3.ownsRow W.heap.size 74 7 u5 F.length (flatF F)) := (KV.out.on hb3).own
              have SZ := hide (And.intro hsz (And.intro hsz2 hsz3))
              have GZ := hide (And.intro z0 z1)
              clear hb3 v0 v1 z0 z1 hsz hsz2 hsz3 BB
              obtain ⟨d0, d1, t0, t1, t2, t3⟩ := two_facts T5.out
              go_wp2
              obtain ⟨s0, s1⟩ := two_set T5.out (.slice p0 TB.length c0) (.slice p1 TA.length c1)
              refine bodyPost_ret (v := .tuple #[.agg #[.slice p0 TB.length c0, .slice p1 TA.length c1], u5, .int .i64 lf0, .bool m0]) (by rw [E3.out, E4.out]; simp [results, Try.results52, go_sem, s0, s1]) rfl ⟨p0, c0, p1, c1, u5, rfl, V0.out, V1.out, ?_, ?_, fun a ha => ?_, fun a ha => ?_⟩
              · rw [E2.out]
                have g1 := SZ.out.1
                have g2 := SZ.out.2.1
                exact own_base (ownsRow_setCell_below (ownsRow_setCell_below OF.out (by show w.heap.size + 1 + 1 < _; omega) _) (by show w.heap.size + 1 + 1 < _; omega) _) (by have := SW0.out; omega)
              · refine two_below_set (BW0.out.trans (B3.out.mono BW0.out.size)) (by omega) _ _
              · have := GZ.out.1 a ha; have := SZ.out; have := BW0.out.size; omega
              · have := GZ.out.2 a ha; have := SZ.out; have := BW0.out.size; omega
            · have hab : (yc == ac) = false := by simp [hac]
              by_cases hfl : lf < yq
              · have TI := hide (KR.out.ti.part hlf HX.out hac (by show ¬ yq ≤ lf; omega))
                have TKp := hide (KR.out.tk.part (n := lf) hl1 hfl)
                have KX := hide (KR.out.on (((Below.refl _ wr).alloc (Nat.le_refl _) (.cells #[.int .i64 ya, .int .i64 yc, .int .i64 yd, .int .i64 yp, .int .i64 yq] 44)).alloc (by simp) (.cells #[.int .i64 ya, .int .i64 a, .int .i64 yc, .int .i64 ac, .int .i64 sd, .int .i64 yp, .int .i64 lf] 74)))
                have NW : Hid (∀ jj u, (encF (ya, a, yc, ac, sd, yp, lf))[jj]? = some u → ((wr.alloc (.cells #[.int .i64 ya, .int .i64 yc, .int .i64 yd, .int .i64 yp, .int .i64 yq] 44)).alloc (.cells #[.int .i64 ya, .int .i64 a, .int .i64 yc, .int .i64 ac, .int .i64 sd, .int .i64 yp, .int .i64 lf] 74)).cell? ((⟨wr.heap.size + 1, 0, none⟩ : Addr).add jj) = some u) := fun jj u hu => by
                  rw [add_lit, Nat.zero_add]
                  exact new_cell2 wr _ _ _ jj u (by simpa [encF] using hu)
                have OF := hide KX.out.own
                have SZ := hide KX.out.size
                have FL := hide (fun w1 hg => KX.out.grown (w1 := w1) hg)
                go_wp2_with (at_builtin; refine wpList_append_own _ rfl (.tmp 74) (.tmp 89) 65 rfl W.heap.size 74 i0 (filV noFil) 7 56 Try.underlying65 hi0 hz0 hz1 hz2 rfl (by decide) u5 F.length (flatF F) rfl OF.out ⟨wr.heap.size + 1, 0, none⟩ 1 1 (encF (ya, a, yc, ac, sd, yp, lf)) rfl rfl NW.out (encF_cell _) (by unfold maxLen; omega) (by omega) SZ.out ?_; intro v' w1 hown1 hgrow1 hnil1; clear hnil1; have z4 := (ar_cells (FL.out w1 hgrow1) HKL.out).2.2.2.2; rw [HY.out] at z4; dsimp only [oqt] at z4; have z5 := ((FL.out w1 hgrow1).spare (A1.length * 5 + 4) HSP.out).2)
                go_roundw
                case rel =>
                  have IN := KX.out.fill hgrow1 hown1 HKL.out lf rfl (by rw [HY.out]; exact TKp.out) KX.out.kp TI.out (by have := KX.out.few; omega)
                  rw [HY.out] at IN
                  exact ⟨_, 0, _, _, _, _, by simp, rfl, by omega, by omega, IN⟩
                case measure => simp [intOf]; omega
              · have TI := hide (KR.out.ti.full hlf HX.out hac (by show yq ≤ lf; omega))
                have TKf := hide KR.out.tk.full
                have KX := hide (KR.out.on (((Below.refl _ wr).alloc (Nat.le_refl _) (.cells #[.int .i64 ya, .int .i64 yc, .int .i64 yd, .int .i64 yp, .int .i64 yq] 44)).alloc (by simp) (.cells #[.int .i64 ya, .int .i64 a, .int .i64 yc, .int .i64 ac, .int .i64 sd, .int .i64 yp, .int .i64 yq] 74)))
                have NW : Hid (∀ jj u, (encF (ya, a, yc, ac, sd, yp, yq))[jj]? = some u → ((wr.alloc (.cells #[.int .i64 ya, .int .i64 yc, .int .i64 yd, .int .i64 yp, .int .i64 yq] 44)).alloc (.cells #[.int .i64 ya, .int .i64 a, .int .i64 yc, .int .i64 ac, .int .i64 sd, .int .i64 yp, .int .i64 yq] 74)).cell? ((⟨wr.heap.size + 1, 0, none⟩ : Addr).add jj) = some u) := fun jj u hu => by
                  rw [add_lit, Nat.zero_add]
                  exact new_cell2 wr _ _ _ jj u (by simpa [encF] using hu)
                have OF := hide KX.out.own
                have SZ := hide KX.out.size
                have FL := hide (fun w1 hg => KX.out.grown (w1 := w1) hg)
                go_wp2_with (at_builtin; refine wpList_append_own _ rfl (.tmp 74) (.tmp 89) 65 rfl W.heap.size 74 i0 (filV noFil) 7 56 Try.underlying65 hi0 hz0 hz1 hz2 rfl (by decide) u5 F.length (flatF F) rfl OF.out ⟨wr.heap.size + 1, 0, none⟩ 1 1 (encF (ya, a, yc, ac, sd, yp, yq)) rfl rfl NW.out (encF_cell _) (by unfold maxLen; omega) (by omega) SZ.out ?_; intro v' w1 hown1 hgrow1 hnil1; clear hnil1; have z4 := (ar_cells (FL.out w1 hgrow1) HKL.out).2.2.2.2; rw [HY.out] at z4; dsimp only [oqt] at z4; have z5 := ((FL.out w1 hgrow1).spare (A1.length * 5 + 4) HSP.out).2)
                go_roundw
                case rel =>
                  have IN := KX.out.fill hgrow1 hown1 HKL.out yq rfl (by rw [HY.out]; exact TKf.out) (KX.out.kp.full _) TI.out (by have := KX.out.few; show _ + 1 + (lf - yq) ≤ _; omega)
                  rw [HY.out, show oqt (ya, yc, yd, yp, yq) - yq = 0 from Int.sub_self yq] at IN
                  exact ⟨_, lf - yq, _, _, _, _, rfl, rfl, by omega, by omega, IN⟩
                case measure => simp [intOf]; omega
    · have X := hide (K.out.ti.stop (takes_zero Y hlf))
      have hlf0 : lf = 0 := by omega
      subst hlf0
      have XX := HT.out.symm.trans X.out
      have E1 : Hid ((if sd = 1 then TA else TB) = Y) := (Prod.mk.inj XX).1
      have E2 : Hid (F0 = F) := (Prod.mk.inj (Prod.mk.inj XX).2).1
      have E3 : Hid (lf0 = _) := (Prod.mk.inj (Prod.mk.inj (Prod.mk.inj XX).2).2).1
      have E4 : Hid (m0 = _) := (Prod.mk.inj (Prod.mk.inj (Prod.mk.inj XX).2).2).2
      have BB := hide (HBO.out L A1 R wr g cap (by rw [E1.out]; exact K.out.tk) K.out.kp K.out.len (ar_ov K.out.ar).row)
      clear XX X
      go_wp2_with fail
      skip
      refine BB.out.mono ?_
      rintro e w3 ⟨p0, c0, p1, c1, rfl, v0, v1, z0, z1, hb3⟩
      have B3 := hide (K.out.below.trans (hb3.mono K.out.below.size))
      have T5 := hide (TW.out w3 B3.out)
      have hsz : w.heap.size + 1 + 1 < W0.heap.size := by rw [SW0.out]; omega
      have hsz2 : W0.heap.size ≤ W.heap.size := BW.out.size
      have hsz3 : W0.heap.size ≤ (wr).heap.size := K.out.below.size
      have V0 := hide (ov_below_two (t := w.heap.size + 1 + 1) (v0 := .slice p0 TB.length c0) (v1 := .slice p1 TA.length c1) v0 (fun a ha => by have := z0 a ha; omega))
      have V1 := hide (ov_below_two (t := w.heap.size + 1 + 1) (v0 := .slice p0 TB.length c0) (v1 := .slice p1 TA.length c1) v1 (fun a ha => by have := z1 a ha; omega))
      have OF : Hid (w3.ownsRow W.heap.size 74 7 u5 F.length (flatF F)) := (K.out.on hb3).own
      have SZ := hide (And.intro hsz (And.intro hsz2 hsz3))
      have GZ := hide (And.intro z0 z1)
      clear hb3 v0 v1 z0 z1 hsz hsz2 hsz3 BB
      obtain ⟨d0, d1, t0, t1, t2, t3⟩ := two_facts T5.out
      go_wp2
      obtain ⟨s0, s1⟩ := two_set T5.out (.slice p0 TB.length c0) (.slice p1 TA.length c1)
      refine bodyPost_ret (v := .tuple #[.agg #[.slice p0 TB.length c0, .slice p1 TA.length c1], u5, .int .i64 lf0, .bool m0]) (by rw [E3.out, E4.out]; simp [results, Try.results52, go_sem, s0, s1]) rfl ⟨p0, c0, p1, c1, u5, rfl, V0.out, V1.out, ?_, ?_, fun a ha => ?_, fun a ha => ?_⟩
      · rw [E2.out]
        have g1 := SZ.out.1
        have g2 := SZ.out.2.1
        exact own_base (ownsRow_setCell_below (ownsRow_setCell_below OF.out (by show w.heap.size + 1 + 1 < _; omega) _) (by show w.heap.size + 1 + 1 < _; omega) _) (by have := SW0.out; omega)
      · refine two_below_set (BW0.out.trans (B3.out.mono BW0.out.size)) (by omega) _ _
      · have := GZ.out.1 a ha; have := SZ.out; have := BW0.out.size; omega
      · have := GZ.out.2 a ha; have := SZ.out; have := BW0.out.size; omega
end Go.Proofs.Ytbphljnncbiddaa.Tk
namespace Go.Proofs.Ytbphljnncbiddaa.Tk
open Go.RowKit Go.Sort Go.Maps Go.Proofs.Ytbphljnncbiddaa.Mix Go.Proofs.Ytbphljnncbiddaa.Bk Go.Proofs.Ytbphljnncbiddaa.Rk

theorem nod_b {bids asks : List Odr} (h : Right bids asks) : (bids.map oid).Nodup ∧ (asks.map oid).Nodup := by
  have := List.nodup_append.1 h.nod
  exact ⟨this.1, this.2.1⟩

theorem taken_any (p p' : Option Addr) (c c' : Nat) (bids asks : List Odr) (a ac sd pr q : Int) (w : World) (h : OV w p c bids) (h' : OV w p' c' asks) (hR : Right bids asks) (hok : okOrder (a, ac, sd, pr, q) = 0) :
    Calls Try.prog 52 #[.agg #[.slice p bids.length c, .slice p' asks.length c'], .agg #[.int .i64 a, .int .i64 ac, .int .i64 sd, .int .i64 pr, .int .i64 q]] w fun e w' =>
      TakenPost w (takeB bids asks (a, ac, sd, pr, q)) (takeA bids asks (a, ac, sd, pr, q)) (takeT bids asks (a, ac, sd, pr, q)).2.1 (takeT bids asks (a, ac, sd, pr, q)).2.2.1 (takeT bids asks (a, ac, sd, pr, q)).2.2.2 e w' := by
  have hsd := okOrder_sd hok
  have hpq := okOrder_pq hok
  dsimp only [osd, opr, oqt] at hsd hpq
  have hT := take_right hR hok
  have hl := hR.few
  have hT2 := nod_b hT
  have OR : ∀ W, Below w.heap.size w W → Calls Try.prog 85 #[.agg #[.slice p bids.length c, .slice p' asks.length c']] W fun e w' => ∃ g cap, e = .returned (.slice (some ⟨g, 0, none⟩) (bids ++ asks).length cap) ∧ AR W w' g cap (bids ++ asks) ∧ Below W.heap.size W w' := fun W hW => orders_any p p' c c' bids asks W (h.below hW) (h'.below hW) hl
  have q1 : ∀ x, x ∈ bids → 1 ≤ oqt x ∧ oqt x ≤ 1000 := fun x hx => by have := okOrder_pq (hR.b.ok x hx); omega
  have q2 : ∀ x, x ∈ asks → 1 ≤ oqt x ∧ oqt x ≤ 1000 := fun x hx => by have := okOrder_pq (hR.a.ok x hx); omega
  have kb := keep_y hR.b rfl
  have ka := keep_y' hR.a rfl
  rcases hsd with rfl | rfl
  · refine taken_in bids.length asks.length c c' p p' a ac 1 pr q w asks bids [] (bids ++ asks) bids [] _ _ _ _ _ (bids ++ asks).length (.inl rfl) ⟨hpq.1, hpq.2.1⟩ ⟨hpq.2.2.1, hpq.2.2.2⟩ rfl
      ⟨by simp, fun x hx => .inl (hR.b.sd x hx), (fun x hx => by cases hx), hR.a⟩ ⟨by rw [List.append_nil]; exact kb.1, by rw [List.append_nil]; exact kb.2⟩ q2 rfl (by rw [List.length_append]; exact hl) OR ?_
    intro L A1 R W g cap tk kp hlen hrow
    have hA : Side (-1) (takeA bids asks (a, ac, 1, pr, q)) := hT.a
    have hk := keep_y' hA rfl
    have e1 : (if (1 : Int) = 1 then takeA bids asks (a, ac, 1, pr, q) else takeB bids asks (a, ac, 1, pr, q)) = takeA bids asks (a, ac, 1, pr, q) := if_pos rfl
    rw [e1] at tk
    have e2 : takeB bids asks (a, ac, 1, pr, q) = bids := if_pos rfl
    refine bookOf_any (some ⟨g, 0, none⟩) _ cap L _ _ W hlen (by rw [List.length_append]; omega) hrow hT.b hT2.1 ?_ (by have := hT.few; omega) hT.a hT2.2 ?_ (by have := hT.few; omega)
    · refine (keep_perm tk.eq keepB).trans ?_
      rw [kp.b, hk.1, e2, List.append_nil]
    · refine (keep_perm tk.eq keepA).trans ?_
      rw [kp.a, hk.2, List.nil_append]
  · refine taken_in bids.length asks.length c c' p p' a ac (-1) pr q w bids [] asks (bids ++ asks) [] asks _ _ _ _ _ (bids ++ asks).length (.inr rfl) ⟨hpq.1, hpq.2.1⟩ ⟨hpq.2.2.1, hpq.2.2.2⟩ rfl
      ⟨by simp, (fun x hx => by cases hx), fun x hx => .inl (hR.a.sd x hx), hR.b⟩ ⟨ka.1, ka.2⟩ q1 rfl (by rw [List.length_append]; exact hl) OR ?_
    intro L A1 R W g cap tk kp hlen hrow
    have hB : Side 1 (takeB bids asks (a, ac, -1, pr, q)) := hT.b
    have hk := keep_y hB rfl
    have e1 : (if (-1 : Int) = 1 then takeA bids asks (a, ac, -1, pr, q) else takeB bids asks (a, ac, -1, pr, q)) = takeB bids asks (a, ac, -1, pr, q) := if_neg (by decide)
    rw [e1] at tk
    have e2 : takeA bids asks (a, ac, -1, pr, q) = asks := if_neg (show ¬ (-1 : Int) = 1 by decide)
    refine bookOf_any (some ⟨g, 0, none⟩) _ cap L _ _ W hlen (by rw [List.length_append]; omega) hrow hT.b hT2.1 ?_ (by have := hT.few; omega) hT.a hT2.2 ?_ (by have := hT.few; omega)
    · refine (keep_perm tk.eq keepB).trans ?_
      rw [kp.b, hk.1, List.nil_append]
    · refine (keep_perm tk.eq keepA).trans ?_
      rw [kp.a, hk.2, e2, List.append_nil]
end Go.Proofs.Ytbphljnncbiddaa.Tk
