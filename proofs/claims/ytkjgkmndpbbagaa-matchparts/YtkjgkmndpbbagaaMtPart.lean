/-
  The law MatchParts by contracts: what the two parts are; an order that may not take, or is too small.
-/
import Derived.Test.YtkjgkmndpbbagaaMtOf
import Derived.Test.YtkjgkmndpbbagaaMtFair
namespace Go.Proofs.Ytkjgkmndpbbagaa.Bk
open Go.RowKit Go.Sort Go.Maps Go.Proofs.Ytkjgkmndpbbagaa.Mix

def withQ (o : Odr) (m : Int) : Odr := (oid o, oac o, osd o, opr o, m)
theorem withQ_ok {o : Odr} {m : Int} (h : okOrder o = 0) (h1 : 1 ≤ m) (h2 : m ≤ oqt o) : okOrder (withQ o m) = 0 := by
  have a1 := okOrder_id h
  have a2 := okOrder_ac h
  have a3 := okOrder_sd h
  have a4 := okOrder_pq h
  obtain ⟨a, ac, sd, pr, q⟩ := o
  dsimp only [oid, oac, osd, opr, oqt] at *
  unfold okOrder withQ
  dsimp only [oid, oac, osd, opr, oqt]
  rw [if_neg (by omega), if_neg (by omega), if_neg (by omega)]

/-- what an order takes in two parts. -/
structure Parts (bids asks : List Odr) (o : Odr) (m : Int) : Prop where
  ok1 : okOrder (withQ o m) = 0
  ok2 : okOrder (withQ o (oqt o - m)) = 0
  right : Right (takeB bids asks (withQ o m)) (takeA bids asks (withQ o m))
  b : takeB bids asks o = takeB (takeB bids asks (withQ o m)) (takeA bids asks (withQ o m)) (withQ o (oqt o - m))
  a : takeA bids asks o = takeA (takeB bids asks (withQ o m)) (takeA bids asks (withQ o m)) (withQ o (oqt o - m))
  left : (takeT bids asks o).2.2.1 = (takeT (takeB bids asks (withQ o m)) (takeA bids asks (withQ o m)) (withQ o (oqt o - m))).2.2.1 + (takeT bids asks (withQ o m)).2.2.1
  met : 0 < (takeT bids asks o).2.2.1 → (takeT bids asks o).2.2.2 = (takeT (takeB bids asks (withQ o m)) (takeA bids asks (withQ o m)) (withQ o (oqt o - m))).2.2.2
  sum : ∀ id, qof id (takeT bids asks o).2.1 = qof id ((takeT bids asks (withQ o m)).2.1 ++ (takeT (takeB bids asks (withQ o m)) (takeA bids asks (withQ o m)) (withQ o (oqt o - m))).2.1)

/-- the fills of a right book: their makers and quantities, and how many. -/
theorem take_fills {bids asks : List Odr} {o : Odr} (h : Right bids asks) (ho : okOrder o = 0) : (∀ f, f ∈ (takeT bids asks o).2.1 → 1 ≤ f.1 ∧ 1 ≤ fqt f ∧ fqt f ≤ 1000) ∧ (takeT bids asks o).2.1.length ≤ 40 ∧ 0 ≤ (takeT bids asks o).2.2.1 ∧ (takeT bids asks o).2.2.1 ≤ 1000 := by
  have hq := okOrder_pq ho
  have hf := h.few
  have key : ∀ xs : List Odr, xs.length ≤ 40 → (∀ x, x ∈ xs → okOrder x = 0) → (∀ f, f ∈ (takes o (oqt o) xs).2.1 → 1 ≤ f.1 ∧ 1 ≤ fqt f ∧ fqt f ≤ 1000) ∧ (takes o (oqt o) xs).2.1.length ≤ 40 ∧ 0 ≤ (takes o (oqt o) xs).2.2.1 ∧ (takes o (oqt o) xs).2.2.1 ≤ 1000 := by
    intro xs hl hx
    have hl2 := takes_left' o xs (oqt o) (by omega) (fun x hm => (okOrder_pq (hx x hm)).2.2.1)
    refine ⟨fun f hm => ?_, by have := takes_few o xs (oqt o); omega, hl2.1, by omega⟩
    obtain ⟨h1, h2⟩ := takes_fills o xs (oqt o) (by omega) (fun x hm => (okOrder_pq (hx x hm)).2.2) f hm
    obtain ⟨x, hm2, e⟩ := List.mem_map.1 h1
    have := (okOrder_id (hx x hm2)).1
    exact ⟨by omega, h2⟩
  unfold takeT
  by_cases hs : osd o = 1
  · rw [if_pos hs]; exact key asks (by omega) h.a.ok
  · rw [if_neg hs]; exact key bids (by omega) h.b.ok

theorem parts_of {bids asks : List Odr} {o : Odr} {m : Int} (h : Right bids asks) (ho : okOrder o = 0) (h1 : 1 ≤ m) (h2 : m < oqt o) : Parts bids asks o m := by
  have k1 := withQ_ok ho h1 (by omega)
  have k2 := withQ_ok (m := oqt o - m) ho (by omega) (by omega)
  have hr := take_right h k1
  obtain ⟨a, ac, sd, pr, q⟩ := o
  dsimp only [oqt] at h2 k2
  have tw := fun xs hx => takes_two (a, ac, sd, pr, q) xs q m (by omega) h2 hx
  by_cases hs : sd = 1
  · have t2 := tw asks (fun x hx => (okOrder_pq (h.a.ok x hx)).2.2.1)
    have T1 : takeT bids asks (a, ac, sd, pr, q) = takes (a, ac, sd, pr, q) q asks := by
      show takes (a, ac, sd, pr, q) q (if sd = 1 then asks else bids) = _
      rw [if_pos hs]
    have T2 : takeT bids asks (withQ (a, ac, sd, pr, q) m) = takes (a, ac, sd, pr, q) m asks := by
      show takes (a, ac, sd, pr, m) m (if sd = 1 then asks else bids) = _
      rw [if_pos hs]
      exact takes_any _ _
    have B2 : takeB bids asks (withQ (a, ac, sd, pr, q) m) = bids := by
      show (if sd = 1 then bids else _) = _
      rw [if_pos hs]
    have A2 : takeA bids asks (withQ (a, ac, sd, pr, q) m) = (takes (a, ac, sd, pr, q) m asks).1 := by
      show (if sd = 1 then (takeT bids asks (withQ (a, ac, sd, pr, q) m)).1 else asks) = _
      rw [if_pos hs, T2]
    have T3 : takeT (takeB bids asks (withQ (a, ac, sd, pr, q) m)) (takeA bids asks (withQ (a, ac, sd, pr, q) m)) (withQ (a, ac, sd, pr, q) (q - m)) = takes (a, ac, sd, pr, q) (q - m) (takes (a, ac, sd, pr, q) m asks).1 := by
      rw [B2, A2]
      show takes (a, ac, sd, pr, q - m) (q - m) (if sd = 1 then _ else _) = _
      rw [if_pos hs]
      exact takes_any _ _
    refine ⟨k1, k2, hr, ?_, ?_, ?_, ?_, ?_⟩
    · show (if sd = 1 then bids else _) = (if sd = 1 then takeB bids asks (withQ (a, ac, sd, pr, q) m) else _)
      rw [if_pos hs, if_pos hs, B2]
    · show (if sd = 1 then (takeT bids asks (a, ac, sd, pr, q)).1 else asks) = (if sd = 1 then (takeT (takeB bids asks (withQ (a, ac, sd, pr, q) m)) (takeA bids asks (withQ (a, ac, sd, pr, q) m)) (withQ (a, ac, sd, pr, q) (q - m))).1 else _)
      rw [if_pos hs, if_pos hs, T1, T3]
      exact t2.1
    · show _ = (takeT (takeB bids asks (withQ (a, ac, sd, pr, q) m)) (takeA bids asks (withQ (a, ac, sd, pr, q) m)) (withQ (a, ac, sd, pr, q) (q - m))).2.2.1 + _
      rw [T1, T2, T3]
      exact t2.2.1
    · show _ → _ = (takeT (takeB bids asks (withQ (a, ac, sd, pr, q) m)) (takeA bids asks (withQ (a, ac, sd, pr, q) m)) (withQ (a, ac, sd, pr, q) (q - m))).2.2.2
      rw [T1, T3]
      exact t2.2.2.1
    · intro id
      show _ = qof id (_ ++ (takeT (takeB bids asks (withQ (a, ac, sd, pr, q) m)) (takeA bids asks (withQ (a, ac, sd, pr, q) m)) (withQ (a, ac, sd, pr, q) (q - m))).2.1)
      rw [T1, T2, T3]
      exact t2.2.2.2 id
  · have t2 := tw bids (fun x hx => (okOrder_pq (h.b.ok x hx)).2.2.1)
    have T1 : takeT bids asks (a, ac, sd, pr, q) = takes (a, ac, sd, pr, q) q bids := by
      show takes (a, ac, sd, pr, q) q (if sd = 1 then asks else bids) = _
      rw [if_neg hs]
    have T2 : takeT bids asks (withQ (a, ac, sd, pr, q) m) = takes (a, ac, sd, pr, q) m bids := by
      show takes (a, ac, sd, pr, m) m (if sd = 1 then asks else bids) = _
      rw [if_neg hs]
      exact takes_any _ _
    have B2 : takeB bids asks (withQ (a, ac, sd, pr, q) m) = (takes (a, ac, sd, pr, q) m bids).1 := by
      show (if sd = 1 then bids else (takeT bids asks (withQ (a, ac, sd, pr, q) m)).1) = _
      rw [if_neg hs, T2]
    have A2 : takeA bids asks (withQ (a, ac, sd, pr, q) m) = asks := by
      show (if sd = 1 then _ else asks) = _
      rw [if_neg hs]
    have T3 : takeT (takeB bids asks (withQ (a, ac, sd, pr, q) m)) (takeA bids asks (withQ (a, ac, sd, pr, q) m)) (withQ (a, ac, sd, pr, q) (q - m)) = takes (a, ac, sd, pr, q) (q - m) (takes (a, ac, sd, pr, q) m bids).1 := by
      rw [B2, A2]
      show takes (a, ac, sd, pr, q - m) (q - m) (if sd = 1 then _ else _) = _
      rw [if_neg hs]
      exact takes_any _ _
    refine ⟨k1, k2, hr, ?_, ?_, ?_, ?_, ?_⟩
    · show (if sd = 1 then bids else (takeT bids asks (a, ac, sd, pr, q)).1) = (if sd = 1 then _ else (takeT (takeB bids asks (withQ (a, ac, sd, pr, q) m)) (takeA bids asks (withQ (a, ac, sd, pr, q) m)) (withQ (a, ac, sd, pr, q) (q - m))).1)
      rw [if_neg hs, if_neg hs, T1, T3]
      exact t2.1
    · show (if sd = 1 then _ else asks) = (if sd = 1 then _ else takeA bids asks (withQ (a, ac, sd, pr, q) m))
      rw [if_neg hs, if_neg hs, A2]
    · show _ = (takeT (takeB bids asks (withQ (a, ac, sd, pr, q) m)) (takeA bids asks (withQ (a, ac, sd, pr, q) m)) (withQ (a, ac, sd, pr, q) (q - m))).2.2.1 + _
      rw [T1, T2, T3]
      exact t2.2.1
    · show _ → _ = (takeT (takeB bids asks (withQ (a, ac, sd, pr, q) m)) (takeA bids asks (withQ (a, ac, sd, pr, q) m)) (withQ (a, ac, sd, pr, q) (q - m))).2.2.2
      rw [T1, T3]
      exact t2.2.2.1
    · intro id
      show _ = qof id (_ ++ (takeT (takeB bids asks (withQ (a, ac, sd, pr, q) m)) (takeA bids asks (withQ (a, ac, sd, pr, q) m)) (withQ (a, ac, sd, pr, q) (q - m))).2.1)
      rw [T1, T2, T3]
      exact t2.2.2.2 id

set_option maxHeartbeats 1000000 in
set_option maxRecDepth 100000 in
theorem parts_bad (p p' : Option Addr) (c c' : Nat) (bids asks : List Odr) (a ac sd pr q n : Int) (w : World) (h : OV w p c bids) (h' : OV w p' c' asks) (hn : bids.length ≤ 140737488351232) (hn' : asks.length ≤ 140737488351232) (he : ¬ takeErr bids asks (a, ac, sd, pr, q) = 0) :
    Calls Try.prog 12 #[.agg #[.slice p bids.length c, .slice p' asks.length c'], .agg #[.int .i64 a, .int .i64 ac, .int .i64 sd, .int .i64 pr, .int .i64 q], .int .i64 n] w fun e w' => e = .returned (.bool true) ∧ Below w.heap.size w w' := by
  have hb0 : ∀ o1 o2, Below w.heap.size w ((w.alloc o1).alloc o2) := fun o1 o2 => ((Below.refl _ w).alloc (Nat.le_refl _) _).alloc (by simp) _
  have TK := hide (fun X (hX : Below w.heap.size w X) => take_bad p p' c c' bids asks a ac sd pr q X (orow_below h.row hX) (orow_below h'.row hX) hn hn' he)
  have MT := hide matched_any
  generalize takeErr bids asks (a, ac, sd, pr, q) = r at he TK
  have er : (r == 0) = false := by simp [he]
  generalize bids.length = nb at TK ⊢
  generalize asks.length = na at TK ⊢
  clear h h' hn hn'
  go_enter Try.func12, Try.ntmps12
  go_wp2_with fail
  refine (TK.out _ (hb0 _ _)).mono ?_
  rintro e w2 ⟨rfl, b2⟩
  have B2 := (hb0 (.cells #[.slice p nb c, .slice p' na c'] 42) (.cells #[.int .i64 a, .int .i64 ac, .int .i64 sd, .int .i64 pr, .int .i64 q] 44)).trans (b2.mono (by simp; omega))
  have B3 := hide (B2.alloc B2.size (.cells #[.slice none 0 0, .slice none 0 0] 42))
  clear b2 B2 TK hb0
  go_wp2_with fail
  refine (MT.out _).mono ?_
  rintro e w3 ⟨rfl, b3⟩
  have B4 := hide (B3.out.trans (b3.mono B3.out.size))
  clear b3 B3
  go_wp2_with fail
  refine (MT.out _).mono ?_
  rintro e w4 ⟨rfl, b4⟩
  have B5 := hide (B4.out.trans (b4.mono B4.out.size))
  clear b4 B4
  go_wp2
  go_ret
  exact ⟨rfl, B5.out⟩

set_option maxHeartbeats 1000000 in
set_option maxRecDepth 100000 in
theorem parts_small (p p' : Option Addr) (c c' : Nat) (bids asks : List Odr) (a ac sd pr q n : Int) (w : World) (h : OV w p c bids) (h' : OV w p' c' asks) (hR : Right bids asks) (hok : okOrder (a, ac, sd, pr, q) = 0) (hq : q < 2) :
    Calls Try.prog 12 #[.agg #[.slice p bids.length c, .slice p' asks.length c'], .agg #[.int .i64 a, .int .i64 ac, .int .i64 sd, .int .i64 pr, .int .i64 q], .int .i64 n] w fun e w' => e = .returned (.bool true) ∧ Below w.heap.size w w' := by
  have hb0 : ∀ o1 o2, Below w.heap.size w ((w.alloc o1).alloc o2) := fun o1 o2 => ((Below.refl _ w).alloc (Nat.le_refl _) _).alloc (by simp) _
  have TK := hide (fun X (hX : Below w.heap.size w X) => take_any p p' c c' bids asks (a, ac, sd, pr, q) X (h.below hX) (h'.below hX) hR hok)
  have MT := hide matched_any
  generalize takeB bids asks (a, ac, sd, pr, q) = B1 at TK
  generalize takeA bids asks (a, ac, sd, pr, q) = A1 at TK
  generalize takeT bids asks (a, ac, sd, pr, q) = T1 at TK
  obtain ⟨R, F, left, met⟩ := T1
  dsimp only at TK
  generalize bids.length = nb at TK ⊢
  generalize asks.length = na at TK ⊢
  clear h h' hR hok
  go_enter Try.func12, Try.ntmps12
  go_wp2_with fail
  refine (TK.out _ (hb0 _ _)).mono ?_
  rintro e w2 ⟨p1, c1, p2, c2, vF, rfl, o1, o2, of, b2, -, -⟩
  have B2 := (hb0 (.cells #[.slice p nb c, .slice p' na c'] 42) (.cells #[.int .i64 a, .int .i64 ac, .int .i64 sd, .int .i64 pr, .int .i64 q] 44)).trans (b2.mono (by simp; omega))
  have m4 : w2.cell? ⟨w.heap.size + 1, 4, none⟩ = some (.int .i64 q) := (b2.cell (by simp)).trans (new_cell2 _ _ _ _ _ _ rfl)
  have al := (Below.refl w2.heap.size w2).alloc (Nat.le_refl _) (.cells #[.slice p1 B1.length c1, .slice p2 A1.length c2] 42)
  have n4 := (al.cell (World.block_lt_of_cell? _ _ m4)).trans m4
  have B3 := hide (B2.trans (al.mono B2.size))
  clear b2 B2 TK hb0 al m4 o1 o2 of
  go_wp2_with fail
  refine (MT.out _).mono ?_
  rintro e w3 ⟨rfl, b3⟩
  have k4 := (b3.cell (World.block_lt_of_cell? _ _ n4)).trans n4
  have B4 := hide (B3.out.trans (b3.mono B3.out.size))
  clear b3 B3 n4
  go_wp2_with fail
  refine (MT.out _).mono ?_
  rintro e w4 ⟨rfl, b4⟩
  have B5 := hide (B4.out.trans (b4.mono B4.out.size))
  clear b4 B4 k4
  go_wp2
  go_ret
  exact ⟨rfl, B5.out⟩
end Go.Proofs.Ytkjgkmndpbbagaa.Bk
