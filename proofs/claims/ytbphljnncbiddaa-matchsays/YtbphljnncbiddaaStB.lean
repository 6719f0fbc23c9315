/-
  sort.SliceStable at orders of one side, by a contract: the closures that the reference hands it.
-/
import Derived.Test.YtbphljnncbiddaaStS
import Derived.Test.YtbphljnncbiddaaShelfS
import Derived.Test.YtbphljnncbiddaaBkSide
import Derived.Shelf.GgSortFunc.SmallK
namespace Go.Proofs.Ytbphljnncbiddaa.St
open Go.Shelf Go.RowKit Go.Lib Go.Sort Go.Maps Go.Proofs.Ytbphljnncbiddaa.Bk

/-- an order of a side: its ID, account, price, quantity. -/
abbrev O4 := Int × Int × Int × Int
def mk4 (s : Int) (x : O4) : Odr := (x.1, x.2.1, s, x.2.2.1, x.2.2.2)
def enc4 (s : Int) (x : O4) : List Value := Bk.enc (mk4 s x)
def lt4 (s : Int) (x y : O4) : Bool := Bk.ahead (mk4 s x) (mk4 s y)
theorem len4 (s : Int) (x : O4) : (enc4 s x).length = 5 := rfl
theorem swo4 (s : Int) : SWO (lt4 s) := by
  refine ⟨fun x => ahead_irrefl _, fun x y z h1 h2 => ahead_trans (a := mk4 s x) (b := mk4 s y) (c := mk4 s z) rfl h1 h2, fun x y z h1 h2 => ?_⟩
  unfold lt4 at *
  rw [← Bool.not_eq_true, ahead_iff] at *
  simp only [mk4, opr, oid, osd] at *
  omega

set_option maxHeartbeats 1000000 in
theorem isAhead_grow (a ac sd pr q a' ac' sd' pr' q' : Int) (w : World) :
    Calls Try.prog 40 #[.agg #[.int .i64 a, .int .i64 ac, .int .i64 sd, .int .i64 pr, .int .i64 q], .agg #[.int .i64 a', .int .i64 ac', .int .i64 sd', .int .i64 pr', .int .i64 q']] w fun e w' =>
      e = .returned (.bool (Bk.ahead (a, ac, sd, pr, q) (a', ac', sd', pr', q'))) ∧ ∃ k os, w' = grow (w.drewN k) os := by
  have hw : ∀ o o', ∃ k os, (w.alloc o).alloc o' = grow (w.drewN k) os := fun o o' => ⟨0, #[o, o'], by rw [alloc_eq_grow, alloc_eq_grow, grow_grow]; rfl⟩
  by_cases h1 : pr = pr'
  · subst h1
    rw [show Bk.ahead (a, ac, sd, pr, q) (a', ac', sd', pr, q') = decide (a < a') from by simp [Bk.ahead]]
    go_enter Try.func40, Try.ntmps40
    go_wp2
    go_ret
    exact ⟨rfl, hw _ _⟩
  · have h1b : (pr == pr') = false := by simp [h1]
    by_cases h2 : sd = 1
    · subst h2
      rw [show Bk.ahead (a, ac, 1, pr, q) (a', ac', sd', pr', q') = decide (pr' < pr) from by simp [Bk.ahead, h1]]
      go_enter Try.func40, Try.ntmps40
      go_wp2
      go_ret
      exact ⟨rfl, hw _ _⟩
    · have h2b : (sd == 1) = false := by simp [h2]
      rw [show Bk.ahead (a, ac, sd, pr, q) (a', ac', sd', pr', q') = decide (pr < pr') from by simp [Bk.ahead, h1, h2]]
      go_enter Try.func40, Try.ntmps40
      go_wp2
      go_ret
      exact ⟨rfl, hw _ _⟩

theorem holds_cells {s : Int} {w : World} {blk off : Nat} {d : Array O4} (h : HoldsK (enc4 s) 5 w blk off d) {i : Nat} (hi : i < d.size) :
    w.cell? ⟨blk, off + i * 5, none⟩ = some (.int .i64 d[i]!.1) ∧ w.cell? ⟨blk, off + i * 5 + 1, none⟩ = some (.int .i64 d[i]!.2.1) ∧ w.cell? ⟨blk, off + i * 5 + 2, none⟩ = some (.int .i64 s) ∧ w.cell? ⟨blk, off + i * 5 + 3, none⟩ = some (.int .i64 d[i]!.2.2.1) ∧ w.cell? ⟨blk, off + i * 5 + 4, none⟩ = some (.int .i64 d[i]!.2.2.2) :=
  ⟨(h.cell (c := 0) hi (by decide)).1, (h.cell (c := 1) hi (by decide)).1, (h.cell (c := 2) hi (by decide)).1, (h.cell (c := 3) hi (by decide)).1, (h.cell (c := 4) hi (by decide)).1⟩

set_option maxHeartbeats 1000000 in
set_option maxRecDepth 100000 in
theorem less_bids (s : Int) (blk off n c Bb : Nat) (dk : Array O4) (W : World) (hB : W.cell? ⟨Bb, 0, none⟩ = some (.slice (some ⟨blk, off, none⟩) n c)) (hH : HoldsK (enc4 s) 5 W blk off dk) (hs : dk.size = n) (i j : Nat) (hi : i < n) (hj : j < n) :
    Calls Try.prog 108 #[.int .i64 i, .int .i64 j, .pointer (some ⟨Bb, 0, none⟩)] W fun e w' => e = .returned (.bool (lt4 s dk[i]! dk[j]!)) ∧ ∃ q os, w' = grow (W.drewN q) os := by
  have mixed : Try.prog.follows .mixedOrders = true := by kernel_rfl
  obtain ⟨x0, x1, x2, x3, x4⟩ := holds_cells hH (i := i) (by omega)
  obtain ⟨y0, y1, y2, y3, y4⟩ := holds_cells hH (i := j) (by omega)
  have b0 := fun n os => cell_grown (World.block_lt_of_cell? _ _ hB) hB n os
  have hbk : blk < W.heap.size := World.block_lt_of_cell? _ _ x0
  have X0 := fun n os => cell_grown (a := ⟨blk, _, none⟩) hbk x0 n os
  have X1 := fun n os => cell_grown (a := ⟨blk, _, none⟩) hbk x1 n os
  have X2 := fun n os => cell_grown (a := ⟨blk, _, none⟩) hbk x2 n os
  have X3 := fun n os => cell_grown (a := ⟨blk, _, none⟩) hbk x3 n os
  have X4 := fun n os => cell_grown (a := ⟨blk, _, none⟩) hbk x4 n os
  have Y0 := fun n os => cell_grown (a := ⟨blk, _, none⟩) hbk y0 n os
  have Y1 := fun n os => cell_grown (a := ⟨blk, _, none⟩) hbk y1 n os
  have Y2 := fun n os => cell_grown (a := ⟨blk, _, none⟩) hbk y2 n os
  have Y3 := fun n os => cell_grown (a := ⟨blk, _, none⟩) hbk y3 n os
  have Y4 := fun n os => cell_grown (a := ⟨blk, _, none⟩) hbk y4 n os
  have hiz : (i : Int) < n := by omega
  have hjz : (j : Int) < n := by omega
  clear x0 x1 x2 x3 x4 y0 y1 y2 y3 y4 hH hB hbk
  show Calls Try.prog _ _ W fun e w' => e = .returned (.bool (Bk.ahead (mk4 s dk[i]!) (mk4 s dk[j]!))) ∧ _
  unfold mk4
  generalize dk[i]! = x at *
  generalize dk[j]! = y at *
  obtain ⟨xa, xc, xp, xq⟩ := x
  obtain ⟨ya, yc, yp, yq⟩ := y
  dsimp only at *
  go_enter Try.func108, Try.ntmps108
  go_wp2_with fail
  refine wp_region_quiet_grown (by assumption) (by kernel_rfl) ?_
  repeat (go_big_quiet_step (first | (go_at_call 40; refine Calls.grown_of (isAhead_grow _ _ _ _ _ _ _ _ _ _ _))))
  refine wpQuiet_nil ?_
  intro _ hwq
  obtain ⟨⟨nq, osq⟩, hwq'⟩ := hwq
  subst hwq'
  go_wp2
  go_ret
  exact ⟨rfl, _, _, rfl⟩
set_option maxHeartbeats 1000000 in
set_option maxRecDepth 100000 in
theorem less_asks (s : Int) (blk off n c Bb : Nat) (dk : Array O4) (W : World) (hB : W.cell? ⟨Bb, 1, none⟩ = some (.slice (some ⟨blk, off, none⟩) n c)) (hH : HoldsK (enc4 s) 5 W blk off dk) (hs : dk.size = n) (i j : Nat) (hi : i < n) (hj : j < n) :
    Calls Try.prog 109 #[.int .i64 i, .int .i64 j, .pointer (some ⟨Bb, 0, none⟩)] W fun e w' => e = .returned (.bool (lt4 s dk[i]! dk[j]!)) ∧ ∃ q os, w' = grow (W.drewN q) os := by
  have mixed : Try.prog.follows .mixedOrders = true := by kernel_rfl
  obtain ⟨x0, x1, x2, x3, x4⟩ := holds_cells hH (i := i) (by omega)
  obtain ⟨y0, y1, y2, y3, y4⟩ := holds_cells hH (i := j) (by omega)
  have b0 := fun n os => cell_grown (World.block_lt_of_cell? _ _ hB) hB n os
  have hbk : blk < W.heap.size := World.block_lt_of_cell? _ _ x0
  have X0 := fun n os => cell_grown (a := ⟨blk, _, none⟩) hbk x0 n os
  have X1 := fun n os => cell_grown (a := ⟨blk, _, none⟩) hbk x1 n os
  have X2 := fun n os => cell_grown (a := ⟨blk, _, none⟩) hbk x2 n os
  have X3 := fun n os => cell_grown (a := ⟨blk, _, none⟩) hbk x3 n os
  have X4 := fun n os => cell_grown (a := ⟨blk, _, none⟩) hbk x4 n os
  have Y0 := fun n os => cell_grown (a := ⟨blk, _, none⟩) hbk y0 n os
  have Y1 := fun n os => cell_grown (a := ⟨blk, _, none⟩) hbk y1 n os
  have Y2 := fun n os => cell_grown (a := ⟨blk, _, none⟩) hbk y2 n os
  have Y3 := fun n os => cell_grown (a := ⟨blk, _, none⟩) hbk y3 n os
  have Y4 := fun n os => cell_grown (a := ⟨blk, _, none⟩) hbk y4 n os
  have hiz : (i : Int) < n := by omega
  have hjz : (j : Int) < n := by omega
  clear x0 x1 x2 x3 x4 y0 y1 y2 y3 y4 hH hB hbk
  show Calls Try.prog _ _ W fun e w' => e = .returned (.bool (Bk.ahead (mk4 s dk[i]!) (mk4 s dk[j]!))) ∧ _
  unfold mk4
  generalize dk[i]! = x at *
  generalize dk[j]! = y at *
  obtain ⟨xa, xc, xp, xq⟩ := x
  obtain ⟨ya, yc, yp, yq⟩ := y
  dsimp only at *
  go_enter Try.func109, Try.ntmps109
  go_wp2_with fail
  refine wp_region_quiet_grown (by assumption) (by kernel_rfl) ?_
  repeat (go_big_quiet_step (first | (go_at_call 40; refine Calls.grown_of (isAhead_grow _ _ _ _ _ _ _ _ _ _ _))))
  refine wpQuiet_nil ?_
  intro _ hwq
  obtain ⟨⟨nq, osq⟩, hwq'⟩ := hwq
  subst hwq'
  go_wp2
  go_ret
  exact ⟨rfl, _, _, rfl⟩
end Go.Proofs.Ytbphljnncbiddaa.St
