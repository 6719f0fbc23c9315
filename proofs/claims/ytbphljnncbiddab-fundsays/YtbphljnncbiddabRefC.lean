/-
  The reference's chapter 4 by contracts: OwnAccount, Traded, EquityOf.
-/
import Derived.Test.YtbphljnncbiddabRefB
import Derived.Test.YtbphljnncbiddabAc5
namespace Go.Proofs.Ytbphljnncbiddab.Ac
open Go.RowKit Go.Proofs.Ytbphljnncbiddab.Num Go.Proofs.Ytbphljnncbiddab.Fix Go.Proofs.Ytbphljnncbiddab.AcP

theorem row_news {w : World} {ad : Addr} {xs : List Int} (h : Row w (some ad) xs) (j : Nat) (u : Value) (hu : (xs.map (Value.int .i64))[j]? = some u) : w.cell? (ad.add j) = some u := by
  rcases h with rfl | ⟨b, off, e, hc⟩
  · simp at hu
  · cases e
    rw [List.getElem?_map] at hu
    cases hx : xs[j]? with
    | none => rw [hx] at hu; cases hu
    | some x =>
      rw [hx] at hu
      have hj : j < xs.length := (List.getElem?_eq_some_iff.1 hx).1
      have := hc j hj
      rw [List.getD_eq_getElem?_getD, hx] at this
      rw [show (⟨b, off, none⟩ : Addr).add j = ⟨b, off + j, none⟩ from by simp [Addr.add], this]
      exact hu
theorem int_cells (xs : List Int) : ∀ u ∈ xs.map (Value.int .i64), u.oneCell' = true := by
  intro u hu
  obtain ⟨n, _, rfl⟩ := List.mem_map.1 hu
  rfl

theorem own_after {w w1 : World} {u0 u1 u2 : Value} {n : Nat} {pos : List Int} {v' : Value} (hown : w1.ownsRow (w.heap.size + 2) 3 1 v' (0 + n) ([] ++ pos.map (Value.int .i64)))
    (hg : (((w.alloc (.cells #[u0, u1, u2] 30)).alloc noO).alloc (.cells #[] 3)).grownBy w1 (Value.slice (some ⟨w.heap.size + 1 + 1, 0, none⟩) 0 0).ownBlock) :
    ∃ av cv, v' = .slice av n cv ∧ Hid (w1.ownsRow (w.heap.size + 2) 3 1 (.slice av n cv) n (pos.map (Value.int .i64))) ∧ Hid (w1.heap[w.heap.size]? = some (.cells #[u0, u1, u2] 30 (0, 0))) ∧ Hid (Three w1 (w.heap.size + 1)) ∧ Hid (Below w.heap.size w w1) := by
  rw [Nat.zero_add, List.nil_append] at hown
  obtain ⟨_, av, cv, rfl, _, _⟩ := row_own hown
  refine ⟨av, cv, rfl, hown, ?_, ?_, ?_⟩
  · show _ = _
    rw [hg.block w.heap.size (by simp; omega) (by simp [Value.ownBlock]; omega)]
    have h1 := (below_alloc ((w.alloc (.cells #[u0, u1, u2] 30)).alloc noO) (.cells #[] 3)).block w.heap.size (by simp; omega)
    have h2 := (below_alloc (w.alloc (.cells #[u0, u1, u2] 30)) noO).block w.heap.size (by simp)
    rw [h1, h2]
    exact heap_alloc_new w _
  · obtain ⟨x0, x1, x2, hx⟩ := three_alloc (three_made2 w (.cells #[u0, u1, u2] 30) (.int .i64 0) (.int .i64 0) (.slice none 0 0)) (.cells #[] 3)
    exact ⟨x0, x1, x2, by rw [hg.block (w.heap.size + 1) (by simp) (by simp [Value.ownBlock])]; exact hx⟩
  · exact (below3 w _ _ _).grown hg (by simp; omega) (fun j hj => by simp [Value.ownBlock] at hj; omega)

set_option maxHeartbeats 2000000 in
set_option maxRecDepth 100000 in
theorem ownAccount_any (id bal : Int) (p : Option Addr) (n c : Nat) (pos : List Int) (w : World) (hl : pos.length = n) (hn : n * 8 ≤ 140737488351232) (hnil : p = none → c = 0) (h : Row w p pos) :
    Calls Try.prog 16 #[accV id bal p n c] w fun e w' => ∃ v, e = .returned (.agg #[.int .i64 id, .int .i64 bal, v]) ∧ w'.ownsRow w.heap.size 3 1 v n (pos.map (Value.int .i64)) ∧ Below w.heap.size w w' := by
  obtain ⟨i0, hi, hz0, hz1, hz2⟩ := info_parts (show (Try.prog.info? 3).map (fun i => (i.zero, i.size, i.bytes)) = some (some (.int .i64 0), 1, 8) by kernel_rfl)
  cases p with
  | none =>
    obtain rfl := hnil rfl
    obtain rfl : pos = [] := by
      rcases h with h | ⟨_, _, e, _⟩
      · exact h
      · cases e
    obtain rfl : n = 0 := hl.symm
    clear hnil hn hl h
    go_enter Try.func16, Try.ntmps16
    go_wp2
    refine bodyPost_ret (v := .agg #[.int .i64 id, .int .i64 bal, .slice (some ⟨w.heap.size + 1 + 1, 0, none⟩) 0 0]) (by simp [results, Try.results16, go_sem]) rfl ⟨_, rfl, ?_, below3 _ _ _ _⟩
    have := World.ownsRow_made (base := w.heap.size) (e := 3) (size := 1) ((w.alloc (accO id bal (some ⟨w.heap.size + 1 + 1, 0, none⟩) 0 0)).alloc (accO id bal (some ⟨w.heap.size + 1 + 1, 0, none⟩) 0 0)) #[] 0 (by simp; omega) (by decide) rfl
    simpa using this
  | some ad =>
    have O0 : Hid ((((w.alloc (accO id bal (some ad) n c)).alloc noO).alloc (.cells #[] 3)).ownsRow (w.heap.size + 2) 3 1 (.slice (some ⟨w.heap.size + 1 + 1, 0, none⟩) 0 0) 0 []) := by
      have := World.ownsRow_made (base := w.heap.size + 2) (e := 3) (size := 1) ((w.alloc (accO id bal (some ad) n c)).alloc noO) #[] 0 (by simp) (by decide) rfl
      exact hide (by simpa using this)
    have NW := hide (fun j u hu => row_news (row_below h (below3 w (accO id bal (some ad) n c) noO (.cells #[] 3))) j u hu)
    have LN : Hid ((pos.map (Value.int .i64)).length = n * 1) := by show _ = _; simp [hl]
    have IC := hide (int_cells pos)
    have SZ : Hid (w.heap.size + 2 ≤ (((w.alloc (accO id bal (some ad) n c)).alloc noO).alloc (.cells #[] 3)).heap.size) := by show _ ≤ _; simp
    have ML : 0 + n ≤ maxLen := by unfold maxLen; omega
    clear hnil h hl
    go_enter Try.func16, Try.ntmps16
    go_wp2_with (at_builtin; refine wpList_append_own _ rfl (.tmp 3) (.tmp 5) 28 rfl (w.heap.size + 2) 3 i0 (.int .i64 0) 1 8 Try.underlying28 hi hz0 hz1 hz2 rfl (by decide) (.slice (some ⟨w.heap.size + 1 + 1, 0, none⟩) 0 0) 0 [] rfl O0.out ad n c (pos.map (Value.int .i64)) rfl LN.out NW.out IC.out ML (by omega) SZ.out ?_; intro v' w1 hown1 hgrow1 hnil1; obtain ⟨av, cv, rfl, OW, TA, TR, BW⟩ := own_after hown1 hgrow1; clear hown1 hgrow1 hnil1; obtain ⟨a0, a1, a2⟩ := three_read TA.out; obtain ⟨-, -, -, -, -, -, a3, a4, a5⟩ := three_facts ⟨_, _, _, TA.out⟩; obtain ⟨u0, u1, u2, t0, t1, t2, t3, t4, t5⟩ := three_facts TR.out)
    have TY := three_other TR.out (a := ⟨w.heap.size, 2, none⟩) (by simp) (.slice av n cv)
    obtain ⟨s0, s1, s2⟩ := three_read (three_set TY (.int .i64 id) (.int .i64 bal) (.slice av n cv))
    refine bodyPost_ret (v := .agg #[.int .i64 id, .int .i64 bal, .slice av n cv]) (by simp [results, Try.results16, go_sem, s0, s1, s2]) rfl ⟨_, rfl, ?_, ?_⟩
    · exact own_base (ownsRow_setCell_below (ownsRow_setCell_below (ownsRow_setCell_below (ownsRow_setCell_below OW.out (by simp) _) (by simp) _) (by simp) _) (by simp) _) (by omega)
    · exact three_below_set (BW.out.setCell (Nat.le_refl _) _) (by omega) _ _ _
end Go.Proofs.Ytbphljnncbiddab.Ac
