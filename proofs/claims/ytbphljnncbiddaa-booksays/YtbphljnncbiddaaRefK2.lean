/-
  The reference's bookOf, by a contract.
-/
import Derived.Test.YtbphljnncbiddaaRefK
import Derived.Test.YtbphljnncbiddaaRefJ2
namespace Go.Proofs.Ytbphljnncbiddaa.Rk
open Go.Shelf Go.RowKit Go.Lib Go.Sort Go.Maps Go.Proofs.Ytbphljnncbiddaa.Bk
open Go.Proofs.Ytbphljnncbiddaa.St hiding hide

theorem bk_cells {x : World} {t : Nat} {u0 u1 : Value} (h : x.heap[t]? = some (.cells #[u0, u1] 42 (0, 0))) : x.cell? ⟨t, 0, none⟩ = some u0 ∧ x.cell? ⟨t, 1, none⟩ = some u1 ∧ x.frozen? ⟨t, 0, none⟩ = false ∧ x.frozen? ⟨t, 1, none⟩ = false := by
  refine ⟨?_, ?_, ?_, ?_⟩ <;> simp [World.cell?, World.frozen?, h]
theorem bo_start (w : World) : BO w ((w.alloc (.cells #[.slice none 0 0, .slice none 0 0] 42)).alloc (.cells #[.slice none 0 0, .slice none 0 0] 42)) (.slice none 0 0) (.slice none 0 0) [] [] := by
  refine ⟨(below_new w _).trans ((below_new _ _).mono (by simp)), by simp, ?_, ?_, World.ownsRow_nil _ _ _ _, World.ownsRow_nil _ _ _ _, fun g e => by simp [Value.ownBlock] at e⟩
  · have := heap_alloc_new (w.alloc (.cells #[.slice none 0 0, .slice none 0 0] 42)) (.cells #[.slice none 0 0, .slice none 0 0] 42)
    simpa using this
  · refine two_below ⟨.slice none 0 0, .slice none 0 0, ?_⟩ (below_new _ _)
    exact heap_alloc_new w _

theorem br_grown {w wb w1 : World} {v0 v1 v : Value} {n : Nat} {fl : List Value} (h1 : Below w.heap.size w wb) (h2 : w.heap.size + 2 ≤ wb.heap.size) (h3 : wb.heap[w.heap.size + 1]? = some (.cells #[v0, v1] 42 (0, 0))) (h4 : Two wb w.heap.size)
    (hv : wb.ownsRow (w.heap.size + 2) 44 5 v n fl) (hg : wb.grownBy w1 v.ownBlock) :
    Below w.heap.size w w1 ∧ w.heap.size + 2 ≤ w1.heap.size ∧ w1.heap[w.heap.size + 1]? = some (.cells #[v0, v1] 42 (0, 0)) ∧ Two w1 w.heap.size := by
  have hb : ∀ k, k < w.heap.size + 2 → w1.heap[k]? = wb.heap[k]? := fun k hk => hg.block k (by omega) (fun e => by have := (hv.lt k e.symm).1; omega)
  refine ⟨h1.grown hg h1.size (fun j hj => by have := (hv.lt j hj).1; omega), Nat.le_trans h2 hg.size, (hb _ (by omega)).trans h3, ?_⟩
  obtain ⟨u0, u1, hr⟩ := h4
  exact ⟨u0, u1, (hb _ (by omega)).trans hr⟩
theorem orow_grown {w w' : World} {p : Option Addr} {xs : List Odr} {row : Option Nat} (h : ORow w p xs) (hg : w.grownBy w' row) (hne : ∀ a, p = some a → some a.block ≠ row) : ORow w' p xs := by
  rcases h with rfl | ⟨b, off, rfl, hc⟩
  · exact .inl rfl
  · exact .inr ⟨b, off, rfl, fun j hj i v hv => hg.cell (hc j hj i v hv) (hne ⟨b, off, none⟩ rfl)⟩
theorem orow_below_two {w : World} {p : Option Addr} {xs : List Odr} {t : Nat} {v0 v1 : Value} (h : ORow w p xs) (hne : ∀ a, p = some a → a.block ≠ t) : ORow ((w.setCell ⟨t, 0, none⟩ v0).setCell ⟨t, 1, none⟩ v1) p xs := by
  rcases h with rfl | ⟨b, off, rfl, hc⟩
  · exact .inl rfl
  · refine .inr ⟨b, off, rfl, fun j hj i v hv => ?_⟩
    have hb : b ≠ t := hne _ rfl
    rw [set_other _ hb, set_other _ hb]
    exact hc j hj i v hv

set_option maxHeartbeats 2000000 in
set_option maxRecDepth 100000 in
theorem bookOf_any (p : Option Addr) (n c : Nat) (xs TB TA : List Odr) (w : World) (hl : xs.length = n) (hn : n ≤ 1000) (h : ORow w p xs)
    (sB : Side 1 TB) (nB : (TB.map oid).Nodup) (pB : (xs.filter keepB).Perm TB) (lB : TB.length ≤ 40) (sA : Side (-1) TA) (nA : (TA.map oid).Nodup) (pA : (xs.filter keepA).Perm TA) (lA : TA.length ≤ 40) :
    Calls Try.prog 87 #[.slice p n c] w fun e w' => ∃ p0 c0 p1 c1, e = .returned (.agg #[.slice p0 TB.length c0, .slice p1 TA.length c1]) ∧ OV w' p0 c0 TB ∧ OV w' p1 c1 TA ∧ (∀ a, p0 = some a → w.heap.size ≤ a.block) ∧ (∀ a, p1 = some a → w.heap.size ≤ a.block) ∧ Below w.heap.size w w' := by
  obtain ⟨i0, hi, hz0, hz1, hz2⟩ := info_parts Try.infoO
  have HR := hide h
  have HL := hide hl
  have S0 := hide (fun wr v0 (ho : wr.ownsRow (w.heap.size + 2) 44 5 v0 (xs.filter keepB).length (flat (xs.filter keepB))) hb => sort_bids 1 wr (w.heap.size + 2) (w.heap.size + 1) _ v0 _ TB ho rfl (fun x hx => sB.sd x (pB.mem_iff.1 hx)) (by rw [pB.length_eq]; exact lB) hb (by omega) sB nB pB)
  have S1 := hide (fun wr v1 (ho : wr.ownsRow (w.heap.size + 2) 44 5 v1 (xs.filter keepA).length (flat (xs.filter keepA))) hb => sort_asks (-1) wr (w.heap.size + 2) (w.heap.size + 1) _ v1 _ TA ho rfl (fun x hx => sA.sd x (pA.mem_iff.1 hx)) (by rw [pA.length_eq]; exact lA) hb (by omega) sA nA pA)
  have E0 := hide pB.length_eq
  have E1 := hide pA.length_eq
  clear h hl sB nB pB lB sA nA pA lA
  go_enter Try.func87, Try.ntmps87
  go_wp2
  go_loopw [8] (fun vi wr => ∃ (k : Nat) (v0 v1 : Value), vi = .int .i64 k ∧ k ≤ n ∧ Hid (BO w wr v0 v1 ((xs.take k).filter keepB) ((xs.take k).filter keepA))) (fun vi _ => n - (intOf vi).toNat)
  case atStart => exact ⟨0, _, _, rfl, Nat.zero_le _, bo_start w⟩
  case round =>
    obtain ⟨k, v0, v1, rfl, hk, HB⟩ := hrel
    by_cases hlt : k < n
    · have hltz : (k : Int) < n := by omega
      have hkx : k < xs.length := by rw [HL.out]; exact hlt
      obtain ⟨b, off, rfl, hc⟩ : ∃ b off, p = some ⟨b, off, none⟩ ∧ ∀ j, j < xs.length → ∀ i v, (Bk.enc xs[j]!)[i]? = some v → w.cell? ⟨b, off + j * 5 + i, none⟩ = some v := HR.out.resolve_left (fun e => by rw [e] at hkx; simp at hkx)
      have HC := hide hc
      clear hc
      obtain ⟨c0, c1, c2, c3, c4⟩ := orow_cells (w := wr) (b := b) (off := off) (xs := xs) (fun j hj i v hv => (HB.out.below.cell (World.block_lt_of_cell? _ _ (HC.out j hj i v hv))).trans (HC.out j hj i v hv)) hkx
      have KB := hide (take_keep keepB hkx)
      have KA := hide (take_keep keepA hkx)
      have hBl : ((xs.take k).filter keepB).length ≤ 1000 := Nat.le_trans (List.length_filter_le _ _) (by simp; omega)
      have hAl : ((xs.take k).filter keepA).length ≤ 1000 := Nat.le_trans (List.length_filter_le _ _) (by simp; omega)
      generalize hx : xs[k]! = x at c0 c1 c2 c3 c4 KB KA
      clear hx
      generalize (xs.take k).filter keepB = Bs at HB KB hBl
      generalize (xs.take k).filter keepA = As at HB KA hAl
      obtain ⟨xa, xc, xd, xp, xq⟩ := x
      dsimp only [oid, oac, osd, opr, oqt] at c0 c1 c2 c3 c4
      obtain ⟨b0, b1, -, -⟩ := bk_cells HB.out.bk
      by_cases hq0 : xq = 0
      · subst hq0
        have HN : Hid (BO w (wr.alloc (.cells #[.int .i64 xa, .int .i64 xc, .int .i64 xd, .int .i64 xp, .int .i64 0] 44)) v0 v1 ((xs.take (k + 1)).filter keepB) ((xs.take (k + 1)).filter keepA)) := by
          rw [KB.out, KA.out]
          exact hide (by simpa [keepB, keepA] using bo_alloc HB.out _)
        go_wp2
        go_roundw
        case rel => exact ⟨k + 1, v0, v1, by go_num, by omega, HN⟩
        case measure => simp [intOf]; omega
      · have hq0b : (xq == 0) = false := by simp [hq0]
        by_cases hd1 : xd = 1
        · subst hd1
          have HA2 := hide (bo_alloc (bo_alloc HB.out (.cells #[.int .i64 xa, .int .i64 xc, .int .i64 1, .int .i64 xp, .int .i64 xq] 44)) (.cells #[.int .i64 xa, .int .i64 xc, .int .i64 1, .int .i64 xp, .int .i64 xq] 44))
          have b0' := fun o => cell_alloc b0 o
          have NW : Hid (∀ jj u, (Bk.enc (xa, xc, 1, xp, xq))[jj]? = some u → ((wr.alloc (.cells #[.int .i64 xa, .int .i64 xc, .int .i64 1, .int .i64 xp, .int .i64 xq] 44)).alloc (.cells #[.int .i64 xa, .int .i64 xc, .int .i64 1, .int .i64 xp, .int .i64 xq] 44)).cell? ((⟨wr.heap.size + 1, 0, none⟩ : Addr).add jj) = some u) := fun jj u hu => by
            rw [add_lit, Nat.zero_add]
            exact new_cell2 wr _ _ _ jj u (by simpa [Bk.enc] using hu)
          have SZ : Hid (w.heap.size + 2 ≤ ((wr.alloc (.cells #[.int .i64 xa, .int .i64 xc, .int .i64 1, .int .i64 xp, .int .i64 xq] 44)).alloc (.cells #[.int .i64 xa, .int .i64 xc, .int .i64 1, .int .i64 xp, .int .i64 xq] 44)).heap.size) := HA2.out.size
          go_wp2_with (at_builtin; refine wpList_append_own_at _ rfl (.tmp 19) (.tmp 21) 40 rfl (w.heap.size + 2) 44 i0 (odrV noOdr) 5 40 Try.underlying40 hi hz0 hz1 hz2 rfl (by decide) v0 Bs.length (flat Bs) rfl HA2.out.o0 ⟨wr.heap.size + 1, 0, none⟩ 1 1 (Bk.enc (xa, xc, 1, xp, xq)) rfl rfl NW.out (enc_cell _) (by unfold maxLen; omega) (by omega) SZ.out ?_; intro v' w1 hown1 hgrow1 hnil1 hat1; have HP := hide (bo_put0 HA2.out hown1 hgrow1 hat1); obtain ⟨g1, g2, g3, g4⟩ := bo_grown HA2.out HA2.out.o0 hgrow1; obtain ⟨d0, d1, d2, d3⟩ := bk_cells g3; clear hgrow1 hnil1 hat1 g1 g2 g3 g4; obtain ⟨pv, cv, rfl, -, -⟩ := own_ov (xs := Bs ++ [(xa, xc, 1, xp, xq)]) (by rw [flat_snoc, List.length_append]; exact hown1))
          have HN : Hid (BO w (w1.setCell ⟨w.heap.size + 1, 0, none⟩ (.slice pv (Bs.length + 1) cv)) (.slice pv (Bs.length + 1) cv) v1 ((xs.take (k + 1)).filter keepB) ((xs.take (k + 1)).filter keepA)) := by
            rw [KB.out, KA.out]
            exact hide (by simpa [keepB, keepA, hq0] using HP.out)
          go_roundw
          case rel => exact ⟨k + 1, _, v1, by go_num, by omega, HN⟩
          case measure => simp [intOf]; omega
        · have hd1b : (xd == 1) = false := by simp [hd1]
          have HA2 := hide (bo_alloc (bo_alloc HB.out (.cells #[.int .i64 xa, .int .i64 xc, .int .i64 xd, .int .i64 xp, .int .i64 xq] 44)) (.cells #[.int .i64 xa, .int .i64 xc, .int .i64 xd, .int .i64 xp, .int .i64 xq] 44))
          have b1' := fun o => cell_alloc b1 o
          have NW : Hid (∀ jj u, (Bk.enc (xa, xc, xd, xp, xq))[jj]? = some u → ((wr.alloc (.cells #[.int .i64 xa, .int .i64 xc, .int .i64 xd, .int .i64 xp, .int .i64 xq] 44)).alloc (.cells #[.int .i64 xa, .int .i64 xc, .int .i64 xd, .int .i64 xp, .int .i64 xq] 44)).cell? ((⟨wr.heap.size + 1, 0, none⟩ : Addr).add jj) = some u) := fun jj u hu => by
            rw [add_lit, Nat.zero_add]
            exact new_cell2 wr _ _ _ jj u (by simpa [Bk.enc] using hu)
          have SZ : Hid (w.heap.size + 2 ≤ ((wr.alloc (.cells #[.int .i64 xa, .int .i64 xc, .int .i64 xd, .int .i64 xp, .int .i64 xq] 44)).alloc (.cells #[.int .i64 xa, .int .i64 xc, .int .i64 xd, .int .i64 xp, .int .i64 xq] 44)).heap.size) := HA2.out.size
          go_wp2_with (at_builtin; refine wpList_append_own_at _ rfl (.tmp 25) (.tmp 27) 40 rfl (w.heap.size + 2) 44 i0 (odrV noOdr) 5 40 Try.underlying40 hi hz0 hz1 hz2 rfl (by decide) v1 As.length (flat As) rfl HA2.out.o1 ⟨wr.heap.size + 1, 0, none⟩ 1 1 (Bk.enc (xa, xc, xd, xp, xq)) rfl rfl NW.out (enc_cell _) (by unfold maxLen; omega) (by omega) SZ.out ?_; intro v' w1 hown1 hgrow1 hnil1 hat1; have HP := hide (bo_put1 HA2.out hown1 hgrow1 hat1); obtain ⟨g1, g2, g3, g4⟩ := bo_grown HA2.out HA2.out.o1 hgrow1; obtain ⟨d0, d1, d2, d3⟩ := bk_cells g3; clear hgrow1 hnil1 hat1 g1 g2 g3 g4; obtain ⟨pv, cv, rfl, -, -⟩ := own_ov (xs := As ++ [(xa, xc, xd, xp, xq)]) (by rw [flat_snoc, List.length_append]; exact hown1))
          have HN : Hid (BO w (w1.setCell ⟨w.heap.size + 1, 1, none⟩ (.slice pv (As.length + 1) cv)) v0 (.slice pv (As.length + 1) cv) ((xs.take (k + 1)).filter keepB) ((xs.take (k + 1)).filter keepA)) := by
            rw [KB.out, KA.out]
            exact hide (by simpa [keepB, keepA, hq0, hd1] using HP.out)
          go_roundw
          case rel => exact ⟨k + 1, v0, _, by go_num, by omega, HN⟩
          case measure => simp [intOf]; omega
    · have hk' : k = n := by omega
      subst hk'
      rw [show xs.take k = xs from List.take_of_length_le (by rw [HL.out]; exact Nat.le_refl _)] at HB
      obtain ⟨b0, b1, -, -⟩ := bk_cells HB.out.bk
      clear b1
      have HC0 := hide (S0.out wr v0 HB.out.o0 b0)
      obtain ⟨p0, c0, e0, o0, -⟩ := own_ov HB.out.o0
      have V0 := hide (And.intro o0.nil o0.cap)
      clear o0
      subst e0
      go_wp2_with fail
      refine HC0.out.mono ?_
      rintro e w2 ⟨rfl, hg2, q0, d0, he0, hr0⟩
      cases he0
      obtain ⟨y1, y2, y3, y4⟩ := bo_grown HB.out HB.out.o0 hg2
      have O1 := hide (HB.out.o1.kept hg2 (kept_of HB.out.ne))
      have R0 := hide hr0
      obtain ⟨b0', b1, -, -⟩ := bk_cells y3
      have HC1 := hide (S1.out w2 v1 O1.out b1)
      have Y := hide (And.intro y1 (And.intro y2 (And.intro y3 y4)))
      clear b0 y1 y2 y3 y4 hr0 hg2
      obtain ⟨p1, c1, e1, o1, -⟩ := own_ov O1.out
      have V1 := hide (And.intro o1.nil o1.cap)
      clear o1
      subst e1
      go_wp2_with fail
      refine HC1.out.mono ?_
      rintro e w3 ⟨rfl, hg3, q1, d1, he1, hr1⟩
      cases he1
      obtain ⟨z1, z2, z3, z4⟩ := br_grown Y.out.1 Y.out.2.1 Y.out.2.2.1 Y.out.2.2.2 O1.out hg3
      have R0' := hide (orow_grown R0.out hg3 (fun a ha e => HB.out.ne a.block (by rw [ha]; rfl) e.symm))
      have R1 := hide hr1
      have Z1 := hide z1
      have Z4 := hide z4
      obtain ⟨g0, g1, -, -⟩ := bk_cells z3
      obtain ⟨u0, u1, t0, t1, t2, t3⟩ := two_facts z4
      clear hg3 hr1 z1 z2 z3 z4 b1 b0'
      go_wp2
      obtain ⟨s0, s1⟩ := two_set Z4.out (.slice p0 (xs.filter keepB).length c0) (.slice p1 (xs.filter keepA).length c1)
      refine bodyPost_ret (v := .agg #[.slice p0 (xs.filter keepB).length c0, .slice p1 (xs.filter keepA).length c1]) (by simp [results, Try.results87, go_sem, s0, s1]) rfl ⟨p0, c0, p1, c1, by rw [E0.out, E1.out], ⟨?_, V0.out.1, by rw [← E0.out]; exact V0.out.2⟩, ⟨?_, V1.out.1, by rw [← E1.out]; exact V1.out.2⟩, ?_, ?_, two_below_set Z1.out (Nat.le_refl _) _ _⟩
      · exact orow_below_two R0'.out (fun a ha => by have := (HB.out.o0.lt a.block (by rw [ha]; rfl)).1; omega)
      · exact orow_below_two R1.out (fun a ha => by have := (O1.out.lt a.block (by rw [ha]; rfl)).1; omega)
      · exact fun a ha => by have := (HB.out.o0.lt a.block (by rw [ha]; rfl)).1; omega
      · exact fun a ha => by have := (O1.out.lt a.block (by rw [ha]; rfl)).1; omega
end Go.Proofs.Ytbphljnncbiddaa.Rk
