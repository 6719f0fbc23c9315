/-
  The reference's Found, by a contract.
-/
import Derived.Test.YtbphljnncbiddaaRefM
import Derived.Test.YtbphljnncbiddaaBkFind
namespace Go.Proofs.Ytbphljnncbiddaa.Rk
open Go.RowKit Go.Sort Go.Maps Go.Proofs.Ytbphljnncbiddaa.Mix Go.Proofs.Ytbphljnncbiddaa.Bk

theorem ar_row {W x : World} {g cap : Nat} {xs : List Odr} (h : AR W x g cap xs) : ∀ j, j < xs.length → ∀ i v, (Bk.enc xs[j]!)[i]? = some v → x.cell? ⟨g, 0 + j * 5 + i, none⟩ = some v := by
  intro j hj i v hv
  have hi : i < 5 := by
    have := (List.getElem?_eq_some_iff.1 hv).1
    rwa [enc_length] at this
  refine h.cells _ v ?_
  rw [Nat.zero_add, flat_get xs j i hj hi]
  exact hv
theorem ar_ov {W x : World} {g cap : Nat} {xs : List Odr} (h : AR W x g cap xs) : OV x (some ⟨g, 0, none⟩) cap xs :=
  ⟨.inr ⟨g, 0, rfl, ar_row h⟩, fun e => (by cases e), h.fits⟩
theorem find_snoc {xs : List Odr} {k : Nat} (f : Odr → Bool) (hk : k < xs.length) (h : (xs.take k).find? f = none) : (xs.take (k + 1)).find? f = if f xs[k]! then some xs[k]! else none := by
  rw [List.take_succ_eq_append_getElem hk, List.find?_append, h]
  simp only [Option.none_or, List.find?_singleton, getElem!_pos xs k hk]
theorem find_take {xs : List Odr} {k : Nat} (f : Odr → Bool) {o : Odr} (h : (xs.take k).find? f = some o) : xs.find? f = some o := by
  rw [← List.take_append_drop k xs, List.find?_append, h]; rfl

set_option maxHeartbeats 1000000 in
set_option maxRecDepth 100000 in
theorem found_any (p p' : Option Addr) (c c' : Nat) (bids asks : List Odr) (id : Int) (w : World) (h : OV w p c bids) (h' : OV w p' c' asks) (hl : bids.length + asks.length ≤ 40) :
    Calls Try.prog 44 #[.agg #[.slice p bids.length c, .slice p' asks.length c'], .int .i64 id] w fun e w' => e = .returned (odrV ((findIn id bids asks).getD noOdr)) ∧ Below w.heap.size w w' := by
  have hb0 : ∀ o1 o2, Below w.heap.size w ((w.alloc o1).alloc o2) := fun o1 o2 => ((Below.refl _ w).alloc (Nat.le_refl _) _).alloc (by simp) _
  have OR := hide (fun W (hW : Below w.heap.size w W) => orders_any p p' c c' bids asks W (h.below hW) (h'.below hW) hl)
  obtain ⟨n, hn⟩ : ∃ n, (bids ++ asks).length = n := ⟨_, rfl⟩
  have hn40 : n ≤ 40 := by rw [← hn, List.length_append]; exact hl
  rw [hn] at OR
  have FF : Hid (findIn id bids asks = (bids ++ asks).find? (hasId id)) := rfl
  generalize findIn id bids asks = ff at FF ⊢
  generalize bids ++ asks = L at hn FF OR
  have HN := hide hn
  clear h h' hl hn
  generalize bids.length = nb at OR ⊢
  generalize asks.length = na at OR ⊢
  go_enter Try.func44, Try.ntmps44
  go_wp2_with fail
  refine (OR.out _ (hb0 _ _)).mono ?_
  rintro e W ⟨g, cap, rfl, har, hb⟩
  have BW := hide ((hb0 _ _).trans (hb.mono (by simp; omega)))
  have T := hide (five_below (five_made _ _ _ _ _ _ _) hb)
  have AR := hide (ar_row har)
  have hgl : g < W.heap.size := har.lt
  have GL := hide hgl
  clear hgl har hb hb0 OR
  go_wp2_with fail
  go_loopw [10] (fun vi wr => ∃ k : Nat, vi = .int .i64 k ∧ k ≤ n ∧ Hid ((L.take k).find? (hasId id) = none) ∧ Hid (Below W.heap.size W wr)) (fun vi _ => n - (intOf vi).toNat)
  case atStart => exact ⟨0, rfl, Nat.zero_le _, hide rfl, hide (Below.refl _ _)⟩
  case round =>
    obtain ⟨k, rfl, hk, HF, HB⟩ := hrel
    have T4 := hide (five_below T.out HB.out)
    have BX4 := hide (BW.out.trans (HB.out.mono BW.out.size))
    by_cases hlt : k < n
    · have hltz : (k : Int) < n := by omega
      have hkx : k < L.length := by rw [HN.out]; exact hlt
      obtain ⟨c0, c1, c2, c3, c4⟩ := orow_cells (w := wr) (b := g) (off := 0) (xs := L) (fun j hj i v hv => (HB.out.cell GL.out).trans (AR.out j hj i v hv)) hkx
      rw [Nat.zero_add] at c0 c1 c2 c3 c4
      have FS := hide (find_snoc (hasId id) hkx HF.out)
      generalize L[k]! = x at c0 c1 c2 c3 c4 FS
      obtain ⟨xa, xc, xd, xp, xq⟩ := x
      dsimp only [oid, oac, osd, opr, oqt] at c0 c1 c2 c3 c4
      have TA := hide (five_below T4.out ((Below.refl _ wr).alloc (Nat.le_refl _) (.cells #[.int .i64 xa, .int .i64 xc, .int .i64 xd, .int .i64 xp, .int .i64 xq] 44)))
      have BA := hide (BX4.out.trans (((Below.refl _ wr).alloc (Nat.le_refl _) (.cells #[.int .i64 xa, .int .i64 xc, .int .i64 xd, .int .i64 xp, .int .i64 xq] 44)).mono BX4.out.size))
      obtain ⟨⟨u0, u1, u2, u3, u4, t0, t1, t2, t3, t4⟩, r0, r1, r2, r3, r4⟩ := five_facts TA.out
      by_cases he : xa = id
      · have HE : Hid (ff = some (xa, xc, xd, xp, xq)) := by rw [FF.out]; exact hide (find_take _ (by rw [FS.out]; simp [hasId, oid, he]))
        have heb : (xa == id) = true := by simp [he]
        clear he FS HF
        go_wp2
        obtain ⟨s0, s1, s2, s3, s4⟩ := five_set TA.out (.int .i64 xa) (.int .i64 xc) (.int .i64 xd) (.int .i64 xp) (.int .i64 xq)
        refine bodyPost_ret (v := odrV (xa, xc, xd, xp, xq)) (by simp [results, Try.results44, go_sem, s0, s1, s2, s3, s4]) rfl ⟨by rw [HE.out]; rfl, five_below_set BA.out (by omega) _ _ _ _ _⟩
      · have HN1 : Hid ((L.take (k + 1)).find? (hasId id) = none) := by rw [FS.out]; exact hide (by simp [hasId, oid, he])
        have HB1 := hide (HB.out.trans (((Below.refl _ wr).alloc (Nat.le_refl _) (.cells #[.int .i64 xa, .int .i64 xc, .int .i64 xd, .int .i64 xp, .int .i64 xq] 44)).mono HB.out.size))
        have heb : (xa == id) = false := by simp [he]
        clear FS HF
        go_wp2
        go_roundw
        case rel => exact ⟨k + 1, by go_num, by omega, HN1, HB1⟩
        case measure => simp [intOf]; omega
    · have hk' : k = n := by omega
      subst hk'
      have HE : Hid (ff = none) := by
        rw [FF.out]
        have := HF.out
        rw [show L.take k = L from List.take_of_length_le (by rw [HN.out]; exact Nat.le_refl _)] at this
        exact this
      obtain ⟨⟨u0, u1, u2, u3, u4, t0, t1, t2, t3, t4⟩, r0, r1, r2, r3, r4⟩ := five_facts T4.out
      clear HF
      go_wp2
      obtain ⟨s0, s1, s2, s3, s4⟩ := five_set T4.out (.int .i64 0) (.int .i64 0) (.int .i64 0) (.int .i64 0) (.int .i64 0)
      refine bodyPost_ret (v := odrV noOdr) (by simp [results, Try.results44, go_sem, s0, s1, s2, s3, s4]) rfl ⟨by rw [HE.out]; rfl, five_below_set BX4.out (by omega) _ _ _ _ _⟩
end Go.Proofs.Ytbphljnncbiddaa.Rk
