/-
  The reference's Removed, by a contract.
-/
import Derived.Test.YtbphljnncbiddaaRefN
import Derived.Test.YtbphljnncbiddaaRefK2
namespace Go.Proofs.Ytbphljnncbiddaa.Rk
open Go.RowKit Go.Sort Go.Maps Go.Proofs.Ytbphljnncbiddaa.Mix Go.Proofs.Ytbphljnncbiddaa.Bk

/-- what a book's side is of its orders. -/
theorem keepB_side {l : List Odr} (h : Side 1 l) : l.filter keepB = l := List.filter_eq_self.2 fun x hx => by
  have := okOrder_pq (h.ok x hx)
  have := h.sd x hx
  unfold keepB
  simp only [Bool.and_eq_true, decide_eq_true_eq]
  omega
theorem keepA_side {l : List Odr} (h : Side (-1) l) : l.filter keepA = l := List.filter_eq_self.2 fun x hx => by
  have := okOrder_pq (h.ok x hx)
  have := h.sd x hx
  unfold keepA
  simp only [Bool.and_eq_true, Bool.not_eq_true', decide_eq_true_eq, decide_eq_false_iff_not]
  omega
theorem keepB_not {l : List Odr} (h : Side (-1) l) : l.filter keepB = [] := List.filter_eq_nil_iff.2 fun x hx => by
  have := h.sd x hx
  unfold keepB
  simp only [Bool.and_eq_true, decide_eq_true_eq]
  omega
theorem keepA_not {l : List Odr} (h : Side 1 l) : l.filter keepA = [] := List.filter_eq_nil_iff.2 fun x hx => by
  have := h.sd x hx
  unfold keepA
  simp only [Bool.and_eq_true, Bool.not_eq_true', decide_eq_true_eq, decide_eq_false_iff_not]
  omega
theorem keepB_cat {B A : List Odr} (hB : Side 1 B) (hA : Side (-1) A) : (B ++ A).filter keepB = B := by rw [List.filter_append, keepB_side hB, keepB_not hA, List.append_nil]
theorem keepA_cat {B A : List Odr} (hB : Side 1 B) (hA : Side (-1) A) : (B ++ A).filter keepA = A := by rw [List.filter_append, keepA_side hA, keepA_not hB, List.nil_append]

/-- a book in rows of the call's own. -/
abbrev BookPost (w : World) (TB TA : List Odr) (e : Ending) (w' : World) : Prop :=
  ∃ p0 c0 p1 c1, e = .returned (.agg #[.slice p0 TB.length c0, .slice p1 TA.length c1]) ∧ OV w' p0 c0 TB ∧ OV w' p1 c1 TA ∧ (∀ a, p0 = some a → w.heap.size ≤ a.block) ∧ (∀ a, p1 = some a → w.heap.size ≤ a.block) ∧ Below w.heap.size w w'
theorem two_made2 (w : World) (o1 : Obj) (u0 u1 : Value) : Two ((w.alloc o1).alloc (.cells #[u0, u1] 42)) (w.heap.size + 1) :=
  ⟨u0, u1, by have := heap_alloc_new (w.alloc o1) (.cells #[u0, u1] 42); simpa using this⟩
theorem ov_below_two {w : World} {p : Option Addr} {c : Nat} {xs : List Odr} {t : Nat} {v0 v1 : Value} (h : OV w p c xs) (hne : ∀ a, p = some a → a.block ≠ t) : OV ((w.setCell ⟨t, 0, none⟩ v0).setCell ⟨t, 1, none⟩ v1) p c xs := ⟨orow_below_two h.row hne, h.nil, h.cap⟩

set_option maxHeartbeats 1000000 in
set_option maxRecDepth 100000 in
theorem removed_any (p p' : Option Addr) (c c' : Nat) (bids asks : List Odr) (id : Int) (w : World) (h : OV w p c bids) (h' : OV w p' c' asks) (hR : Right bids asks) :
    Calls Try.prog 45 #[.agg #[.slice p bids.length c, .slice p' asks.length c'], .int .i64 id] w fun e w' => BookPost w (without id bids) (without id asks) e w' := by
  have hl : bids.length + asks.length ≤ 40 := hR.few
  obtain ⟨i0, hi, hz0, hz1, hz2⟩ := info_parts Try.infoO
  have hb0 : ∀ o1 o2, Below w.heap.size w ((w.alloc o1).alloc o2) := fun o1 o2 => ((Below.refl _ w).alloc (Nat.le_refl _) _).alloc (by simp) _
  have OR := hide (fun W (hW : Below w.heap.size w W) => orders_any p p' c c' bids asks W (h.below hW) (h'.below hW) hl)
  have hR' := remove_right id hR
  have n2 := nod_parts hR'
  have WC : without id (bids ++ asks) = without id bids ++ without id asks := by unfold without; rw [List.filter_append]
  have BO := hide (fun W (q : Option Addr) (n cc : Nat) (hn : (without id (bids ++ asks)).length = n) (hn2 : n ≤ 1000) (ho : ORow W q (without id (bids ++ asks))) =>
    bookOf_any q n cc (without id (bids ++ asks)) (without id bids) (without id asks) W hn hn2 ho hR'.b n2.1 (by rw [WC, keepB_cat hR'.b hR'.a]) (by have := hR'.few; omega) hR'.a n2.2.1 (by rw [WC, keepA_cat hR'.b hR'.a]) (by have := hR'.few; omega))
  obtain ⟨n, hn⟩ : ∃ n, (bids ++ asks).length = n := ⟨_, rfl⟩
  have hn40 : n ≤ 40 := by rw [← hn, List.length_append]; exact hl
  rw [hn] at OR
  clear n2 WC hR' hR hl h h'
  generalize without id bids = TB at BO ⊢
  generalize without id asks = TA at BO ⊢
  generalize bids ++ asks = L at hn BO OR
  have HN := hide hn
  clear hn
  generalize bids.length = nb at OR ⊢
  generalize asks.length = na at OR ⊢
  go_enter Try.func45, Try.ntmps45
  go_wp2_with fail
  refine (OR.out _ (hb0 _ _)).mono ?_
  rintro e W ⟨g, cap, rfl, har, hb⟩
  have BW := hide ((hb0 _ _).trans (hb.mono (by simp; omega)))
  have T := hide (two_below (two_made2 _ _ _ _) hb)
  have AR := hide (ar_row har)
  have hgl : g < W.heap.size := har.lt
  have GL := hide hgl
  have SZ : Hid (w.heap.size + 1 < W.heap.size) := by have := hb.size; simp at this; exact hide (by omega)
  clear hgl har hb hb0 OR
  go_wp2_with fail
  go_loopw [5, 11] (fun v vi wr => ∃ k : Nat, vi = .int .i64 k ∧ k ≤ n ∧ Hid (wr.ownsRow W.heap.size 44 5 v (without id (L.take k)).length (flat (without id (L.take k)))) ∧ Hid (Below W.heap.size W wr)) (fun _ vi _ => n - (intOf vi).toNat)
  case atStart => exact ⟨0, rfl, Nat.zero_le _, hide (World.ownsRow_nil _ _ _ _), hide (Below.refl _ _)⟩
  case round =>
    obtain ⟨k, rfl, hk, HO, HB⟩ := hrel
    by_cases hlt : k < n
    · have hltz : (k : Int) < n := by omega
      have hkx : k < L.length := by rw [HN.out]; exact hlt
      obtain ⟨c0, c1, c2, c3, c4⟩ := orow_cells (w := wr) (b := g) (off := 0) (xs := L) (fun j hj i v hv => (HB.out.cell GL.out).trans (AR.out j hj i v hv)) hkx
      rw [Nat.zero_add] at c0 c1 c2 c3 c4
      have TK := hide (take_keep (fun x => !hasId id x) hkx)
      have hLl : (without id (L.take k)).length ≤ 40 := Nat.le_trans (List.length_filter_le _ _) (by simp; omega)
      have WE : Hid (∀ m, without id (L.take m) = (L.take m).filter (fun x => !hasId id x)) := fun _ => rfl
      rw [← WE.out, ← WE.out] at TK
      generalize L[k]! = x at c0 c1 c2 c3 c4 TK
      generalize without id (L.take k) = R at HO TK hLl
      clear WE
      obtain ⟨xa, xc, xd, xp, xq⟩ := x
      dsimp only [oid, oac, osd, opr, oqt] at c0 c1 c2 c3 c4
      by_cases he : xa = id
      · have HN1 : Hid (without id (L.take (k + 1)) = R) := by rw [TK.out]; exact hide (by simp [hasId, oid, he])
        have HB1 := hide (HB.out.trans (((Below.refl _ wr).alloc (Nat.le_refl _) (.cells #[.int .i64 xa, .int .i64 xc, .int .i64 xd, .int .i64 xp, .int .i64 xq] 44)).mono HB.out.size))
        have HO1 := hide (HO.out.alloc (.cells #[.int .i64 xa, .int .i64 xc, .int .i64 xd, .int .i64 xp, .int .i64 xq] 44))
        have heb : (xa != id) = false := by simp [he]
        clear TK HO he
        go_wp2
        go_roundw
        case rel => exact ⟨k + 1, by go_num, by omega, by rw [HN1.out]; exact HO1, HB1⟩
        case measure => simp [intOf]; omega
      · have HN1 : Hid (without id (L.take (k + 1)) = R ++ [(xa, xc, xd, xp, xq)]) := by rw [TK.out]; exact hide (by simp [hasId, oid, he])
        have B2 := hide (HB.out.trans ((((Below.refl _ wr).alloc (Nat.le_refl _) (.cells #[.int .i64 xa, .int .i64 xc, .int .i64 xd, .int .i64 xp, .int .i64 xq] 44)).alloc (by simp) (.cells #[.int .i64 xa, .int .i64 xc, .int .i64 xd, .int .i64 xp, .int .i64 xq] 44)).mono HB.out.size))
        have O2 := hide ((HO.out.alloc (.cells #[.int .i64 xa, .int .i64 xc, .int .i64 xd, .int .i64 xp, .int .i64 xq] 44)).alloc (.cells #[.int .i64 xa, .int .i64 xc, .int .i64 xd, .int .i64 xp, .int .i64 xq] 44))
        have NW : Hid (∀ jj u, (Bk.enc (xa, xc, xd, xp, xq))[jj]? = some u → ((wr.alloc (.cells #[.int .i64 xa, .int .i64 xc, .int .i64 xd, .int .i64 xp, .int .i64 xq] 44)).alloc (.cells #[.int .i64 xa, .int .i64 xc, .int .i64 xd, .int .i64 xp, .int .i64 xq] 44)).cell? ((⟨wr.heap.size + 1, 0, none⟩ : Addr).add jj) = some u) := fun jj u hu => by
          rw [add_lit, Nat.zero_add]
          exact new_cell2 wr _ _ _ jj u (by simpa [Bk.enc] using hu)
        clear TK HO
        go_wp2_with (at_builtin; refine wpList_append_own_at _ rfl (.tmp 19) (.tmp 21) 40 rfl W.heap.size 44 i0 (odrV noOdr) 5 40 Try.underlying40 hi hz0 hz1 hz2 rfl (by decide) _ R.length (flat R) rfl O2.out ⟨wr.heap.size + 1, 0, none⟩ 1 1 (Bk.enc (xa, xc, xd, xp, xq)) rfl rfl NW.out (enc_cell _) (by unfold maxLen; omega) (by omega) B2.out.size ?_; intro v' w1 hown1 hgrow1 hnil1 hat1)
        have HO1 : Hid (w1.ownsRow W.heap.size 44 5 v' (without id (L.take (k + 1))).length (flat (without id (L.take (k + 1))))) := by
          rw [HN1.out, flat_snoc, List.length_append]; exact hide hown1
        have HB1 := hide (B2.out.grown hgrow1 B2.out.size (fun j hj => (O2.out.lt j hj).1))
        clear hgrow1 hnil1 hat1 hown1
        go_roundw
        case rel => exact ⟨k + 1, by go_num, by omega, HO1, HB1⟩
        case measure => simp [intOf]; omega
    · have hk' : k = n := by omega
      subst hk'
      rw [show L.take k = L from List.take_of_length_le (by rw [HN.out]; exact Nat.le_refl _)] at HO
      obtain ⟨q, cc, e0, o0, -⟩ := own_ov HO.out
      subst e0
      have hm : (without id L).length ≤ k := by rw [← HN.out]; exact List.length_filter_le _ _
      have B1 := hide (BO.out wr q _ cc rfl (by omega) o0.row)
      generalize (without id L).length = m at B1 hm ⊢
      clear o0 HO BO
      have BX4 := hide (BW.out.trans (HB.out.mono BW.out.size))
      have T4 := hide (two_below T.out HB.out)
      go_wp2_with fail
      refine B1.out.mono ?_
      rintro e w3 ⟨p0, c0, p1, c1, rfl, v0, v1, z0, z1, hb3⟩
      have T5 := hide (two_below T4.out hb3)
      have BX5 := hide (BX4.out.trans (hb3.mono BX4.out.size))
      have hsz : w.heap.size + 1 < wr.heap.size := Nat.lt_of_lt_of_le SZ.out HB.out.size
      have V0 := hide (ov_below_two (t := w.heap.size + 1) (v0 := .slice p0 TB.length c0) (v1 := .slice p1 TA.length c1) v0 (fun a ha => by have := z0 a ha; omega))
      have V1 := hide (ov_below_two (t := w.heap.size + 1) (v0 := .slice p0 TB.length c0) (v1 := .slice p1 TA.length c1) v1 (fun a ha => by have := z1 a ha; omega))
      have Z := hide (And.intro z0 z1)
      have SX := hide hsz
      clear hb3 v0 v1 z0 z1 hsz B1
      obtain ⟨u0, u1, t0, t1, t2, t3⟩ := two_facts T5.out
      go_wp2
      obtain ⟨s0, s1⟩ := two_set T5.out (.slice p0 TB.length c0) (.slice p1 TA.length c1)
      refine bodyPost_ret (v := .agg #[.slice p0 TB.length c0, .slice p1 TA.length c1]) (by simp [results, Try.results45, go_sem, s0, s1]) rfl ⟨p0, c0, p1, c1, rfl, V0.out, V1.out, fun a ha => ?_, fun a ha => ?_, two_below_set BX5.out (by omega) _ _⟩
      · have := Z.out.1 a ha; have := SX.out; omega
      · have := Z.out.2 a ha; have := SX.out; omega
end Go.Proofs.Ytbphljnncbiddaa.Rk
