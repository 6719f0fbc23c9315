/-
  Package match by contracts: takeFrom of whatever copy, check, Take.
-/
import Derived.Test.YtbphljnncbiddaaMtFrom
namespace Go.Proofs.Ytbphljnncbiddaa.Bk
open Go.RowKit Go.Sort Go.Maps Go.Proofs.Ytbphljnncbiddaa.Mix

abbrev FromPost (w : World) (r : Option Nat) (B : Nat) (T : List Odr × List Fil × Int × Bool) (e : Ending) (w' : World) : Prop :=
  ∃ p c vF, e = .returned (.tuple #[.slice p T.1.length c, vF, .int .i64 T.2.2.1, .bool T.2.2.2]) ∧ OV w' p c T.1 ∧ w'.ownsRow w.heap.size 74 7 vF T.2.1.length (flatF T.2.1) ∧ w.grownBy w' r ∧ (∀ ad, p = some ad → B ≤ ad.block ∧ some ad.block = r)

set_option maxHeartbeats 1000000 in
set_option maxRecDepth 100000 in
theorem takeFrom_none (a ac sd pr q : Int) (w : World) (B : Nat) :
    Calls Try.prog 91 #[.slice none 0 0, .agg #[.int .i64 a, .int .i64 ac, .int .i64 sd, .int .i64 pr, .int .i64 q]] w (FromPost w none B ([], [], q, false)) := by
  go_enter Try.func91, Try.ntmps91
  go_wp2_with fail
  refine (crossing_any _ _ _ _ _ _).mono ?_
  rintro e W0 ⟨fid, rfl, XF, rfl⟩
  obtain ⟨W0, hW0⟩ : ∃ W0, W0 = (w.alloc (.cells #[.int .i64 a, .int .i64 ac, .int .i64 sd, .int .i64 pr, .int .i64 q] 44)).alloc (.cells #[.int .i64 a, .int .i64 ac, .int .i64 sd, .int .i64 pr, .int .i64 q] 44) := ⟨_, rfl⟩
  have bw := ((Below.refl w.heap.size w).alloc (Nat.le_refl _) (.cells #[.int .i64 a, .int .i64 ac, .int .i64 sd, .int .i64 pr, .int .i64 q] 44)).alloc (by simp) (.cells #[.int .i64 a, .int .i64 ac, .int .i64 sd, .int .i64 pr, .int .i64 q] 44)
  rw [← hW0] at bw
  have B0 := hide bw
  have EW := hide hW0
  clear bw hW0 XF
  go_wp2
  rw [← EW.out]
  clear EW
  go_loopw [0, 5, 6] (fun l f t wr => l = .slice none 0 0 ∧ f = .slice none 0 0 ∧ t = .int .i64 q ∧ wr = W0) (fun _ _ _ _ => 0)
  case atStart => exact ⟨rfl, rfl, rfl, rfl⟩
  case round =>
    obtain ⟨rfl, rfl, rfl, rfl⟩ := hrel
    by_cases hq : 0 < q
    all_goals
      go_wp2
      refine bodyPost_ret (v := .tuple #[.slice none 0 0, .slice none 0 0, .int .i64 q, .bool false]) (by simp [results, Try.results91, go_sem]) rfl ⟨none, 0, _, rfl, ov_nil _, World.ownsRow_nil _ _ _ _, grown_of_below B0.out _, fun ad ha => by cases ha⟩

/-- of whatever copy the call made. -/
theorem takeFrom_any (v : Value) (B : Nat) (xs : List Odr) (a ac sd pr q : Int) (w : World) (h : w.ownsRow B 44 5 v xs.length (flat xs)) (hn : xs.length ≤ 1000) (hx : ∀ x, x ∈ xs → 1 ≤ oqt x ∧ oqt x ≤ 1000) (hq : 0 ≤ q) (hq2 : q ≤ 1000) :
    Calls Try.prog 91 #[v, .agg #[.int .i64 a, .int .i64 ac, .int .i64 sd, .int .i64 pr, .int .i64 q]] w (FromPost w v.ownBlock B (takes (a, ac, sd, pr, q) q xs)) := by
  rcases h.2 with ⟨rfl, h0⟩ | ⟨g, cap, cur, rfl, hg, hcur, hnc, hmx, hsz, htk⟩
  · have hx0 : xs = [] := List.eq_nil_of_length_eq_zero h0
    subst hx0
    exact takeFrom_none a ac sd pr q w B
  · refine (takeFrom_own g cap xs a ac sd pr q w ⟨hnc, cur, hcur, hsz, htk⟩ hn hx hq hq2).mono ?_
    rintro e w' ⟨p, c, vF, rfl, h1, h2, h3, h4⟩
    exact ⟨p, c, vF, rfl, h1, h2, h3, fun ad ha => by rw [h4 ad ha]; exact ⟨hg, rfl⟩⟩

def takeErr (bids asks : List Odr) (o : Odr) : Int := if bookErr bids asks ≠ 0 then bookErr bids asks else okOrder o
theorem takeErr_bad {bids asks : List Odr} {o : Odr} (h : ¬ bookErr bids asks = 0) : takeErr bids asks o = bookErr bids asks := by unfold takeErr; rw [if_pos h]
theorem takeErr_ok {bids asks : List Odr} {o : Odr} (h : bookErr bids asks = 0) : takeErr bids asks o = okOrder o := by unfold takeErr; rw [if_neg (by simp [h])]

set_option maxHeartbeats 1000000 in
set_option maxRecDepth 100000 in
theorem mcheck_any (p p' : Option Addr) (c c' : Nat) (bids asks : List Odr) (a ac sd pr q : Int) (w : World) (h : ORow w p bids) (h' : ORow w p' asks) (hn : bids.length ≤ 140737488351232) (hn' : asks.length ≤ 140737488351232) :
    Calls Try.prog 89 #[.agg #[.slice p bids.length c, .slice p' asks.length c'], .agg #[.int .i64 a, .int .i64 ac, .int .i64 sd, .int .i64 pr, .int .i64 q]] w fun e w' =>
      e = .returned (.int .i64 (takeErr bids asks (a, ac, sd, pr, q))) ∧ Below w.heap.size w w' := by
  have hb0 : ∀ o1 o2, Below w.heap.size w ((w.alloc o1).alloc o2) := fun o1 o2 => ((Below.refl _ w).alloc (Nat.le_refl _) _).alloc (by simp) _
  have CK := hide (fun X (hX : Below w.heap.size w X) => check_any p p' c c' bids asks X (orow_below h hX) (orow_below h' hX) hn hn')
  obtain ⟨r, hr⟩ : ∃ r, r = bookErr bids asks := ⟨_, rfl⟩
  rw [← hr] at CK
  by_cases hb : bookErr bids asks = 0
  · rw [takeErr_ok hb]
    rw [hb] at hr
    subst hr
    generalize bids.length = nb at CK ⊢
    generalize asks.length = na at CK ⊢
    clear h h' hn hn' hb
    go_enter Try.func89, Try.ntmps89
    go_wp2_with fail
    refine (CK.out _ (hb0 _ _)).mono ?_
    rintro e W ⟨rfl, hb⟩
    have BW := hide ((hb0 _ _).trans (hb.mono (by simp; omega)))
    have m0 : W.cell? ⟨w.heap.size + 1, 0, none⟩ = some (.int .i64 a) := (hb.cell (by simp)).trans (new_cell2 _ _ _ _ _ _ rfl)
    have m1 : W.cell? ⟨w.heap.size + 1, 1, none⟩ = some (.int .i64 ac) := (hb.cell (by simp)).trans (new_cell2 _ _ _ _ _ _ rfl)
    have m2 : W.cell? ⟨w.heap.size + 1, 2, none⟩ = some (.int .i64 sd) := (hb.cell (by simp)).trans (new_cell2 _ _ _ _ _ _ rfl)
    have m3 : W.cell? ⟨w.heap.size + 1, 3, none⟩ = some (.int .i64 pr) := (hb.cell (by simp)).trans (new_cell2 _ _ _ _ _ _ rfl)
    have m4 : W.cell? ⟨w.heap.size + 1, 4, none⟩ = some (.int .i64 q) := (hb.cell (by simp)).trans (new_cell2 _ _ _ _ _ _ rfl)
    clear hb hb0 CK
    go_wp2_with fail
    refine (checkOrder_grow _ _ _ _ _ _).mono ?_
    rintro e W2 ⟨rfl, k, os, rfl⟩
    have B2 := hide (BW.out.trans ((grow_below W k os).mono BW.out.size))
    clear m0 m1 m2 m3 m4
    go_wp2
    go_ret
    exact ⟨rfl, B2.out⟩
  · rw [takeErr_bad hb, ← hr]
    have hrb : (r == 0) = false := by rw [hr]; simp [hb]
    generalize bids.length = nb at CK ⊢
    generalize asks.length = na at CK ⊢
    clear h h' hn hn' hb hr
    go_enter Try.func89, Try.ntmps89
    go_wp2_with fail
    refine (CK.out _ (hb0 _ _)).mono ?_
    rintro e W ⟨rfl, hb⟩
    have BW := hide ((hb0 _ _).trans (hb.mono (by simp; omega)))
    clear hb hb0 CK
    go_wp2
    go_ret
    exact ⟨rfl, BW.out⟩

set_option maxHeartbeats 1000000 in
set_option maxRecDepth 100000 in
theorem take_bad (p p' : Option Addr) (c c' : Nat) (bids asks : List Odr) (a ac sd pr q : Int) (w : World) (h : ORow w p bids) (h' : ORow w p' asks) (hn : bids.length ≤ 140737488351232) (hn' : asks.length ≤ 140737488351232) (he : ¬ takeErr bids asks (a, ac, sd, pr, q) = 0) :
    Calls Try.prog 49 #[.agg #[.slice p bids.length c, .slice p' asks.length c'], .agg #[.int .i64 a, .int .i64 ac, .int .i64 sd, .int .i64 pr, .int .i64 q]] w fun e w' =>
      e = .returned (.tuple #[.agg #[.slice none 0 0, .slice none 0 0], .slice none 0 0, .int .i64 0, .bool false, .int .i64 (takeErr bids asks (a, ac, sd, pr, q))]) ∧ Below w.heap.size w w' := by
  have hb0 : ∀ o1 o2 o3, Below w.heap.size w (((w.alloc o1).alloc o2).alloc o3) := fun o1 o2 o3 => (((Below.refl _ w).alloc (Nat.le_refl _) _).alloc (by simp) _).alloc (by simp; omega) _
  have MC := hide (fun X (hX : Below w.heap.size w X) => mcheck_any p p' c c' bids asks a ac sd pr q X (orow_below h hX) (orow_below h' hX) hn hn')
  generalize takeErr bids asks (a, ac, sd, pr, q) = r at he MC ⊢
  generalize bids.length = nb at MC ⊢
  generalize asks.length = na at MC ⊢
  have hrb : (r == 0) = false := by simp [he]
  clear h h' hn hn' he
  go_enter Try.func49, Try.ntmps49
  go_wp2_with fail
  refine (MC.out _ (hb0 _ _ _)).mono ?_
  rintro e W ⟨rfl, hb⟩
  have BW := hide ((hb0 _ _ _).trans (hb.mono (by simp; omega)))
  have T := hide (two_below (two_made _ _ _ _ _) hb)
  obtain ⟨u0, u1, t0, t1, t2, t3⟩ := two_facts T.out
  clear hb hb0 MC
  go_wp2
  obtain ⟨s0, s1⟩ := two_set T.out (.slice none 0 0) (.slice none 0 0)
  refine bodyPost_ret (v := .tuple #[.agg #[.slice none 0 0, .slice none 0 0], .slice none 0 0, .int .i64 0, .bool false, .int .i64 r]) (by simp [results, Try.results49, go_sem, s0, s1]) rfl ⟨rfl, two_below_set BW.out (by omega) _ _⟩
end Go.Proofs.Ytbphljnncbiddaa.Bk
