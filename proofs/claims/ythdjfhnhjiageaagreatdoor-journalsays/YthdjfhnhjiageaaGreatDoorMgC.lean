/-
  slices.Grow of nothing and slices.Concat at bytes, by contracts.
-/
import Derived.Test.YthdjfhnhjiageaaGreatDoorMgA
import Derived.Test.YthdjfhnhjiageaaGreatDoorShelfJ
import Derived.Laws.AppendOwnNone
namespace Go.Proofs.YthdjfhnhjiageaaGreatDoor.Tx
open Go.RowKit Go.Lib Go.Sort

/-- bytes, as they lie. -/
def fB (bs : Bs) : List Value := (nums bs).map (Value.int .u8)
theorem fB_len (bs : Bs) : (fB bs).length = bs.length * 1 := by unfold fB; rw [List.length_map, nums_len, Nat.mul_one]
theorem fB_one (bs : Bs) : ∀ v ∈ fB bs, v.oneCell' = true := fun v hv => by obtain ⟨x, -, rfl⟩ := List.mem_map.1 hv; rfl
theorem fB_app (a b : Bs) : fB (a ++ b) = fB a ++ fB b := by unfold fB nums; simp
theorem growB_any (n : Nat) (w : World) (hn : n * 1 ≤ 140737488351232) :
    Calls Tryz.prog 36 #[.slice none 0 0, .int .i64 n] w fun e w' => ∃ v, e = .returned v ∧ w'.ownsRow w.heap.size 5 1 v 0 [] ∧ Below w.heap.size w w' := by
  by_cases h0 : n = 0
  · subst h0
    refine (Any8.slices_Grow_room Tryz.growJ none 0 0 0 w (Nat.le_refl _) (by omega) (by omega) (by omega)).mono ?_
    rintro e w' ⟨rfl, rfl⟩
    exact ⟨_, rfl, World.ownsRow_nil _ _ _ _, Below.refl _ _⟩
  · obtain ⟨i0, hi, hz0, hz1, hz2⟩ := info_parts (show (Tryz.prog.info? 5).map (fun i => (i.zero, i.size, i.bytes)) = some (some (.int .u8 0), 1, 1) by kernel_rfl)
    have hg := Any8.slices_Grow_grow Tryz.growJ i0 (.int .u8 0) hi hz0 (by rw [hz1]; decide) none 0 0 n [] w (Nat.le_refl _) (by omega) (by rw [hz2]; omega) (by omega) (by simp) (fun _ => rfl) (fun a ha => by cases ha)
    refine hg.mono ?_
    rintro e w' ⟨rfl, rfl⟩
    have hge := grownCap_ge w (0 + n) 0 5
    have hle := grownCap_le_maxLen w (0 + n) 0 5 (by unfold maxLen; omega)
    refine ⟨_, rfl, ?_, ?_⟩
    · refine World.ownsRow_made (w := w.drew) (base := w.heap.size) (e := 5) (size := 1) _ _ (Nat.le_refl _) hle ?_
      simp only [Array.size_append, size_zeroCells]
      show 0 + (0 + n - 0) * 1 + (grownCap w (0 + n) 0 5 - (0 + n)) * 1 = grownCap w (0 + n) 0 5 * 1
      omega
    · exact ((Below.refl _ w).drew).alloc (Nat.le_refl _) _

abbrev BLst := Option Addr × Nat × Bs
abbrev blstV (l : BLst) : Value := .slice l.1 l.2.2.length l.2.1
def bjoined (ls : List BLst) : Bs := ls.flatMap fun l => l.2.2
theorem bjoined_at {ls : List BLst} {k : Nat} (h : k < ls.length) : bjoined (ls.take (k + 1)) = bjoined (ls.take k) ++ (ls[k]!).2.2 := by
  rw [List.take_add_one, List.getElem?_eq_getElem h, getElem!_pos ls k h]
  unfold bjoined
  rw [List.flatMap_append]
  simp
theorem bjoined_le (ls : List BLst) (k : Nat) : (bjoined (ls.take k)).length ≤ (bjoined ls).length := by
  conv => rhs; rw [← List.take_append_drop k ls]
  unfold bjoined
  rw [List.flatMap_append, List.length_append]
  omega

set_option maxHeartbeats 2000000 in
set_option maxRecDepth 100000 in
theorem concatB_any (g c : Nat) (ls : List BLst) (w : World) (hc : ∀ j, j < ls.length → w.cell? ⟨g, j, none⟩ = some (blstV ls[j]!)) (hls : ∀ j, j < ls.length → Bt w (ls[j]!).1 (ls[j]!).2.2.length (ls[j]!).2.1 (ls[j]!).2.2) (hg : g < w.heap.size)
    (hk : ls.length ≤ 1000) (hn : (bjoined ls).length * 1 ≤ 140737488351232) :
    Calls Tryz.prog 16 #[.slice (some ⟨g, 0, none⟩) ls.length c] w fun e w' => ∃ v, e = .returned v ∧ w'.ownsRow w.heap.size 5 1 v (bjoined ls).length (fB (bjoined ls)) ∧ Below w.heap.size w w' := by
  obtain ⟨i0, hi, hz0, hz1, hz2⟩ := info_parts (show (Tryz.prog.info? 5).map (fun i => (i.zero, i.size, i.bytes)) = some (some (.int .u8 0), 1, 1) by kernel_rfl)
  have HC := hide hc
  have HL := hide hls
  have JL := hide (bjoined_le ls)
  clear hc hls
  generalize hkn : ls.length = n at hk ⊢
  have N := hide hkn
  clear hkn
  generalize hjn : (bjoined ls).length = tot at hn JL
  have JT := hide hjn
  clear hjn
  have G := hide hg
  clear hg
  go_enter Tryz.func16, Tryz.ntmps16
  go_wp2
  go_loopw [3, 11] (fun s i wr => ∃ k sk : Nat, k ≤ n ∧ i = .int .i64 k ∧ s = .int .i64 sk ∧ Hid (Below w.heap.size w wr) ∧ Hid (sk = (bjoined (ls.take k)).length)) (fun _ i _ => n - (RowKit.intOf i).toNat)
  case atStart => exact ⟨0, 0, Nat.zero_le _, rfl, rfl, Below.refl _ _, rfl⟩
  case round =>
    obtain ⟨k, sk, hkn, rfl, rfl, BW, SK⟩ := hrel
    by_cases hlt : k < n
    · have hltz : (k : Int) < (n : Int) := by omega
      have hkx : k < ls.length := by rw [N.out]; exact hlt
      have cx := (BW.out.cell (p := ⟨g, k, none⟩) G.out).trans (HC.out k hkx)
      have hj := hide (congrArg List.length (bjoined_at hkx))
      have hjl := JL.out (k + 1)
      rw [hj.out, List.length_append, ← SK.out] at hjl
      generalize hlk : ls[k]! = lk at cx hj hjl
      obtain ⟨pk, ck, xk⟩ := lk
      dsimp only [blstV] at cx hj hjl
      have hj2 : Hid (sk + xk.length = (bjoined (ls.take (k + 1))).length) := by rw [hj.out, List.length_append, ← SK.out]; rfl
      generalize xk.length = nk at cx hj2 hjl
      clear hj hlk
      go_wp2
      go_roundw
      case rel => exact ⟨k + 1, sk + nk, by omega, by go_num, by go_num, BW, hj2⟩
      case measure => simp [RowKit.intOf]; omega
    · have hk' : k = n := by omega
      subst hk'
      have hst : Hid (sk = tot) := by rw [SK.out, ← N.out, List.take_length, JT.out]; rfl
      have hst' := hst.out
      clear SK
      subst hst'
      go_wp2_with fail
      refine (growB_any sk wr (by omega)).mono ?_
      rintro e w2 ⟨v0, rfl, hown0, hb0⟩
      have O0 : Hid (w2.ownsRow w.heap.size 5 1 v0 0 []) := hide (by
        refine ⟨hown0.1, ?_⟩
        rcases hown0.2 with h | ⟨g1, cap, cur, h1, h2, h3⟩
        · exact .inl h
        · exact .inr ⟨g1, cap, cur, h1, Nat.le_trans BW.out.size h2, h3⟩)
      have BW2 := hide (BW.out.trans (hb0.mono BW.out.size))
      clear hown0 hb0 hst BW
      go_wp2
      go_loopw [6, 27] (fun v i wr => ∃ j : Nat, j ≤ k ∧ i = .int .i64 j ∧ Hid (Below w.heap.size w wr) ∧ Hid (wr.ownsRow w.heap.size 5 1 v (bjoined (ls.take j)).length (fB (bjoined (ls.take j))))) (fun _ i _ => k - (RowKit.intOf i).toNat)
      case atStart => exact ⟨0, Nat.zero_le _, rfl, BW2, O0⟩
      case round =>
        obtain ⟨j, hjk, rfl, BW, O⟩ := hrel
        by_cases hltj : j < k
        · have hltz2 : (j : Int) < (k : Int) := by omega
          have hjx : j < ls.length := by rw [N.out]; exact hltj
          have cx := (BW.out.cell (p := ⟨g, j, none⟩) G.out).trans (HC.out j hjx)
          have hov := (HL.out j hjx).below BW.out
          have hja := hide (bjoined_at hjx)
          have hjl := JL.out (j + 1)
          rw [hja.out, List.length_append] at hjl
          generalize ls[j]! = lj at cx hja hjl hov
          obtain ⟨pj, cj, xj⟩ := lj
          dsimp only [blstV] at cx hja hjl hov
          have hsz := BW.out.size
          cases pj with
          | none =>
            have hc0 := hov.nil rfl
            subst hc0
            have hx : xj = [] := List.eq_nil_of_length_eq_zero (Nat.le_zero.1 hov.cap)
            subst hx
            clear hov
            simp only [List.length_nil] at cx
            have hja2 : Hid (bjoined (ls.take (j + 1)) = bjoined (ls.take j)) := by rw [hja.out, List.append_nil]; rfl
            clear hja hjl
            go_wp2_with (at_builtin; refine wpList_append_own_none rfl _ _ 22 rfl w.heap.size 5 i0 1 Tryz.underlying22 hi _ _ _ rfl O.out rfl ?_)
            go_roundw
            case rel => exact ⟨j + 1, by omega, by go_num, BW, by rw [hja2.out]; exact O⟩
            case measure => simp [RowKit.intOf]; omega
          | some ad =>
            have hcells : Hid (∀ jj u, (fB xj)[jj]? = some u → wr.cell? (ad.add jj) = some u) := by
              intro jj u hu
              have hjj : jj < xj.length := by have := (List.getElem?_eq_some_iff.1 hu).1; rw [fB_len] at this; omega
              obtain ⟨b, off, he, hc⟩ := hov.row (by omega)
              cases he
              rw [Addr.add_lit, hc jj hjj]
              unfold fB at hu
              rw [List.getElem?_map, nums, List.getElem?_map, List.getElem?_eq_getElem hjj] at hu
              rw [List.getD_eq_getElem?_getD, List.getElem?_eq_getElem hjj]
              exact hu
            have hfl := hide (fB_len xj)
            have hf1 := hide (fB_one xj)
            have hj3 : Hid ((bjoined (ls.take (j + 1))).length = (bjoined (ls.take j)).length + xj.length) := by rw [hja.out, List.length_append]; rfl
            have hj4 : Hid (fB (bjoined (ls.take (j + 1))) = fB (bjoined (ls.take j)) ++ fB xj) := by rw [hja.out, fB_app]; rfl
            clear hja hov
            generalize fB xj = fx at hcells hfl hf1 hj4
            generalize xj.length = nj at cx hfl hjl hj3
            generalize bjoined (ls.take j) = J at O hj3 hj4 hjl
            generalize hJn : J.length = Jn at O hj3 hjl
            generalize hJf : fB J = Jf at O hj4
            clear hJn hJf
            go_wp2_with (at_builtin; refine wpList_append_own _ rfl _ _ 22 rfl w.heap.size 5 i0 (.int .u8 0) 1 1 Tryz.underlying22 hi hz0 hz1 hz2 rfl (by decide) _ Jn Jf rfl O.out ad nj cj fx rfl hfl.out hcells.out hf1.out (by unfold maxLen; omega) (by omega) hsz ?_; intro v' w1 hown1 hgrow1 hnil1)
            go_roundw
            case rel =>
              refine ⟨j + 1, by omega, by go_num, ?_, ?_⟩
              · exact BW.out.grown hgrow1 hsz (fun kk hkk => (O.out.lt kk hkk).1)
              · rw [hj3.out, hj4.out]; exact hown1
            case measure => simp [RowKit.intOf]; omega
        · have hj' : j = k := by omega
          subst hj'
          go_wp2
          go_ret
          refine ⟨_, rfl, ?_, BW.out⟩
          have := O.out
          rw [← N.out, List.take_length, JT.out] at this
          exact this
end Go.Proofs.YthdjfhnhjiageaaGreatDoor.Tx
namespace Go.Proofs.YthdjfhnhjiageaaGreatDoor.Tx
open Go.RowKit Go.Lib Go.Sort

instance : Inhabited Cd := ⟨noCd⟩
theorem encD_len (c : Cd) : (encD c).length = 11 := rfl
theorem neqD : NeqAt Tryz.prog 28 (fun x => .agg (encD x).toArray) sameC := by
  refine ⟨fun x y w => ?_, GuardAt.agg _ (by kernel_rfl)⟩
  have h : (Op.equalIn 10000 28 (.agg (encD x).toArray) (.agg (encD y).toArray)).run Tryz.prog w = .ok (sameC x y) w := eqC x y w
  refine (run_neq_struct (P := Tryz.prog) (w := w) 28 (encD x).toArray (encD y).toArray).trans ?_
  rw [h]
  rfl
theorem allEqD : ∀ xs : List Cd, Lib.allEq sameC xs xs = true
  | [] => by simp [Lib.allEq]
  | x :: xs => by simp [Lib.allEq, allEqD xs, sameC_iff.2 rfl]
theorem flatE_len (L : List Cd) : (L.flatMap encD).length = L.length * 11 := by
  induction L with
  | nil => rfl
  | cons c L ih => simp only [List.flatMap_cons, List.length_append, ih, List.length_cons]; simp; omega
theorem flatE_get : ∀ (L : List Cd) (j i : Nat), j < L.length → i < 11 → (L.flatMap encD)[j * 11 + i]? = (encD L[j]!)[i]?
  | [], j, _, h, _ => absurd h (by simp)
  | x :: L, 0, i, _, hi => by
    rw [List.flatMap_cons, List.getElem?_append_left (by simpa using hi)]
    simp
  | x :: L, j + 1, i, h, hi => by
    rw [List.flatMap_cons, List.getElem?_append_right (by simp; omega)]
    have : (j + 1) * 11 + i - (encD x).length = j * 11 + i := by simp; omega
    rw [this, flatE_get L j i (by simpa using h) hi]
    simp
theorem ownC_cells {B : Nat} {w : World} {v : Value} {L : List Cd} (h : OwnC B w v L) (hL : ¬ L = []) : ∃ g cap, v = .slice (some ⟨g, 0, none⟩) L.length cap ∧ ∀ j, j < L.length → ∀ i u, (encD L[j]!)[i]? = some u → w.cell? ⟨g, 0 + j * 11 + i, none⟩ = some u := by
  rcases h.2 with ⟨-, e⟩ | ⟨g, cap, cur, rfl, hb, hg, hnc, hm, hs, ht⟩
  · exact absurd (List.length_eq_zero_iff.1 e) hL
  · refine ⟨g, cap, rfl, fun j hj i u hu => ?_⟩
    have hi : i < 11 := (List.getElem?_eq_some_iff.1 hu).1
    have hv : (cur.toList.take (L.length * 11))[j * 11 + i]? = some u := by rw [ht, flatE_get L j i hj hi]; exact hu
    rw [List.getElem?_take] at hv
    split at hv
    · simp only [World.cell?, hg, Nat.zero_add]
      simpa using hv
    · cases hv
set_option maxRecDepth 100000 in
theorem equalD_none (p p' : Option Addr) (c c' : Nat) (w : World) :
    Calls Tryz.prog 18 #[.slice p 0 c, .slice p' 0 c'] w fun e w' => e = .returned (.bool true) ∧ Below w.heap.size w w' := by
  go_enter Tryz.func18, Tryz.ntmps18
  go_wp2
  refine wp_loop_rounds 1 ?_
  rw [rounds_succ]
  go_wp2
  go_ret
  exact ⟨rfl, Below.refl _ _⟩
theorem equalD_same {B B' : Nat} (v v' : Value) (L : List Cd) (w : World) (h : OwnC B w v L) (h' : OwnC B' w v' L) (hn : L.length ≤ 1000) :
    Calls Tryz.prog 18 #[v, v'] w fun e w' => e = .returned (.bool true) ∧ Below w.heap.size w w' := by
  by_cases hL : L = []
  · subst hL
    obtain ⟨p, c, rfl⟩ := ownC_slice h
    obtain ⟨p', c', rfl⟩ := ownC_slice h'
    exact equalD_none p p' c c' w
  · obtain ⟨g, cap, rfl, hc⟩ := ownC_cells h hL
    obtain ⟨g', cap', rfl, hc'⟩ := ownC_cells h' hL
    have hcon := AnyQ.slices_Equal Tryz.equalJ 11 Tryz.isAgg28 Tryz.sizeOf28 encD encD_len sameC neqD g 0 L.length cap g' 0 L.length cap' L L w (Nat.le_refl _) (Nat.le_refl _) (by omega) (by omega) hc hc'
    rw [List.take_length, allEqD] at hcon
    exact hcon.mono fun _ _ ⟨he, k, hk⟩ => ⟨he, hk ▸ (Below.refl _ w).trans ⟨rfl, rfl, rfl, Nat.le_refl _, fun _ _ => rfl⟩⟩
end Go.Proofs.YthdjfhnhjiageaaGreatDoor.Tx
