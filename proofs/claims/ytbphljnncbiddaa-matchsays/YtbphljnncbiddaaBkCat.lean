/-
  slices.Grow of nothing and slices.Concat at orders, by contracts.
-/
import Derived.Test.YtbphljnncbiddaaBkFlat
import Derived.Test.YtbphljnncbiddaaShelfB
namespace Go.Proofs.Ytbphljnncbiddaa.Bk
open Go.RowKit Go.Sort Go.Maps Go.Proofs.Ytbphljnncbiddaa.Mix

theorem grow_any (n : Nat) (w : World) (hn : n * 40 ≤ 140737488351232) :
    Calls Try.prog 88 #[.slice none 0 0, .int .i64 n] w fun e w' => ∃ v, e = .returned v ∧ w'.ownsRow w.heap.size 44 5 v 0 [] ∧ Below w.heap.size w w' := by
  by_cases h0 : n = 0
  · subst h0
    refine (Any8.slices_Grow_room Try.growB none 0 0 0 w (Nat.le_refl _) (by omega) (by omega) (by omega)).mono ?_
    rintro e w' ⟨rfl, rfl⟩
    exact ⟨_, rfl, World.ownsRow_nil _ _ _ _, Below.refl _ _⟩
  · obtain ⟨i0, hi, hz0, hz1, hz2⟩ := info_parts Try.infoO
    have hg := Any8.slices_Grow_grow Try.growB i0 (odrV noOdr) hi hz0 (by rw [hz1]; decide) none 0 0 n [] w (Nat.le_refl _) (by omega) (by rw [hz2]; omega) (by omega) (by simp) (fun _ => rfl) (fun a ha => by cases ha)
    refine hg.mono ?_
    rintro e w' ⟨rfl, rfl⟩
    have hge := grownCap_ge w (0 + n) 0 44
    have hle := grownCap_le_maxLen w (0 + n) 0 44 (by unfold maxLen; omega)
    refine ⟨_, rfl, ?_, ?_⟩
    · refine World.ownsRow_made (w := w.drew) (base := w.heap.size) (e := 44) (size := 5) _ _ (Nat.le_refl _) hle ?_
      simp only [Array.size_append, size_zeroCells]
      show 0 + (0 + n - 0) * 5 + (grownCap w (0 + n) 0 44 - (0 + n)) * 5 = grownCap w (0 + n) 0 44 * 5
      omega
    · exact ((Below.refl _ w).drew).alloc (Nat.le_refl _) _

abbrev Lst := Option Addr × Nat × List Odr
abbrev lstV (l : Lst) : Value := .slice l.1 l.2.2.length l.2.1
def joined (ls : List Lst) : List Odr := ls.flatMap fun l => l.2.2
theorem joined_at {ls : List Lst} {k : Nat} (h : k < ls.length) : joined (ls.take (k + 1)) = joined (ls.take k) ++ (ls[k]!).2.2 := by
  rw [List.take_add_one, List.getElem?_eq_getElem h, getElem!_pos ls k h]
  unfold joined
  rw [List.flatMap_append]
  simp
theorem joined_le (ls : List Lst) (k : Nat) : (joined (ls.take k)).length ≤ (joined ls).length := by
  conv => rhs; rw [← List.take_append_drop k ls]
  unfold joined
  rw [List.flatMap_append, List.length_append]
  omega

set_option maxHeartbeats 2000000 in
set_option maxRecDepth 100000 in
theorem concat_any (g c : Nat) (ls : List Lst) (w : World) (hc : ∀ j, j < ls.length → w.cell? ⟨g, j, none⟩ = some (lstV ls[j]!)) (hls : ∀ j, j < ls.length → OV w (ls[j]!).1 (ls[j]!).2.1 (ls[j]!).2.2) (hg : g < w.heap.size)
    (hk : ls.length ≤ 1000) (hn : (joined ls).length * 40 ≤ 140737488351232) :
    Calls Try.prog 46 #[.slice (some ⟨g, 0, none⟩) ls.length c] w fun e w' => ∃ v, e = .returned v ∧ w'.ownsRow w.heap.size 44 5 v (joined ls).length (flat (joined ls)) ∧ Below w.heap.size w w' := by
  obtain ⟨i0, hi, hz0, hz1, hz2⟩ := info_parts Try.infoO
  have HC := hide hc
  have HL := hide hls
  have JL := hide (joined_le ls)
  clear hc hls
  generalize hkn : ls.length = n at hk ⊢
  have N := hide hkn
  clear hkn
  generalize hjn : (joined ls).length = tot at hn JL
  have JT := hide hjn
  clear hjn
  have G := hide hg
  clear hg
  go_enter Try.func46, Try.ntmps46
  go_wp2
  go_loopw [3, 11] (fun s i wr => ∃ k sk : Nat, k ≤ n ∧ i = .int .i64 k ∧ s = .int .i64 sk ∧ Hid (Below w.heap.size w wr) ∧ Hid (sk = (joined (ls.take k)).length)) (fun _ i _ => n - (intOf i).toNat)
  case atStart => exact ⟨0, 0, Nat.zero_le _, rfl, rfl, Below.refl _ _, rfl⟩
  case round =>
    obtain ⟨k, sk, hkn, rfl, rfl, BW, SK⟩ := hrel
    by_cases hlt : k < n
    · have hltz : (k : Int) < (n : Int) := by omega
      have hkx : k < ls.length := by rw [N.out]; exact hlt
      have cx := (BW.out.cell (p := ⟨g, k, none⟩) G.out).trans (HC.out k hkx)
      have hj := hide (congrArg List.length (joined_at hkx))
      have hjl := JL.out (k + 1)
      rw [hj.out, List.length_append, ← SK.out] at hjl
      generalize hlk : ls[k]! = lk at cx hj hjl
      obtain ⟨pk, ck, xk⟩ := lk
      dsimp only [lstV] at cx hj hjl
      have hj2 : Hid (sk + xk.length = (joined (ls.take (k + 1))).length) := by rw [hj.out, List.length_append, ← SK.out]; rfl
      generalize xk.length = nk at cx hj2 hjl
      clear hj hlk
      go_wp2
      go_roundw
      case rel => exact ⟨k + 1, sk + nk, by omega, by go_num, by go_num, BW, hj2⟩
      case measure => simp [intOf]; omega
    · have hk' : k = n := by omega
      subst hk'
      have hst : Hid (sk = tot) := by rw [SK.out, ← N.out, List.take_length, JT.out]; rfl
      have hst' := hst.out
      clear SK
      subst hst'
      go_wp2_with fail
      refine (grow_any sk wr (by omega)).mono ?_
      rintro e w2 ⟨v0, rfl, hown0, hb0⟩
      have O0 : Hid (w2.ownsRow w.heap.size 44 5 v0 0 []) := hide (by
        refine ⟨hown0.1, ?_⟩
        rcases hown0.2 with h | ⟨g1, cap, cur, h1, h2, h3⟩
        · exact .inl h
        · exact .inr ⟨g1, cap, cur, h1, Nat.le_trans BW.out.size h2, h3⟩)
      have BW2 := hide (BW.out.trans (hb0.mono BW.out.size))
      clear hown0 hb0 hst BW
      go_wp2
      go_loopw [6, 27] (fun v i wr => ∃ j : Nat, j ≤ k ∧ i = .int .i64 j ∧ Hid (Below w.heap.size w wr) ∧ Hid (wr.ownsRow w.heap.size 44 5 v (joined (ls.take j)).length (flat (joined (ls.take j))))) (fun _ i _ => k - (intOf i).toNat)
      case atStart => exact ⟨0, Nat.zero_le _, rfl, BW2, O0⟩
      case round =>
        obtain ⟨j, hjk, rfl, BW, O⟩ := hrel
        by_cases hltj : j < k
        · have hltz2 : (j : Int) < (k : Int) := by omega
          have hjx : j < ls.length := by rw [N.out]; exact hltj
          have cx := (BW.out.cell (p := ⟨g, j, none⟩) G.out).trans (HC.out j hjx)
          have hov := (HL.out j hjx).below BW.out
          have hja := hide (joined_at hjx)
          have hjl := JL.out (j + 1)
          rw [hja.out, List.length_append] at hjl
          generalize ls[j]! = lj at cx hja hjl hov
          obtain ⟨pj, cj, xj⟩ := lj
          dsimp only [lstV] at cx hja hjl hov
          have hsz := BW.out.size
          cases pj with
          | none =>
            have hc0 := hov.nil rfl
            subst hc0
            have hx : xj = [] := List.eq_nil_of_length_eq_zero (Nat.le_zero.1 hov.cap)
            subst hx
            clear hov
            simp only [List.length_nil] at cx
            have hja2 : Hid (joined (ls.take (j + 1)) = joined (ls.take j)) := by rw [hja.out, List.append_nil]; rfl
            clear hja hjl
            go_wp2_with (at_builtin; refine wpList_append_own_none rfl _ _ 40 rfl w.heap.size 44 i0 5 Try.underlying40 hi _ _ _ rfl O.out rfl ?_)
            go_roundw
            case rel => exact ⟨j + 1, by omega, by go_num, BW, by rw [hja2.out]; exact O⟩
            case measure => simp [intOf]; omega
          | some ad =>
            have hcells : Hid (∀ jj u, (flat xj)[jj]? = some u → wr.cell? (ad.add jj) = some u) := by
              rcases hov.row with rfl | ⟨b, off, he, hc⟩
              · intro jj u hu; simp [flat] at hu
              · cases he; exact flat_cells hc
            have hfl := hide (flat_length xj)
            have hf1 := hide (flat_one xj)
            have hj3 : Hid ((joined (ls.take (j + 1))).length = (joined (ls.take j)).length + xj.length) := by rw [hja.out, List.length_append]; rfl
            have hj4 : Hid (flat (joined (ls.take (j + 1))) = flat (joined (ls.take j)) ++ flat xj) := by rw [hja.out, flat_append]; rfl
            clear hja hov
            generalize flat xj = fx at hcells hfl hf1 hj4
            generalize xj.length = nj at cx hfl hjl hj3
            generalize joined (ls.take j) = J at O hj3 hj4 hjl
            generalize hJn : J.length = Jn at O hj3 hjl
            generalize hJf : flat J = Jf at O hj4
            clear hJn hJf
            go_wp2_with (at_builtin; refine wpList_append_own _ rfl _ _ 40 rfl w.heap.size 44 i0 (odrV noOdr) 5 40 Try.underlying40 hi hz0 hz1 hz2 rfl (by decide) _ Jn Jf rfl O.out ad nj cj fx rfl hfl.out hcells.out hf1.out (by unfold maxLen; omega) (by omega) hsz ?_; intro v' w1 hown1 hgrow1 hnil1)
            go_roundw
            case rel =>
              refine ⟨j + 1, by omega, by go_num, ?_, ?_⟩
              · exact BW.out.grown hgrow1 hsz (fun kk hkk => (O.out.lt kk hkk).1)
              · rw [hj3.out, hj4.out]; exact hown1
            case measure => simp [intOf]; omega
        · have hj' : j = k := by omega
          subst hj'
          go_wp2
          go_ret
          refine ⟨_, rfl, ?_, BW.out⟩
          have := O.out
          rw [← N.out, List.take_length, JT.out] at this
          exact this
end Go.Proofs.Ytbphljnncbiddaa.Bk
