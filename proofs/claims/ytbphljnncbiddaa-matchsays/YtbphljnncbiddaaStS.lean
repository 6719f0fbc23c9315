/-
  sort's stable_func, by a contract, at up to 40 elements of k cells.
-/
import Derived.Test.YtbphljnncbiddaaStG2
import Derived.Test.YtbphljnncbiddaaStI
namespace Go.Proofs.Ytbphljnncbiddaa.St
open Go.Shelf Go.RowKit Go.Lib Go.Sort
variable {α : Type} [Inhabited α] {enc : α → List Value} {k : Nat}

/-- what the blocks' sorting left. -/
structure Blocks (lt : α → α → Bool) (A n : Nat) (d dk : Array α) : Prop where
  perm : PermIn 0 n d dk
  one : 20 ≤ A → SortedIn lt 0 20 dk
  two : 40 ≤ A → SortedIn lt 20 40 dk

theorem blocks_on {lt : α → α → Bool} {A n : Nat} {d dk d' : Array α} (h : Blocks lt A n d dk) (hA : A = 0 ∨ A = 20) (hn : A + 20 ≤ n) (hs : n ≤ d.size) (p : PermIn A (A + 20) dk d') (s : SortedIn lt A (A + 20) d') : Blocks lt (A + 20) n d d' := by
  refine ⟨permIn_trans _ _ _ 0 n h.perm (permIn_mono _ _ A (A + 20) 0 n (Nat.zero_le _) hn (by rw [h.perm.1]; exact hs) p), fun _ => ?_, fun h4 => ?_⟩
  · rcases hA with rfl | rfl
    · exact s
    · exact SortedIn.congr (h.one (Nat.le_refl _)) (fun i _ hi => p.2.1 i (.inl hi))
  · rcases hA with rfl | rfl
    · omega
    · exact s
/-- all sorted, or two sorted parts. -/
structure Parts2 (lt : α → α → Bool) (n : Nat) (d dk : Array α) : Prop where
  perm : PermIn 0 n d dk
  few : n ≤ 20 → SortedIn lt 0 n dk
  one : 20 < n → SortedIn lt 0 20 dk
  two : 20 < n → SortedIn lt 20 n dk
theorem blocks_end {lt : α → α → Bool} {A n : Nat} {d dk d' : Array α} (h : Blocks lt A n d dk) (hA : A = 0 ∨ A = 20 ∨ A = 40) (h1 : A ≤ n) (h2 : n < A + 20) (h40 : n ≤ 40) (hs : n ≤ d.size) (p : PermIn A n dk d') (s : SortedIn lt A n d') : Parts2 lt n d d' := by
  have hp := permIn_trans _ _ _ 0 n h.perm (permIn_mono _ _ A n 0 n (Nat.zero_le _) (Nat.le_refl _) (by rw [h.perm.1]; exact hs) p)
  rcases hA with rfl | rfl | rfl
  · exact ⟨hp, fun _ => s, fun h => by omega, fun h => by omega⟩
  · have h20 : SortedIn lt 0 20 d' := SortedIn.congr (h.one (Nat.le_refl _)) (fun i _ hi => p.2.1 i (.inl hi))
    refine ⟨hp, fun hn => ?_, fun _ => h20, fun _ => s⟩
    have : n = 20 := by omega
    rw [this]; exact h20
  · have hn : n = 40 := by omega
    refine ⟨hp, fun _ => by omega, fun _ => ?_, fun _ => ?_⟩
    · exact SortedIn.congr (h.one (by omega)) (fun i _ hi => p.2.1 i (.inl (by omega)))
    · rw [hn]; exact SortedIn.congr (h.two (Nat.le_refl _)) (fun i _ hi => p.2.1 i (.inl hi))

set_option maxHeartbeats 1600000 in
set_option maxRecDepth 100000 in
theorem stable_any (hk : ∀ x, (enc x).length = k) (lt : α → α → Bool) (hO : SWO lt) (g : Nat) (lb : Array Value) (sf : Nat) (sb : Array Value) (blk off n : Nat) (d : Array α) (w : World)
    (eg : ∀ args w, (callFunc g args).run Try.prog w = .ok (.enter g args) w) (hless : LessG g lb enc k lt blk off d.size w) (hswap : SwapSwapsK Try.prog sf sb enc k blk off d.size)
    (hH : HoldsK enc k w blk off d) (hblk : blk < w.heap.size) (hn : d.size = n) (h40 : n ≤ 40) :
    Calls Try.prog 117 #[.agg #[.func (.func g) #[] lb, .func (.func sf) #[] sb], .int .i64 n] w fun e w' => e = .returned (.tuple #[]) ∧ Merged enc k lt blk off 0 n d w w' := by
  have hH1 : HoldsK enc k (w.alloc (lsO (.func g) #[] lb sf sb)) blk off d := by rw [alloc_eq_grow]; exact holdsK_grow enc k w _ blk off d hblk hH
  have hb1 : blk < (w.alloc (lsO (.func g) #[] lb sf sb)).heap.size := by simp; omega
  have hless1 := hless.on ((SWK.start hH).alloc (lsO (.func g) #[] lb sf sb)) hblk rfl
  have INS : Hid (∀ (a b : Nat) (dk : Array α) (W : World), SWK enc k (w.alloc (lsO (.func g) #[] lb sf sb)) blk off dk W → dk.size = d.size → a ≤ b → b ≤ d.size → Calls Try.prog 141 #[.agg #[.func (.func g) #[] lb, .func (.func sf) #[] sb], .int .i64 a, .int .i64 b] W fun e w' => e = .returned (.tuple #[]) ∧ Merged enc k lt blk off a b dk W w') :=
    fun a b dk W hW hs h1 h2 => insertion_any hk lt hO g lb sf sb blk off a b dk W eg (by rw [hs]; exact hless1.on hW hb1 hs) (by rw [hs]; exact hswap) (hW.holds hb1 hH1 hs) (hW.lt hb1) h1 (by omega) (by omega)
  have MRG := hide (merge_all hk lt hO g lb sf sb blk off d w eg hless hswap hH hblk (by omega) 41)
  have HH := hide hH
  have HH1 := hide hH1
  have HN := hide hn
  clear hless hless1 hswap hH hH1 hn
  go_enter Try.func117, Try.ntmps117
  go_wp2
  go_loopw [5, 6] (fun va vb wr => ∃ (A : Nat) (dk : Array α), va = .int .i64 A ∧ vb = .int .i64 ((A : Int) + 20) ∧ A ≤ n ∧ (A = 0 ∨ A = 20 ∨ A = 40) ∧ Hid (Blocks lt A n d dk) ∧ Hid (SWK enc k (w.alloc (lsO (.func g) #[] lb sf sb)) blk off dk wr)) (fun va _ _ => n - (intOf va).toNat)
  case atStart => exact ⟨0, d, rfl, rfl, Nat.zero_le _, .inl rfl, ⟨permIn_refl d 0 n, fun h => by omega, fun h => by omega⟩, SWK.start HH1.out⟩
  case round =>
    obtain ⟨A, dk, rfl, rfl, hAn, hA, BL, SW⟩ := hrel
    have c0 : wr.cell? ⟨w.heap.size, 0, none⟩ = some (.func (.func g) #[] lb) := swk_cell SW.out (by simp) (by show w.heap.size ≠ blk; omega)
    have c1 : wr.cell? ⟨w.heap.size, 1, none⟩ = some (.func (.func sf) #[] sb) := swk_cell SW.out (by simp) (by show w.heap.size ≠ blk; omega)
    by_cases hlt : A + 20 ≤ n
    · have hltz : (A : Int) + 20 ≤ n := by omega
      have hc := INS.out A (A + 20) dk wr SW.out BL.out.perm.1 (by omega) (by rw [HN.out]; exact hlt)
      rw [show ((A + 20 : Nat) : Int) = (A : Int) + 20 by omega] at hc
      have HC := hide hc
      clear hc
      go_wp2_with fail
      refine HC.out.mono ?_
      rintro e w' ⟨rfl, d', hp, hs, hsw⟩
      have BN := hide (blocks_on BL.out (by omega) hlt (by rw [HN.out]; exact Nat.le_refl _) hp hs)
      have SN := hide (swk_trans SW.out hb1 hsw hp.1)
      clear hp hs hsw c0 c1
      go_wp2
      go_roundw
      case rel => exact ⟨A + 20, d', by go_num, by go_num, hlt, by omega, BN, SN⟩
      case measure => simp [intOf]; omega
    · have hltz : ¬ (A : Int) + 20 ≤ n := by omega
      have hc := INS.out A n dk wr SW.out BL.out.perm.1 hAn (by rw [HN.out]; exact Nat.le_refl _)
      have HC := hide hc
      clear hc
      go_wp2_with fail
      refine HC.out.mono ?_
      rintro e w' ⟨rfl, d', hp, hs, hsw⟩
      have PT := hide (blocks_end BL.out hA hAn (by omega) h40 (by rw [HN.out]; exact Nat.le_refl _) hp hs)
      have SN := hide (swk_trans SW.out hb1 hsw hp.1)
      clear hp hs hsw c0 c1 BL SW
      obtain ⟨wo, hwo⟩ : ∃ wo, wo = w' := ⟨_, rfl⟩
      rw [← hwo] at SN ⊢
      clear hwo
      have c0 : wo.cell? ⟨w.heap.size, 0, none⟩ = some (.func (.func g) #[] lb) := swk_cell SN.out (by simp) (by show w.heap.size ≠ blk; omega)
      have c1 : wo.cell? ⟨w.heap.size, 1, none⟩ = some (.func (.func sf) #[] sb) := swk_cell SN.out (by simp) (by show w.heap.size ≠ blk; omega)
      by_cases hn20 : n ≤ 20
      · have hn20z : ¬ (20 : Int) < n := by omega
        have FIN := hide (PT.out.few hn20)
        have FP := hide PT.out.perm
        have FS := hide (swk_base SN.out HH.out hblk FP.out.1)
        clear PT SN c0 c1
        go_wp2
        refine wp_loop_rounds 1 ?_
        rw [rounds_succ]
        go_wp2
        go_end0
        exact ⟨rfl, d', FP.out, FIN.out, FS.out⟩
      · have hn20z : (20 : Int) < n := by omega
        have hc := MRG.out 0 20 n d' wo (by omega) (by omega) (by omega) (by rw [HN.out]; exact Nat.le_refl _) PT.out.perm.1 (swk_base SN.out HH.out hblk PT.out.perm.1) (PT.out.one (by omega)) (PT.out.two (by omega))
        rw [show ((0 : Nat) : Int) = 0 from rfl, show ((20 : Nat) : Int) = 20 from rfl] at hc
        have HC := hide hc
        clear hc
        have DN : Hid (∀ w2, Merged enc k lt blk off 0 n d' wo w2 → Merged enc k lt blk off 0 n d w w2) := by
          rintro w2 ⟨d2, hp2, hs2, hw2⟩
          exact ⟨d2, permIn_trans _ _ _ 0 n PT.out.perm hp2, hs2, swk_base (swk_trans SN.out hb1 hw2 hp2.1) HH.out hblk (hp2.1.trans PT.out.perm.1)⟩
        clear PT
        by_cases hn40 : n = 40
        · have hn40z : (40 : Int) ≤ n := by omega
          have hn41z : ¬ (40 : Int) < n := by omega
          have hn60z : ¬ (60 : Int) < n := by omega
          have hn80z : ¬ (80 : Int) ≤ n := by omega
          have e40 : (40 : Int) = n := by omega
          have HC' : Hid (Calls Try.prog 142 #[.agg #[.func (.func g) #[] lb, .func (.func sf) #[] sb], .int .i64 0, .int .i64 20, .int .i64 40] wo fun e w' => e = .returned (.tuple #[]) ∧ Merged enc k lt blk off 0 n d' wo w') := by
            have := HC.out
            rw [← e40] at this
            exact this
          clear HC hn40 e40
          go_wp2
          refine wp_loop_rounds 2 ?_
          rw [rounds_succ]
          go_wp2_with fail
          refine wp_loop_rounds 2 ?_
          rw [rounds_succ]
          go_wp2_with fail
          refine HC'.out.mono ?_
          rintro e w2 ⟨rfl, hM⟩
          have FM := hide (DN.out w2 hM)
          clear hM c0 c1
          go_wp2
          rw [rounds_succ]
          go_wp2
          rw [rounds_succ]
          go_wp2
          go_end0
          exact ⟨rfl, FM.out⟩
        · have hn40z : ¬ (40 : Int) ≤ n := by omega
          have hn41z : ¬ (40 : Int) < n := by omega
          go_wp2
          refine wp_loop_rounds 2 ?_
          rw [rounds_succ]
          go_wp2_with fail
          refine wp_loop_rounds 1 ?_
          rw [rounds_succ]
          go_wp2_with fail
          refine HC.out.mono ?_
          rintro e w2 ⟨rfl, hM⟩
          have FM := hide (DN.out w2 hM)
          clear hM c0 c1
          go_wp2
          rw [rounds_succ]
          go_wp2
          go_end0
          exact ⟨rfl, FM.out⟩
end Go.Proofs.Ytbphljnncbiddaa.St
