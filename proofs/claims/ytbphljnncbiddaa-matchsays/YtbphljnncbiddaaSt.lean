/-
  sort's swapRange_func and rotate_func, by contracts, at elements of k cells.
-/
import Derived.Test.YtbphljnncbiddaaProg
import Derived.Test.YtbphljnncbiddaaStP
import Derived.Shelf.SlSortFuncK.SWK
import Derived.Shelf.SlSortFuncK.LotDK
import Derived.WalkKit
import Derived.ProofKit
import Derived.Outline
namespace Go.Proofs.Ytbphljnncbiddaa.St
open Go.Shelf Go.RowKit Go.Lib Go.Sort
theorem hide {p : Prop} (h : p) : Hid p := h
variable {α : Type} [Inhabited α] {enc : α → List Value} {k : Nat}

theorem swk_cell {w0 W : World} {blk off : Nat} {dk : Array α} (h : SWK enc k w0 blk off dk W) {a : Addr} {v : Value} (hc : w0.cell? a = some v) (hne : a.block ≠ blk) : W.cell? a = some v := by
  obtain ⟨n, os, rfl⟩ := h
  unfold sortWorldK
  rw [cell?_grow _ _ _ (by rw [size_putRowK]; exact World.block_lt_of_cell? _ _ hc), cell?_putRowK_other enc k _ blk off dk a hne]
  exact hc
theorem swk_base {w W : World} {o : Obj} {blk off : Nat} {d dk : Array α} (h : SWK enc k (w.alloc o) blk off dk W) (hH : HoldsK enc k w blk off d) (hblk : blk < w.heap.size) (hs : dk.size = d.size) : SWK enc k w blk off dk W := by
  obtain ⟨n, os, rfl⟩ := h
  exact ((SWK.start hH).alloc o).on hblk n dk os hs

theorem swk_trans {w0 W W' : World} {blk off : Nat} {dk d' : Array α} (h : SWK enc k w0 blk off dk W) (hblk : blk < w0.heap.size) (h' : SWK enc k W blk off d' W') (hs : d'.size = dk.size) : SWK enc k w0 blk off d' W' := by
  obtain ⟨n, os, rfl⟩ := h'
  exact h.on hblk n d' os hs

theorem swk_grow {w0 W : World} {blk off : Nat} {dk : Array α} (h : SWK enc k w0 blk off dk W) (q : Nat) (os : Array Obj) : SWK enc k w0 blk off dk (grow (W.drewN q) os) := by
  obtain ⟨n, os1, hW⟩ := h.drewN q
  exact ⟨n, os1 ++ os, by rw [hW]; unfold sortWorldK; rw [grow_grow]⟩

/-- what is asked of 'less': in every world of the sort it tells; it may draw, and lay new blocks. -/
def LessG (g : Nat) (lb : Array Value) (enc : α → List Value) (k : Nat) (lt : α → α → Bool) (blk off size : Nat) (w0 : World) : Prop :=
  ∀ (dk : Array α) (W : World), SWK enc k w0 blk off dk W → dk.size = size → ∀ i j : Nat, i < size → j < size →
    Calls Try.prog g (#[.int .i64 i, .int .i64 j] ++ lb) W fun e w' => e = .returned (.bool (lt dk[i]! dk[j]!)) ∧ ∃ q os, w' = grow (W.drewN q) os
theorem LessG.on {g : Nat} {lb : Array Value} {lt : α → α → Bool} {blk off size : Nat} {w0 W : World} {dk : Array α} (h : LessG g lb enc k lt blk off size w0) (hW : SWK enc k w0 blk off dk W) (hblk : blk < w0.heap.size) (hs : dk.size = size) : LessG g lb enc k lt blk off size W :=
  fun dk' W' h' hs' => h dk' W' (swk_trans hW hblk h' (by omega)) hs'

/-- the box that a call lays of its lessSwap. -/
abbrev lsO (lf : Fn) (la lb : Array Value) (sf : Nat) (sb : Array Value) : Obj := .cells #[.func lf la lb, .func (.func sf) #[] sb] 138

set_option maxHeartbeats 1600000 in
set_option maxRecDepth 100000 in
theorem swapRange_any (hk : ∀ x, (enc x).length = k) (lf : Fn) (la lb : Array Value) (sf : Nat) (sb : Array Value) (blk off a b n lo hi : Nat) (d : Array α) (w : World)
    (hswap : SwapSwapsK Try.prog sf sb enc k blk off d.size) (hH : HoldsK enc k w blk off d) (hblk : blk < w.heap.size) (hlo : lo ≤ a) (hab : a + n ≤ b) (hb : b + n ≤ hi) (hhi : hi ≤ d.size) (hsz : d.size < 4611686018427387904) :
    Calls Try.prog 151 #[.agg #[.func lf la lb, .func (.func sf) #[] sb], .int .i64 a, .int .i64 b, .int .i64 n] w fun e w' => e = .returned (.tuple #[]) ∧ ∃ d', SR a b n d d' ∧ PermIn lo hi d d' ∧ SWK enc k w blk off d' w' := by
  have hH1 : HoldsK enc k (w.alloc (lsO lf la lb sf sb)) blk off d := by rw [alloc_eq_grow]; exact holdsK_grow enc k w _ blk off d hblk hH
  have hb1 : blk < (w.alloc (lsO lf la lb sf sb)).heap.size := by simp; omega
  go_enter Try.func151, Try.ntmps151
  go_wp2
  go_loopw [8] (fun vi wr => ∃ (i : Nat) (dk : Array α), vi = .int .i64 i ∧ i ≤ n ∧ SR a b i d dk ∧ PermIn lo hi d dk ∧ SWK enc k (w.alloc (lsO lf la lb sf sb)) blk off dk wr) (fun vi _ => n - (intOf vi).toNat)
  case atStart => exact ⟨0, d, rfl, Nat.zero_le _, sr_zero a b d, permIn_refl d lo hi, SWK.start hH1⟩
  case round =>
    obtain ⟨i, dk, rfl, hin, hsr, hpm, hsw⟩ := hrel
    by_cases hlt : i < n
    · have hltz : (i : Int) < (n : Int) := by omega
      have hds := hsr.1
      have hHk := hsw.holds hb1 hH1 hds
      have c1 : wr.cell? ⟨w.heap.size, 1, none⟩ = some (.func (.func sf) #[] sb) := swk_cell hsw (by simp) (by show w.heap.size ≠ blk; omega)
      have hs := hswap wr dk hHk hds (a + i) (b + i) (by omega) (by omega)
      rw [show ((a + i : Nat) : Int) = (a : Int) + i by omega, show ((b + i : Nat) : Int) = (b : Int) + i by omega] at hs
      have SN := hide (hsw.swap hk hb1 (a + i) (b + i) (by omega) (by omega))
      have SS := hide (sr_step hsr (by omega) (by omega))
      have SP := hide (sr_perm (a := a) (b := b) (i := i) hpm hlo (by omega) (by omega) hhi)
      clear hsr hpm hsw hHk hH hH1 hswap
      go_wp2
      go_roundw
      case rel => exact ⟨i + 1, _, by go_num, by omega, SS.out, SP.out, SN.out⟩
      case measure => simp [intOf]; omega
    · have hin' : i = n := by omega
      subst hin'
      have SB := hide (swk_base hsw hH hblk hsr.1)
      have HR := hide hsr
      have HP := hide hpm
      clear hsr hpm hsw hH hH1 hswap
      go_wp2
      go_end0
      exact ⟨rfl, dk, HR.out, HP.out, SB.out⟩

set_option maxHeartbeats 1600000 in
set_option maxRecDepth 100000 in
theorem rotate_any (hk : ∀ x, (enc x).length = k) (lf : Fn) (la lb : Array Value) (sf : Nat) (sb : Array Value) (blk off a m b : Nat) (d : Array α) (w : World)
    (hswap : SwapSwapsK Try.prog sf sb enc k blk off d.size) (hH : HoldsK enc k w blk off d) (hblk : blk < w.heap.size) (ham : a < m) (hmb : m < b) (hb : b ≤ d.size) (hsz : d.size < 4611686018427387904) :
    Calls Try.prog 149 #[.agg #[.func lf la lb, .func (.func sf) #[] sb], .int .i64 a, .int .i64 m, .int .i64 b] w fun e w' => e = .returned (.tuple #[]) ∧ ∃ d', Rot a m b d d' ∧ PermIn a b d d' ∧ SWK enc k w blk off d' w' := by
  have hH1 : HoldsK enc k (w.alloc (lsO lf la lb sf sb)) blk off d := by rw [alloc_eq_grow]; exact holdsK_grow enc k w _ blk off d hblk hH
  have hb1 : blk < (w.alloc (lsO lf la lb sf sb)).heap.size := by simp; omega
  have SRC := hide (fun A B N (dk : Array α) (W : World) (hds : dk.size = d.size) (hHk : HoldsK enc k W blk off dk) (hbk : blk < W.heap.size) h1 h2 h3 => swapRange_any hk lf la lb sf sb blk off A B N a b dk W (by rw [hds]; exact hswap) hHk hbk h1 h2 h3 (by omega) (by omega))
  have HH := hide hH
  have HH1 := hide hH1
  clear hH hH1 hswap
  go_enter Try.func149, Try.ntmps149
  go_wp2
  go_loopw [8, 9] (fun vi vj wr => ∃ (i j : Nat) (dk : Array α), vi = .int .i64 i ∧ vj = .int .i64 j ∧ 0 < i ∧ 0 < j ∧ a + i ≤ m ∧ m + j ≤ b ∧ Hid (dk.size = d.size) ∧ Hid (PermIn a b d dk) ∧ Hid (SWK enc k (w.alloc (lsO lf la lb sf sb)) blk off dk wr) ∧ Hid (∀ d' : Array α, Rot (m - i) m (m + j) dk d' → Rot a m b d d')) (fun vi vj _ => (intOf vi).toNat + (intOf vj).toNat)
  case atStart =>
    refine ⟨m - a, b - m, d, by go_num, by go_num, by omega, by omega, by omega, by omega, rfl, permIn_refl d a b, SWK.start HH1.out, fun d' hd => ?_⟩
    rw [show m - (m - a) = a by omega, show m + (b - m) = b by omega] at hd
    exact hd
  case round =>
    obtain ⟨i, j, dk, rfl, rfl, hi, hj, hi2, hj2, DS, PM, SW, RT⟩ := hrel
    have hHk := SW.out.holds hb1 HH1.out DS.out
    have c0 : wr.cell? ⟨w.heap.size, 0, none⟩ = some (.func lf la lb) := swk_cell SW.out (by simp) (by show w.heap.size ≠ blk; omega)
    have c1 : wr.cell? ⟨w.heap.size, 1, none⟩ = some (.func (.func sf) #[] sb) := swk_cell SW.out (by simp) (by show w.heap.size ≠ blk; omega)
    have HK := hide hHk
    clear hHk
    by_cases hij : i = j
    · subst hij
      have hc := SRC.out (m - i) m i dk wr DS.out HK.out (SW.out.lt hb1) (by omega) (by omega) (by omega)
      rw [show ((m - i : Nat) : Int) = (m : Int) - i by omega] at hc
      have HC := hide hc
      clear hc
      go_wp2_with fail
      refine HC.out.mono ?_
      rintro e w' ⟨rfl, d', hsr, hpm, hsw⟩
      have FIN := hide (RT.out d' (rot_same (by omega) hsr))
      have FP := hide (permIn_trans d dk d' a b PM.out hpm)
      have FS := hide (swk_base (swk_trans SW.out hb1 hsw hsr.1) HH.out hblk (hsr.1.trans DS.out))
      clear hsr hpm hsw
      go_wp2
      go_end0
      exact ⟨rfl, d', FIN.out, FP.out, FS.out⟩
    · have hne : ¬ (i : Int) = j := by omega
      by_cases hgt : j < i
      · have hgz : (j : Int) < i := by omega
        have hc := SRC.out (m - i) m j dk wr DS.out HK.out (SW.out.lt hb1) (by omega) (by omega) (by omega)
        rw [show ((m - i : Nat) : Int) = (m : Int) - i by omega] at hc
        have HC := hide hc
        clear hc hij
        go_wp2_with fail
        refine HC.out.mono ?_
        rintro e w' ⟨rfl, d', hsr, hpm, hsw⟩
        have FD := hide (hsr.1.trans DS.out)
        have FP := hide (permIn_trans d dk d' a b PM.out hpm)
        have FS := hide (swk_trans SW.out hb1 hsw hsr.1)
        have FR : Hid (∀ d2 : Array α, Rot (m - (i - j)) m (m + j) d' d2 → Rot a m b d d2) := fun d2 h2 => RT.out d2 (rot_big (by omega) hgt hsr h2)
        clear hsr hpm hsw
        go_wp2
        go_roundw
        case rel => exact ⟨i - j, j, d', by go_num, rfl, by omega, hj, by omega, hj2, FD, FP, FS, FR⟩
        case measure => simp [intOf]; omega
      · have hgz : (i : Int) < j := by omega
        have hc := SRC.out (m - i) (m + j - i) i dk wr DS.out HK.out (SW.out.lt hb1) (by omega) (by omega) (by omega)
        rw [show ((m - i : Nat) : Int) = (m : Int) - i by omega, show ((m + j - i : Nat) : Int) = (m : Int) + j - i by omega] at hc
        have HC := hide hc
        clear hc hij
        go_wp2_with fail
        refine HC.out.mono ?_
        rintro e w' ⟨rfl, d', hsr, hpm, hsw⟩
        have FD := hide (hsr.1.trans DS.out)
        have FP := hide (permIn_trans d dk d' a b PM.out hpm)
        have FS := hide (swk_trans SW.out hb1 hsw hsr.1)
        have FR : Hid (∀ d2 : Array α, Rot (m - i) m (m + (j - i)) d' d2 → Rot a m b d d2) := fun d2 h2 => RT.out d2 (rot_small (by omega) (by omega) hsr h2)
        clear hsr hpm hsw
        go_wp2
        go_roundw
        case rel => exact ⟨i, j - i, d', rfl, by go_num, hi, by omega, hi2, by omega, FD, FP, FS, FR⟩
        case measure => simp [intOf]; omega
end Go.Proofs.Ytbphljnncbiddaa.St
