/-
  sort's symMerge_func, by a contract, at elements of k cells: two sorted parts become one.
-/
import Derived.Test.YtbphljnncbiddaaSt
import Derived.Test.YtbphljnncbiddaaStQ
namespace Go.Proofs.Ytbphljnncbiddaa.St
open Go.Shelf Go.RowKit Go.Lib Go.Sort
variable {α : Type} [Inhabited α] {enc : α → List Value} {k : Nat}

/-- what a merge leaves. -/
def Merged (enc : α → List Value) (k : Nat) (lt : α → α → Bool) (blk off a b : Nat) (d : Array α) (w w' : World) : Prop :=
  ∃ d', PermIn a b d d' ∧ SortedIn lt a b d' ∧ SWK enc k w blk off d' w'

set_option maxHeartbeats 1600000 in
set_option maxRecDepth 100000 in
/-- one element ahead of a sorted part. -/
theorem merge_one (hk : ∀ x, (enc x).length = k) (lt : α → α → Bool) (hO : SWO lt) (g : Nat) (lb : Array Value) (sf : Nat) (sb : Array Value) (blk off a m b : Nat) (d : Array α) (w : World)
    (eg : ∀ args w, (callFunc g args).run Try.prog w = .ok (.enter g args) w) (hless : LessG g lb enc k lt blk off d.size w) (hswap : SwapSwapsK Try.prog sf sb enc k blk off d.size)
    (hH : HoldsK enc k w blk off d) (hblk : blk < w.heap.size) (hm : m = a + 1) (hab : m < b) (hb : b ≤ d.size) (hsz : d.size < 4611686018427387904) (h2 : SortedIn lt (a + 1) b d) :
    Calls Try.prog 142 #[.agg #[.func (.func g) #[] lb, .func (.func sf) #[] sb], .int .i64 a, .int .i64 m, .int .i64 b] w fun e w' => e = .returned (.tuple #[]) ∧ Merged enc k lt blk off a b d w w' := by
  have hH1 : HoldsK enc k (w.alloc (lsO (.func g) #[] lb sf sb)) blk off d := by rw [alloc_eq_grow]; exact holdsK_grow enc k w _ blk off d hblk hH
  have hb1 : blk < (w.alloc (lsO (.func g) #[] lb sf sb)).heap.size := by simp; omega
  have hless1 := hless.on ((SWK.start hH).alloc (lsO (.func g) #[] lb sf sb)) hblk rfl
  have HL := hide hless1
  have HS := hide hswap
  have HH := hide hH
  have HH1 := hide hH1
  have H2 := hide h2
  have HM := hide hm
  have hmz : (m : Int) - a = 1 := by omega
  have hma : a < m := by omega
  have hma2 : m ≤ a + 1 := by omega
  clear hless hless1 hswap hH hH1 h2 hm
  go_enter Try.func142, Try.ntmps142
  go_wp2
  go_loopw [8, 9] (fun vi vj wr => ∃ (i j : Nat), vi = .int .i64 i ∧ vj = .int .i64 j ∧ m ≤ i ∧ i ≤ j ∧ j ≤ b ∧ Hid (i = m ∨ lt d[i - 1]! d[a]! = true) ∧ Hid (j = b ∨ lt d[j]! d[a]! = false) ∧ Hid (SWK enc k (w.alloc (lsO (.func g) #[] lb sf sb)) blk off d wr)) (fun vi vj _ => (intOf vj).toNat - (intOf vi).toNat)
  case atStart => exact ⟨m, b, rfl, rfl, Nat.le_refl _, by omega, Nat.le_refl _, .inl rfl, .inl rfl, SWK.start HH1.out⟩
  case round =>
    obtain ⟨i, j, rfl, rfl, hi1, hij, hjb, LO, HI, SW⟩ := hrel
    have c0 : wr.cell? ⟨w.heap.size, 0, none⟩ = some (.func (.func g) #[] lb) := swk_cell SW.out (by simp) (by show w.heap.size ≠ blk; omega)
    by_cases hlt : i < j
    · have hltz : (i : Int) < j := by omega
      have hl := HL.out _ _ SW.out rfl ((i + j) / 2) a (by omega) (by omega)
      rw [show (((i + j) / 2 : Nat) : Int) = ((i : Int) + j) / 2 by omega] at hl
      cases hv : lt d[(i + j) / 2]! d[a]! with
      | true =>
        rw [hv] at hl
        have LN : Hid ((i + j) / 2 + 1 = m ∨ lt d[(i + j) / 2 + 1 - 1]! d[a]! = true) := .inr hv
        have HC := hide hl
        clear hl hv
        go_wp2_with fail
        refine HC.out.mono ?_
        rintro e w' ⟨rfl, qq, osq, rfl⟩
        have SN := hide (swk_grow SW.out qq osq)
        go_wp2
        go_roundw
        case rel => exact ⟨(i + j) / 2 + 1, j, by go_num, rfl, by omega, by omega, hjb, LN, HI, SN⟩
        case measure => simp [intOf]; omega
      | false =>
        rw [hv] at hl
        have HN : Hid ((i + j) / 2 = b ∨ lt d[(i + j) / 2]! d[a]! = false) := .inr hv
        have HC := hide hl
        clear hl hv
        go_wp2_with fail
        refine HC.out.mono ?_
        rintro e w' ⟨rfl, qq, osq, rfl⟩
        have SN := hide (swk_grow SW.out qq osq)
        go_wp2
        go_roundw
        case rel => exact ⟨i, (i + j) / 2, rfl, by go_num, hi1, by omega, by omega, LO, HN, SN⟩
        case measure => simp [intOf]; omega
    · have hij' : i = j := by omega
      subst hij'
      obtain ⟨wo, hwo⟩ : ∃ wo, wo = wr := ⟨_, rfl⟩
      subst hwo
      clear c0
      go_wp2
      go_loopw [11] (fun vq wr => ∃ (q : Nat) (dk : Array α), vq = .int .i64 q ∧ a ≤ q ∧ q + 1 ≤ i ∧ Hid (Shift a q d dk) ∧ Hid (PermIn a b d dk) ∧ Hid (SWK enc k (w.alloc (lsO (.func g) #[] lb sf sb)) blk off dk wr)) (fun vq _ => i - (intOf vq).toNat)
      case atStart => exact ⟨a, d, rfl, Nat.le_refl _, by omega, shift_zero a d, permIn_refl d a b, SW.out⟩
      case round =>
        obtain ⟨q, dk, rfl, haq, hqi, SH, PM, SWq⟩ := hrel
        have c1 : wr.cell? ⟨w.heap.size, 1, none⟩ = some (.func (.func sf) #[] sb) := swk_cell SWq.out (by simp) (by show w.heap.size ≠ blk; omega)
        by_cases hq : q < i - 1
        · have hqz : (q : Int) < (i : Int) - 1 := by omega
          have hs := HS.out wr dk (SWq.out.holds hb1 HH1.out SH.out.1) SH.out.1 q (q + 1) (by omega) (by omega)
          rw [show ((q + 1 : Nat) : Int) = (q : Int) + 1 by omega] at hs
          have SN := hide (SWq.out.swap hk hb1 q (q + 1) (by have := SH.out.1; omega) (by have := SH.out.1; omega))
          have SS := hide (shift_step SH.out haq (by omega))
          have SP := hide (swp_perm PM.out (p := q) (q := q + 1) haq (by omega) (by omega) (by omega) hb)
          go_wp2
          go_roundw
          case rel => exact ⟨q + 1, _, by go_num, by omega, by omega, SS, SP, SN⟩
          case measure => simp [intOf]; omega
        · have hqz : ¬ (q : Int) < (i : Int) - 1 := by omega
          have hq' : q = i - 1 := by omega
          have FIN := hide (shift_sorted hO (hq' ▸ SH.out) H2.out (by omega) hjb (by rw [← HM.out]; exact LO.out) HI.out)
          have FS := hide (swk_base SWq.out HH.out hblk SH.out.1)
          clear hq' c1
          go_wp2
          exact bodyPost_ret (v := .tuple #[]) (by simp [results, Try.results142, go_sem]) rfl ⟨rfl, dk, PM.out, FIN.out, FS.out⟩
end Go.Proofs.Ytbphljnncbiddaa.St
