/-
  sort's symMerge_func, by a contract, at elements of k cells: the general case.
-/
import Derived.Test.YtbphljnncbiddaaStM2
namespace Go.Proofs.Ytbphljnncbiddaa.St
open Go.Shelf Go.RowKit Go.Lib Go.Sort
variable {α : Type} [Inhabited α] {enc : α → List Value} {k : Nat}

/-- what is asked of a merge, at any place of the row. -/
def MergesTo (enc : α → List Value) (k : Nat) (lt : α → α → Bool) (g : Nat) (lb : Array Value) (sf : Nat) (sb : Array Value) (blk off size N : Nat) (w0 : World) : Prop :=
  ∀ (a m b : Nat) (dk : Array α) (W : World), b - a < N → a < m → m < b → b ≤ size → dk.size = size → SWK enc k w0 blk off dk W → SortedIn lt a m dk → SortedIn lt m b dk →
    Calls Try.prog 142 #[.agg #[.func (.func g) #[] lb, .func (.func sf) #[] sb], .int .i64 a, .int .i64 m, .int .i64 b] W fun e w' => e = .returned (.tuple #[]) ∧ Merged enc k lt blk off a b dk W w'

/-- where the search stands. -/
structure Srch (lt : α → α → Bool) (n lo hi s r : Nat) (d : Array α) : Prop where
  los : lo ≤ s
  sr : s ≤ r
  rhi : r ≤ hi
  left : s = lo ∨ lt d[n - s]! d[s - 1]! = false
  right : r = hi ∨ lt d[n - 1 - r]! d[r]! = true
theorem Srch.up {lt : α → α → Bool} {n lo hi s r : Nat} {d : Array α} (h : Srch lt n lo hi s r d) (hsr : s < r) (hv : lt d[n - 1 - (s + r) / 2]! d[(s + r) / 2]! = false) : Srch lt n lo hi ((s + r) / 2 + 1) r d :=
  ⟨by have := h.los; omega, by omega, h.rhi, .inr (by rw [show n - ((s + r) / 2 + 1) = n - 1 - (s + r) / 2 by omega, show (s + r) / 2 + 1 - 1 = (s + r) / 2 by omega]; exact hv), h.right⟩
theorem Srch.down {lt : α → α → Bool} {n lo hi s r : Nat} {d : Array α} (h : Srch lt n lo hi s r d) (hsr : s < r) (hv : lt d[n - 1 - (s + r) / 2]! d[(s + r) / 2]! = true) : Srch lt n lo hi s ((s + r) / 2) d :=
  ⟨h.los, by omega, by have := h.rhi; omega, h.left, .inr hv⟩

set_option maxHeartbeats 6000000 in
set_option maxRecDepth 100000 in
theorem merge_up (hk : ∀ x, (enc x).length = k) (lt : α → α → Bool) (hO : SWO lt) (g : Nat) (lb : Array Value) (sf : Nat) (sb : Array Value) (blk off a m b mid : Nat) (d : Array α) (w : World)
    (eg : ∀ args w, (callFunc g args).run Try.prog w = .ok (.enter g args) w) (hless : LessG g lb enc k lt blk off d.size w) (hswap : SwapSwapsK Try.prog sf sb enc k blk off d.size)
    (hH : HoldsK enc k w blk off d) (hblk : blk < w.heap.size) (ham : a + 1 < m) (hmb : m + 1 < b) (hb : b ≤ d.size) (hsz : d.size < 4611686018427387904) (h1 : SortedIn lt a m d) (h2 : SortedIn lt m b d)
    (IH : MergesTo enc k lt g lb sf sb blk off d.size (b - a) w) (hmid : mid = (a + b) / 2) (hmm : m ≤ mid) :
    Calls Try.prog 142 #[.agg #[.func (.func g) #[] lb, .func (.func sf) #[] sb], .int .i64 a, .int .i64 m, .int .i64 b] w fun e w' => e = .returned (.tuple #[]) ∧ Merged enc k lt blk off a b d w w' := by
  have hH1 : HoldsK enc k (w.alloc (lsO (.func g) #[] lb sf sb)) blk off d := by rw [alloc_eq_grow]; exact holdsK_grow enc k w _ blk off d hblk hH
  have hb1 : blk < (w.alloc (lsO (.func g) #[] lb sf sb)).heap.size := by simp; omega
  have hless1 := hless.on ((SWK.start hH).alloc (lsO (.func g) #[] lb sf sb)) hblk rfl
  have HL := hide hless1
  have HS := hide hswap
  have HH := hide hH
  have HH1 := hide hH1
  have H1 := hide h1
  have H2 := hide h2
  have HI := hide IH
  have hmz : ¬ (m : Int) - a = 1 := by omega
  have hmzb : ((m : Int) - a == 1) = false := by simp [hmz]
  have hbz : ¬ (b : Int) - m = 1 := by omega
  have hbzb : ((b : Int) - m == 1) = false := by simp [hbz]
  have hmi : ((a : Int) + b) / 2 = mid := by omega
  have hmd1 : 2 * mid ≤ a + b := by omega
  have hmd2 : a + b < 2 * mid + 2 := by omega
  have hmmz : ¬ (mid : Int) < m := by omega
  clear hless hless1 hswap hH hH1 h1 h2 IH hmid
  go_enter Try.func142, Try.ntmps142
  go_wp2
  go_loopw [18, 19] (fun vs vr wr => ∃ (s r : Nat), vs = .int .i64 s ∧ vr = .int .i64 r ∧ a ≤ s ∧ s ≤ r ∧ r ≤ m ∧ Hid (Srch lt (mid + m) a m s r d) ∧ Hid (SWK enc k (w.alloc (lsO (.func g) #[] lb sf sb)) blk off d wr)) (fun vs vr _ => (intOf vr).toNat - (intOf vs).toNat)
  case atStart => exact ⟨a, m, rfl, rfl, Nat.le_refl _, by omega, Nat.le_refl _, ⟨Nat.le_refl _, by omega, Nat.le_refl _, .inl rfl, .inl rfl⟩, SWK.start HH1.out⟩
  case round =>
    obtain ⟨s, r, rfl, rfl, has, hsr, hrm, SC, SW⟩ := hrel
    have c0 : wr.cell? ⟨w.heap.size, 0, none⟩ = some (.func (.func g) #[] lb) := swk_cell SW.out (by simp) (by show w.heap.size ≠ blk; omega)
    have c1 : wr.cell? ⟨w.heap.size, 1, none⟩ = some (.func (.func sf) #[] sb) := swk_cell SW.out (by simp) (by show w.heap.size ≠ blk; omega)
    by_cases hlt : s < r
    · have hltz : (s : Int) < r := by omega
      have hl := HL.out _ _ SW.out rfl (mid + m - 1 - (s + r) / 2) ((s + r) / 2) (by omega) (by omega)
      rw [show ((mid + m - 1 - (s + r) / 2 : Nat) : Int) = (mid : Int) + m - 1 - ((s : Int) + r) / 2 by omega, show (((s + r) / 2 : Nat) : Int) = ((s : Int) + r) / 2 by omega] at hl
      cases hv : lt d[mid + m - 1 - (s + r) / 2]! d[(s + r) / 2]! with
      | true =>
        rw [hv] at hl
        have SD := hide (SC.out.down hlt hv)
        have HC := hide hl
        clear hl hv
        go_wp2_with fail
        refine HC.out.mono ?_
        rintro e w' ⟨rfl, qq, osq, rfl⟩
        have SN := hide (swk_grow SW.out qq osq)
        go_wp2
        go_roundw
        case rel => exact ⟨s, (s + r) / 2, rfl, by go_num, has, by omega, by omega, SD, SN⟩
        case measure => simp [intOf]; omega
      | false =>
        rw [hv] at hl
        have SD := hide (SC.out.up hlt hv)
        have HC := hide hl
        clear hl hv
        go_wp2_with fail
        refine HC.out.mono ?_
        rintro e w' ⟨rfl, qq, osq, rfl⟩
        have SN := hide (swk_grow SW.out qq osq)
        go_wp2
        go_roundw
        case rel => exact ⟨(s + r) / 2 + 1, r, by go_num, rfl, by omega, by omega, hrm, SD, SN⟩
        case measure => simp [intOf]; omega
    · have hsr' : s = r := by omega
      subst hsr'
      have HLO : Hid (s = a ∨ mid + m - s = b ∨ lt d[mid + m - s]! d[s - 1]! = false) := by
        rcases SC.out.left with h | h
        · exact .inl h
        · exact .inr (.inr h)
      have HHI : Hid (s = m ∨ mid + m - s = m ∨ lt d[mid + m - s - 1]! d[s]! = true) := by
        rcases SC.out.right with h | h
        · exact .inl h
        · exact .inr (.inr (by rw [show mid + m - s - 1 = mid + m - 1 - s by omega]; exact h))
      clear SC hsr hlt
      obtain ⟨e, he⟩ : ∃ e, mid + m - s = e := ⟨_, rfl⟩
      rw [he] at HLO HHI
      have hez : (mid : Int) + m - s = e := by omega
      have hse : s + e = mid + m := by omega
      have hsmid : s ≤ mid := by omega
      have hme : m ≤ e := by omega
      have heb : e ≤ b := by omega
      clear he
      by_cases hT1 : s < m
      · have hT1z : (s : Int) < m := by omega
        by_cases hT2 : m < e
        · have hT2z : (m : Int) < e := by omega
          have hc := rotate_any hk (.func g) #[] lb sf sb blk off s m e d wr HS.out (SW.out.holds hb1 HH1.out rfl) (SW.out.lt hb1) hT1 hT2 (by omega) hsz
          have HC := hide hc
          clear hc
          go_wp2_with fail
          refine HC.out.mono ?_
          rintro e' wz ⟨rfl, dz, hrot, hpz, hwz⟩
          have CT := hide (cut_rot hO H1.out H2.out has hT1 hT2 heb hse HLO.out ((HHI.out.resolve_left (by omega)).resolve_left (by omega)) hrot)
          have DS : Hid (dz.size = d.size) := hrot.1
          have HBz : Hid (b ≤ dz.size) := by rw [hrot.1]; exact hb
          have PD := hide (permIn_mono _ _ s e a b has heb hb hpz)
          have SWd := hide (swk_trans SW.out hb1 hwz hrot.1)
          clear hrot hpz hwz c0 c1
          have c0 : wz.cell? ⟨w.heap.size, 0, none⟩ = some (.func (.func g) #[] lb) := swk_cell SWd.out (by simp) (by show w.heap.size ≠ blk; omega)
          have c1 : wz.cell? ⟨w.heap.size, 1, none⟩ = some (.func (.func sf) #[] sb) := swk_cell SWd.out (by simp) (by show w.heap.size ≠ blk; omega)
          by_cases hA1 : a < s
          · have hA1z : (a : Int) < s := by omega
            by_cases hA2 : s < mid
            · have hA2z : (s : Int) < mid := by omega
              have hc := HI.out a s mid dz wz (by omega) hA1 hA2 (by omega) DS.out (swk_base SWd.out HH.out hblk DS.out) CT.out.p1 CT.out.p2
              have HC := hide hc
              clear hc
              go_wp2_with fail
              refine HC.out.mono ?_
              rintro e' w1 ⟨rfl, d1, hp1, hs1, hw1⟩
              have P1 := hide hp1
              have S1 := hide hs1
              have SW1 := hide (swk_trans SWd.out hb1 hw1 hp1.1)
              clear hp1 hs1 hw1 c0 c1
              have c0 : w1.cell? ⟨w.heap.size, 0, none⟩ = some (.func (.func g) #[] lb) := swk_cell SW1.out (by simp) (by show w.heap.size ≠ blk; omega)
              have c1 : w1.cell? ⟨w.heap.size, 1, none⟩ = some (.func (.func sf) #[] sb) := swk_cell SW1.out (by simp) (by show w.heap.size ≠ blk; omega)
              have Q3 : Hid (SortedIn lt mid e d1) := SortedIn.congr CT.out.p3 (fun i hi _ => P1.out.2.1 i (.inr hi))
              have Q4 : Hid (SortedIn lt e b d1) := SortedIn.congr CT.out.p4 (fun i hi _ => P1.out.2.1 i (.inr (by omega)))
              by_cases hB1 : mid < e
              · have hB1z : (mid : Int) < e := by omega
                by_cases hB2 : e < b
                · have hB2z : (e : Int) < b := by omega
                  have hc := HI.out mid e b d1 w1 (by omega) hB1 hB2 hb (P1.out.1.trans DS.out) (swk_base SW1.out HH.out hblk (P1.out.1.trans DS.out)) Q3.out Q4.out
                  have HC := hide hc
                  clear hc
                  go_wp2_with fail
                  refine HC.out.mono ?_
                  rintro e' w2 ⟨rfl, d2, hp2, hs2, hw2⟩
                  have P2 := hide hp2
                  have S2 := hide hs2
                  have SW2 := hide (swk_trans SW1.out hb1 hw2 hp2.1)
                  clear hp2 hs2 hw2
                  have FJ := hide (cut_join (by omega) (by omega) HBz.out CT.out.le P1.out S1.out P2.out S2.out)
                  have FP := hide (permIn_trans _ _ _ a b PD.out FJ.out.1)
                  have FS := hide (swk_base SW2.out HH.out hblk (FP.out.1))
                  clear c0 c1
                  go_wp2
                  go_end0
                  exact ⟨rfl, _, FP.out, FJ.out.2, FS.out⟩
                · have hB2z : ¬ (e : Int) < b := by omega
                  have P2 := hide (permIn_refl d1 mid b)
                  have S2 : Hid (SortedIn lt mid b d1) := fun i j hi hij hj => Q3.out i j hi hij (by omega)
                  have SW2 := hide SW1.out
                  have FJ := hide (cut_join (by omega) (by omega) HBz.out CT.out.le P1.out S1.out P2.out S2.out)
                  have FP := hide (permIn_trans _ _ _ a b PD.out FJ.out.1)
                  have FS := hide (swk_base SW2.out HH.out hblk (FP.out.1))
                  clear c0 c1
                  go_wp2
                  go_end0
                  exact ⟨rfl, _, FP.out, FJ.out.2, FS.out⟩
              · have hB1z : ¬ (mid : Int) < e := by omega
                have P2 := hide (permIn_refl d1 mid b)
                have S2 : Hid (SortedIn lt mid b d1) := fun i j hi hij hj => Q4.out i j (by omega) hij hj
                have SW2 := hide SW1.out
                have FJ := hide (cut_join (by omega) (by omega) HBz.out CT.out.le P1.out S1.out P2.out S2.out)
                have FP := hide (permIn_trans _ _ _ a b PD.out FJ.out.1)
                have FS := hide (swk_base SW2.out HH.out hblk (FP.out.1))
                clear c0 c1
                go_wp2
                go_end0
                exact ⟨rfl, _, FP.out, FJ.out.2, FS.out⟩
            · have hA2z : ¬ (s : Int) < mid := by omega
              have P1 := hide (permIn_refl dz a mid)
              have S1 : Hid (SortedIn lt a mid dz) := fun i j hi hij hj => CT.out.p1 i j hi hij (by omega)
              have SW1 := hide SWd.out
              have Q3 : Hid (SortedIn lt mid e dz) := SortedIn.congr CT.out.p3 (fun i hi _ => P1.out.2.1 i (.inr hi))
              have Q4 : Hid (SortedIn lt e b dz) := SortedIn.congr CT.out.p4 (fun i hi _ => P1.out.2.1 i (.inr (by omega)))
              by_cases hB1 : mid < e
              · have hB1z : (mid : Int) < e := by omega
                by_cases hB2 : e < b
                · have hB2z : (e : Int) < b := by omega
                  have hc := HI.out mid e b dz wz (by omega) hB1 hB2 hb (P1.out.1.trans DS.out) (swk_base SW1.out HH.out hblk (P1.out.1.trans DS.out)) Q3.out Q4.out
                  have HC := hide hc
                  clear hc
                  go_wp2_with fail
                  refine HC.out.mono ?_
                  rintro e' w2 ⟨rfl, d2, hp2, hs2, hw2⟩
                  have P2 := hide hp2
                  have S2 := hide hs2
                  have SW2 := hide (swk_trans SW1.out hb1 hw2 hp2.1)
                  clear hp2 hs2 hw2
                  have FJ := hide (cut_join (by omega) (by omega) HBz.out CT.out.le P1.out S1.out P2.out S2.out)
                  have FP := hide (permIn_trans _ _ _ a b PD.out FJ.out.1)
                  have FS := hide (swk_base SW2.out HH.out hblk (FP.out.1))
                  clear c0 c1
                  go_wp2
                  go_end0
                  exact ⟨rfl, _, FP.out, FJ.out.2, FS.out⟩
                · have hB2z : ¬ (e : Int) < b := by omega
                  have P2 := hide (permIn_refl dz mid b)
                  have S2 : Hid (SortedIn lt mid b dz) := fun i j hi hij hj => Q3.out i j hi hij (by omega)
                  have SW2 := hide SW1.out
                  have FJ := hide (cut_join (by omega) (by omega) HBz.out CT.out.le P1.out S1.out P2.out S2.out)
                  have FP := hide (permIn_trans _ _ _ a b PD.out FJ.out.1)
                  have FS := hide (swk_base SW2.out HH.out hblk (FP.out.1))
                  clear c0 c1
                  go_wp2
                  go_end0
                  exact ⟨rfl, _, FP.out, FJ.out.2, FS.out⟩
              · have hB1z : ¬ (mid : Int) < e := by omega
                have P2 := hide (permIn_refl dz mid b)
                have S2 : Hid (SortedIn lt mid b dz) := fun i j hi hij hj => Q4.out i j (by omega) hij hj
                have SW2 := hide SW1.out
                have FJ := hide (cut_join (by omega) (by omega) HBz.out CT.out.le P1.out S1.out P2.out S2.out)
                have FP := hide (permIn_trans _ _ _ a b PD.out FJ.out.1)
                have FS := hide (swk_base SW2.out HH.out hblk (FP.out.1))
                clear c0 c1
                go_wp2
                go_end0
                exact ⟨rfl, _, FP.out, FJ.out.2, FS.out⟩
          · have hA1z : ¬ (a : Int) < s := by omega
            have P1 := hide (permIn_refl dz a mid)
            have S1 : Hid (SortedIn lt a mid dz) := fun i j hi hij hj => CT.out.p2 i j (by omega) hij hj
            have SW1 := hide SWd.out
            have Q3 : Hid (SortedIn lt mid e dz) := SortedIn.congr CT.out.p3 (fun i hi _ => P1.out.2.1 i (.inr hi))
            have Q4 : Hid (SortedIn lt e b dz) := SortedIn.congr CT.out.p4 (fun i hi _ => P1.out.2.1 i (.inr (by omega)))
            by_cases hB1 : mid < e
            · have hB1z : (mid : Int) < e := by omega
              by_cases hB2 : e < b
              · have hB2z : (e : Int) < b := by omega
                have hc := HI.out mid e b dz wz (by omega) hB1 hB2 hb (P1.out.1.trans DS.out) (swk_base SW1.out HH.out hblk (P1.out.1.trans DS.out)) Q3.out Q4.out
                have HC := hide hc
                clear hc
                go_wp2_with fail
                refine HC.out.mono ?_
                rintro e' w2 ⟨rfl, d2, hp2, hs2, hw2⟩
                have P2 := hide hp2
                have S2 := hide hs2
                have SW2 := hide (swk_trans SW1.out hb1 hw2 hp2.1)
                clear hp2 hs2 hw2
                have FJ := hide (cut_join (by omega) (by omega) HBz.out CT.out.le P1.out S1.out P2.out S2.out)
                have FP := hide (permIn_trans _ _ _ a b PD.out FJ.out.1)
                have FS := hide (swk_base SW2.out HH.out hblk (FP.out.1))
                clear c0 c1
                go_wp2
                go_end0
                exact ⟨rfl, _, FP.out, FJ.out.2, FS.out⟩
              · have hB2z : ¬ (e : Int) < b := by omega
                have P2 := hide (permIn_refl dz mid b)
                have S2 : Hid (SortedIn lt mid b dz) := fun i j hi hij hj => Q3.out i j hi hij (by omega)
                have SW2 := hide SW1.out
                have FJ := hide (cut_join (by omega) (by omega) HBz.out CT.out.le P1.out S1.out P2.out S2.out)
                have FP := hide (permIn_trans _ _ _ a b PD.out FJ.out.1)
                have FS := hide (swk_base SW2.out HH.out hblk (FP.out.1))
                clear c0 c1
                go_wp2
                go_end0
                exact ⟨rfl, _, FP.out, FJ.out.2, FS.out⟩
            · have hB1z : ¬ (mid : Int) < e := by omega
              have P2 := hide (permIn_refl dz mid b)
              have S2 : Hid (SortedIn lt mid b dz) := fun i j hi hij hj => Q4.out i j (by omega) hij hj
              have SW2 := hide SW1.out
              have FJ := hide (cut_join (by omega) (by omega) HBz.out CT.out.le P1.out S1.out P2.out S2.out)
              have FP := hide (permIn_trans _ _ _ a b PD.out FJ.out.1)
              have FS := hide (swk_base SW2.out HH.out hblk (FP.out.1))
              clear c0 c1
              go_wp2
              go_end0
              exact ⟨rfl, _, FP.out, FJ.out.2, FS.out⟩
        · have hT2z : ¬ (m : Int) < e := by omega
          have hem : e = m := by omega
          have CT : Hid (Cut lt a s mid e b d) := by
            rw [hem]
            exact cut_right hO H1.out H2.out has (by omega) (by omega) (by have := HLO.out; rw [hem] at this; exact this)
          have HBz : Hid (b ≤ d.size) := hb
          have PD := hide (permIn_refl d a b)
          have SWd := hide SW.out
          clear hem
          by_cases hA1 : a < s
          · have hA1z : (a : Int) < s := by omega
            by_cases hA2 : s < mid
            · have hA2z : (s : Int) < mid := by omega
              have hc := HI.out a s mid d wr (by omega) hA1 hA2 (by omega) rfl (swk_base SWd.out HH.out hblk rfl) CT.out.p1 CT.out.p2
              have HC := hide hc
              clear hc
              go_wp2_with fail
              refine HC.out.mono ?_
              rintro e' w1 ⟨rfl, d1, hp1, hs1, hw1⟩
              have P1 := hide hp1
              have S1 := hide hs1
              have SW1 := hide (swk_trans SWd.out hb1 hw1 hp1.1)
              clear hp1 hs1 hw1 c0 c1
              have c0 : w1.cell? ⟨w.heap.size, 0, none⟩ = some (.func (.func g) #[] lb) := swk_cell SW1.out (by simp) (by show w.heap.size ≠ blk; omega)
              have c1 : w1.cell? ⟨w.heap.size, 1, none⟩ = some (.func (.func sf) #[] sb) := swk_cell SW1.out (by simp) (by show w.heap.size ≠ blk; omega)
              have Q3 : Hid (SortedIn lt mid e d1) := SortedIn.congr CT.out.p3 (fun i hi _ => P1.out.2.1 i (.inr hi))
              have Q4 : Hid (SortedIn lt e b d1) := SortedIn.congr CT.out.p4 (fun i hi _ => P1.out.2.1 i (.inr (by omega)))
              by_cases hB1 : mid < e
              · have hB1z : (mid : Int) < e := by omega
                by_cases hB2 : e < b
                · have hB2z : (e : Int) < b := by omega
                  have hc := HI.out mid e b d1 w1 (by omega) hB1 hB2 hb (P1.out.1.trans rfl) (swk_base SW1.out HH.out hblk (P1.out.1.trans rfl)) Q3.out Q4.out
                  have HC := hide hc
                  clear hc
                  go_wp2_with fail
                  refine HC.out.mono ?_
                  rintro e' w2 ⟨rfl, d2, hp2, hs2, hw2⟩
                  have P2 := hide hp2
                  have S2 := hide hs2
                  have SW2 := hide (swk_trans SW1.out hb1 hw2 hp2.1)
                  clear hp2 hs2 hw2
                  have FJ := hide (cut_join (by omega) (by omega) HBz.out CT.out.le P1.out S1.out P2.out S2.out)
                  have FP := hide (permIn_trans _ _ _ a b PD.out FJ.out.1)
                  have FS := hide (swk_base SW2.out HH.out hblk (FP.out.1))
                  clear c0 c1
                  go_wp2
                  go_end0
                  exact ⟨rfl, _, FP.out, FJ.out.2, FS.out⟩
                · have hB2z : ¬ (e : Int) < b := by omega
                  have P2 := hide (permIn_refl d1 mid b)
                  have S2 : Hid (SortedIn lt mid b d1) := fun i j hi hij hj => Q3.out i j hi hij (by omega)
                  have SW2 := hide SW1.out
                  have FJ := hide (cut_join (by omega) (by omega) HBz.out CT.out.le P1.out S1.out P2.out S2.out)
                  have FP := hide (permIn_trans _ _ _ a b PD.out FJ.out.1)
                  have FS := hide (swk_base SW2.out HH.out hblk (FP.out.1))
                  clear c0 c1
                  go_wp2
                  go_end0
                  exact ⟨rfl, _, FP.out, FJ.out.2, FS.out⟩
              · have hB1z : ¬ (mid : Int) < e := by omega
                have P2 := hide (permIn_refl d1 mid b)
                have S2 : Hid (SortedIn lt mid b d1) := fun i j hi hij hj => Q4.out i j (by omega) hij hj
                have SW2 := hide SW1.out
                have FJ := hide (cut_join (by omega) (by omega) HBz.out CT.out.le P1.out S1.out P2.out S2.out)
                have FP := hide (permIn_trans _ _ _ a b PD.out FJ.out.1)
                have FS := hide (swk_base SW2.out HH.out hblk (FP.out.1))
                clear c0 c1
                go_wp2
                go_end0
                exact ⟨rfl, _, FP.out, FJ.out.2, FS.out⟩
            · have hA2z : ¬ (s : Int) < mid := by omega
              have P1 := hide (permIn_refl d a mid)
              have S1 : Hid (SortedIn lt a mid d) := fun i j hi hij hj => CT.out.p1 i j hi hij (by omega)
              have SW1 := hide SWd.out
              have Q3 : Hid (SortedIn lt mid e d) := SortedIn.congr CT.out.p3 (fun i hi _ => P1.out.2.1 i (.inr hi))
              have Q4 : Hid (SortedIn lt e b d) := SortedIn.congr CT.out.p4 (fun i hi _ => P1.out.2.1 i (.inr (by omega)))
              by_cases hB1 : mid < e
              · have hB1z : (mid : Int) < e := by omega
                by_cases hB2 : e < b
                · have hB2z : (e : Int) < b := by omega
                  have hc := HI.out mid e b d wr (by omega) hB1 hB2 hb (P1.out.1.trans rfl) (swk_base SW1.out HH.out hblk (P1.out.1.trans rfl)) Q3.out Q4.out
                  have HC := hide hc
                  clear hc
                  go_wp2_with fail
                  refine HC.out.mono ?_
                  rintro e' w2 ⟨rfl, d2, hp2, hs2, hw2⟩
                  have P2 := hide hp2
                  have S2 := hide hs2
                  have SW2 := hide (swk_trans SW1.out hb1 hw2 hp2.1)
                  clear hp2 hs2 hw2
                  have FJ := hide (cut_join (by omega) (by omega) HBz.out CT.out.le P1.out S1.out P2.out S2.out)
                  have FP := hide (permIn_trans _ _ _ a b PD.out FJ.out.1)
                  have FS := hide (swk_base SW2.out HH.out hblk (FP.out.1))
                  clear c0 c1
                  go_wp2
                  go_end0
                  exact ⟨rfl, _, FP.out, FJ.out.2, FS.out⟩
                · have hB2z : ¬ (e : Int) < b := by omega
                  have P2 := hide (permIn_refl d mid b)
                  have S2 : Hid (SortedIn lt mid b d) := fun i j hi hij hj => Q3.out i j hi hij (by omega)
                  have SW2 := hide SW1.out
                  have FJ := hide (cut_join (by omega) (by omega) HBz.out CT.out.le P1.out S1.out P2.out S2.out)
                  have FP := hide (permIn_trans _ _ _ a b PD.out FJ.out.1)
                  have FS := hide (swk_base SW2.out HH.out hblk (FP.out.1))
                  clear c0 c1
                  go_wp2
                  go_end0
                  exact ⟨rfl, _, FP.out, FJ.out.2, FS.out⟩
              · have hB1z : ¬ (mid : Int) < e := by omega
                have P2 := hide (permIn_refl d mid b)
                have S2 : Hid (SortedIn lt mid b d) := fun i j hi hij hj => Q4.out i j (by omega) hij hj
                have SW2 := hide SW1.out
                have FJ := hide (cut_join (by omega) (by omega) HBz.out CT.out.le P1.out S1.out P2.out S2.out)
                have FP := hide (permIn_trans _ _ _ a b PD.out FJ.out.1)
                have FS := hide (swk_base SW2.out HH.out hblk (FP.out.1))
                clear c0 c1
                go_wp2
                go_end0
                exact ⟨rfl, _, FP.out, FJ.out.2, FS.out⟩
          · have hA1z : ¬ (a : Int) < s := by omega
            have P1 := hide (permIn_refl d a mid)
            have S1 : Hid (SortedIn lt a mid d) := fun i j hi hij hj => CT.out.p2 i j (by omega) hij hj
            have SW1 := hide SWd.out
            have Q3 : Hid (SortedIn lt mid e d) := SortedIn.congr CT.out.p3 (fun i hi _ => P1.out.2.1 i (.inr hi))
            have Q4 : Hid (SortedIn lt e b d) := SortedIn.congr CT.out.p4 (fun i hi _ => P1.out.2.1 i (.inr (by omega)))
            by_cases hB1 : mid < e
            · have hB1z : (mid : Int) < e := by omega
              by_cases hB2 : e < b
              · have hB2z : (e : Int) < b := by omega
                have hc := HI.out mid e b d wr (by omega) hB1 hB2 hb (P1.out.1.trans rfl) (swk_base SW1.out HH.out hblk (P1.out.1.trans rfl)) Q3.out Q4.out
                have HC := hide hc
                clear hc
                go_wp2_with fail
                refine HC.out.mono ?_
                rintro e' w2 ⟨rfl, d2, hp2, hs2, hw2⟩
                have P2 := hide hp2
                have S2 := hide hs2
                have SW2 := hide (swk_trans SW1.out hb1 hw2 hp2.1)
                clear hp2 hs2 hw2
                have FJ := hide (cut_join (by omega) (by omega) HBz.out CT.out.le P1.out S1.out P2.out S2.out)
                have FP := hide (permIn_trans _ _ _ a b PD.out FJ.out.1)
                have FS := hide (swk_base SW2.out HH.out hblk (FP.out.1))
                clear c0 c1
                go_wp2
                go_end0
                exact ⟨rfl, _, FP.out, FJ.out.2, FS.out⟩
              · have hB2z : ¬ (e : Int) < b := by omega
                have P2 := hide (permIn_refl d mid b)
                have S2 : Hid (SortedIn lt mid b d) := fun i j hi hij hj => Q3.out i j hi hij (by omega)
                have SW2 := hide SW1.out
                have FJ := hide (cut_join (by omega) (by omega) HBz.out CT.out.le P1.out S1.out P2.out S2.out)
                have FP := hide (permIn_trans _ _ _ a b PD.out FJ.out.1)
                have FS := hide (swk_base SW2.out HH.out hblk (FP.out.1))
                clear c0 c1
                go_wp2
                go_end0
                exact ⟨rfl, _, FP.out, FJ.out.2, FS.out⟩
            · have hB1z : ¬ (mid : Int) < e := by omega
              have P2 := hide (permIn_refl d mid b)
              have S2 : Hid (SortedIn lt mid b d) := fun i j hi hij hj => Q4.out i j (by omega) hij hj
              have SW2 := hide SW1.out
              have FJ := hide (cut_join (by omega) (by omega) HBz.out CT.out.le P1.out S1.out P2.out S2.out)
              have FP := hide (permIn_trans _ _ _ a b PD.out FJ.out.1)
              have FS := hide (swk_base SW2.out HH.out hblk (FP.out.1))
              clear c0 c1
              go_wp2
              go_end0
              exact ⟨rfl, _, FP.out, FJ.out.2, FS.out⟩
      · have hT1z : ¬ (s : Int) < m := by omega
        have hsm : s = m := by omega
        have CT : Hid (Cut lt a s mid e b d) := by
          have := HLO.out
          rw [hsm] at this ⊢
          exact cut_left hO H1.out H2.out (by omega) (by omega) (by omega) this
        have HBz : Hid (b ≤ d.size) := hb
        have PD := hide (permIn_refl d a b)
        have SWd := hide SW.out
        clear hsm
        by_cases hA1 : a < s
        · have hA1z : (a : Int) < s := by omega
          by_cases hA2 : s < mid
          · have hA2z : (s : Int) < mid := by omega
            have hc := HI.out a s mid d wr (by omega) hA1 hA2 (by omega) rfl (swk_base SWd.out HH.out hblk rfl) CT.out.p1 CT.out.p2
            have HC := hide hc
            clear hc
            go_wp2_with fail
            refine HC.out.mono ?_
            rintro e' w1 ⟨rfl, d1, hp1, hs1, hw1⟩
            have P1 := hide hp1
            have S1 := hide hs1
            have SW1 := hide (swk_trans SWd.out hb1 hw1 hp1.1)
            clear hp1 hs1 hw1 c0 c1
            have c0 : w1.cell? ⟨w.heap.size, 0, none⟩ = some (.func (.func g) #[] lb) := swk_cell SW1.out (by simp) (by show w.heap.size ≠ blk; omega)
            have c1 : w1.cell? ⟨w.heap.size, 1, none⟩ = some (.func (.func sf) #[] sb) := swk_cell SW1.out (by simp) (by show w.heap.size ≠ blk; omega)
            have Q3 : Hid (SortedIn lt mid e d1) := SortedIn.congr CT.out.p3 (fun i hi _ => P1.out.2.1 i (.inr hi))
            have Q4 : Hid (SortedIn lt e b d1) := SortedIn.congr CT.out.p4 (fun i hi _ => P1.out.2.1 i (.inr (by omega)))
            by_cases hB1 : mid < e
            · have hB1z : (mid : Int) < e := by omega
              by_cases hB2 : e < b
              · have hB2z : (e : Int) < b := by omega
                have hc := HI.out mid e b d1 w1 (by omega) hB1 hB2 hb (P1.out.1.trans rfl) (swk_base SW1.out HH.out hblk (P1.out.1.trans rfl)) Q3.out Q4.out
                have HC := hide hc
                clear hc
                go_wp2_with fail
                refine HC.out.mono ?_
                rintro e' w2 ⟨rfl, d2, hp2, hs2, hw2⟩
                have P2 := hide hp2
                have S2 := hide hs2
                have SW2 := hide (swk_trans SW1.out hb1 hw2 hp2.1)
                clear hp2 hs2 hw2
                have FJ := hide (cut_join (by omega) (by omega) HBz.out CT.out.le P1.out S1.out P2.out S2.out)
                have FP := hide (permIn_trans _ _ _ a b PD.out FJ.out.1)
                have FS := hide (swk_base SW2.out HH.out hblk (FP.out.1))
                clear c0 c1
                go_wp2
                go_end0
                exact ⟨rfl, _, FP.out, FJ.out.2, FS.out⟩
              · have hB2z : ¬ (e : Int) < b := by omega
                have P2 := hide (permIn_refl d1 mid b)
                have S2 : Hid (SortedIn lt mid b d1) := fun i j hi hij hj => Q3.out i j hi hij (by omega)
                have SW2 := hide SW1.out
                have FJ := hide (cut_join (by omega) (by omega) HBz.out CT.out.le P1.out S1.out P2.out S2.out)
                have FP := hide (permIn_trans _ _ _ a b PD.out FJ.out.1)
                have FS := hide (swk_base SW2.out HH.out hblk (FP.out.1))
                clear c0 c1
                go_wp2
                go_end0
                exact ⟨rfl, _, FP.out, FJ.out.2, FS.out⟩
            · have hB1z : ¬ (mid : Int) < e := by omega
              have P2 := hide (permIn_refl d1 mid b)
              have S2 : Hid (SortedIn lt mid b d1) := fun i j hi hij hj => Q4.out i j (by omega) hij hj
              have SW2 := hide SW1.out
              have FJ := hide (cut_join (by omega) (by omega) HBz.out CT.out.le P1.out S1.out P2.out S2.out)
              have FP := hide (permIn_trans _ _ _ a b PD.out FJ.out.1)
              have FS := hide (swk_base SW2.out HH.out hblk (FP.out.1))
              clear c0 c1
              go_wp2
              go_end0
              exact ⟨rfl, _, FP.out, FJ.out.2, FS.out⟩
          · have hA2z : ¬ (s : Int) < mid := by omega
            have P1 := hide (permIn_refl d a mid)
            have S1 : Hid (SortedIn lt a mid d) := fun i j hi hij hj => CT.out.p1 i j hi hij (by omega)
            have SW1 := hide SWd.out
            have Q3 : Hid (SortedIn lt mid e d) := SortedIn.congr CT.out.p3 (fun i hi _ => P1.out.2.1 i (.inr hi))
            have Q4 : Hid (SortedIn lt e b d) := SortedIn.congr CT.out.p4 (fun i hi _ => P1.out.2.1 i (.inr (by omega)))
            by_cases hB1 : mid < e
            · have hB1z : (mid : Int) < e := by omega
              by_cases hB2 : e < b
              · have hB2z : (e : Int) < b := by omega
                have hc := HI.out mid e b d wr (by omega) hB1 hB2 hb (P1.out.1.trans rfl) (swk_base SW1.out HH.out hblk (P1.out.1.trans rfl)) Q3.out Q4.out
                have HC := hide hc
                clear hc
                go_wp2_with fail
                refine HC.out.mono ?_
                rintro e' w2 ⟨rfl, d2, hp2, hs2, hw2⟩
                have P2 := hide hp2
                have S2 := hide hs2
                have SW2 := hide (swk_trans SW1.out hb1 hw2 hp2.1)
                clear hp2 hs2 hw2
                have FJ := hide (cut_join (by omega) (by omega) HBz.out CT.out.le P1.out S1.out P2.out S2.out)
                have FP := hide (permIn_trans _ _ _ a b PD.out FJ.out.1)
                have FS := hide (swk_base SW2.out HH.out hblk (FP.out.1))
                clear c0 c1
                go_wp2
                go_end0
                exact ⟨rfl, _, FP.out, FJ.out.2, FS.out⟩
              · have hB2z : ¬ (e : Int) < b := by omega
                have P2 := hide (permIn_refl d mid b)
                have S2 : Hid (SortedIn lt mid b d) := fun i j hi hij hj => Q3.out i j hi hij (by omega)
                have SW2 := hide SW1.out
                have FJ := hide (cut_join (by omega) (by omega) HBz.out CT.out.le P1.out S1.out P2.out S2.out)
                have FP := hide (permIn_trans _ _ _ a b PD.out FJ.out.1)
                have FS := hide (swk_base SW2.out HH.out hblk (FP.out.1))
                clear c0 c1
                go_wp2
                go_end0
                exact ⟨rfl, _, FP.out, FJ.out.2, FS.out⟩
            · have hB1z : ¬ (mid : Int) < e := by omega
              have P2 := hide (permIn_refl d mid b)
              have S2 : Hid (SortedIn lt mid b d) := fun i j hi hij hj => Q4.out i j (by omega) hij hj
              have SW2 := hide SW1.out
              have FJ := hide (cut_join (by omega) (by omega) HBz.out CT.out.le P1.out S1.out P2.out S2.out)
              have FP := hide (permIn_trans _ _ _ a b PD.out FJ.out.1)
              have FS := hide (swk_base SW2.out HH.out hblk (FP.out.1))
              clear c0 c1
              go_wp2
              go_end0
              exact ⟨rfl, _, FP.out, FJ.out.2, FS.out⟩
        · have hA1z : ¬ (a : Int) < s := by omega
          have P1 := hide (permIn_refl d a mid)
          have S1 : Hid (SortedIn lt a mid d) := fun i j hi hij hj => CT.out.p2 i j (by omega) hij hj
          have SW1 := hide SWd.out
          have Q3 : Hid (SortedIn lt mid e d) := SortedIn.congr CT.out.p3 (fun i hi _ => P1.out.2.1 i (.inr hi))
          have Q4 : Hid (SortedIn lt e b d) := SortedIn.congr CT.out.p4 (fun i hi _ => P1.out.2.1 i (.inr (by omega)))
          by_cases hB1 : mid < e
          · have hB1z : (mid : Int) < e := by omega
            by_cases hB2 : e < b
            · have hB2z : (e : Int) < b := by omega
              have hc := HI.out mid e b d wr (by omega) hB1 hB2 hb (P1.out.1.trans rfl) (swk_base SW1.out HH.out hblk (P1.out.1.trans rfl)) Q3.out Q4.out
              have HC := hide hc
              clear hc
              go_wp2_with fail
              refine HC.out.mono ?_
              rintro e' w2 ⟨rfl, d2, hp2, hs2, hw2⟩
              have P2 := hide hp2
              have S2 := hide hs2
              have SW2 := hide (swk_trans SW1.out hb1 hw2 hp2.1)
              clear hp2 hs2 hw2
              have FJ := hide (cut_join (by omega) (by omega) HBz.out CT.out.le P1.out S1.out P2.out S2.out)
              have FP := hide (permIn_trans _ _ _ a b PD.out FJ.out.1)
              have FS := hide (swk_base SW2.out HH.out hblk (FP.out.1))
              clear c0 c1
              go_wp2
              go_end0
              exact ⟨rfl, _, FP.out, FJ.out.2, FS.out⟩
            · have hB2z : ¬ (e : Int) < b := by omega
              have P2 := hide (permIn_refl d mid b)
              have S2 : Hid (SortedIn lt mid b d) := fun i j hi hij hj => Q3.out i j hi hij (by omega)
              have SW2 := hide SW1.out
              have FJ := hide (cut_join (by omega) (by omega) HBz.out CT.out.le P1.out S1.out P2.out S2.out)
              have FP := hide (permIn_trans _ _ _ a b PD.out FJ.out.1)
              have FS := hide (swk_base SW2.out HH.out hblk (FP.out.1))
              clear c0 c1
              go_wp2
              go_end0
              exact ⟨rfl, _, FP.out, FJ.out.2, FS.out⟩
          · have hB1z : ¬ (mid : Int) < e := by omega
            have P2 := hide (permIn_refl d mid b)
            have S2 : Hid (SortedIn lt mid b d) := fun i j hi hij hj => Q4.out i j (by omega) hij hj
            have SW2 := hide SW1.out
            have FJ := hide (cut_join (by omega) (by omega) HBz.out CT.out.le P1.out S1.out P2.out S2.out)
            have FP := hide (permIn_trans _ _ _ a b PD.out FJ.out.1)
            have FS := hide (swk_base SW2.out HH.out hblk (FP.out.1))
            clear c0 c1
            go_wp2
            go_end0
            exact ⟨rfl, _, FP.out, FJ.out.2, FS.out⟩
end Go.Proofs.Ytbphljnncbiddaa.St
