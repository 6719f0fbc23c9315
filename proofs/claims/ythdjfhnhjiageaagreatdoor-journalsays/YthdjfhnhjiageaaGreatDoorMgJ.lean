/-
  Lines of right commands: JournalHolds' mathematics. No program in sight.
-/
import Derived.Test.YthdjfhnhjiageaaGreatDoorMgP
import Derived.Test.YthdjfhnhjiageaaGreatDoorMgB
namespace Go.Proofs.YthdjfhnhjiageaaGreatDoor.Tx
open Go.Lib

def linesL : List Cd → Bs
  | [] => []
  | c :: l => lineC c ++ linesL l
def Right (l : List Cd) : Prop := ∀ c, c ∈ l → checkC c = 0 ∧ c.fits
theorem lines_app : ∀ a b : List Cd, linesL (a ++ b) = linesL a ++ linesL b
  | [], _ => rfl
  | c :: a, b => by rw [List.cons_append, linesL, linesL, lines_app a b, ← List.append_assoc]
theorem lines_one (c : Cd) : linesL [c] = lineC c := by rw [linesL, linesL, List.append_nil]
theorem lines_len : ∀ {l : List Cd}, Right l → (linesL l).length ≤ 201 * l.length
  | [], _ => by simp [linesL]
  | c :: l, h => by
    have h1 := lines_len (l := l) (fun x hx => h x (List.mem_cons_of_mem _ hx))
    have h2 := print_len (h c (List.mem_cons_self ..)).2
    rw [linesL]
    simp only [List.length_append, List.length_cons, List.length_nil]
    omega
theorem Right.cons {c : Cd} {l : List Cd} (h : Right (c :: l)) : (checkC c = 0 ∧ c.fits) ∧ Right l := ⟨h c (List.mem_cons_self ..), fun x hx => h x (List.mem_cons_of_mem _ hx)⟩
theorem Right.app {a b : List Cd} (h : Right (a ++ b)) : Right a ∧ Right b := ⟨fun x hx => h x (List.mem_append_left _ hx), fun x hx => h x (List.mem_append_right _ hx)⟩
theorem Right.join {a b : List Cd} (h1 : Right a) (h2 : Right b) : Right (a ++ b) := fun x hx => (List.mem_append.1 hx).elim (h1 x) (h2 x)
theorem Right.one {c : Cd} (h : checkC c = 0) (hf : c.fits) : Right [c] := fun x hx => by rw [List.mem_singleton.1 hx]; exact ⟨h, hf⟩
theorem Right.take {l : List Cd} (h : Right l) (n : Nat) : Right (l.take n) := fun x hx => h x (List.mem_of_mem_take hx)
theorem Right.drop {l : List Cd} (h : Right l) (n : Nat) : Right (l.drop n) := fun x hx => h x (List.mem_of_mem_drop hx)
theorem no_lf_take {l : Bs} (h : (10 : UInt8) ∉ l) (n : Nat) : (10 : UInt8) ∉ l.take n := fun hx => h (List.mem_of_mem_take hx)
theorem cut_no : ∀ {b : Bs}, (10 : UInt8) ∉ b → cutL b = none
  | [], _ => rfl
  | x :: l, h => by
    simp only [List.mem_cons, not_or] at h
    rw [cutL, if_neg (fun e => h.1 e.symm), cut_no h.2]
    rfl
/-- a beginning of lines of right commands is read as a beginning of the commands. -/
theorem read_take : ∀ (xs : List Cd), Right xs → ∀ (k n g : Nat), k + xs.length ≤ 60 → ((linesL xs).take n).length ≤ g → ∃ j e, j ≤ xs.length ∧ readF g k ((linesL xs).take n) = (xs.take j, (linesL (xs.take j)).length, e) ∧ (linesL xs).take (linesL (xs.take j)).length = linesL (xs.take j) ∧ (linesL (xs.take j)).length ≤ ((linesL xs).take n).length
  | [], _, k, n, g, _, _ => ⟨0, 0, Nat.le_refl _, by rw [linesL, List.take_nil, read_nil]; rfl, rfl, by simp [linesL]⟩
  | c :: xs, h, k, n, g, hk, hg => by
    obtain ⟨⟨hc, hf⟩, hr⟩ := h.cons
    simp only [List.length_cons] at hk
    by_cases hn : n < (lineC c).length
    · have e : (linesL (c :: xs)).take n = (printC c).take n := by
        rw [linesL, List.take_append_of_le_length (by omega)]
        rw [List.take_append_of_le_length (by simp only [List.length_append, List.length_cons, List.length_nil] at hn; omega)]
      rw [e] at hg ⊢
      by_cases hz : (printC c).take n = []
      · rw [hz, read_nil]
        exact ⟨0, 0, Nat.zero_le _, rfl, rfl, Nat.zero_le _⟩
      · obtain ⟨g', rfl⟩ : ∃ g', g = g' + 1 := ⟨g - 1, by have := List.length_pos_iff.2 hz; omega⟩
        rw [read_torn hz (cut_no (no_lf_take (print_lf hc) n))]
        exact ⟨0, 13, Nat.zero_le _, rfl, rfl, Nat.zero_le _⟩
    · have e : (linesL (c :: xs)).take n = printC c ++ 10 :: (linesL xs).take (n - (lineC c).length) := by
        rw [linesL, List.take_append, List.take_of_length_le (by omega), List.append_assoc]
        rfl
      rw [e] at hg ⊢
      have ih := fun g' hx => read_take xs hr (k + 1) (n - (lineC c).length) g' (by omega) hx
      generalize (linesL xs).take (n - (lineC c).length) = R at hg ih ⊢
      simp only [List.length_append, List.length_cons] at hg
      obtain ⟨g', rfl⟩ : ∃ g', g = g' + 1 := ⟨g - 1, by omega⟩
      obtain ⟨j, e', h1, h2, h3, h4⟩ := ih g' (by omega)
      refine ⟨j + 1, e', by simp only [List.length_cons]; omega, ?_, ?_, ?_⟩
      · rw [read_cut (cut_line _ (print_lf hc)), parse_print hc hf, if_neg (fun h => h rfl), if_neg (by omega), h2]
        simp only [List.take_succ_cons, linesL, List.length_append, List.length_cons, List.length_nil]
      · rw [List.take_succ_cons, linesL, linesL, List.length_append, List.take_append, Nat.add_sub_cancel_left, h3, List.take_of_length_le (by omega)]
      · rw [List.take_succ_cons, linesL]
        simp only [List.length_append, List.length_cons, List.length_nil]
        omega
theorem read_lines : ∀ (xs : List Cd), Right xs → ∀ (k g : Nat), k + xs.length ≤ 60 → (linesL xs).length ≤ g → readF g k (linesL xs) = (xs, (linesL xs).length, 0)
  | [], _, k, g, _, _ => by rw [linesL, read_nil]; rfl
  | c :: xs, h, k, g, hk, hg => by
    obtain ⟨⟨hc, hf⟩, hr⟩ := h.cons
    simp only [List.length_cons] at hk
    have e : linesL (c :: xs) = printC c ++ 10 :: linesL xs := by rw [linesL, List.append_assoc]; rfl
    rw [e] at hg ⊢
    simp only [List.length_append, List.length_cons] at hg
    obtain ⟨g', rfl⟩ : ∃ g', g = g' + 1 := ⟨g - 1, by omega⟩
    rw [read_cut (cut_line _ (print_lf hc)), parse_print hc hf, if_neg (fun h => h rfl), if_neg (by omega), read_lines xs hr (k + 1) g' (by omega) (by omega)]
    simp only [List.length_append, List.length_cons]
    refine Prod.ext rfl (Prod.ext ?_ rfl)
    dsimp only
    omega
theorem readL_lines {xs : List Cd} (h : Right xs) (hn : xs.length ≤ 60) : readL (linesL xs) = (xs, (linesL xs).length, 0) := read_lines xs h 0 _ (by omega) (Nat.le_refl _)
theorem check_lines {a : List Cd} {w : Bs} (ha : Right a) (hn : a.length ≤ 60) (hl : (linesL a).length + w.length ≤ 20000) : checkD ⟨linesL a, w⟩ = 0 := check_of hl (by rw [readL_lines ha hn])
theorem check_cases (c : Cd) : checkC c = 0 ∨ checkC c = 3 ∨ checkC c = 4 := by
  unfold checkC
  split
  · exact .inr (.inr rfl)
  · split
    · exact .inr (.inr rfl)
    · split
      · exact .inl rfl
      · exact .inr (.inl rfl)
theorem put_lines {a b : List Cd} (ha : Right a) (hb : Right b) (hn : a.length + b.length ≤ 30) {c : Cd} (hc : checkC c = 0) (hf : c.fits) : putD ⟨linesL a, linesL b⟩ c = (⟨linesL a, linesL (b ++ [c])⟩, 0) := by
  have l1 := lines_len ha
  have l2 := lines_len hb
  have l3 := print_len hf
  rw [put_is (check_lines ha (by omega) (by omega)) hc (by simp only [List.length_append, List.length_cons, List.length_nil]; omega), lines_app, lines_one]
theorem put_wrong {a b : List Cd} (ha : Right a) (hb : Right b) (hn : a.length + b.length ≤ 30) {c : Cd} (hc : ¬ checkC c = 0) : putD ⟨linesL a, linesL b⟩ c = (noDk, checkC c) := by
  have l1 := lines_len ha
  have l2 := lines_len hb
  unfold putD
  rw [if_neg (fun h => h (check_lines ha (by omega) (by omega))), if_pos hc]
theorem sync_lines {a b : List Cd} (ha : Right a) (hb : Right b) (hn : a.length + b.length ≤ 30) : syncD ⟨linesL a, linesL b⟩ = (⟨linesL (a ++ b), []⟩, 0) := by
  have l1 := lines_len ha
  have l2 := lines_len hb
  rw [sync_is (check_lines ha (by omega) (by omega)) (by dsimp only; rw [← lines_app, readL_lines (ha.join hb) (by simp; omega)]), lines_app]
theorem rec_lines {a : List Cd} (ha : Right a) (hn : a.length ≤ 30) : recD ⟨linesL a, []⟩ = (⟨linesL a, []⟩, a, 0) := by
  have l1 := lines_len ha
  unfold recD
  rw [if_neg (fun h => h (check_lines ha (by omega) (by simp; omega)))]
  dsimp only
  rw [List.append_nil, readL_lines ha (by omega)]
  dsimp only
  rw [List.take_length]
/-- JournalHolds: what is recovered. -/
theorem rec_take {a b : List Cd} (ha : Right a) (hb : Right b) (hn : a.length + b.length ≤ 30) (n : Nat) : ∃ j, j ≤ b.length ∧ recD ⟨linesL a, (linesL b).take n⟩ = (⟨linesL (a ++ b.take j), []⟩, a ++ b.take j, 0) := by
  have l1 := lines_len ha
  have l2 := lines_len hb
  have hz : (readL (linesL a)).2.2 = 0 := by rw [readL_lines ha (by omega)]
  obtain ⟨-, e⟩ := readL_app (B := (linesL b).take n) hz
  obtain ⟨j, e', h1, h2, h3, h4⟩ := read_take b hb a.length n (linesL a ++ (linesL b).take n).length (by omega) (by simp)
  rw [readL_lines ha (by omega)] at e
  dsimp only at e
  rw [h2] at e
  dsimp only at e
  refine ⟨j, h1, ?_⟩
  unfold recD
  rw [if_neg (fun h => h (check_lines ha (by omega) (by rw [List.length_take]; omega)))]
  dsimp only
  rw [e]
  dsimp only
  rw [List.take_append, Nat.add_sub_cancel_left, List.take_of_length_le (by omega), List.take_take, Nat.min_eq_left (by rw [List.length_take] at h4; omega), h3, lines_app]
theorem crash_is {a b : List Cd} (ha : Right a) (hb : Right b) (hn : a.length + b.length ≤ 30) {n : Int} (h0 : 0 ≤ n) (h1 : n ≤ ((linesL b).length : Int)) : crashD ⟨linesL a, linesL b⟩ n = (⟨linesL a, (linesL b).take n.toNat⟩, 0) := by
  have l1 := lines_len ha
  have l2 := lines_len hb
  unfold crashD
  rw [if_neg (fun h => h (check_lines ha (by omega) (by omega))), if_neg (by dsimp only; omega)]
end Go.Proofs.YthdjfhnhjiageaaGreatDoor.Tx
namespace Go.Proofs.YthdjfhnhjiageaaGreatDoor.Tx
open Go.RowKit Go.Lib Go.Sort
theorem itoa1 {n : Nat} (h : n < 10) : itoa (n : Int) = [UInt8.ofNat (48 + n)] := by rw [itoa_nonneg, decDigits_one h]
abbrev jA : Cd := ⟨1, 0, 0, 5, 0, 0, 0, 0, 0, 0, false⟩
abbrev jB : Cd := ⟨7, 0, 0, 0, 0, 0, 0, 0, 0, 0, false⟩
abbrev jT : Bs := [100, 101, 112, 111, 115, 105, 116, 32, 48, 32, 53, 10]
theorem print_jA : printC jA = [100, 101, 112, 111, 115, 105, 116, 32, 48, 32, 53] := by
  have i1 : itoa 0 = [48] := itoa1 (n := 0) (by decide)
  have i2 : itoa 5 = [53] := itoa1 (n := 5) (by decide)
  show joinW [wDeposit, itoa 0, itoa 5] = _
  rw [i1, i2]
  rfl
theorem print_jB : printC jB = wSweep := rfl
theorem fits_jA : jA.fits := by constructor <;> (unfold i64; decide)
theorem fits_jB : jB.fits := by constructor <;> (unfold i64; decide)
theorem check_jA : checkC jA = 0 := by rfl
theorem check_jB : checkC jB = 0 := by rfl
theorem rA : Right [jA] := Right.one check_jA fits_jA
theorem rB : Right [jB] := Right.one check_jB fits_jB
theorem r0 : Right [] := fun _ h => nomatch h
theorem line_A : linesL [jA] = jT := by rw [lines_one]; show printC jA ++ [10] = _; rw [print_jA]; rfl
theorem j1 : putD noDk jA = (⟨[], jT⟩, 0) := by
  have := put_lines r0 r0 (by decide) check_jA fits_jA
  rw [List.nil_append, line_A] at this
  exact this
theorem j2 : syncD ⟨[], jT⟩ = (⟨jT, []⟩, 0) := by
  have := sync_lines r0 rA (by decide)
  rw [List.nil_append, line_A] at this
  exact this
theorem j3 : putD ⟨jT, []⟩ jB = (⟨jT, wSweep ++ [10]⟩, 0) := by
  have := put_lines rA r0 (by decide) check_jB fits_jB
  rw [List.nil_append, line_A, lines_one] at this
  exact this
theorem j4 : crashD ⟨jT, wSweep ++ [10]⟩ 5 = (⟨jT, wSweep⟩, 0) := by
  have := crash_is rA rB (by decide) (n := 5) (by decide) (by rw [lines_one]; decide)
  rw [line_A, lines_one] at this
  exact this
theorem j5 : recD ⟨jT, wSweep⟩ = (⟨jT, []⟩, [jA], 0) := by
  have hr := readL_lines rA (by decide)
  rw [line_A] at hr
  obtain ⟨-, e⟩ := readL_app (A := jT) (B := wSweep) (by rw [hr])
  rw [hr] at e
  have ht : readF (jT ++ wSweep).length 1 wSweep = ([], 0, 13) := read_torn (f := 16) (by decide) (by decide)
  dsimp only at e
  rw [show ([jA] : List Cd).length = 1 from rfl, ht] at e
  unfold recD
  rw [if_neg (fun h => h (check_of (by decide) (by rw [hr]))), e]
  rfl
theorem bt_few {w : World} {p : Option Addr} {n c : Nat} {bs : Bs} (h : Bt w p n c bs) (k : Nat) (hk : bs.length ≤ k) : n ≤ k := by rw [← h.len]; exact hk
set_option maxHeartbeats 8000000 in
set_option maxRecDepth 100000 in
theorem journaled_any (w : World) (E : Env w) : Calls Tryz.prog 10 #[] w fun e w' => e = .returned (.bool true) ∧ Below w.heap.size w w' := by
  have P1 := hide (put_any none 0 0 none 0 0 noDk jA w (bt_none w) (bt_none w) (by decide) (by decide) fits_jA E)
  rw [j1] at P1
  have HE := hide E
  clear E
  go_enter Tryz.func10, Tryz.ntmps10
  go_wp2_with fail
  refine P1.out.mono ?_
  rintro e X ⟨⟨v, rfl, hdv⟩, bX⟩
  obtain ⟨p1, n1, c1, p2, n2, c2, rfl, hs1, hs2, hm1, hm2⟩ := hdv
  obtain ⟨V, hV⟩ : ∃ V, V = X.alloc (dkO (.slice p1 n1 c1) (.slice p2 n2 c2)) := ⟨_, rfl⟩
  have bXV : Below X.heap.size X V := by rw [hV]; exact below_alloc X _
  have gV : V.heap[X.heap.size]? = some (dkO (.slice p1 n1 c1) (.slice p2 n2 c2)) := by rw [hV]; exact heap_alloc_new X _
  have HR : Hid (w.heap.size ≤ X.heap.size) := bX.size
  have T1 := hide (hs1.below bXV)
  have T2 := hide (hs2.below bXV)
  have RV : Hid (X.heap.size + 1 ≤ V.heap.size) := (Array.getElem?_eq_some_iff.1 gV).1
  have BV := hide (onward bX bXV)
  have GV := hide gV
  have HV := hide hV
  obtain ⟨v0, v1, -, -⟩ := dk_cell gV
  have CN := hide (sync_any p1 n1 c1 p2 n2 c2 ⟨[], jT⟩ V T1.out T2.out (bt_few T1.out _ (by decide)) (bt_few T2.out _ (by decide)) (HE.out.below BV.out))
  rw [j2] at CN
  clear hV bXV gV hs1 hs2 P1 bX hm1 hm2
  go_wp2_with (rw [← HV.out])
  clear v0 v1 HV T1 T2
  generalize X.heap.size = r at *
  clear X
  refine CN.out.mono ?_
  have WB := BV
  have RB := GV
  have RS := RV
  clear CN BV GV RV
  rintro e X ⟨⟨v, rfl, hdv⟩, bX⟩
  obtain ⟨p1, n1, c1, p2, n2, c2, rfl, hs1, hs2, hm1, hm2⟩ := hdv
  obtain ⟨V, hV⟩ : ∃ V, V = (X.setCell ⟨r, 0, none⟩ (.slice p1 n1 c1)).setCell ⟨r, 1, none⟩ (.slice p2 n2 c2) := ⟨_, rfl⟩
  have rx := dk_below RB.out bX
  have gV : V.heap[r]? = some (dkO (.slice p1 n1 c1) (.slice p2 n2 c2)) := by rw [hV]; exact dk_put rx _ _
  have bV : Below w.heap.size w V := by rw [hV]; exact ((onward WB.out bX).setCell HR.out _).setCell HR.out _
  have m1 := hm1.mono RS.out
  have m2 := hm2.mono RS.out
  have t1 : Bt V p1 n1 c1 (⟨jT, []⟩ : Dk).safe := by rw [hV]; exact (hs1.set m1 _ _).set m1 _ _
  have t2 : Bt V p2 n2 c2 (⟨jT, []⟩ : Dk).wait := by rw [hV]; exact (hs2.set m2 _ _).set m2 _ _
  obtain ⟨⟨u0, k0⟩, ⟨u1, k1⟩, f0, f1⟩ := dk_opq rx
  obtain ⟨v0, v1, -, -⟩ := dk_cell gV
  have RV : Hid (r + 1 ≤ V.heap.size) := (Array.getElem?_eq_some_iff.1 gV).1
  have T1 := hide t1
  have T2 := hide t2
  have GV := hide gV
  have HV := hide hV
  have BV := hide bV
  clear hs1 hs2 hm1 hm2 rx gV bV m1 m2 t1 t2 hV bX RB WB RS
  have CN := hide (put_any p1 n1 c1 p2 n2 c2 ⟨jT, []⟩ jB V T1.out T2.out (bt_few T1.out _ (by decide)) (bt_few T2.out _ (by decide)) fits_jB (HE.out.below BV.out))
  rw [j3] at CN
  go_wp2_with (rw [← HV.out])
  clear k0 k1 f0 f1 v0 v1 HV
  clear X
  refine CN.out.mono ?_
  have WB := BV
  have RB := GV
  have RS := RV
  clear CN BV GV RV T1 T2
  rintro e X ⟨⟨v, rfl, hdv⟩, bX⟩
  obtain ⟨p1, n1, c1, p2, n2, c2, rfl, hs1, hs2, hm1, hm2⟩ := hdv
  obtain ⟨V, hV⟩ : ∃ V, V = (X.setCell ⟨r, 0, none⟩ (.slice p1 n1 c1)).setCell ⟨r, 1, none⟩ (.slice p2 n2 c2) := ⟨_, rfl⟩
  have rx := dk_below RB.out bX
  have gV : V.heap[r]? = some (dkO (.slice p1 n1 c1) (.slice p2 n2 c2)) := by rw [hV]; exact dk_put rx _ _
  have bV : Below w.heap.size w V := by rw [hV]; exact ((onward WB.out bX).setCell HR.out _).setCell HR.out _
  have m1 := hm1.mono RS.out
  have m2 := hm2.mono RS.out
  have t1 : Bt V p1 n1 c1 (⟨jT, wSweep ++ [10]⟩ : Dk).safe := by rw [hV]; exact (hs1.set m1 _ _).set m1 _ _
  have t2 : Bt V p2 n2 c2 (⟨jT, wSweep ++ [10]⟩ : Dk).wait := by rw [hV]; exact (hs2.set m2 _ _).set m2 _ _
  obtain ⟨⟨u0, k0⟩, ⟨u1, k1⟩, f0, f1⟩ := dk_opq rx
  obtain ⟨v0, v1, -, -⟩ := dk_cell gV
  have RV : Hid (r + 1 ≤ V.heap.size) := (Array.getElem?_eq_some_iff.1 gV).1
  have T1 := hide t1
  have T2 := hide t2
  have GV := hide gV
  have HV := hide hV
  have BV := hide bV
  clear hs1 hs2 hm1 hm2 rx gV bV m1 m2 t1 t2 hV bX RB WB RS
  have CN := hide (crash_any p1 n1 c1 p2 n2 c2 ⟨jT, wSweep ++ [10]⟩ 5 V T1.out T2.out (bt_few T1.out _ (by decide)) (bt_few T2.out _ (by decide)) (HE.out.below BV.out))
  rw [j4] at CN
  go_wp2_with (rw [← HV.out])
  clear k0 k1 f0 f1 v0 v1 HV
  clear X
  refine CN.out.mono ?_
  have WB := BV
  have RB := GV
  have RS := RV
  clear CN BV GV RV T1 T2
  rintro e X ⟨⟨v, rfl, hdv⟩, bX⟩
  obtain ⟨p1, n1, c1, p2, n2, c2, rfl, hs1, hs2, hm1, hm2⟩ := hdv
  obtain ⟨V, hV⟩ : ∃ V, V = (X.setCell ⟨r, 0, none⟩ (.slice p1 n1 c1)).setCell ⟨r, 1, none⟩ (.slice p2 n2 c2) := ⟨_, rfl⟩
  have rx := dk_below RB.out bX
  have gV : V.heap[r]? = some (dkO (.slice p1 n1 c1) (.slice p2 n2 c2)) := by rw [hV]; exact dk_put rx _ _
  have bV : Below w.heap.size w V := by rw [hV]; exact ((onward WB.out bX).setCell HR.out _).setCell HR.out _
  have m1 := hm1.mono RS.out
  have m2 := hm2.mono RS.out
  have t1 : Bt V p1 n1 c1 (⟨jT, wSweep⟩ : Dk).safe := by rw [hV]; exact (hs1.set m1 _ _).set m1 _ _
  have t2 : Bt V p2 n2 c2 (⟨jT, wSweep⟩ : Dk).wait := by rw [hV]; exact (hs2.set m2 _ _).set m2 _ _
  obtain ⟨⟨u0, k0⟩, ⟨u1, k1⟩, f0, f1⟩ := dk_opq rx
  obtain ⟨v0, v1, -, -⟩ := dk_cell gV
  have RV : Hid (r + 1 ≤ V.heap.size) := (Array.getElem?_eq_some_iff.1 gV).1
  have T1 := hide t1
  have T2 := hide t2
  have GV := hide gV
  have HV := hide hV
  have BV := hide bV
  clear hs1 hs2 hm1 hm2 rx gV bV m1 m2 t1 t2 hV bX RB WB RS
  have CN := hide (recover_any p1 n1 c1 p2 n2 c2 ⟨jT, wSweep⟩ V T1.out T2.out (bt_few T1.out _ (by decide)) (bt_few T2.out _ (by decide)) (HE.out.below BV.out))
  rw [j5] at CN
  go_wp2_with (rw [← HV.out])
  clear k0 k1 f0 f1 v0 v1 HV
  clear X
  refine CN.out.mono ?_
  clear CN
  rintro e X ⟨⟨v, lv, rfl, hdv, hown⟩, bX⟩
  obtain ⟨pl, cl, hlv⟩ := ownC_slice hown
  rw [show ([jA] : List Cd).length = 1 from rfl] at hlv
  subst hlv
  obtain ⟨q1, o1, d1, q2, o2, d2, rfl, hs1, hs2, -, -⟩ := hdv
  obtain ⟨Z, hZ⟩ : ∃ Z, Z = X.alloc (dkO (.slice q1 o1 d1) (.slice q2 o2 d2)) := ⟨_, rfl⟩
  have bZ : Below X.heap.size X Z := by rw [hZ]; exact below_alloc X _
  have gZ : Z.heap[X.heap.size]? = some (dkO (.slice q1 o1 d1) (.slice q2 o2 d2)) := by rw [hZ]; exact heap_alloc_new X _
  have rZ := dk_below (dk_below GV.out bX) bZ
  obtain ⟨a0, a1, -, -⟩ := dk_cell gZ
  obtain ⟨b0, b1, -, -⟩ := dk_cell rZ
  have s1 := (hs1.below bZ).str
  have s2 := ((T2.out.below bX).below bZ).str
  have ho2 : o2 = 0 := by rw [← hs2.len]; rfl
  subst ho2
  have HZ := hide hZ
  have BZ := hide (onward (onward BV.out bX) bZ)
  clear hZ bZ gZ rZ hs1 hs2 hown bX BV GV T1 T2 RV HE HR
  go_wp2_with (rw [← HZ.out])
  go_ret
  exact ⟨rfl, BZ.out⟩
end Go.Proofs.YthdjfhnhjiageaaGreatDoor.Tx
