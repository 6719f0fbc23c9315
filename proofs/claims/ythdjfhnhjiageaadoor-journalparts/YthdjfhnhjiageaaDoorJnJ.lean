/-
  The law's closed fact: one is synced, one is torn.
-/
import Derived.Test.YthdjfhnhjiageaaDoorJnW8
import Derived.Test.YthdjfhnhjiageaaDoorJnS
namespace Go.Proofs.YthdjfhnhjiageaaDoor.Tx
open Go.RowKit Go.Lib Go.Sort
theorem itoa1 {n : Nat} (h : n < 10) : itoa (n : Int) = [UInt8.ofNat (48 + n)] := by rw [itoa_nonneg, decDigits_one h]
abbrev jA : Cd := ⟨1, 0, 0, 5, 0, 0, 0, 0, 0, 0, false⟩
abbrev jB : Cd := ⟨7, 0, 0, 0, 0, 0, 0, 0, 0, 0, false⟩
abbrev jT : Bs := [100, 101, 112, 111, 115, 105, 116, 32, 48, 32, 53, 10]
theorem print_jA : printC jA = [100, 101, 112, 111, 115, 105, 116, 32, 48, 32, 53] := by
  have i1 : itoa 0 = [48] := itoa1 (n := 0) (by decide)
  have i2 : itoa 5 = [53] := itoa1 (n := 5) (by decide)
  show joinW [wDeposit, itoa 0, itoa 5] = _
  rw [i1, i2]
  rfl
theorem print_jB : printC jB = wSweep := rfl
theorem fits_jA : jA.fits := by constructor <;> (unfold i64; decide)
theorem fits_jB : jB.fits := by constructor <;> (unfold i64; decide)
theorem check_jA : checkC jA = 0 := by rfl
theorem check_jB : checkC jB = 0 := by rfl
theorem rA : Right [jA] := Right.one check_jA fits_jA
theorem rB : Right [jB] := Right.one check_jB fits_jB
theorem r0 : Right [] := fun _ h => nomatch h
theorem line_A : linesL [jA] = jT := by rw [lines_one]; show printC jA ++ [10] = _; rw [print_jA]; rfl
theorem j1 : putD noDk jA = (⟨[], jT⟩, 0) := by
  have := put_lines r0 r0 (by decide) check_jA fits_jA
  rw [List.nil_append, line_A] at this
  exact this
theorem j2 : syncD ⟨[], jT⟩ = (⟨jT, []⟩, 0) := by
  have := sync_lines r0 rA (by decide)
  rw [List.nil_append, line_A] at this
  exact this
theorem j3 : putD ⟨jT, []⟩ jB = (⟨jT, wSweep ++ [10]⟩, 0) := by
  have := put_lines rA r0 (by decide) check_jB fits_jB
  rw [List.nil_append, line_A, lines_one] at this
  exact this
theorem j4 : crashD ⟨jT, wSweep ++ [10]⟩ 5 = (⟨jT, wSweep⟩, 0) := by
  have := crash_is rA rB (by decide) (n := 5) (by decide) (by rw [lines_one]; decide)
  rw [line_A, lines_one] at this
  exact this
theorem j5 : recD ⟨jT, wSweep⟩ = (⟨jT, []⟩, [jA], 0) := by
  have hr := readL_lines rA (by decide)
  rw [line_A] at hr
  obtain ⟨-, e⟩ := readL_app (A := jT) (B := wSweep) (by rw [hr])
  rw [hr] at e
  have ht : readF (jT ++ wSweep).length 1 wSweep = ([], 0, 13) := read_torn (f := 16) (by decide) (by decide)
  dsimp only at e
  rw [show ([jA] : List Cd).length = 1 from rfl, ht] at e
  unfold recD
  rw [if_neg (fun h => h (check_of (by decide) (by rw [hr]))), e]
  rfl
theorem bt_few {w : World} {p : Option Addr} {n c : Nat} {bs : Bs} (h : Bt w p n c bs) (k : Nat) (hk : bs.length ≤ k) : n ≤ k := by rw [← h.len]; exact hk
set_option maxHeartbeats 8000000 in
set_option maxRecDepth 100000 in
theorem journaled_any (w : World) (E : Env w) : Calls Tryd.prog 13 #[] w fun e w' => e = .returned (.bool true) ∧ Below w.heap.size w w' := by
  have P1 := hide (put_any none 0 0 none 0 0 noDk jA w (bt_none w) (bt_none w) (by decide) (by decide) fits_jA E)
  rw [j1] at P1
  have HE := hide E
  clear E
  go_enter Tryd.func13, Tryd.ntmps13
  go_wp2_with fail
  refine P1.out.mono ?_
  rintro e X ⟨⟨v, rfl, hdv⟩, bX⟩
  obtain ⟨p1, n1, c1, p2, n2, c2, rfl, hs1, hs2, hm1, hm2⟩ := hdv
  obtain ⟨V, hV⟩ : ∃ V, V = X.alloc (dkO (.slice p1 n1 c1) (.slice p2 n2 c2)) := ⟨_, rfl⟩
  have bXV : Below X.heap.size X V := by rw [hV]; exact below_alloc X _
  have gV : V.heap[X.heap.size]? = some (dkO (.slice p1 n1 c1) (.slice p2 n2 c2)) := by rw [hV]; exact heap_alloc_new X _
  have HR : Hid (w.heap.size ≤ X.heap.size) := bX.size
  have T1 := hide (hs1.below bXV)
  have T2 := hide (hs2.below bXV)
  have RV : Hid (X.heap.size + 1 ≤ V.heap.size) := (Array.getElem?_eq_some_iff.1 gV).1
  have BV := hide (onward bX bXV)
  have GV := hide gV
  have HV := hide hV
  obtain ⟨v0, v1, -, -⟩ := dk_cell gV
  have CN := hide (sync_any p1 n1 c1 p2 n2 c2 ⟨[], jT⟩ V T1.out T2.out (bt_few T1.out _ (by decide)) (bt_few T2.out _ (by decide)) (HE.out.below BV.out))
  rw [j2] at CN
  clear hV bXV gV hs1 hs2 P1 bX hm1 hm2
  go_wp2_with (rw [← HV.out])
  clear v0 v1 HV T1 T2
  generalize X.heap.size = r at *
  clear X
  refine CN.out.mono ?_
  have WB := BV
  have RB := GV
  have RS := RV
  clear CN BV GV RV
  rintro e X ⟨⟨v, rfl, hdv⟩, bX⟩
  obtain ⟨p1, n1, c1, p2, n2, c2, rfl, hs1, hs2, hm1, hm2⟩ := hdv
  obtain ⟨V, hV⟩ : ∃ V, V = (X.setCell ⟨r, 0, none⟩ (.slice p1 n1 c1)).setCell ⟨r, 1, none⟩ (.slice p2 n2 c2) := ⟨_, rfl⟩
  have rx := dk_below RB.out bX
  have gV : V.heap[r]? = some (dkO (.slice p1 n1 c1) (.slice p2 n2 c2)) := by rw [hV]; exact dk_put rx _ _
  have bV : Below w.heap.size w V := by rw [hV]; exact ((onward WB.out bX).setCell HR.out _).setCell HR.out _
  have m1 := hm1.mono RS.out
  have m2 := hm2.mono RS.out
  have t1 : Bt V p1 n1 c1 (⟨jT, []⟩ : Dk).safe := by rw [hV]; exact (hs1.set m1 _ _).set m1 _ _
  have t2 : Bt V p2 n2 c2 (⟨jT, []⟩ : Dk).wait := by rw [hV]; exact (hs2.set m2 _ _).set m2 _ _
  obtain ⟨⟨u0, k0⟩, ⟨u1, k1⟩, f0, f1⟩ := dk_opq rx
  obtain ⟨v0, v1, -, -⟩ := dk_cell gV
  have RV : Hid (r + 1 ≤ V.heap.size) := (Array.getElem?_eq_some_iff.1 gV).1
  have T1 := hide t1
  have T2 := hide t2
  have GV := hide gV
  have HV := hide hV
  have BV := hide bV
  clear hs1 hs2 hm1 hm2 rx gV bV m1 m2 t1 t2 hV bX RB WB RS
  have CN := hide (put_any p1 n1 c1 p2 n2 c2 ⟨jT, []⟩ jB V T1.out T2.out (bt_few T1.out _ (by decide)) (bt_few T2.out _ (by decide)) fits_jB (HE.out.below BV.out))
  rw [j3] at CN
  go_wp2_with (rw [← HV.out])
  clear k0 k1 f0 f1 v0 v1 HV
  clear X
  refine CN.out.mono ?_
  have WB := BV
  have RB := GV
  have RS := RV
  clear CN BV GV RV T1 T2
  rintro e X ⟨⟨v, rfl, hdv⟩, bX⟩
  obtain ⟨p1, n1, c1, p2, n2, c2, rfl, hs1, hs2, hm1, hm2⟩ := hdv
  obtain ⟨V, hV⟩ : ∃ V, V = (X.setCell ⟨r, 0, none⟩ (.slice p1 n1 c1)).setCell ⟨r, 1, none⟩ (.slice p2 n2 c2) := ⟨_, rfl⟩
  have rx := dk_below RB.out bX
  have gV : V.heap[r]? = some (dkO (.slice p1 n1 c1) (.slice p2 n2 c2)) := by rw [hV]; exact dk_put rx _ _
  have bV : Below w.heap.size w V := by rw [hV]; exact ((onward WB.out bX).setCell HR.out _).setCell HR.out _
  have m1 := hm1.mono RS.out
  have m2 := hm2.mono RS.out
  have t1 : Bt V p1 n1 c1 (⟨jT, wSweep ++ [10]⟩ : Dk).safe := by rw [hV]; exact (hs1.set m1 _ _).set m1 _ _
  have t2 : Bt V p2 n2 c2 (⟨jT, wSweep ++ [10]⟩ : Dk).wait := by rw [hV]; exact (hs2.set m2 _ _).set m2 _ _
  obtain ⟨⟨u0, k0⟩, ⟨u1, k1⟩, f0, f1⟩ := dk_opq rx
  obtain ⟨v0, v1, -, -⟩ := dk_cell gV
  have RV : Hid (r + 1 ≤ V.heap.size) := (Array.getElem?_eq_some_iff.1 gV).1
  have T1 := hide t1
  have T2 := hide t2
  have GV := hide gV
  have HV := hide hV
  have BV := hide bV
  clear hs1 hs2 hm1 hm2 rx gV bV m1 m2 t1 t2 hV bX RB WB RS
  have CN := hide (crash_any p1 n1 c1 p2 n2 c2 ⟨jT, wSweep ++ [10]⟩ 5 V T1.out T2.out (bt_few T1.out _ (by decide)) (bt_few T2.out _ (by decide)) (HE.out.below BV.out))
  rw [j4] at CN
  go_wp2_with (rw [← HV.out])
  clear k0 k1 f0 f1 v0 v1 HV
  clear X
  refine CN.out.mono ?_
  have WB := BV
  have RB := GV
  have RS := RV
  clear CN BV GV RV T1 T2
  rintro e X ⟨⟨v, rfl, hdv⟩, bX⟩
  obtain ⟨p1, n1, c1, p2, n2, c2, rfl, hs1, hs2, hm1, hm2⟩ := hdv
  obtain ⟨V, hV⟩ : ∃ V, V = (X.setCell ⟨r, 0, none⟩ (.slice p1 n1 c1)).setCell ⟨r, 1, none⟩ (.slice p2 n2 c2) := ⟨_, rfl⟩
  have rx := dk_below RB.out bX
  have gV : V.heap[r]? = some (dkO (.slice p1 n1 c1) (.slice p2 n2 c2)) := by rw [hV]; exact dk_put rx _ _
  have bV : Below w.heap.size w V := by rw [hV]; exact ((onward WB.out bX).setCell HR.out _).setCell HR.out _
  have m1 := hm1.mono RS.out
  have m2 := hm2.mono RS.out
  have t1 : Bt V p1 n1 c1 (⟨jT, wSweep⟩ : Dk).safe := by rw [hV]; exact (hs1.set m1 _ _).set m1 _ _
  have t2 : Bt V p2 n2 c2 (⟨jT, wSweep⟩ : Dk).wait := by rw [hV]; exact (hs2.set m2 _ _).set m2 _ _
  obtain ⟨⟨u0, k0⟩, ⟨u1, k1⟩, f0, f1⟩ := dk_opq rx
  obtain ⟨v0, v1, -, -⟩ := dk_cell gV
  have RV : Hid (r + 1 ≤ V.heap.size) := (Array.getElem?_eq_some_iff.1 gV).1
  have T1 := hide t1
  have T2 := hide t2
  have GV := hide gV
  have HV := hide hV
  have BV := hide bV
  clear hs1 hs2 hm1 hm2 rx gV bV m1 m2 t1 t2 hV bX RB WB RS
  have CN := hide (recover_any p1 n1 c1 p2 n2 c2 ⟨jT, wSweep⟩ V T1.out T2.out (bt_few T1.out _ (by decide)) (bt_few T2.out _ (by decide)) (HE.out.below BV.out))
  rw [j5] at CN
  go_wp2_with (rw [← HV.out])
  clear k0 k1 f0 f1 v0 v1 HV
  clear X
  refine CN.out.mono ?_
  clear CN
  rintro e X ⟨⟨v, lv, rfl, hdv, hown⟩, bX⟩
  obtain ⟨pl, cl, hlv⟩ := ownC_slice hown
  rw [show ([jA] : List Cd).length = 1 from rfl] at hlv
  subst hlv
  obtain ⟨q1, o1, d1, q2, o2, d2, rfl, hs1, hs2, -, -⟩ := hdv
  obtain ⟨Z, hZ⟩ : ∃ Z, Z = X.alloc (dkO (.slice q1 o1 d1) (.slice q2 o2 d2)) := ⟨_, rfl⟩
  have bZ : Below X.heap.size X Z := by rw [hZ]; exact below_alloc X _
  have gZ : Z.heap[X.heap.size]? = some (dkO (.slice q1 o1 d1) (.slice q2 o2 d2)) := by rw [hZ]; exact heap_alloc_new X _
  have rZ := dk_below (dk_below GV.out bX) bZ
  obtain ⟨a0, a1, -, -⟩ := dk_cell gZ
  obtain ⟨b0, b1, -, -⟩ := dk_cell rZ
  have s1 := (hs1.below bZ).str
  have s2 := ((T2.out.below bX).below bZ).str
  have ho2 : o2 = 0 := by rw [← hs2.len]; rfl
  subst ho2
  have HZ := hide hZ
  have BZ := hide (onward (onward BV.out bX) bZ)
  clear hZ bZ gZ rZ hs1 hs2 hown bX BV GV T1 T2 RV HE HR
  go_wp2_with (rw [← HZ.out])
  go_ret
  exact ⟨rfl, BZ.out⟩
end Go.Proofs.YthdjfhnhjiageaaDoor.Tx
