/-
  The reference's chapter 8: a number is read; what is no command.
-/
import Derived.Test.YthdjfhnhjiageaaGreatDoorTxR
import Derived.Test.YthdjfhnhjiageaaGreatDoorTxS4
import Derived.Test.YthdjfhnhjiageaaGreatDoorTxW9
import Derived.Lib.ParseIntBTie
namespace Go.Proofs.YthdjfhnhjiageaaGreatDoor.Tx
open Go.RowKit Go.Lib Go.Sort

theorem parseInt_any (s : Bs) (hs : s.length ≤ 281474976710656) (w : World) (E : Env w) :
    Calls Tryz.prog 78 #[sV s, .int .i64 10, .int .i64 64] w fun e w' => ((∃ v, atoiAll s = .ok v ∧ e = .returned (.tuple #[.int .i64 v, .nilIface])) ∨ ((∀ v, ¬ atoiAll s = .ok v) ∧ ∃ n t a, e = .returned (.tuple #[.int .i64 n, .iface t (.pointer a)]))) ∧ Below w.heap.size w w' := by
  have hz : (sB s).size ≤ 281474976710656 := by simpa [ByteArray.size] using hs
  have hd : (sB s).data.toList = s := by simp
  cases h : atoiAll s with
  | ok v =>
    refine (Tryz.strconv_ParseInt_10_at64_ok (sB s) (by omega) v (by rw [hd, parseIntB_64]; exact h) w).mono ?_
    rintro e w' ⟨rfl, hw⟩
    refine ⟨.inl ⟨v, rfl, rfl⟩, ?_⟩
    rcases hw with rfl | ⟨t, rfl⟩
    · exact Below.refl _ _
    · exact bytesWorld_below w _ t
  | «syntax» =>
    obtain ⟨tp, p, hv⟩ := E.syn
    refine (Tryz.strconv_ParseInt_10_at64_syntax_var (sB s) hz (by rw [hd, parseIntB_64]; exact h) tp p w hv).mono ?_
    rintro e w' ⟨N, rfl, -, -, hb⟩
    exact ⟨.inr ⟨(fun _ e => nomatch e), _, _, _, rfl⟩, hb⟩
  | range =>
    obtain ⟨tp, p, hv⟩ := E.rng
    refine (Tryz.strconv_ParseInt_10_at64_range_var (sB s) hz (by rw [hd, parseIntB_64]; exact h) tp p w hv).mono ?_
    rintro e w' ⟨N, rfl, -, -, hb⟩
    exact ⟨.inr ⟨(fun _ e => nomatch e), _, _, _, rfl⟩, hb⟩
theorem format_any (n : Int) (h : i64 n) (w : World) (E : Env w) : Calls Tryz.prog 79 #[.int .i64 n, .int .i64 10] w fun e w' => e = .returned (sV (itoa n)) ∧ Below w.heap.size w w' := by
  refine (Tryz.strconv_FormatInt_10 n h.1 h.2 w E.tab).mono ?_
  rintro e w' ⟨rfl, k, os, rfl⟩
  exact ⟨rfl, below_grew w k os⟩
set_option maxHeartbeats 2000000 in
theorem refNum_any (s : Bs) (hs : s.length ≤ 100000) (w : World) (E : Env w) :
    Calls Tryz.prog 77 #[sV s] w fun e w' => (∃ n, e = .returned (.tuple #[.int .i64 n, .bool (okN s)]) ∧ (okN s = true → n = numB s)) ∧ Below w.heap.size w w' := by
  have PI := hide (parseInt_any s (by omega) w E)
  have FI : Hid (∀ n X, i64 n → Below w.heap.size w X → _) := fun n X hn bX => format_any n hn X (E.below bX)
  clear E
  go_enter Tryz.func77, Tryz.ntmps77
  go_wp2_with fail
  refine PI.out.mono ?_
  rintro e X ⟨⟨v, hv, rfl⟩ | ⟨hno, n, t, a, rfl⟩, bX⟩
  · have BX := hide bX
    have hb := atoiAll_bounds hv
    have FX := hide (FI.out v X hb bX)
    have HN : Hid (numB s = v) := by show numB s = v; unfold numB; rw [hv]
    clear PI FI bX hv
    go_wp2_with fail
    refine FX.out.mono ?_
    rintro e Y ⟨rfl, bY⟩
    have BY := hide (onward BX.out bY)
    clear FX bY BX
    by_cases he : itoa v = s
    · have hes : (itoa v == s) = true := by rw [he]; exact beq_self_eq_true s
      have HO : Hid (okN s = true) := by show okN s = true; unfold okN; rw [HN.out]; exact decide_eq_true he
      go_wp2
      go_ret2
      exact ⟨⟨v, by rw [HO.out]; rfl, fun _ => HN.out.symm⟩, BY.out⟩
    · have hes : (itoa v == s) = false := beq_false_of_ne he
      have HO : Hid (okN s = false) := by show okN s = false; unfold okN; rw [HN.out]; exact decide_eq_false he
      go_wp2
      go_ret2
      exact ⟨⟨v, by rw [HO.out]; rfl, fun h => by rw [HO.out] at h; cases h⟩, BY.out⟩
  · have BX := hide bX
    have HO := hide (okN_bad hno)
    clear PI FI bX hno
    go_wp2
    go_ret2
    exact ⟨⟨n, by rw [HO.out]; rfl, fun h => by rw [HO.out] at h; cases h⟩, BX.out⟩
set_option maxHeartbeats 1000000 in
theorem refBad_any (w : World) : Calls Tryz.prog 74 #[] w fun e w' => e = .returned (.tuple #[cdV noCd, .int .i64 1]) ∧ Below w.heap.size w w' := by
  go_enter Tryz.func74, Tryz.ntmps74
  go_wp2
  refine bodyPost_ret (v := .tuple #[cdV noCd, .int .i64 1]) (by simp [results, Tryz.results74, go_sem]) rfl ⟨rfl, below_alloc w _⟩
end Go.Proofs.YthdjfhnhjiageaaGreatDoor.Tx
