/-
  FixAdds is true of every list of ints and every k: amounts added in two parts are as in one, nothing is nothing, and what isn't too much in any order is the same in any. No condition.
-/
import Derived.Test.YtlielpgekhaicaaRows
import Derived.WalkKit
import Derived.Test.YtlielpgekhaicaaReck
import Derived.Test.YtlielpgekhaicaaAdds
import Derived.Test.YtlielpgekhaicaaOwn
import Derived.Outline
import Derived.ProofKit
import Derived.OpenShut
import Derived.ShutString
import Derived.ChangeOld
import Derived.Below
import Derived.SizedLaws
namespace Go.Proofs.Ytlielpgekhaicaa.fixAdds
open Go.ChangeShapes Go.WideShapes Go.ChangeAt Go.RowKit
open Go.ChangeMaps (open_string shut_string)
set_option linter.unusedVariables false

theorem own : ownKnob Try.prog.godebug = none := by kernel_rfl
theorem laidOut : laidOutB Try.prog = true := by kernel_rfl

def IsRow (k : IntKind) (w : World) (a : Option Addr) (len cap : Nat) (zs : List Int) : Prop :=
  (a = none ∧ len = 0 ∧ cap = 0 ∧ zs = []) ∨
  ∃ x, a = some x ∧ len ≤ cap ∧ cap ≤ maxLen ∧ zs.length = cap ∧ (∀ i, i < zs.length → w.cell? (x.add i) = some (.int k (zs.getD i 0))) ∧ ∀ n ∈ zs, (Lit.int k n).wf = true

open Go.Proofs.Ytlielpgekhaicaa.Num Go.Proofs.Ytlielpgekhaicaa.Fix Go.Proofs.Ytlielpgekhaicaa.Reck Go.Proofs.Ytlielpgekhaicaa.Adds Go.Proofs.Ytlielpgekhaicaa.Own
theorem row_of {w : World} {a : Option Addr} {len cap : Nat} {zs : List Int} (h : IsRow .i64 w a len cap zs) :
    Row w a (zs.take len) ∧ (zs.take len).length = len ∧ len ≤ cap ∧ len ≤ maxLen ∧ (a = none → len = 0 ∧ cap = 0) := by
  rcases h with ⟨rfl, rfl, rfl, rfl⟩ | ⟨x, rfl, hl, hm, hz, hc, -⟩
  · exact ⟨.inl rfl, rfl, Nat.zero_le _, Nat.zero_le _, fun _ => ⟨rfl, rfl⟩⟩
  · refine ⟨?_, by simp; omega, hl, by omega, by simp⟩
    by_cases h0 : len = 0
    · subst h0
      exact .inl rfl
    · obtain ⟨b, off, spot⟩ := x
      have hs : spot = none := by simpa [Addr.add] using World.cell?_spot (hc 0 (by omega))
      subst hs
      refine .inr ⟨b, off, rfl, ?_⟩
      intro i hi
      simp only [List.length_take] at hi
      have hci := hc i (by omega)
      rw [show (⟨b, off, none⟩ : Addr).add i = ⟨b, off + i, none⟩ from by simp [Addr.add]] at hci
      rw [hci]
      simp [show i < len by omega]
set_option maxHeartbeats 2000000 in
theorem walk (a0 : Option Addr) (len0 cap0 : Nat) (z0 : List Int) (a1 : Int) (w : World) (w0 : IsRow .i64 w a0 len0 cap0 z0) (w1 : (Lit.int .i64 a1).wf = true) (s0 : cap0 * 8 ≤ 140737488351232) :
    Calls Try.prog 6 #[.slice a0 len0 cap0, .int .i64 a1] w fun e w' => e = .returned (.bool true) ∧ Below w.heap.size w w' := by
  obtain ⟨hr, hlen, hcap, hmax, hnil⟩ := row_of w0
  clear w0
  generalize z0.take len0 = xs at *
  have HL := hide hlen
  have HR := hide hr
  clear hlen hr
  rcases add_cases xs with ⟨q, hq⟩ | hq | hq
  · have HQ := hide hq
    clear hq
    go_enter Try.func6, Try.ntmps6
    go_wp2_with fail
    refine (add_any _ _ _ xs _ (unhide HL) hmax (unhide HR)).mono ?_
    rintro x w' ⟨rfl, rfl⟩
    rw [unhide HQ]
    go_wp2_with fail
    refine (add_none _ _ _).mono ?_
    rintro x w' ⟨rfl, rfl⟩
    go_wp2_with fail
    refine (reckoned_any _).mono ?_
    rintro x w1 ⟨rfl, hb1, -⟩
    have ⟨m1, m2⟩ := at_bd a1 (len0 + 1) (by omega)
    go_wp2_with fail
    refine (at_any _ _ _ (by omega) (by omega)).mono ?_
    rintro x w' ⟨rfl, rfl⟩
    obtain ⟨k, hk⟩ := Int.eq_ofNat_of_zero_le m1
    rw [hk] at m2 ⊢
    clear m1 hk
    have hkl : k ≤ len0 := by omega
    obtain ⟨q2, h2, h3⟩ := two_parts k (unhide HQ)
    have H2 := hide h2
    have H3 := hide h3
    clear h2 h3
    have hrow := row_below (unhide HR) hb1
    have HR1 := hide hrow
    clear hrow
    have hkl2 : k ≤ cap0 := by omega
    go_wp2_with fail
    refine (add_any _ k _ (xs.take k) _ (by have := unhide HL; simp; omega) (by omega) (by exact row_take (unhide HR1) k)).mono ?_
    rintro x w' ⟨rfl, rfl⟩
    rw [unhide H2]
    obtain ⟨i0, hi, hz0, hz1, hz2⟩ := info_parts (show (Try.prog.info? 3).map (fun i => (i.zero, i.size, i.bytes)) = some (some (.int .i64 0), 1, 8) by kernel_rfl)
    have hxl : xs.length = len0 := unhide HL
    have HXL : Hid (((xs.drop k).map (Value.int .i64)).length = (len0 - k) * 1) := by simp [Hid, hxl]
    clear hxl
    cases ha : a0 with
    | none =>
      subst ha
      obtain ⟨e1, e2⟩ := hnil rfl
      subst e1 e2
      have e3 : k = 0 := by omega
      subst e3
      go_wp2_with (at_builtin; refine wpList_append_own_none rfl (.tmp 59) (.tmp 62) 24 rfl w'.heap.size 3 i0 1 Try.underlying24 hi _ 1 [.int .i64 q2] rfl ?c0 rfl ?_)
      case c0 => exact World.ownsRow_lit _ _ 1 (Nat.le_refl _) (by decide) rfl
      have hx0 : xs = [] := List.eq_nil_of_length_eq_zero (unhide HL)
      have hO : Below w'.heap.size w' (w'.alloc (.cells #[.int .i64 q2] 3)) ∧ (w'.alloc (.cells #[.int .i64 q2] 3)).ownsRow w'.heap.size 3 1 (.slice (some ⟨w'.heap.size, 0, none⟩) 1 1) 1 ((q2 :: xs.drop 0).map (Value.int .i64)) :=
        ⟨(Below.refl _ _).alloc (Nat.le_refl _) _, by rw [hx0]; exact World.ownsRow_lit _ _ 1 (Nat.le_refl _) (by decide) rfl⟩
      clear hx0
      obtain ⟨hb2, hown2⟩ := hO
      have HR2 := hide (row_below (unhide HR1) hb2)
      have hb3 := hb1.trans (hb2.mono hb1.size)
      clear hb1 hb2
      go_wp2_with fail
      refine (add_own _ _ _ _ (q2 :: xs.drop 0) _ hown2).mono ?_
      rintro x w3 ⟨rfl, rfl⟩
      rw [unhide H3]
      go_wp2_with fail
      refine (clone_any _ _ _ xs _ (unhide HL) (by omega) (by exact unhide HR2)).mono ?_
      rintro x w4 ⟨u, rfl, hu, hb4⟩
      have hb5 := hb3.trans (hb4.mono hb3.size)
      have HZ := hide (hb3.size)
      clear hb3
      go_wp2_with fail
      refine (reverse_own _ _ _ _ xs _ hu).mono ?_
      rintro x w5 ⟨rfl, hb6, a9, c9, rfl, hm9, hl9, hr9⟩
      have hb7 := hb5.trans (hb6.mono (unhide HZ))
      clear hb4 hb5 hb6 hown2 hu
      have HR9 := hide hr9
      have HL9 : Hid (xs.reverse.length = 0) := by simpa [Hid] using hl9
      clear hr9 hl9
      go_wp2_with fail
      refine (add_any _ _ _ xs.reverse _ (unhide HL9) hm9 (unhide HR9)).mono ?_
      rintro x w6 ⟨rfl, rfl⟩
      rcases turned (unhide HQ) with hT | hT
      · rw [hT]
        clear hT
        go_wp2
        go_ret
        exact ⟨rfl, hb7⟩
      · rw [hT]
        clear hT
        go_wp2
        go_ret
        exact ⟨rfl, hb7⟩
    | some ad =>
      subst ha
      have HN := hide (row_news (unhide HR1) k)
      by_cases hkc : k = cap0
      · have hlk : k = len0 := by omega
        subst hkc
        subst hlk
        have hd : xs.drop k = [] := List.drop_eq_nil_of_le (by have := unhide HL; omega)
        go_wp2_with (at_builtin; refine wpList_append_own _ rfl (.tmp 59) (.tmp 62) 24 rfl w'.heap.size 3 i0 (.int .i64 0) 1 8 Try.underlying24 hi hz0 hz1 hz2 rfl (by decide) _ 1 [.int .i64 q2] rfl ?d0 ad 0 0 [] rfl rfl ?d1 ?d2 ?d3 ?d4 ?d5 ?_)
        case d0 => exact World.ownsRow_lit _ _ 1 (Nat.le_refl _) (by decide) rfl
        case d1 => intro j u hu; simp at hu
        case d2 => intro u hu; simp at hu
        case d3 => decide
        case d4 => decide
        case d5 => simp
        intro v w2 hown hgrow _
        have hO : Below w'.heap.size w' w2 ∧ w2.ownsRow w'.heap.size 3 1 v 1 ((q2 :: xs.drop k).map (Value.int .i64)) :=
          ⟨((Below.refl _ _).alloc (Nat.le_refl _) _).grown hgrow (by simp) (fun j hj => by simp [Value.ownBlock] at hj; omega), by rw [hd]; exact hown⟩
        clear hown hgrow hd
        obtain ⟨hb2, hown2⟩ := hO
        have HR2 := hide (row_below (unhide HR1) hb2)
        have hb3 := hb1.trans (hb2.mono hb1.size)
        clear hb1 hb2
        go_wp2_with fail
        refine (add_own _ _ _ _ (q2 :: xs.drop k) _ hown2).mono ?_
        rintro x w3 ⟨rfl, rfl⟩
        rw [unhide H3]
        go_wp2_with fail
        refine (clone_any _ _ _ xs _ (unhide HL) (by omega) (by exact unhide HR2)).mono ?_
        rintro x w4 ⟨u, rfl, hu, hb4⟩
        have hb5 := hb3.trans (hb4.mono hb3.size)
        have HZ := hide (hb3.size)
        clear hb3
        go_wp2_with fail
        refine (reverse_own _ _ _ _ xs _ hu).mono ?_
        rintro x w5 ⟨rfl, hb6, a9, c9, rfl, hm9, hl9, hr9⟩
        have hb7 := hb5.trans (hb6.mono (unhide HZ))
        clear hb4 hb5 hb6 hown2 hu
        have HR9 := hide hr9
        have HL9 : Hid (xs.reverse.length = k) := by simpa [Hid] using hl9
        clear hr9 hl9
        go_wp2_with fail
        refine (add_any _ _ _ xs.reverse _ (unhide HL9) hm9 (unhide HR9)).mono ?_
        rintro x w6 ⟨rfl, rfl⟩
        rcases turned (unhide HQ) with hT | hT
        · rw [hT]
          clear hT
          go_wp2
          go_ret
          exact ⟨rfl, hb7⟩
        · rw [hT]
          clear hT
          go_wp2
          go_ret
          exact ⟨rfl, hb7⟩

      · have hlt : k < cap0 := by omega
        go_wp2_with (at_builtin; refine wpList_append_own _ rfl (.tmp 59) (.tmp 62) 24 rfl w'.heap.size 3 i0 (.int .i64 0) 1 8 Try.underlying24 hi hz0 hz1 hz2 rfl (by decide) _ 1 [.int .i64 q2] rfl ?c0 (ad.add k) (len0 - k) (cap0 - k) ((xs.drop k).map (Value.int .i64)) rfl (unhide HXL) ?c1 ?c2 ?c3 ?c4 ?c5 ?_)
        case c0 => exact World.ownsRow_lit _ _ 1 (Nat.le_refl _) (by decide) rfl
        case c1 => exact unhide HN _
        case c2 => intro u hu; rw [List.map_drop] at hu; obtain ⟨z, -, he⟩ := List.mem_map.1 (List.mem_of_mem_drop hu); rw [← he]; rfl
        case c3 => unfold maxLen; omega
        case c4 => omega
        case c5 => simp
        intro v w2 hown hgrow _
        have hO : Below w'.heap.size w' w2 ∧ w2.ownsRow w'.heap.size 3 1 v (1 + (len0 - k)) ((q2 :: xs.drop k).map (Value.int .i64)) :=
          ⟨((Below.refl _ _).alloc (Nat.le_refl _) _).grown hgrow (by simp) (fun j hj => by simp [Value.ownBlock] at hj; omega), by rw [List.map_cons, List.map_drop]; exact hown⟩
        clear hown hgrow
        obtain ⟨hb2, hown2⟩ := hO
        have HR2 := hide (row_below (unhide HR1) hb2)
        have hb3 := hb1.trans (hb2.mono hb1.size)
        clear hb1 hb2
        go_wp2_with fail
        refine (add_own _ _ _ _ (q2 :: xs.drop k) _ hown2).mono ?_
        rintro x w3 ⟨rfl, rfl⟩
        rw [unhide H3]
        go_wp2_with fail
        refine (clone_any _ _ _ xs _ (unhide HL) (by omega) (by exact unhide HR2)).mono ?_
        rintro x w4 ⟨u, rfl, hu, hb4⟩
        have hb5 := hb3.trans (hb4.mono hb3.size)
        have HZ := hide (hb3.size)
        clear hb3
        go_wp2_with fail
        refine (reverse_own _ _ _ _ xs _ hu).mono ?_
        rintro x w5 ⟨rfl, hb6, a9, c9, rfl, hm9, hl9, hr9⟩
        have hb7 := hb5.trans (hb6.mono (unhide HZ))
        clear hb4 hb5 hb6 hown2 hu
        have HR9 := hide hr9
        have HL9 : Hid (xs.reverse.length = len0) := by simpa [Hid] using hl9
        clear hr9 hl9
        go_wp2_with fail
        refine (add_any _ _ _ xs.reverse _ (unhide HL9) hm9 (unhide HR9)).mono ?_
        rintro x w6 ⟨rfl, rfl⟩
        rcases turned (unhide HQ) with hT | hT
        · rw [hT]
          clear hT
          go_wp2
          go_ret
          exact ⟨rfl, hb7⟩
        · rw [hT]
          clear hT
          go_wp2
          go_ret
          exact ⟨rfl, hb7⟩
  · have HQ := hide hq
    clear hq
    go_enter Try.func6, Try.ntmps6
    go_wp2_with fail
    refine (add_any _ _ _ xs _ (unhide HL) hmax (unhide HR)).mono ?_
    rintro x w' ⟨rfl, rfl⟩
    rw [unhide HQ]
    go_wp2_with fail
    refine (add_none _ _ _).mono ?_
    rintro x w' ⟨rfl, rfl⟩
    go_wp2_with fail
    refine (reckoned_any _).mono ?_
    rintro x w1 ⟨rfl, hb1, -⟩
    go_wp2_with fail
    refine (reckoned_any _).mono ?_
    rintro x w2 ⟨rfl, hb2, -⟩
    have hb3 := hb1.trans (hb2.mono hb1.size)
    clear hb1 hb2
    go_wp2
    go_ret
    exact ⟨rfl, hb3⟩
  · have HQ := hide hq
    clear hq
    go_enter Try.func6, Try.ntmps6
    go_wp2_with fail
    refine (add_any _ _ _ xs _ (unhide HL) hmax (unhide HR)).mono ?_
    rintro x w' ⟨rfl, rfl⟩
    rw [unhide HQ]
    go_wp2_with fail
    refine (add_none _ _ _).mono ?_
    rintro x w' ⟨rfl, rfl⟩
    go_wp2_with fail
    refine (reckoned_any _).mono ?_
    rintro x w1 ⟨rfl, hb1, -⟩
    go_wp2_with fail
    refine (reckoned_any _).mono ?_
    rintro x w2 ⟨rfl, hb2, -⟩
    have hb3 := hb1.trans (hb2.mono hb1.size)
    clear hb1 hb2
    go_wp2
    go_ret
    exact ⟨rfl, hb3⟩

set_option maxRecDepth 100000 in
theorem lifted (os : Os) (started : os.Started) (H : Type) (enc : TypeId × Value → H) :
    ReturnsInHanded {} Try.checked os 6 .any (Rows.fixAddsSpec.pre6 enc Try.prog Try.f6 Rows.fixAddsRow.domain false) (Rows.fixAddsSpec.post enc Try.prog Try.f6 false true false false) := by
  refine returnsInHanded_of_change_sized (C := Try.checked) own started (by kernel_rfl) Try.func6
    (ChangeSpec.witness6 (enc := enc) (C := Try.checked) false ⟨#[], #[.slice none 0 0, .int .i64 0], []⟩ 8 (by kernel_rfl) (by kernel_rfl) (by kernel_rfl) (by kernel_rfl)) ?_
  intro W base args ds gs before hval0 hW hcnd hsz0 _
  have hval : ∀ (j : Nat) t v, Try.f6.params[j]? = some t → args[j]? = some v → Value.okWide Try.prog W .any base t v := hval0
  have hW' := hW
  obtain ⟨p, q, hA0, hV, rfl, hfz, hnd⟩ := hW
  have hA : DataW.TrodAll enc Try.prog W 0 (fun _ => true) true Try.f6.params.toList args.toList ds p := hA0
  have hsz : (DataW.weightsEach Try.prog (Try.f6.params.toList ++ Rows.fixAddsSpec.plain.varTypes Try.prog) (ds ++ gs)).all (· ≤ reachBytes) = true := hsz0
  rw [Try.params6] at hA hval hsz
  obtain ⟨v0, vs0, d0, ds0, p0, q0, hargs, rfl, rfl, h0, r0⟩ := trodAll_cons hA
  obtain ⟨v1, vs1, d1, ds1, p1, q1, rfl, rfl, rfl, h1, r1⟩ := trodAll_cons r0
  obtain ⟨rfl, rfl, rfl⟩ := trodAll_nil r1
  obtain rfl : args = #[v0, v1] := by cases args; simp_all
  obtain ⟨rfl, rfl⟩ := trodVars_none hV
  obtain ⟨a0, len0, cap0, rfl⟩ := okWide_slice Try.underlying24 (hval 0 24 v0 rfl rfl)
  have k0 := h0
  have lt0 : ∀ x ∈ p0, x.block < W.heap.size := by obtain ⟨m, hm⟩ := k0; exact DataW.trod_lt m _ _ _ hm
  obtain ⟨z0, w0, s0⟩ : ∃ zs, IsRow .i64 W a0 len0 cap0 zs ∧ cap0 * 8 ≤ 140737488351232 := by
    obtain ⟨fuel, hf⟩ := h0
    rcases open_ints Try.underlying24 Try.underlying3 (by kernel_rfl) hf with ⟨hcs, _⟩ | ⟨x, l, c, zs, hcs, _, hl, hm, hz, hx, hcell, hwz⟩
    · simp [Value.cells] at hcs
      obtain ⟨rfl, rfl, rfl⟩ := hcs
      exact ⟨[], .inl ⟨rfl, rfl, rfl, rfl⟩, by omega⟩
    · simp [Value.cells] at hcs
      obtain ⟨rfl, rfl, rfl⟩ := hcs
      simp only [Prod.mk.injEq] at hx
      have hsd := sized_slice hsz (j := 0) (t := 24) (e := 3) rfl (by rw [hx.1]; rfl) Try.underlying24
      rw [show Try.prog.bytesOf 3 = 8 from by kernel_rfl] at hsd
      simp only [lits, List.length_map, List.length_take, List.length_drop, reachBytes] at hsd
      have hz' : zs.length = cap0 := by simpa using hz
      exact ⟨zs, .inr ⟨_, rfl, hl, hm, by simpa using hz, hcell, hwz⟩, by omega⟩
  obtain ⟨a1, rfl, rfl, rfl, w1⟩ := open_int Try.underlying3 (hval 1 3 v1 rfl rfl) h1
  clear hA0 hval0
  refine (walk a0 len0 cap0 z0 a1 W w0 w1 s0).mono fun e W' ⟨he, bel⟩ => ?_
  subst he
  exact ⟨_, rfl, _, _, _, [], _, [], hW', trodAll_mk1 (shut_bool Try.underlying4 _), (trodAll_cons_mk (Below.trod laidOut (by kernel_rfl) (of_decide_eq_true (by kernel_rfl)) k0 bel lt0) (trodAll_cons_mk (shut_int Try.underlying3 w1) trodAll_mk0)), rfl, bel.frame _, fun h => by cases h⟩

theorem over : Rows.fixAddsRow.holds Try.pinned (OpenSpec.ofChange Rows.fixAddsSpec) :=
  OpenClaim.holds_of_wide 6 Try.f6 rfl rfl rfl rfl rfl rfl rfl ⟨rfl, rfl, rfl, rfl, rfl⟩ rfl rfl rfl rfl rfl (by kernel_rfl) Try.func6 (by kernel_rfl)
    (of_decide_eq_true (by kernel_rfl)) (by unfold Func.isWrapper; first | (rw [if_pos (by decide +kernel)]; kernel_rfl) | (rw [if_neg (by decide +kernel)]; exact ⟨rfl, rfl⟩))
    (fun os started H enc _ => lifted os started H enc)

theorem proved : Rows.FixAddsSaid := over
end Go.Proofs.Ytlielpgekhaicaa.fixAdds
namespace Go.Proofs.Ytlielpgekhaicaa
theorem fixAdds_holds : Rows.FixAddsSaid := fixAdds.proved
#print axioms fixAdds_holds
end Go.Proofs.Ytlielpgekhaicaa
