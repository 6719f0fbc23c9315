/-
  The reference's chapter 9: lines of bytes.
-/
import Derived.Test.YthdjfhnhjiageaaGreatDoorMgA
import Derived.Test.YthdjfhnhjiageaaGreatDoorTxN7
import Derived.Test.YthdjfhnhjiageaaGreatDoorMgB
namespace Go.Proofs.YthdjfhnhjiageaaGreatDoor.Tx
open Go.RowKit Go.Lib Go.Sort

theorem idx_first : ∀ {bs : Bs} {k : Nat}, (∀ j, j < k → ¬ bs.getD j 0 = 10) → bs[k]? = some 10 → Lib.indexByte bs 10 = (k : Int)
  | [], k, _, h => by simp at h
  | x :: l, 0, _, h => by
    simp only [List.getElem?_cons_zero, Option.some.injEq] at h
    rw [h]
    rfl
  | x :: l, k + 1, hn, h => by
    have h0 : ¬ x = 10 := hn 0 (by omega)
    have ih := idx_first (bs := l) (k := k) (fun j hj => by have := hn (j + 1) (by omega); simpa using this) (by simpa using h)
    rw [Lib.indexByte, if_neg (by simpa using h0), ih, if_neg (by simp)]
    simp
theorem idx_never {bs : Bs} (h : ∀ j, j < bs.length → ¬ bs.getD j 0 = 10) : Lib.indexByte bs 10 = -1 := by
  refine idx_none (fun hm => ?_)
  obtain ⟨i, hi, e⟩ := List.getElem_of_mem hm
  exact h i hi (by rw [List.getD_eq_getElem?_getD, List.getElem?_eq_getElem hi]; exact e)
set_option maxHeartbeats 1000000 in
theorem indexB_any (b o n c : Nat) (bs : Bs) (w : World) (h : Bt w (some ⟨b, o, none⟩) n c bs) (hz : n ≤ 100000) :
    Calls Tryz.prog 53 #[.slice (some ⟨b, o, none⟩) n c, .int .u8 10] w fun e w' => e = .returned (.int .i64 (Lib.indexByte bs 10)) ∧ w' = w := by
  have HB := hide h
  clear h
  go_enter Tryz.func53, Tryz.ntmps53
  go_wp2
  go_loopw [8] (fun i wr => ∃ k : Nat, k ≤ n ∧ i = .int .i64 k ∧ wr = w ∧ Hid (∀ j, j < k → ¬ bs.getD j 0 = 10)) (fun i _ => n - (RowKit.intOf i).toNat)
  case atStart => exact ⟨0, Nat.zero_le _, rfl, rfl, fun j hj => absurd hj (Nat.not_lt_zero _)⟩
  case round =>
    obtain ⟨k, hk, rfl, hwr, HN⟩ := hrel
    subst hwr
    by_cases hlt : k < n
    · have hltz : (k : Int) < (n : Int) := by omega
      obtain ⟨b', o', e, hc⟩ := HB.out.row (by omega)
      cases e
      have hcell := hc k hlt
      have HX : Hid (bs[k]? = some (bs.getD k 0)) := by
        show _ = _
        rw [List.getD_eq_getElem?_getD, List.getElem?_eq_getElem (by rw [HB.out.len]; exact hlt)]
        rfl
      have HK : Hid (∀ j, j < k → ¬ bs.getD j 0 = 10) := HN
      clear hc
      by_cases hx : bs.getD k 0 = 10
      · have HE := hide (idx_first HK.out (by rw [HX.out, hx]))
        have hx2 : (10 : Int) = ((bs.getD k 0).toNat : Int) := by rw [hx]; rfl
        clear HN HK HX hx
        generalize (bs.getD k 0).toNat = x at *
        rw [← hx2] at hcell
        clear hx2
        go_wp2
        go_ret
        exact ⟨by rw [HE.out]; rfl, rfl⟩
      · have HN2 : Hid (∀ j, j < k + 1 → ¬ bs.getD j 0 = 10) := fun j hj => by
          by_cases e : j = k
          · rw [e]; exact hx
          · exact HK.out j (by omega)
        have hne2 : ¬ (10 : Int) = ((bs.getD k 0).toNat : Int) := fun e => hx (by
          apply UInt8.toNat_inj.1
          have : (10 : UInt8).toNat = 10 := rfl
          omega)
        clear HN HK HX hx
        generalize (bs.getD k 0).toNat = x at *
        go_wp2
        go_roundw
        case rel => exact ⟨k + 1, hlt, by go_num, by first | rfl | trivial, HN2⟩
        case measure => simp [RowKit.intOf]; omega
    · have hkn : k = n := by omega
      subst hkn
      have HE := hide (idx_never (bs := bs) (fun j hj => HN.out j (by rw [← HB.out.len]; exact hj)))
      clear HN
      go_wp2
      go_ret
      exact ⟨by rw [HE.out]; rfl, rfl⟩
/-- what is read from k on, of which so many are read already. -/
structure RlInv (w : World) (bs : Bs) (k0 k : Nat) (L : List Cd) (lv : Value) (wr : World) : Prop where
  own : OwnC w.heap.size wr lv L
  below : Below w.heap.size w wr
  eq : readF bs.length k0 bs = (L ++ (readF bs.length (k0 + L.length) (bs.drop k)).1, k + (readF bs.length (k0 + L.length) (bs.drop k)).2.1, (readF bs.length (k0 + L.length) (bs.drop k)).2.2)
  few : k0 + L.length ≤ 60
theorem rl_cut {w : World} {bs : Bs} {k0 k : Nat} {L : List Cd} {lv : Value} {wr : World} (I : RlInv w bs k0 k L lv wr) {line rest : Bs} (h : cutL (bs.drop k) = some (line, rest)) :
    (¬ (parseC line).2 = 0 → readF bs.length k0 bs = (L, k, (parseC line).2)) ∧ ((parseC line).2 = 0 → k0 + L.length = 60 → readF bs.length k0 bs = (L, k, 2)) ∧
    ((parseC line).2 = 0 → ¬ k0 + L.length = 60 → readF bs.length k0 bs = ((L ++ [(parseC line).1]) ++ (readF bs.length (k0 + (L ++ [(parseC line).1]).length) (bs.drop (k + (line.length + 1)))).1, (k + (line.length + 1)) + (readF bs.length (k0 + (L ++ [(parseC line).1]).length) (bs.drop (k + (line.length + 1)))).2.1, (readF bs.length (k0 + (L ++ [(parseC line).1]).length) (bs.drop (k + (line.length + 1)))).2.2)) := by
  have hl := cut_len h
  rw [List.length_drop] at hl
  obtain ⟨f, hf⟩ : ∃ f, bs.length = f + 1 := ⟨bs.length - 1, by omega⟩
  have e := I.eq
  have r0 : ∀ x, readF bs.length x (bs.drop k) = readF (f + 1) x (bs.drop k) := fun x => by rw [hf]
  rw [r0, read_cut h] at e
  refine ⟨fun hp => ?_, fun hp hk => ?_, fun hp hk => ?_⟩
  · rw [if_pos hp] at e
    simpa using e
  · rw [if_neg (fun x => x hp), if_pos hk] at e
    simpa using e
  · rw [if_neg (fun x => x hp), if_neg hk] at e
    have hr : bs.drop (k + (line.length + 1)) = rest := by
      rw [← List.drop_drop, (cut_is h).1, List.append_cons, List.drop_left' (by simp)]
    have r1 : ∀ x, readF bs.length x rest = readF f x rest := fun x => read_fuel _ _ x rest (by omega) (by omega)
    rw [hr, e, r1, List.length_append]
    simp only [List.append_assoc, List.cons_append, List.nil_append, List.length_cons, List.length_nil, Nat.zero_add, Nat.add_assoc]
theorem rl_torn {w : World} {bs : Bs} {k0 k : Nat} {L : List Cd} {lv : Value} {wr : World} (I : RlInv w bs k0 k L lv wr) (hk : k < bs.length) (h : cutL (bs.drop k) = none) : readF bs.length k0 bs = (L, k, 13) := by
  obtain ⟨f, hf⟩ : ∃ f, bs.length = f + 1 := ⟨bs.length - 1, by omega⟩
  have e := I.eq
  have r0 : ∀ x, readF bs.length x (bs.drop k) = readF (f + 1) x (bs.drop k) := fun x => by rw [hf]
  rw [r0, read_torn (fun h0 => by have := congrArg List.length h0; rw [List.length_drop] at this; simp at this; omega) h] at e
  simpa using e
theorem rl_end {w : World} {bs : Bs} {k0 : Nat} {L : List Cd} {lv : Value} {wr : World} (I : RlInv w bs k0 bs.length L lv wr) : readF bs.length k0 bs = (L, bs.length, 0) := by
  have e := I.eq
  rw [List.drop_length, read_nil] at e
  simpa using e
abbrev LinesPost (k0 : Nat) (bs : Bs) (w : World) (e : Ending) (w' : World) : Prop := (∃ lv, e = .returned (.tuple #[lv, .int .i64 ((readF bs.length k0 bs).2.1 : Nat), .int .i64 (readF bs.length k0 bs).2.2]) ∧ OwnC w.heap.size w' lv (readF bs.length k0 bs).1) ∧ Below w.heap.size w w'
set_option maxHeartbeats 8000000 in
set_option maxRecDepth 100000 in
theorem lines_any (p : Option Addr) (n c : Nat) (bs : Bs) (k0 : Nat) (most : Int) (HM : Hid (most = 60 - (k0 : Int))) (hk0 : k0 ≤ 60) (w : World) (h : Bt w p n c bs) (hz : n ≤ 20000) (E : EnvS w) : Calls Tryz.prog 32 #[.slice p n c, .int .i64 most] w (LinesPost k0 bs w) := by
  obtain ⟨i0, hi, hz0, hz1, hz2⟩ := info_parts (show (Tryz.prog.info? 28).map (fun i => (i.zero, i.size, i.bytes)) = some (some (cdV noCd), 11, 88) by kernel_rfl)
  have HB := hide h
  have HE := hide E
  have R0 : Hid (RlInv w bs k0 0 [] (.slice none 0 0) w) := ⟨World.ownsRow_nil _ _ _ _, Below.refl _ _, by rw [List.drop_zero]; simp, by simpa using hk0⟩
  clear h E
  go_enter Tryz.func32, Tryz.ntmps32
  go_wp2
  go_loopw [7, 8] (fun lv i wr => ∃ (k : Nat) (L : List Cd), k ≤ n ∧ i = .int .i64 k ∧ Hid (RlInv w bs k0 k L lv wr)) (fun _ i _ => n - (RowKit.intOf i).toNat)
  case atStart => exact ⟨0, [], Nat.zero_le _, rfl, R0⟩
  case round =>
    clear R0
    obtain ⟨k, L, hk, rfl, I⟩ := hrel
    obtain ⟨pl, cl, rfl⟩ := ownC_slice I.out.own
    by_cases hlt : k < n
    · have hltz : (k : Int) < (n : Int) := by omega
      obtain ⟨b, o, rfl, -⟩ := HB.out.row (by omega)
      have hcap := HB.out.cap
      have HBW := hide ((HB.out.below I.out.below).drop hk)
      have HLN := hide HB.out.len
      have IL := I.out.few
      have IX := hide (indexB_any b (o + k) (n - k) (c - k) (bs.drop k) wr HBW.out (by omega))
      cases hcut : cutL (bs.drop k) with
      | none =>
        rw [idx_cut_none hcut] at IX
        have HR := hide (rl_torn I.out (by rw [HLN.out]; exact hlt) hcut)
        clear hcut
        go_wp2_with fail
        refine IX.out.mono ?_
        rintro e X ⟨rfl, hX⟩
        rw [hX]
        clear hX X
        have BX := hide I.out.below
        have OX := hide I.out.own
        clear IX I HBW
        go_wp2
        go_ret3
        refine ⟨⟨.slice pl L.length cl, ?_, ?_⟩, BX.out⟩
        · rw [HR.out]; rfl
        · rw [HR.out]; exact OX.out
      | some q =>
        obtain ⟨line, rest⟩ := q
        rw [idx_cut_some hcut] at IX
        have HR := hide (rl_cut I.out hcut)
        have hln : Hid (line.length ≤ n - k ∧ line = (bs.drop k).take line.length ∧ k + (line.length + 1) ≤ n) := by
          have h1 := cut_len hcut
          have h2 := (cut_is hcut).1
          rw [List.length_drop, HLN.out] at h1
          exact ⟨by omega, by rw [h2, List.take_left' rfl], by omega⟩
        clear hcut
        go_wp2_with fail
        refine IX.out.mono ?_
        rintro e X ⟨rfl, hX⟩
        rw [hX]
        clear hX X
        have ST := (HBW.out.take hln.out.1).str
        rw [← hln.out.2.1] at ST
        have PA := hide (refRead_is line (by have := hln.out.1; omega) wr (HE.out.below I.out.below))
        have LL := hln.out.2.2
        have BX := hide I.out.below
        have OX := hide I.out.own
        generalize line.length = j at *
        generalize parseC line = pc at *
        obtain ⟨cm, pe⟩ := pc
        dsimp only at PA HR
        clear IX I HBW hln
        go_wp2_with fail
        refine PA.out.mono ?_
        rintro e Y ⟨rfl, bY⟩
        have BY := hide (onward BX.out bY)
        have OY := hide (own_on OX.out bY (Nat.le_refl _))
        clear PA bY BX OX ST
        obtain ⟨kind, ac, mkt, nn, oi, oa, sd, pr, qt, how, red⟩ := cm
        by_cases hpe : pe = 0
        · subst hpe
          by_cases h60 : k0 + L.length = 60
          · have HR1 := hide (HR.out.2.1 rfl h60)
            have h60z : ((L.length : Int) == most) = true := by rw [HM.out]; exact beq_iff_eq.2 (by omega)
            clear HR h60
            go_wp2
            go_ret3
            refine ⟨⟨.slice pl L.length cl, ?_, ?_⟩, (BY.out.alloc BY.out.size _)⟩
            · rw [HR1.out]; rfl
            · rw [HR1.out]; exact OY.out.alloc _
          · have HR1 := hide (HR.out.2.2 rfl h60)
            have h60z : ((L.length : Int) == most) = false := by rw [HM.out]; exact beq_false_of_ne (by omega)
            have LF : Hid (k0 + (L.length + 1) ≤ 60) := by show k0 + (L.length + 1) ≤ 60; omega
            obtain ⟨Z, hZ⟩ : ∃ Z, Z = (Y.alloc (cdO ⟨kind, ac, mkt, nn, oi, oa, sd, pr, qt, how, red⟩)).alloc (.cells (encD ⟨kind, ac, mkt, nn, oi, oa, sd, pr, qt, how, red⟩).toArray 28) := ⟨_, rfl⟩
            have OZ : Hid (OwnC w.heap.size Z (.slice pl L.length cl) L) := by show OwnC _ _ _ _; rw [hZ]; exact (OY.out.alloc _).alloc _
            have BZ : Below w.heap.size w Z := by rw [hZ]; exact (BY.out.alloc BY.out.size _).alloc (by have := BY.out.size; simp; omega) _
            have NW : Hid (∀ jj u, (encD ⟨kind, ac, mkt, nn, oi, oa, sd, pr, qt, how, red⟩)[jj]? = some u → Z.cell? ((⟨Y.heap.size + 1, 0, none⟩ : Addr).add jj) = some u) := fun jj u hu => by
              rw [Addr.add_lit, Nat.zero_add, hZ]
              have hx : (Y.alloc (cdO ⟨kind, ac, mkt, nn, oi, oa, sd, pr, qt, how, red⟩)).heap.size = Y.heap.size + 1 := by simp
              have := new_cell (Y.alloc (cdO ⟨kind, ac, mkt, nn, oi, oa, sd, pr, qt, how, red⟩)) (encD ⟨kind, ac, mkt, nn, oi, oa, sd, pr, qt, how, red⟩).toArray 28 jj u (by simpa using hu)
              rw [hx] at this
              exact this
            have hbs : w.heap.size ≤ Z.heap.size := BZ.size
            have BZH := hide BZ
            have OWB : Hid (∀ q, (Value.slice pl L.length cl).ownBlock = some q → w.heap.size ≤ q) := fun q hq => by
              rcases OZ.out.2 with ⟨e, -⟩ | ⟨g, cap, cur, e, hb, -⟩
              · rw [e] at hq; cases hq
              · rw [e] at hq; cases hq; exact hb
            have HZ := hide hZ
            clear HR hZ BZ OY h60
            go_wp2_with (at_builtin; rw [← HZ.out]; refine wpList_append_own _ rfl _ _ 34 rfl w.heap.size 28 i0 (cdV noCd) 11 88 Tryz.underlying34 hi hz0 hz1 hz2 rfl (by decide) _ L.length (L.flatMap encD) rfl OZ.out ⟨Y.heap.size + 1, 0, none⟩ 1 1 (encD ⟨kind, ac, mkt, nn, oi, oa, sd, pr, qt, how, red⟩) rfl rfl NW.out (encD_cell _) (by unfold maxLen; omega) (by omega) hbs ?_; intro v' w1 hown1 hgrow1 hnil1)
            have RN : Hid (RlInv w bs k0 (k + (j + 1)) (L ++ [⟨kind, ac, mkt, nn, oi, oa, sd, pr, qt, how, red⟩]) v' w1) := by
              refine ⟨?_, BZH.out.grown hgrow1 hbs OWB.out, HR1.out, ?_⟩
              · show w1.ownsRow _ _ _ _ _ _
                rw [List.length_append, List.flatMap_append]
                simpa using hown1
              · rw [List.length_append]; exact LF.out
            clear hown1 hgrow1 hnil1 OZ NW hbs BZH OWB HR1
            go_wp2
            go_roundw
            case rel => exact ⟨k + (j + 1), _, LL, by go_num, RN⟩
            case measure => simp [RowKit.intOf]; omega
        · have HR1 := hide (HR.out.1 hpe)
          clear HR
          go_wp2
          go_ret3
          refine ⟨⟨.slice pl L.length cl, ?_, ?_⟩, (BY.out.alloc BY.out.size _)⟩
          · rw [HR1.out]; rfl
          · rw [HR1.out]; exact OY.out.alloc _
    · obtain rfl : k = n := by omega
      have HLN := HB.out.len
      subst HLN
      have HR := hide (rl_end I.out)
      have OX := hide I.out.own
      have BX := hide I.out.below
      clear I
      go_wp2
      go_ret3
      refine ⟨⟨.slice pl L.length cl, ?_, ?_⟩, BX.out⟩
      · rw [HR.out]; rfl
      · rw [HR.out]; exact OX.out
end Go.Proofs.YthdjfhnhjiageaaGreatDoor.Tx
namespace Go.Proofs.YthdjfhnhjiageaaGreatDoor.Tx
open Go.RowKit Go.Lib Go.Sort

set_option maxHeartbeats 2000000 in
set_option maxRecDepth 100000 in
theorem refCheckD_any (p : Option Addr) (n c : Nat) (p' : Option Addr) (n' c' : Nat) (d : Dk) (w : World) (h : Bt w p n c d.safe) (h' : Bt w p' n' c' d.wait) (hn : n ≤ 140737488351232) (hn' : n' ≤ 140737488351232) (E : EnvS w) :
    Calls Tryz.prog 9 #[dkV p n c p' n' c'] w fun e w' => e = .returned (.int .i64 (checkD d)) ∧ Below w.heap.size w w' := by
  have hl := h.len
  have hl' := h'.len
  obtain ⟨W, hW⟩ : ∃ W, W = w.alloc (dkO (.slice p n c) (.slice p' n' c')) := ⟨_, rfl⟩
  have bW : Below w.heap.size w W := by rw [hW]; exact below_alloc w _
  have gW : W.heap[w.heap.size]? = some (dkO (.slice p n c) (.slice p' n' c')) := by rw [hW]; exact heap_alloc_new w _
  obtain ⟨c0, c1, -, -⟩ := dk_cell gW
  have HW := hide hW
  have BW := hide bW
  unfold checkD
  by_cases hz : 20000 < d.safe.length + d.wait.length
  · rw [if_pos hz]
    by_cases hz1 : 20000 < n
    · have hzz : (20000 : Int) < (n : Int) := by omega
      clear hW bW gW h h' hl hl' hz hn hn' E
      go_enter Tryz.func9, Tryz.ntmps9
      go_wp2_with (rw [← HW.out])
      go_ret
      exact ⟨rfl, BW.out⟩
    · have hzz : ¬ (20000 : Int) < (n : Int) := by omega
      have hzy : (20000 : Int) - (n : Int) < (n' : Int) := by omega
      clear hW bW gW h h' hl hl' hz hn hn' E
      go_enter Tryz.func9, Tryz.ntmps9
      go_wp2_with (rw [← HW.out])
      go_ret
      exact ⟨rfl, BW.out⟩
  · rw [if_neg hz]
    have hzz : ¬ (20000 : Int) < (n : Int) := by omega
    have hzy : ¬ (20000 : Int) - (n : Int) < (n' : Int) := by omega
    have LN := hide (lines_any p n c d.safe 0 60 (by show (60 : Int) = 60 - ((0 : Nat) : Int); rfl) (by omega) W (h.below bW) (by omega) (E.below bW))
    have HR : Hid (readL d.safe = readF d.safe.length 0 d.safe) := rfl
    clear hW bW gW h h' hl hl' hz hn hn' E
    go_enter Tryz.func9, Tryz.ntmps9
    go_wp2_with (rw [← HW.out])
    refine LN.out.mono ?_
    rintro e Y ⟨⟨lv, rfl, ho⟩, bY⟩
    obtain ⟨pl, cl, rfl⟩ := ownC_slice ho
    have BY := hide (onward BW.out bY)
    clear LN bY ho c0 c1
    go_wp2
    go_ret
    exact ⟨rfl, BY.out⟩
set_option maxHeartbeats 2000000 in
set_option maxRecDepth 100000 in
theorem cloneS_any (p : Option Addr) (n c : Nat) (bs : Bs) (w : World) (h : Bt w p n c bs) (hz : n ≤ 100000) : Calls Tryz.prog 15 #[.slice p n c] w fun e w' => (∃ v, e = .returned v ∧ w'.ownsRow w.heap.size 5 1 v n ((nums bs).map (Value.int .u8))) ∧ Below w.heap.size w w' := by
  obtain ⟨i0, hi, hz0, hz1, hz2⟩ := info_parts (show (Tryz.prog.info? 5).map (fun i => (i.zero, i.size, i.bytes)) = some (some (.int .u8 0), 1, 1) by kernel_rfl)
  have q22 : ∀ (w : World) (a : Option Addr) (n c n' c' : Nat), (binOp .eql 22 (.slice a n c) (.slice none n' c')).run Tryz.prog w = .ok (.bool a.isNone) w := fun w a n c n' c' => Lib.run_eql_slice_nil w _ _ a n c n' c' Tryz.underlying22
  cases p with
  | none =>
    have hc := h.nil rfl
    have hn : n = 0 := by have := h.cap; omega
    subst hn hc
    obtain rfl : bs = [] := List.length_eq_zero_iff.1 h.len
    clear h
    go_enter Tryz.func15, Tryz.ntmps15
    go_wp2
    go_ret
    exact ⟨⟨_, rfl, World.ownsRow_nil _ _ _ _⟩, Below.refl _ _⟩
  | some a =>
    have A := hide h
    clear h
    go_enter Tryz.func15, Tryz.ntmps15
    go_wp2_with (at_builtin; refine wpList_append_own _ rfl _ _ 22 rfl w.heap.size 5 i0 (.int .u8 0) 1 1 Tryz.underlying22 hi hz0 hz1 hz2 rfl (by decide) _ _ _ rfl (World.ownsRow_made w #[] 0 (Nat.le_refl _) (Nat.zero_le _) rfl) a n c ((nums bs).map (Value.int .u8)) rfl ?qc1 ?qc2 ?qc3 ?qc4 ?qc5 ?qc6 ?_)
    case qc1 => rw [List.length_map, nums_len, A.out.len, Nat.mul_one]
    case qc2 =>
      intro j u hj
      have hjn : j < n := by
        have := (List.getElem?_eq_some_iff.1 hj).1
        rw [List.length_map, nums_len, A.out.len] at this
        exact this
      refine Lib.cell?_alloc_some _ ?_
      obtain ⟨b, o, e, hc⟩ := A.out.row (by omega)
      cases e
      rw [Addr.add_lit, hc j hjn]
      rw [List.getElem?_map, nums, List.getElem?_map, List.getElem?_eq_getElem (by rw [A.out.len]; exact hjn)] at hj
      rw [List.getD_eq_getElem?_getD, List.getElem?_eq_getElem (by rw [A.out.len]; exact hjn)]
      exact hj
    case qc3 => intro u hu; obtain ⟨x, _, rfl⟩ := List.mem_map.1 hu; rfl
    case qc4 => unfold maxLen; omega
    case qc5 => omega
    case qc6 => simp
    intro v' w1 hown hgrow hnil
    have HO := hide hown
    have BG := hide (((Below.refl _ w).alloc (Nat.le_refl _) _).grown hgrow (by simp) (by intro k hk; simp [Value.ownBlock] at hk; omega))
    clear hown hgrow hnil
    go_wp2
    go_ret
    exact ⟨⟨v', rfl, by simpa using HO.out⟩, BG.out⟩
end Go.Proofs.YthdjfhnhjiageaaGreatDoor.Tx
