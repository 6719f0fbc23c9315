/-
  Package journal by contracts: read.
-/
import Derived.Test.YthdjfhnhjiageaaDoorJnW2
import Derived.Lib.SlBytesConst
namespace Go.Proofs.YthdjfhnhjiageaaDoor.Tx
open Go.RowKit Go.Lib Go.Sort

/-- a command, as it lies. -/
abbrev encD (c : Cd) : List Value := [.int .i64 c.kind, .int .i64 c.ac, .int .i64 c.mkt, .int .i64 c.n, .int .i64 c.oi, .int .i64 c.oa, .int .i64 c.sd, .int .i64 c.pr, .int .i64 c.qt, .int .i64 c.how, .bool c.red]
theorem encD_cell (c : Cd) : ∀ v ∈ encD c, v.oneCell' = true := by
  intro v hv
  simp only [encD, List.mem_cons, List.not_mem_nil, or_false] at hv
  rcases hv with rfl | rfl | rfl | rfl | rfl | rfl | rfl | rfl | rfl | rfl | rfl <;> rfl
/-- commands in a row of the call's own. -/
abbrev OwnC (B : Nat) (w : World) (v : Value) (L : List Cd) : Prop := w.ownsRow B 25 11 v L.length (L.flatMap encD)
theorem ownC_slice {B : Nat} {w : World} {v : Value} {L : List Cd} (h : OwnC B w v L) : ∃ p c, v = .slice p L.length c := by
  rcases h.2 with ⟨rfl, e⟩ | ⟨g, cap, cur, rfl, -⟩
  · exact ⟨none, 0, by rw [e]⟩
  · exact ⟨_, _, rfl⟩
theorem own_on {B S : Nat} {w w' : World} {e : TypeId} {s : Nat} {v : Value} {n : Nat} {xs : List Value} (h : w.ownsRow B e s v n xs) (hb : Below S w w') (hS : w.heap.size ≤ S) : w'.ownsRow B e s v n xs := by
  refine ⟨h.1, ?_⟩
  rcases h.2 with h | ⟨g, cap, cur, e1, e2, e3, e4⟩
  · exact .inl h
  · exact .inr ⟨g, cap, cur, e1, e2, (hb.block g (Nat.lt_of_lt_of_le (Array.getElem?_eq_some_iff.1 e3).1 hS)).trans e3, e4⟩
structure RdInv (w : World) (bs : Bs) (k : Nat) (L : List Cd) (lv : Value) (wr : World) : Prop where
  own : OwnC w.heap.size wr lv L
  below : Below w.heap.size w wr
  eq : readL bs = (L ++ (readF bs.length L.length (bs.drop k)).1, k + (readF bs.length L.length (bs.drop k)).2.1, (readF bs.length L.length (bs.drop k)).2.2)
  few : L.length ≤ 60
theorem rd_cut {w : World} {bs : Bs} {k : Nat} {L : List Cd} {lv : Value} {wr : World} (I : RdInv w bs k L lv wr) {line rest : Bs} (h : cutL (bs.drop k) = some (line, rest)) :
    (¬ (parseC line).2 = 0 → readL bs = (L, k, (parseC line).2)) ∧ ((parseC line).2 = 0 → L.length = 60 → readL bs = (L, k, 2)) ∧
    ((parseC line).2 = 0 → ¬ L.length = 60 → readL bs = ((L ++ [(parseC line).1]) ++ (readF bs.length (L ++ [(parseC line).1]).length (bs.drop (k + (line.length + 1)))).1, (k + (line.length + 1)) + (readF bs.length (L ++ [(parseC line).1]).length (bs.drop (k + (line.length + 1)))).2.1, (readF bs.length (L ++ [(parseC line).1]).length (bs.drop (k + (line.length + 1)))).2.2)) := by
  have hl := cut_len h
  rw [List.length_drop] at hl
  obtain ⟨f, hf⟩ : ∃ f, bs.length = f + 1 := ⟨bs.length - 1, by omega⟩
  have e := I.eq
  rw [hf, read_cut h] at e
  refine ⟨fun hp => ?_, fun hp hk => ?_, fun hp hk => ?_⟩
  · rw [if_pos hp] at e
    simpa using e
  · rw [if_neg (fun x => x hp), if_pos hk] at e
    simpa using e
  · rw [if_neg (fun x => x hp), if_neg hk] at e
    have hr : bs.drop (k + (line.length + 1)) = rest := by
      rw [← List.drop_drop, (cut_is h).1, List.append_cons, List.drop_left' (by simp)]
    rw [hr, e, hf, read_fuel (f + 1) f _ rest (by omega) (by omega), List.length_append]
    simp only [List.append_assoc, List.cons_append, List.nil_append, List.length_cons, List.length_nil, Nat.zero_add]
    refine Prod.ext rfl (Prod.ext ?_ rfl)
    dsimp only
    omega
theorem rd_torn {w : World} {bs : Bs} {k : Nat} {L : List Cd} {lv : Value} {wr : World} (I : RdInv w bs k L lv wr) (hk : k < bs.length) (h : cutL (bs.drop k) = none) : readL bs = (L, k, 13) := by
  obtain ⟨f, hf⟩ : ∃ f, bs.length = f + 1 := ⟨bs.length - 1, by omega⟩
  have e := I.eq
  rw [hf, read_torn (fun h0 => by have := congrArg List.length h0; rw [List.length_drop] at this; simp at this; omega) h] at e
  simpa using e
theorem rd_end {w : World} {bs : Bs} {L : List Cd} {lv : Value} {wr : World} (I : RdInv w bs bs.length L lv wr) : readL bs = (L, bs.length, 0) := by
  have e := I.eq
  rw [List.drop_length, read_nil] at e
  simpa using e
/-- what read answers. -/
abbrev ReadPost (bs : Bs) (w : World) (e : Ending) (w' : World) : Prop := (∃ lv, e = .returned (.tuple #[lv, .int .i64 ((readL bs).2.1 : Nat), .int .i64 (readL bs).2.2]) ∧ OwnC w.heap.size w' lv (readL bs).1) ∧ Below w.heap.size w w'
set_option maxHeartbeats 8000000 in
set_option maxRecDepth 100000 in
theorem read_any (p : Option Addr) (n c : Nat) (bs : Bs) (w : World) (h : Bt w p n c bs) (hz : n ≤ 100000) (E : Env w) : Calls Tryd.prog 39 #[.slice p n c] w (ReadPost bs w) := by
  obtain ⟨i0, hi, hz0, hz1, hz2⟩ := info_parts (show (Tryd.prog.info? 25).map (fun i => (i.zero, i.size, i.bytes)) = some (some (cdV noCd), 11, 88) by kernel_rfl)
  have HB := hide h
  have HE := hide E
  have R0 : Hid (RdInv w bs 0 [] (.slice none 0 0) w) := ⟨World.ownsRow_nil _ _ _ _, Below.refl _ _, by rw [List.drop_zero]; simp [readL], Nat.zero_le _⟩
  clear h E
  go_enter Tryd.func39, Tryd.ntmps39
  go_wp2
  go_loopw [2, 3] (fun lv i wr => ∃ (k : Nat) (L : List Cd), k ≤ n ∧ i = .int .i64 k ∧ Hid (RdInv w bs k L lv wr)) (fun _ i _ => n - (RowKit.intOf i).toNat)
  case atStart => exact ⟨0, [], Nat.zero_le _, rfl, R0⟩
  case round =>
    clear R0
    obtain ⟨k, L, hk, rfl, I⟩ := hrel
    obtain ⟨pl, cl, rfl⟩ := ownC_slice I.out.own
    by_cases hlt : k < n
    · have hltz : (k : Int) < (n : Int) := by omega
      obtain ⟨b, o, rfl, -⟩ := HB.out.row (by omega)
      have hcap := HB.out.cap
      have CV := Lib.run_convert_bytes_const (P := Tryd.prog) wr 35 5 #[.int .u8 10] 1 1 Tryd.underlying35 Tryd.underlying5
      obtain ⟨W, hW⟩ : ∃ W, W = wr.alloc (.cells #[.int .u8 10] 5 ((#[Value.int .u8 10] : Array Value).size, (#[Value.int .u8 10] : Array Value).size + 1)) := ⟨_, rfl⟩
      have bW : Below wr.heap.size wr W := by rw [hW]; exact below_alloc wr _
      rw [← hW] at CV
      have hg : W.cell? ⟨wr.heap.size, 0, none⟩ = some (.int .u8 10) := by rw [hW]; exact World.cell?_alloc_mark wr #[.int .u8 10] _ _ 0
      have HBW := hide (((HB.out.below I.out.below).below bW).drop hk)
      have HLN := hide HB.out.len
      have IL := I.out.few
      cases hcut : cutL (bs.drop k) with
      | none =>
        have CT := hide (cut_torn b (o + k) (n - k) (c - k) wr.heap.size (bs.drop k) W HBW.out hg hcut)
        have HR := hide (rd_torn I.out (by rw [HLN.out]; exact hlt) hcut)
        clear hg hcut hW
        go_wp2_with fail
        refine CT.out.mono ?_
        rintro e X ⟨rfl, bX⟩
        have BX := hide (I.out.below.trans ((bW.trans (bX.mono bW.size)).mono I.out.below.size))
        have OX := hide (own_on (own_on I.out.own bW (Nat.le_refl _)) bX (Nat.le_refl _))
        clear CT I bX bW HBW CV
        go_wp2
        go_ret3
        refine ⟨⟨.slice pl L.length cl, ?_, ?_⟩, BX.out⟩
        · rw [HR.out]; rfl
        · rw [HR.out]; exact OX.out
      | some q =>
        obtain ⟨line, rest⟩ := q
        have CT := hide (cut_whole b (o + k) (n - k) (c - k) wr.heap.size (bs.drop k) line rest W HBW.out (by omega) hg hcut)
        have HR := hide (rd_cut I.out hcut)
        have hln : Hid (line.length ≤ n - k ∧ line = (bs.drop k).take line.length ∧ k + (line.length + 1) ≤ n) := by
          have h1 := cut_len hcut
          have h2 := (cut_is hcut).1
          rw [List.length_drop, HLN.out] at h1
          exact ⟨by omega, by rw [h2, List.take_left' rfl], by omega⟩
        clear hg hcut hW
        go_wp2_with fail
        refine CT.out.mono ?_
        rintro e X ⟨⟨p', n', c', rfl⟩, bX⟩
        have bRX := bW.trans (bX.mono bW.size)
        have BX := hide (I.out.below.trans (bRX.mono I.out.below.size))
        have OX := hide (own_on I.out.own bRX (Nat.le_refl _))
        have ST := ((HBW.out.below bX).take hln.out.1).str
        rw [← hln.out.2.1] at ST
        have PA := hide (parse_any line X (HE.out.below BX.out))
        have LL := hln.out.2.2
        have IE := hide I.out.eq
        generalize line.length = j at *
        generalize parseC line = pc at *
        obtain ⟨cm, pe⟩ := pc
        dsimp only at PA HR
        clear CT I bX bW HBW bRX hln CV
        go_wp2_with fail
        refine PA.out.mono ?_
        rintro e Y ⟨rfl, bY⟩
        have BY := hide (onward BX.out bY)
        have OY := hide (own_on OX.out bY (Nat.le_refl _))
        clear PA bY BX OX ST
        obtain ⟨kind, ac, mkt, nn, oi, oa, sd, pr, qt, how, red⟩ := cm
        by_cases hpe : pe = 0
        · subst hpe
          by_cases h60 : L.length = 60
          · have HR1 := hide (HR.out.2.1 rfl h60)
            have h60z : (L.length : Int) = 60 := by omega
            clear HR
            go_wp2
            go_ret3
            refine ⟨⟨.slice pl 60 cl, ?_, ?_⟩, (BY.out.alloc BY.out.size _)⟩
            · rw [HR1.out]; rfl
            · rw [HR1.out]
              refine Eq.mp (congrArg (fun m => OwnC w.heap.size _ (Value.slice pl m cl) L) h60) ?_
              exact OY.out.alloc _
          · have HR1 := hide (HR.out.2.2 rfl h60)
            have h60z : ((L.length : Int) == 60) = false := beq_false_of_ne (by omega)
            have LF : Hid (L.length + 1 ≤ 60) := by show L.length + 1 ≤ 60; omega
            obtain ⟨Z, hZ⟩ : ∃ Z, Z = (Y.alloc (cdO ⟨kind, ac, mkt, nn, oi, oa, sd, pr, qt, how, red⟩)).alloc (.cells (encD ⟨kind, ac, mkt, nn, oi, oa, sd, pr, qt, how, red⟩).toArray 25) := ⟨_, rfl⟩
            have OZ : Hid (OwnC w.heap.size Z (.slice pl L.length cl) L) := by show OwnC _ _ _ _; rw [hZ]; exact (OY.out.alloc _).alloc _
            have BZ : Below w.heap.size w Z := by rw [hZ]; exact (BY.out.alloc BY.out.size _).alloc (by have := BY.out.size; simp; omega) _
            have NW : Hid (∀ jj u, (encD ⟨kind, ac, mkt, nn, oi, oa, sd, pr, qt, how, red⟩)[jj]? = some u → Z.cell? ((⟨Y.heap.size + 1, 0, none⟩ : Addr).add jj) = some u) := fun jj u hu => by
              rw [Addr.add_lit, Nat.zero_add, hZ]
              have hx : (Y.alloc (cdO ⟨kind, ac, mkt, nn, oi, oa, sd, pr, qt, how, red⟩)).heap.size = Y.heap.size + 1 := by simp
              have := new_cell (Y.alloc (cdO ⟨kind, ac, mkt, nn, oi, oa, sd, pr, qt, how, red⟩)) (encD ⟨kind, ac, mkt, nn, oi, oa, sd, pr, qt, how, red⟩).toArray 25 jj u (by simpa using hu)
              rw [hx] at this
              exact this
            have hbs : w.heap.size ≤ Z.heap.size := BZ.size
            have BZH := hide BZ
            have OWB : Hid (∀ q, (Value.slice pl L.length cl).ownBlock = some q → w.heap.size ≤ q) := fun q hq => by
              rcases OZ.out.2 with ⟨e, -⟩ | ⟨g, cap, cur, e, hb, -⟩
              · rw [e] at hq; cases hq
              · rw [e] at hq; cases hq; exact hb
            have HZ := hide hZ
            clear HR hZ BZ OY h60
            go_wp2_with (at_builtin; rw [← HZ.out]; refine wpList_append_own _ rfl _ _ 43 rfl w.heap.size 25 i0 (cdV noCd) 11 88 Tryd.underlying43 hi hz0 hz1 hz2 rfl (by decide) _ L.length (L.flatMap encD) rfl OZ.out ⟨Y.heap.size + 1, 0, none⟩ 1 1 (encD ⟨kind, ac, mkt, nn, oi, oa, sd, pr, qt, how, red⟩) rfl rfl NW.out (encD_cell _) (by unfold maxLen; omega) (by omega) hbs ?_; intro v' w1 hown1 hgrow1 hnil1)
            have RN : Hid (RdInv w bs (k + (j + 1)) (L ++ [⟨kind, ac, mkt, nn, oi, oa, sd, pr, qt, how, red⟩]) v' w1) := by
              refine ⟨?_, BZH.out.grown hgrow1 hbs OWB.out, HR1.out, ?_⟩
              · show w1.ownsRow _ _ _ _ _ _
                rw [List.length_append, List.flatMap_append]
                simpa using hown1
              · rw [List.length_append]; exact LF.out
            clear hown1 hgrow1 hnil1 OZ NW hbs BZH OWB HR1
            go_wp2
            go_roundw
            case rel => exact ⟨k + (j + 1), _, LL, by go_num, RN⟩
            case measure => simp [RowKit.intOf]; omega
        · have HR1 := hide (HR.out.1 hpe)
          clear HR
          go_wp2
          go_ret3
          refine ⟨⟨.slice pl L.length cl, ?_, ?_⟩, (BY.out.alloc BY.out.size _)⟩
          · rw [HR1.out]; rfl
          · rw [HR1.out]; exact OY.out.alloc _
    · obtain rfl : k = n := by omega
      have HR := I.out.eq
      have HLN := HB.out.len
      subst HLN
      have HR := hide (rd_end I.out)
      have OX := hide I.out.own
      have BX := hide I.out.below
      clear I
      go_wp2
      go_ret3
      refine ⟨⟨.slice pl L.length cl, ?_, ?_⟩, BX.out⟩
      · rw [HR.out]; rfl
      · rw [HR.out]; exact OX.out
end Go.Proofs.YthdjfhnhjiageaaDoor.Tx
