/-
  AccountSays, walked.
-/
import Derived.Test.YtkjgkmndpbbagaaRefF
import Derived.Test.YtkjgkmndpbbagaaAc7
import Derived.Test.YtkjgkmndpbbagaaMix
namespace Go.Proofs.Ytkjgkmndpbbagaa.Ac
open Go.RowKit Go.Proofs.Ytkjgkmndpbbagaa.Num Go.Proofs.Ytkjgkmndpbbagaa.Fix Go.Proofs.Ytkjgkmndpbbagaa.AcP Go.Proofs.Ytkjgkmndpbbagaa.Mix

/-- what a trade makes, by the program and by the reference alike. -/
theorem trade_uni (id bal : Int) (n : Nat) (pos : List Int) (mk q pr fee : Int) (hl : pos.length = n) (hn : n ≤ 140737488351232) (f1 : -9223372036854775808 ≤ fee) (f2 : fee ≤ 9223372036854775807) :
    ∃ (xi xb : Int) (xs : List Int) (nx : Nat) (r : Int), xs.length = nx ∧ nx ≤ 140737488351232 ∧
      (∀ (p : Option Addr) (c : Nat) (W : World), Row W p pos → Calls Try.prog 58 #[accV id bal p n c, .int .i64 mk, .int .i64 q, .int .i64 pr, .int .i64 fee] W fun e w' => ∃ px cx, e = .returned (.tuple #[accV xi xb px nx cx, .int .i64 r]) ∧ Row w' px xs ∧ Below W.heap.size W w') ∧
      (∀ (p : Option Addr) (c : Nat) (W : World), Row W p pos → Calls Try.prog 61 #[accV id bal p n c, .int .i64 mk, .int .i64 q, .int .i64 pr, .int .i64 fee] W fun e w' => ∃ px cx, e = .returned (.tuple #[accV xi xb px nx cx, .int .i64 r]) ∧ Row w' px xs ∧ Below W.heap.size W w') := by
  by_cases ht : tradeErr id bal pos mk q pr fee = 0
  · refine ⟨id, bal - q * pr - fee, pos.set mk.toNat (pos.getD mk.toNat 0 + q), n, 0, by simpa using hl, hn, fun p c W h => ?_, fun p c W h => ?_⟩
    · refine (trade_good id bal p n c pos mk q pr fee W hl h ht).mono ?_
      rintro e w' ⟨v, rfl, own, hb⟩
      obtain ⟨_, av, cv, rfl, _, hr⟩ := row_own own
      exact ⟨av, cv, rfl, hr, hb⟩
    · refine (traded_good id bal p n c pos mk q pr fee W hl h ht).mono ?_
      rintro e w' ⟨v, rfl, own, hb⟩
      obtain ⟨_, av, cv, rfl, _, hr⟩ := row_own own
      exact ⟨av, cv, rfl, hr, hb⟩
  · refine ⟨0, 0, [], 0, tradeErr id bal pos mk q pr fee, rfl, by omega, fun p c W h => ?_, fun p c W h => ?_⟩
    · refine (trade_bad id bal p n c pos mk q pr fee W hl hn h f1 f2 ht).mono ?_
      rintro e w' ⟨rfl, hb⟩
      exact ⟨none, 0, rfl, .inl rfl, hb⟩
    · refine (traded_bad id bal p n c pos mk q pr fee W hl h ht).mono ?_
      rintro e w' ⟨rfl, hb⟩
      exact ⟨none, 0, rfl, .inl rfl, hb⟩

theorem own_uni (id bal : Int) (p : Option Addr) (n c : Nat) (pos : List Int) (w : World) (hl : pos.length = n) (hn : n * 8 ≤ 140737488351232) (hnil : p = none → c = 0) (h : Row w p pos) :
    Calls Try.prog 57 #[accV id bal p n c] w fun e w' => ∃ px cx, e = .returned (accV id bal px n cx) ∧ Row w' px pos ∧ Below w.heap.size w w' := by
  refine (ownAccount_any id bal p n c pos w hl hn hnil h).mono ?_
  rintro e w' ⟨v, rfl, own, hb⟩
  obtain ⟨_, av, cv, rfl, _, hr⟩ := row_own own
  exact ⟨av, cv, rfl, hr, hb⟩

theorem wp_region_inC {P : Program} {id : Nat} {Q : Exit → Act → World → Prop} {a : Act} {w : World} {l : List Oper} (C : World → Prop) (hm : P.follows .mixedOrders = true) (hB : Region.lexB .any l.toArray = true) (hC : C w.drew)
    (h : wpQuiet P l.toArray (fun x => ∃ p : InC C, x = p.w) (fun a' => ∀ w', (∃ p : InC C, w' = p.w) → Q .normal a' w') l a) : (Code.region id l.toArray true).wp P Q a w :=
  wp_region_quiet (C := fun x => ∃ p : InC C, x = p.w) hm hB ⟨⟨_, hC⟩, rfl⟩ (by simpa using h)
theorem calls_inC {P : Program} {f : FuncId} {args : Array Value} {C : World → Prop} {v : Value} (hs : ∀ x y, C x → Below x.heap.size x y → C y) (p : InC C)
    (h : Calls P f args p.w fun e w' => e = .returned v ∧ Below p.w.heap.size p.w w') : Calls P f args p.w fun e w'' => e = .returned v ∧ ∃ p' : InC C, w'' = p'.w :=
  h.mono fun _ w' ⟨he, hb⟩ => ⟨he, ⟨w', hs _ _ p.h hb⟩, rfl⟩

set_option maxHeartbeats 1000000 in
set_option maxRecDepth 100000 in
theorem says_any (id bal : Int) (p : Option Addr) (n c : Nat) (pos : List Int) (m mk q pr fee : Int) (p3 : Option Addr) (n3 c3 : Nat) (marks : List Int) (id2 bal2 : Int) (p2 : Option Addr) (n2 c2 : Nat) (pos2 : List Int) (w : World) (hl : pos.length = n) (hl2 : pos2.length = n2) (hl3 : marks.length = n3) (hn : n * 8 ≤ 140737488351232) (hn2 : n2 ≤ 140737488351232) (hnil : p = none → c = 0) (h : Row w p pos) (h2 : Row w p2 pos2) (h3 : Row w p3 marks)
    (f1 : -9223372036854775808 ≤ fee) (f2 : fee ≤ 9223372036854775807) :
    Calls Try.prog 13 #[accV id bal p n c, .int .i64 m, .int .i64 mk, .int .i64 q, .int .i64 pr, .int .i64 fee, .slice p3 n3 c3, accV id2 bal2 p2 n2 c2] w fun e w' => e = .returned (.bool true) ∧ Below w.heap.size w w' := by
  have mixed : Try.prog.follows .mixedOrders = true := by kernel_rfl
  have hn1 : n ≤ 140737488351232 := by omega
  obtain ⟨xi, xb, xs, nx, r, hlx, hnx, tr, td⟩ := trade_uni id bal n pos mk q pr fee hl hn1 f1 f2
  have TR := hide tr
  have TD := hide td
  have RA := hide (fun W hW => row_below (w' := W) h hW)
  have RB := hide (fun W hW => row_below (w' := W) h2 hW)
  have OA := hide (fun W hW => own_uni id bal p n c pos W hl hn hnil (row_below h hW))
  have EQ := hide (fun p c W hr hW => equity_any id bal p p3 n c n3 c3 pos marks W hl hl3 hn1 hr (row_below h3 hW))
  have EO := hide (fun p c W hr hW => equityOf_any id bal p p3 n c n3 c3 pos marks W hl hl3 hr (row_below h3 hW))
  have FE := hide (fun W => fee_any q pr W)
  have FO := hide (fun W => feeOf_any q pr W)
  have CK := hide (fun p c W hr => check_any id bal p n c pos m W hl hn1 hr)
  have CA := hide (fun p c W hr => checkAccount_any id bal p n c pos m W hl hr)
  have SM := hide (fun p c p2 c2 W hr hr2 => same_any id bal p n c pos id2 bal2 p2 n2 c2 pos2 W hl hl2 hn1 hn2 hr hr2)
  have SA := hide (fun p c p2 c2 W hr hr2 => sameAccount_any id bal p n c pos id2 bal2 p2 n2 c2 pos2 W hl hl2 hn1 hn2 hr hr2)
  have SO := hide (fun p c p2 c2 W hr hr2 => sameAccount_any id bal p n c pos id bal p2 n c2 pos W hl hl hn1 hn1 hr hr2)
  have SX := hide (fun p c p2 c2 W hr hr2 => sameAccount_any xi xb p nx c xs xi xb p2 nx c2 xs W hlx hlx hnx hnx hr hr2)
  rw [show accEq id bal pos id bal pos = true from by simp [accEq]] at SO
  rw [show accEq xi xb xs xi xb xs = true from by simp [accEq]] at SX
  clear h h2 h3 hnil tr td hl hl2 hl3 hlx f1 f2
  generalize equityR id bal pos marks = T at EQ EO
  generalize feeR q pr = F at FE FO
  generalize accErr id bal pos m = e0 at CK CA
  generalize accEq id bal pos id2 bal2 pos2 = s0 at SM SA
  obtain ⟨T1, T2⟩ := T
  obtain ⟨F1, F2⟩ := F
  go_enter Try.func13, Try.ntmps13
  go_wp2_with fail
  refine (OA.out _ (below_alloc2 _ _ _)).mono ?_
  rintro e W1 ⟨po, co, rfl, hro, hb⟩
  have HA1 := hide hb
  have RO1 := hide hro
  clear hb hro
  go_wp2_with fail
  refine (TR.out _ _ _ (row_below RO1.out (below_alloc _ _))).mono ?_
  rintro e W2 ⟨px, cx, rfl, hrx, hb⟩
  have RX2 := hide hrx
  have HO2 := hide hb
  have HA2 := hide (onward HA1.out (onward (below_alloc _ _) hb))
  clear hb hrx
  have o0 := fun o => (box_x (onward HO2.out (below_alloc _ o))).1
  have o1 := fun o => (box_x (onward HO2.out (below_alloc _ o))).2.1
  have o2 := fun o => (box_x (onward HO2.out (below_alloc _ o))).2.2
  go_wp2_with fail
  refine (EQ.out _ _ _ (row_below RO1.out (onward (below_alloc _ _) (onward HO2.out (below_alloc _ _)))) (onward (below_alloc2 w _ _) (onward HA2.out (below_alloc _ _)))).mono ?_
  rintro e W3 ⟨rfl, hb⟩
  have HX3 := hide hb
  have HO3 := hide (onward HO2.out (onward (below_alloc _ _) hb))
  have HA3 := hide (onward HA2.out (onward (below_alloc _ _) hb))
  clear hb o0 o1 o2
  go_wp2_with fail
  refine (FE.out _).mono ?_
  rintro e W4 ⟨rfl, kk, rfl⟩
  obtain ⟨a0, a1, a2⟩ := box_a HA3.out
  go_wp2_with fail
  refine (TD.out _ _ _ (RA.out _ (below_drewN (onward (below_alloc2 w _ _) HA3.out) _))).mono ?_
  rintro e W5 ⟨py, cy, rfl, hry, hb⟩
  have D5 := hide (onward (below_drewN (Below.refl _ W3) kk) hb)
  have RY5 := hide hry
  have HX5 := hide (onward HX3.out D5.out)
  have HO5 := hide (onward HO3.out D5.out)
  have HA5 := hide (onward HA3.out D5.out)
  clear hb hry a0 a1 a2
  have a0 := fun o => (box_a (onward HA5.out (below_alloc _ o))).1
  have a1 := fun o => (box_a (onward HA5.out (below_alloc _ o))).2.1
  have a2 := fun o => (box_a (onward HA5.out (below_alloc _ o))).2.2
  go_wp2_with fail
  refine (EO.out _ _ _ (RA.out _ (onward (below_alloc2 w _ _) (onward HA5.out (below_alloc _ _)))) (onward (below_alloc2 w _ _) (onward HA5.out (below_alloc _ _)))).mono ?_
  rintro e W6 ⟨rfl, hb⟩
  have HY6 := hide hb
  have HX6 := hide (onward HX5.out (onward (below_alloc _ _) hb))
  have HO6 := hide (onward HO5.out (onward (below_alloc _ _) hb))
  have HA6 := hide (onward HA5.out (onward (below_alloc _ _) hb))
  clear hb a0 a1 a2
  go_wp2_with fail
  refine (FO.out _).mono ?_
  rintro e w' ⟨rfl, hw'⟩
  rw [hw']
  clear hw'
  have hC : ∀ q : InC (fun x => Below W6.heap.size W6 x), Below W6.heap.size W6 q.w := fun q => q.h
  generalize hCC : (fun x => Below W6.heap.size W6 x) = C at hC
  have CS : ∀ x y, C x → Below x.heap.size x y → C y := by rw [← hCC]; exact fun x y hx hy => onward hx hy
  have C0 : Hid (C W6.drew) := by rw [← hCC]; exact below_drewN (Below.refl _ W6) 1
  have a0 := fun q => (box_a (onward HA6.out (hC q))).1
  have a1 := fun q => (box_a (onward HA6.out (hC q))).2.1
  have a2 := fun q => (box_a (onward HA6.out (hC q))).2.2
  have b0 := fun q => (box_b (onward HA6.out (hC q))).1
  have b1 := fun q => (box_b (onward HA6.out (hC q))).2.1
  have b2 := fun q => (box_b (onward HA6.out (hC q))).2.2
  have o0 := fun q => (box_x (onward HO6.out (hC q))).1
  have o1 := fun q => (box_x (onward HO6.out (hC q))).2.1
  have o2 := fun q => (box_x (onward HO6.out (hC q))).2.2
  have x0 := fun q => (box_x (onward HX6.out (hC q))).1
  have x1 := fun q => (box_x (onward HX6.out (hC q))).2.1
  have x2 := fun q => (box_x (onward HX6.out (hC q))).2.2
  have y0 := fun q => (box_x (onward HY6.out (hC q))).1
  have y1 := fun q => (box_x (onward HY6.out (hC q))).2.1
  have y2 := fun q => (box_x (onward HY6.out (hC q))).2.2
  have BW : Hid (∀ q : InC C, Below w.heap.size w q.w) := fun q => onward (onward (below_alloc2 w _ _) HA6.out) (hC q)
  have K0 := hide (fun q : InC C => calls_inC CS q (counted_any q.w))
  have K1 := hide (fun q : InC C => calls_inC CS q ((CK.out p c q.w (RA.out _ (BW.out q))).mono fun _ _ hh => ⟨hh.1, hh.2 ▸ below_alloc _ _⟩))
  have K2 := hide (fun q : InC C => calls_inC CS q ((CA.out p c q.w (RA.out _ (BW.out q))).mono fun _ _ hh => ⟨hh.1, hh.2 ▸ below_alloc _ _⟩))
  have K3 := hide (fun q : InC C => calls_inC CS q (SM.out p c p2 c2 q.w (RA.out _ (BW.out q)) (RB.out _ (BW.out q))))
  have K4 := hide (fun q : InC C => calls_inC CS q (SA.out p c p2 c2 q.w (RA.out _ (BW.out q)) (RB.out _ (BW.out q))))
  have K5 := hide (fun q : InC C => calls_inC CS q (SO.out po co p c q.w (row_below RO1.out (onward (below_alloc _ _) (onward HO6.out (hC q)))) (RA.out _ (BW.out q))))
  have K6 := hide (fun q : InC C => calls_inC CS q (SX.out px cx py cy q.w (row_below RX2.out (onward (below_alloc _ _) (onward HX6.out (hC q)))) (row_below RY5.out (onward (below_alloc _ _) (onward HY6.out (hC q))))))
  clear hC hCC CS
  go_wp2_with fail
  refine wp_region_inC C mixed (by kernel_rfl) C0.out ?_
  iterate 17 (go_big_quiet_step (first | (go_at_call 64; refine K0.out _) | (go_at_call 65; refine K1.out _) | (go_at_call 66; refine K2.out _) | (go_at_call 67; refine K3.out _) | (go_at_call 68; refine K4.out _) | exact rfl))
  iterate 6 (go_big_quiet_step (first | (go_at_call 64; refine K0.out _) | (go_at_call 65; refine K1.out _) | (go_at_call 66; refine K2.out _) | (go_at_call 67; refine K3.out _) | (go_at_call 68; refine K5.out _) | exact rfl))
  repeat (go_big_quiet_step (first | (go_at_call 64; refine K0.out _) | (go_at_call 65; refine K1.out _) | (go_at_call 66; refine K2.out _) | (go_at_call 67; refine K3.out _) | (go_at_call 68; refine K6.out _) | exact rfl))
  refine wpQuiet_nil ?_
  intro _ hwq
  obtain ⟨q6, hwq'⟩ := hwq
  subst hwq'
  go_wp2
  go_ret
  exact ⟨rfl, BW.out q6⟩
end Go.Proofs.Ytkjgkmndpbbagaa.Ac
