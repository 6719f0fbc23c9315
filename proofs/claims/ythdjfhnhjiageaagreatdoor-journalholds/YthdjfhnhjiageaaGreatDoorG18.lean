import Derived.Test.YthdjfhnhjiageaaGreatDoorG16
set_option maxHeartbeats 8000000
set_option maxRecDepth 100000
namespace Go.Proofs.YthdjfhnhjiageaaGreatDoor.Rm
open Go.RowKit Go.Sort Go.Maps Num Bk
theorem firstPrice_grow (p:Option Addr)(c:Nat)(xs:List Odr)(w:World)(h:ORow w p xs) :
  Calls Tryz.prog 206 #[.slice p xs.length c] w fun e w'=>e=.returned (.int .i64 (firstPrice xs))/\∃k os,w'=grow (w.drewN k) os :=
 (firstPrice_any p c xs w h).mono fun _ _ ⟨he,hw⟩=>⟨he,0,#[],by rw [hw,grow_empty];rfl⟩
theorem best_ok (p p':Option Addr)(c c':Nat)(bids asks:List Odr)(w:World)(h:ORow w p bids)(h':ORow w p' asks)(hR:Right bids asks) :
  Calls Tryz.prog 170 #[.agg #[.slice p bids.length c,.slice p' asks.length c']] w fun e w'=>e=.returned (.tuple #[.int .i64 (firstPrice bids),.int .i64 (firstPrice asks),.int .i64 0])/\Below w.heap.size w w':=by
 have mixed:Tryz.prog.follows .mixedOrders=true:=by kernel_rfl
 have hl:=hR.few;have CK:=hide (fun W hW=>check_any p p' c c' bids asks W (orow_below h hW) (orow_below h' hW) (by omega) (by omega));rw [bookErr_zero.2 hR] at CK;have FB:=hide (fun W hW=>firstPrice_grow p c bids W (orow_below h hW));have FA:=hide (fun W hW=>firstPrice_grow p' c' asks W (orow_below h' hW));clear h h' hR hl;generalize firstPrice bids=fb at FB ⊢;generalize firstPrice asks=fa at FA ⊢;generalize bids.length=nb at CK FB ⊢;generalize asks.length=na at CK FA ⊢;go_enter Tryz.func170,Tryz.ntmps170;go_wp2_with fail;refine(CK.out _ ((Below.refl _ w).alloc (Nat.le_refl _) _)).mono ?_;rintro e W ⟨rfl,hb⟩;have BW:=hide (((Below.refl _ w).alloc (Nat.le_refl _) (.cells #[.slice p nb c,.slice p' na c'] 94)).trans (hb.mono (by simp)));have e0:W.cell? ⟨w.heap.size,0,none⟩=some (.slice p nb c):=(hb.cell (by simp)).trans (Ac.new_cell _ _ _ _ _ rfl);have e1:W.cell? ⟨w.heap.size,1,none⟩=some (.slice p' na c'):=(hb.cell (by simp)).trans (Ac.new_cell _ _ _ _ _ rfl);have g0:=fun n os=>Go.cell_grown (World.block_lt_of_cell? _ _ e0) e0 n os;have g1:=fun n os=>Go.cell_grown (World.block_lt_of_cell? _ _ e1) e1 n os;have FB':=hide (fun n os=>FB.out (grow (W.drewN n) os) (BW.out.trans ((grow_below W n os).mono BW.out.size)));have FA':=hide (fun n os=>FA.out (grow (W.drewN n) os) (BW.out.trans ((grow_below W n os).mono BW.out.size)));clear hb CK FB FA e0 e1;go_wp2_with fail;refine wp_region_quiet_grown (by assumption) (by kernel_rfl) ?_;go_big_quiet_step (fail);go_big_quiet_step (fail);go_big_quiet_step (refine Calls.grown_of (FB'.out _ _));go_big_quiet_step (fail);go_big_quiet_step (fail);go_big_quiet_step (refine Calls.grown_of (FA'.out _ _));repeat (go_big_quiet_step (fail))
 refine wpQuiet_nil ?_;intro _ hwq;obtain⟨⟨nq,osq⟩,hwq'⟩:=hwq;subst hwq';go_wp2;go_ret3;exact⟨rfl,BW.out.trans ((grow_below W nq osq).mono BW.out.size)⟩
def bestB (bids asks:List Odr):Int:=if bookErr bids asks=0 then firstPrice bids else 0
def bestA (bids asks:List Odr):Int:=if bookErr bids asks=0 then firstPrice asks else 0
theorem best_all (p p':Option Addr)(c c':Nat)(bids asks:List Odr)(w:World)(h:ORow w p bids)(h':ORow w p' asks)(hn:bids.length<=140737488351232)(hn':asks.length<=140737488351232) :
  Calls Tryz.prog 170 #[.agg #[.slice p bids.length c,.slice p' asks.length c']] w fun e w'=>e=.returned (.tuple #[.int .i64 (bestB bids asks),.int .i64 (bestA bids asks),.int .i64 (bookErr bids asks)])/\Below w.heap.size w w':=by
 unfold bestB bestA;by_cases hb:bookErr bids asks=0
 ·rw [hb,if_pos rfl,if_pos rfl];exact best_ok p p' c c' bids asks w h h' (bookErr_zero.1 hb)
 ·rw [if_neg hb,if_neg hb];have CK:=hide (fun W hW=>check_any p p' c c' bids asks W (orow_below h hW) (orow_below h' hW) hn hn');generalize bookErr bids asks=eb at hb CK ⊢;generalize bids.length=nb at CK ⊢;generalize asks.length=na at CK ⊢;go_enter Tryz.func170,Tryz.ntmps170;go_wp2_with fail;refine(CK.out _ ((Below.refl _ w).alloc (Nat.le_refl _) _)).mono ?_;rintro e W ⟨rfl,hw⟩;have BX:=hide (((Below.refl _ w).alloc (Nat.le_refl _) _).trans (hw.mono (by simp)));clear hw;go_wp2;go_ret3;exact⟨rfl,BX.out⟩
abbrev mktV (p p':Option Addr) (nb c na c':Nat) (idx last:Int):Value:=.agg #[.slice p nb c,.slice p' na c',.int .i64 idx,.int .i64 last]
abbrev mktO (p p':Option Addr) (nb c na c':Nat) (idx last:Int):Obj:=.cells #[.slice p nb c,.slice p' na c',.int .i64 idx,.int .i64 last] 96
theorem checkMarket_any (p p':Option Addr)(c c':Nat)(bids asks:List Odr)(idx last:Int)(w:World)(h:ORow w p bids)(h':ORow w p' asks)(hn:bids.length<=140737488351232)(hn':asks.length<=140737488351232) :
  Calls Tryz.prog 83 #[mktV p p' bids.length c asks.length c' idx last] w fun e w'=>e=.returned (.int .i64 (marketErr bids asks idx last))/\Below w.heap.size w w':=by
 have CK:=hide (fun W hW=>check_any p p' c c' bids asks W (orow_below h hW) (orow_below h' hW) hn hn');clear h h' hn hn';by_cases hb:bookErr bids asks=0;focus
  by_cases h1:idx<1
  ·have e:marketErr bids asks idx last=3:=by
    unfold marketErr;rw [if_pos hb]
    first
     | (rw [if_pos ⟨betw_mk (by omega),betw_mk (by omega)⟩])
     | (rw [if_neg (by intro hh;have:=betw_true hh.1;have:=betw_true hh.2;omega)])
   rw [e];rw [hb] at CK;clear e hb;generalize bids.length=nb at CK ⊢;generalize asks.length=na at CK ⊢;go_enter Tryz.func83,Tryz.ntmps83;go_wp2_with fail;refine(CK.out _ ((Below.refl _ w).alloc (Nat.le_refl _) _)).mono ?_;rintro e W ⟨rfl,hw⟩;have BX:=hide (((Below.refl _ w).alloc (Nat.le_refl _) (mktO p p' nb c na c' idx last)).trans (hw.mono (by simp)));have e2:W.cell? ⟨w.heap.size,2,none⟩=some (.int .i64 idx):=(hw.cell (by simp)).trans (Ac.new_cell _ _ _ _ _ rfl);have e3:W.cell? ⟨w.heap.size,3,none⟩=some (.int .i64 last):=(hw.cell (by simp)).trans (Ac.new_cell _ _ _ _ _ rfl);clear hw;go_wp2;go_ret;exact⟨rfl,BX.out⟩
  by_cases h2:10000<idx
  ·have e:marketErr bids asks idx last=3:=by
    unfold marketErr;rw [if_pos hb]
    first
     | (rw [if_pos ⟨betw_mk (by omega),betw_mk (by omega)⟩])
     | (rw [if_neg (by intro hh;have:=betw_true hh.1;have:=betw_true hh.2;omega)])
   rw [e];rw [hb] at CK;clear e hb;generalize bids.length=nb at CK ⊢;generalize asks.length=na at CK ⊢;go_enter Tryz.func83,Tryz.ntmps83;go_wp2_with fail;refine(CK.out _ ((Below.refl _ w).alloc (Nat.le_refl _) _)).mono ?_;rintro e W ⟨rfl,hw⟩;have BX:=hide (((Below.refl _ w).alloc (Nat.le_refl _) (mktO p p' nb c na c' idx last)).trans (hw.mono (by simp)));have e2:W.cell? ⟨w.heap.size,2,none⟩=some (.int .i64 idx):=(hw.cell (by simp)).trans (Ac.new_cell _ _ _ _ _ rfl);have e3:W.cell? ⟨w.heap.size,3,none⟩=some (.int .i64 last):=(hw.cell (by simp)).trans (Ac.new_cell _ _ _ _ _ rfl);clear hw;go_wp2;go_ret;exact⟨rfl,BX.out⟩
  by_cases h3:last<0
  ·have e:marketErr bids asks idx last=3:=by
    unfold marketErr;rw [if_pos hb]
    first
     | (rw [if_pos ⟨betw_mk (by omega),betw_mk (by omega)⟩])
     | (rw [if_neg (by intro hh;have:=betw_true hh.1;have:=betw_true hh.2;omega)])
   rw [e];rw [hb] at CK;clear e hb;generalize bids.length=nb at CK ⊢;generalize asks.length=na at CK ⊢;go_enter Tryz.func83,Tryz.ntmps83;go_wp2_with fail;refine(CK.out _ ((Below.refl _ w).alloc (Nat.le_refl _) _)).mono ?_;rintro e W ⟨rfl,hw⟩;have BX:=hide (((Below.refl _ w).alloc (Nat.le_refl _) (mktO p p' nb c na c' idx last)).trans (hw.mono (by simp)));have e2:W.cell? ⟨w.heap.size,2,none⟩=some (.int .i64 idx):=(hw.cell (by simp)).trans (Ac.new_cell _ _ _ _ _ rfl);have e3:W.cell? ⟨w.heap.size,3,none⟩=some (.int .i64 last):=(hw.cell (by simp)).trans (Ac.new_cell _ _ _ _ _ rfl);clear hw;go_wp2;go_ret;exact⟨rfl,BX.out⟩
  by_cases h4:10000<last
  ·have e:marketErr bids asks idx last=3:=by
    unfold marketErr;rw [if_pos hb]
    first
     | (rw [if_pos ⟨betw_mk (by omega),betw_mk (by omega)⟩])
     | (rw [if_neg (by intro hh;have:=betw_true hh.1;have:=betw_true hh.2;omega)])
   rw [e];rw [hb] at CK;clear e hb;generalize bids.length=nb at CK ⊢;generalize asks.length=na at CK ⊢;go_enter Tryz.func83,Tryz.ntmps83;go_wp2_with fail;refine(CK.out _ ((Below.refl _ w).alloc (Nat.le_refl _) _)).mono ?_;rintro e W ⟨rfl,hw⟩;have BX:=hide (((Below.refl _ w).alloc (Nat.le_refl _) (mktO p p' nb c na c' idx last)).trans (hw.mono (by simp)));have e2:W.cell? ⟨w.heap.size,2,none⟩=some (.int .i64 idx):=(hw.cell (by simp)).trans (Ac.new_cell _ _ _ _ _ rfl);have e3:W.cell? ⟨w.heap.size,3,none⟩=some (.int .i64 last):=(hw.cell (by simp)).trans (Ac.new_cell _ _ _ _ _ rfl);clear hw;go_wp2;go_ret;exact⟨rfl,BX.out⟩
  have e:marketErr bids asks idx last=0:=by
   unfold marketErr;rw [if_pos hb]
   first
    | (rw [if_pos ⟨betw_mk (by omega),betw_mk (by omega)⟩])
    | (rw [if_neg (by intro hh;have:=betw_true hh.1;have:=betw_true hh.2;omega)])
  rw [e];rw [hb] at CK;clear e hb
 rotate_left;focus
  rw [show marketErr bids asks idx last=bookErr bids asks from by unfold marketErr;rw [if_neg hb]];generalize bookErr bids asks=eb at hb CK ⊢
 rotate_left;all_goals
  generalize bids.length=nb at CK ⊢;generalize asks.length=na at CK ⊢;go_enter Tryz.func83,Tryz.ntmps83;go_wp2_with fail;refine(CK.out _ ((Below.refl _ w).alloc (Nat.le_refl _) _)).mono ?_;rintro e W ⟨rfl,hw⟩;have BX:=hide (((Below.refl _ w).alloc (Nat.le_refl _) (mktO p p' nb c na c' idx last)).trans (hw.mono (by simp)))
 ·have e2:W.cell? ⟨w.heap.size,2,none⟩=some (.int .i64 idx):=(hw.cell (by simp)).trans (Ac.new_cell _ _ _ _ _ rfl);have e3:W.cell? ⟨w.heap.size,3,none⟩=some (.int .i64 last):=(hw.cell (by simp)).trans (Ac.new_cell _ _ _ _ _ rfl);clear hw;go_wp2;go_ret;exact⟨rfl,BX.out⟩
 ·clear hw;go_wp2;go_ret;exact⟨rfl,BX.out⟩
theorem between_any (a b c:Int)(w:World) :
  Calls Tryz.prog 171 #[.int .i64 a,.int .i64 b,.int .i64 c] w fun e w'=>e=.returned (.int .i64 (middleR a b c))/\w'=w:=by
 go_enter Tryz.func171,Tryz.ntmps171;go_wp2_with fail;refine(Fix.middle_any _ _ _ _).mono ?_;rintro e w' ⟨rfl,rfl⟩;go_wp2;go_ret;exact⟨rfl,rfl⟩
theorem tdiv_two {fb fa:Int}(h1:0<=fb)(h2:fb<=10000)(h3:0<=fa)(h4:fa<=10000):0<=(fb+fa).tdiv 2/\(fb+fa).tdiv 2<=10000:=by
 rw [Int.tdiv_eq_ediv_of_nonneg (by omega)];omega
theorem mark_any (p p':Option Addr)(c c':Nat)(bids asks:List Odr)(idx last:Int)(w:World)(h:ORow w p bids)(h':ORow w p' asks)(hn:bids.length<=140737488351232)(hn':asks.length<=140737488351232) :
  Calls Tryz.prog 129 #[mktV p p' bids.length c asks.length c' idx last] w fun e w'=>e=.returned (.tuple #[.int .i64 (markR bids asks idx last).1,.int .i64 (markR bids asks idx last).2])/\Below w.heap.size w w':=by
 have CK:=hide (fun W hW=>checkMarket_any p p' c c' bids asks idx last W (orow_below h hW) (orow_below h' hW) hn hn');have BE:=hide (fun W hW=>best_all p p' c c' bids asks W (orow_below h hW) (orow_below h' hW) hn hn');clear h h' hn hn';unfold markR;by_cases hm:marketErr bids asks idx last=0
 ·rw [if_pos hm];obtain⟨hb,hi,hl⟩:=marketErr_ok hm;have hR:=bookErr_zero.1 hb;have f1:=first_bd hR.b;have f2:=first_bd hR.a;rw [hm] at CK;unfold bestB bestA at BE;rw [hb,if_pos rfl,if_pos rfl] at BE;obtain⟨i1,i2⟩:=betw_true hi;obtain⟨l1,l2⟩:=betw_true hl;clear hm hR hi hl hb;generalize firstPrice bids=fb at BE f1 ⊢;generalize firstPrice asks=fa at BE f2 ⊢;generalize bids.length=nb at CK BE ⊢;generalize asks.length=na at CK BE ⊢;obtain⟨a1,a2⟩:=f1;obtain⟨a3,a4⟩:=f2;obtain⟨t1,t2⟩:=tdiv_two a1 a2 a3 a4;have t3:0<=idx.tdiv 20/\idx.tdiv 20<=10000:=by rw [Int.tdiv_eq_ediv_of_nonneg (by omega)];omega
  obtain⟨t3,t4⟩:=t3;generalize hM:markOf fb fa idx last=M;by_cases x1:fb=0;focus
   by_cases x3:last=0;focus
    have ON:Hid (middleR (idx - idx.tdiv 20) (middleR idx idx idx) (idx+idx.tdiv 20)=M):=by
     rw [<- hM];unfold markOf halfR lastR;rw [if_pos (.inl x1),(if_pos x3)];exact rfl
    clear hM;subst x1 x3;go_enter Tryz.func129,Tryz.ntmps129;go_wp2_with fail;refine(CK.out _ ((Below.refl _ w).alloc (Nat.le_refl _) _)).mono ?_;rintro e W ⟨rfl,hw⟩;have B1:=hide (((Below.refl _ w).alloc (Nat.le_refl _) (mktO p p' nb c na c' idx 0)).trans (hw.mono (by simp)));have e0:W.cell? ⟨w.heap.size,0,none⟩=some (.slice p nb c):=(hw.cell (by simp)).trans (Ac.new_cell _ _ _ _ _ rfl);have e1:W.cell? ⟨w.heap.size,1,none⟩=some (.slice p' na c'):=(hw.cell (by simp)).trans (Ac.new_cell _ _ _ _ _ rfl);have e2:W.cell? ⟨w.heap.size,2,none⟩=some (.int .i64 idx):=(hw.cell (by simp)).trans (Ac.new_cell _ _ _ _ _ rfl);have e3:W.cell? ⟨w.heap.size,3,none⟩=some (.int .i64 0):=(hw.cell (by simp)).trans (Ac.new_cell _ _ _ _ _ rfl);clear hw;go_wp2_with fail;refine(BE.out _ B1.out).mono ?_;rintro e W2 ⟨rfl,hw⟩;have B2:=hide (B1.out.trans (hw.mono B1.out.size));have e2:=(hw.cell (World.block_lt_of_cell? _ _ e2)).trans e2;have e3:=(hw.cell (World.block_lt_of_cell? _ _ e3)).trans e3;clear hw e0 e1;go_wp2;go_quiet (fail);obtain⟨W3,hW3⟩:∃W3,W3=W2.drewN nq:=⟨_,rfl⟩;rw [<- hW3];have e2:W3.cell? ⟨w.heap.size,2,none⟩=some (.int .i64 idx):=by rw [hW3];exact e2
    have e3:W3.cell? ⟨w.heap.size,3,none⟩=some (.int .i64 0):=by rw [hW3];exact e3
   rotate_left;focus
    have ON:Hid (middleR (idx - idx.tdiv 20) (middleR idx idx last) (idx+idx.tdiv 20)=M):=by
     rw [<- hM];unfold markOf halfR lastR;rw [if_pos (.inl x1),(if_neg x3)];exact rfl
    clear hM;subst x1;go_enter Tryz.func129,Tryz.ntmps129;go_wp2_with fail;refine(CK.out _ ((Below.refl _ w).alloc (Nat.le_refl _) _)).mono ?_;rintro e W ⟨rfl,hw⟩;have B1:=hide (((Below.refl _ w).alloc (Nat.le_refl _) (mktO p p' nb c na c' idx last)).trans (hw.mono (by simp)));have e0:W.cell? ⟨w.heap.size,0,none⟩=some (.slice p nb c):=(hw.cell (by simp)).trans (Ac.new_cell _ _ _ _ _ rfl);have e1:W.cell? ⟨w.heap.size,1,none⟩=some (.slice p' na c'):=(hw.cell (by simp)).trans (Ac.new_cell _ _ _ _ _ rfl);have e2:W.cell? ⟨w.heap.size,2,none⟩=some (.int .i64 idx):=(hw.cell (by simp)).trans (Ac.new_cell _ _ _ _ _ rfl);have e3:W.cell? ⟨w.heap.size,3,none⟩=some (.int .i64 last):=(hw.cell (by simp)).trans (Ac.new_cell _ _ _ _ _ rfl);clear hw;go_wp2_with fail;refine(BE.out _ B1.out).mono ?_;rintro e W2 ⟨rfl,hw⟩;have B2:=hide (B1.out.trans (hw.mono B1.out.size));have e2:=(hw.cell (World.block_lt_of_cell? _ _ e2)).trans e2;have e3:=(hw.cell (World.block_lt_of_cell? _ _ e3)).trans e3;clear hw e0 e1;go_wp2;go_quiet (fail);obtain⟨W3,hW3⟩:∃W3,W3=W2.drewN nq:=⟨_,rfl⟩;rw [<- hW3];have e2:W3.cell? ⟨w.heap.size,2,none⟩=some (.int .i64 idx):=by rw [hW3];exact e2
    have e3:W3.cell? ⟨w.heap.size,3,none⟩=some (.int .i64 last):=by rw [hW3];exact e3
  rotate_left 2;focus
   by_cases x2:fa=0;focus
    by_cases x3:last=0;focus
     have ON:Hid (middleR (idx - idx.tdiv 20) (middleR idx idx idx) (idx+idx.tdiv 20)=M):=by
      rw [<- hM];unfold markOf halfR lastR;rw [if_pos (.inr x2),(if_pos x3)];exact rfl
     clear hM;subst x2 x3;go_enter Tryz.func129,Tryz.ntmps129;go_wp2_with fail;refine(CK.out _ ((Below.refl _ w).alloc (Nat.le_refl _) _)).mono ?_;rintro e W ⟨rfl,hw⟩;have B1:=hide (((Below.refl _ w).alloc (Nat.le_refl _) (mktO p p' nb c na c' idx 0)).trans (hw.mono (by simp)));have e0:W.cell? ⟨w.heap.size,0,none⟩=some (.slice p nb c):=(hw.cell (by simp)).trans (Ac.new_cell _ _ _ _ _ rfl);have e1:W.cell? ⟨w.heap.size,1,none⟩=some (.slice p' na c'):=(hw.cell (by simp)).trans (Ac.new_cell _ _ _ _ _ rfl);have e2:W.cell? ⟨w.heap.size,2,none⟩=some (.int .i64 idx):=(hw.cell (by simp)).trans (Ac.new_cell _ _ _ _ _ rfl);have e3:W.cell? ⟨w.heap.size,3,none⟩=some (.int .i64 0):=(hw.cell (by simp)).trans (Ac.new_cell _ _ _ _ _ rfl);clear hw;go_wp2_with fail;refine(BE.out _ B1.out).mono ?_;rintro e W2 ⟨rfl,hw⟩;have B2:=hide (B1.out.trans (hw.mono B1.out.size));have e2:=(hw.cell (World.block_lt_of_cell? _ _ e2)).trans e2;have e3:=(hw.cell (World.block_lt_of_cell? _ _ e3)).trans e3;clear hw e0 e1;go_wp2;go_quiet (fail);obtain⟨W3,hW3⟩:∃W3,W3=W2.drewN nq:=⟨_,rfl⟩;rw [<- hW3];have e2:W3.cell? ⟨w.heap.size,2,none⟩=some (.int .i64 idx):=by rw [hW3];exact e2
     have e3:W3.cell? ⟨w.heap.size,3,none⟩=some (.int .i64 0):=by rw [hW3];exact e3
    rotate_left;focus
     have ON:Hid (middleR (idx - idx.tdiv 20) (middleR idx idx last) (idx+idx.tdiv 20)=M):=by
      rw [<- hM];unfold markOf halfR lastR;rw [if_pos (.inr x2),(if_neg x3)];exact rfl
     clear hM;subst x2;go_enter Tryz.func129,Tryz.ntmps129;go_wp2_with fail;refine(CK.out _ ((Below.refl _ w).alloc (Nat.le_refl _) _)).mono ?_;rintro e W ⟨rfl,hw⟩;have B1:=hide (((Below.refl _ w).alloc (Nat.le_refl _) (mktO p p' nb c na c' idx last)).trans (hw.mono (by simp)));have e0:W.cell? ⟨w.heap.size,0,none⟩=some (.slice p nb c):=(hw.cell (by simp)).trans (Ac.new_cell _ _ _ _ _ rfl);have e1:W.cell? ⟨w.heap.size,1,none⟩=some (.slice p' na c'):=(hw.cell (by simp)).trans (Ac.new_cell _ _ _ _ _ rfl);have e2:W.cell? ⟨w.heap.size,2,none⟩=some (.int .i64 idx):=(hw.cell (by simp)).trans (Ac.new_cell _ _ _ _ _ rfl);have e3:W.cell? ⟨w.heap.size,3,none⟩=some (.int .i64 last):=(hw.cell (by simp)).trans (Ac.new_cell _ _ _ _ _ rfl);clear hw;go_wp2_with fail;refine(BE.out _ B1.out).mono ?_;rintro e W2 ⟨rfl,hw⟩;have B2:=hide (B1.out.trans (hw.mono B1.out.size));have e2:=(hw.cell (World.block_lt_of_cell? _ _ e2)).trans e2;have e3:=(hw.cell (World.block_lt_of_cell? _ _ e3)).trans e3;clear hw e0 e1;go_wp2;go_quiet (fail);obtain⟨W3,hW3⟩:∃W3,W3=W2.drewN nq:=⟨_,rfl⟩;rw [<- hW3];have e2:W3.cell? ⟨w.heap.size,2,none⟩=some (.int .i64 idx):=by rw [hW3];exact e2
     have e3:W3.cell? ⟨w.heap.size,3,none⟩=some (.int .i64 last):=by rw [hW3];exact e3
   rotate_left 2;focus
    have y1:(fb != 0)=true:=by simp [x1]
    have y2:(fa != 0)=true:=by simp [x2]
    by_cases x3:last=0;focus
     have ON:Hid (middleR (idx - idx.tdiv 20) (middleR idx ((fb+fa).tdiv 2) idx) (idx+idx.tdiv 20)=M):=by
      rw [<- hM];unfold markOf halfR lastR;rw [if_neg (fun hh=>hh.elim x1 x2),(if_pos x3)];exact rfl
     clear hM;subst x3;go_enter Tryz.func129,Tryz.ntmps129;go_wp2_with fail;refine(CK.out _ ((Below.refl _ w).alloc (Nat.le_refl _) _)).mono ?_;rintro e W ⟨rfl,hw⟩;have B1:=hide (((Below.refl _ w).alloc (Nat.le_refl _) (mktO p p' nb c na c' idx 0)).trans (hw.mono (by simp)));have e0:W.cell? ⟨w.heap.size,0,none⟩=some (.slice p nb c):=(hw.cell (by simp)).trans (Ac.new_cell _ _ _ _ _ rfl);have e1:W.cell? ⟨w.heap.size,1,none⟩=some (.slice p' na c'):=(hw.cell (by simp)).trans (Ac.new_cell _ _ _ _ _ rfl);have e2:W.cell? ⟨w.heap.size,2,none⟩=some (.int .i64 idx):=(hw.cell (by simp)).trans (Ac.new_cell _ _ _ _ _ rfl);have e3:W.cell? ⟨w.heap.size,3,none⟩=some (.int .i64 0):=(hw.cell (by simp)).trans (Ac.new_cell _ _ _ _ _ rfl);clear hw;go_wp2_with fail;refine(BE.out _ B1.out).mono ?_;rintro e W2 ⟨rfl,hw⟩;have B2:=hide (B1.out.trans (hw.mono B1.out.size));have e2:=(hw.cell (World.block_lt_of_cell? _ _ e2)).trans e2;have e3:=(hw.cell (World.block_lt_of_cell? _ _ e3)).trans e3;clear hw e0 e1;go_wp2;go_quiet (fail);obtain⟨W3,hW3⟩:∃W3,W3=W2.drewN nq:=⟨_,rfl⟩;rw [<- hW3];have e2:W3.cell? ⟨w.heap.size,2,none⟩=some (.int .i64 idx):=by rw [hW3];exact e2
     have e3:W3.cell? ⟨w.heap.size,3,none⟩=some (.int .i64 0):=by rw [hW3];exact e3
    rotate_left;focus
     have ON:Hid (middleR (idx - idx.tdiv 20) (middleR idx ((fb+fa).tdiv 2) last) (idx+idx.tdiv 20)=M):=by
      rw [<- hM];unfold markOf halfR lastR;rw [if_neg (fun hh=>hh.elim x1 x2),(if_neg x3)];exact rfl
     clear hM;go_enter Tryz.func129,Tryz.ntmps129;go_wp2_with fail;refine(CK.out _ ((Below.refl _ w).alloc (Nat.le_refl _) _)).mono ?_;rintro e W ⟨rfl,hw⟩;have B1:=hide (((Below.refl _ w).alloc (Nat.le_refl _) (mktO p p' nb c na c' idx last)).trans (hw.mono (by simp)));have e0:W.cell? ⟨w.heap.size,0,none⟩=some (.slice p nb c):=(hw.cell (by simp)).trans (Ac.new_cell _ _ _ _ _ rfl);have e1:W.cell? ⟨w.heap.size,1,none⟩=some (.slice p' na c'):=(hw.cell (by simp)).trans (Ac.new_cell _ _ _ _ _ rfl);have e2:W.cell? ⟨w.heap.size,2,none⟩=some (.int .i64 idx):=(hw.cell (by simp)).trans (Ac.new_cell _ _ _ _ _ rfl);have e3:W.cell? ⟨w.heap.size,3,none⟩=some (.int .i64 last):=(hw.cell (by simp)).trans (Ac.new_cell _ _ _ _ _ rfl);clear hw;go_wp2_with fail;refine(BE.out _ B1.out).mono ?_;rintro e W2 ⟨rfl,hw⟩;have B2:=hide (B1.out.trans (hw.mono B1.out.size));have e2:=(hw.cell (World.block_lt_of_cell? _ _ e2)).trans e2;have e3:=(hw.cell (World.block_lt_of_cell? _ _ e3)).trans e3;clear hw e0 e1;go_wp2;go_quiet (fail);obtain⟨W3,hW3⟩:∃W3,W3=W2.drewN nq:=⟨_,rfl⟩;rw [<- hW3];have e2:W3.cell? ⟨w.heap.size,2,none⟩=some (.int .i64 idx):=by rw [hW3];exact e2
     have e3:W3.cell? ⟨w.heap.size,3,none⟩=some (.int .i64 last):=by rw [hW3];exact e3
  all_goals
   have B3:Hid (Below w.heap.size w W3):=by rw [hW3];exact Go.below_drewN B2.out _
   clear hW3 B2;go_wp2;go_quiet (first | (go_at_call 172;refine Calls.quiet_of_same (Fix.middle_any _ _ _ _)) | (go_at_call 171;refine Calls.quiet_of_same (between_any _ _ _ _)));go_wp2;go_ret2;rw [<- ON.out];exact⟨rfl,Go.below_drewN B3.out _⟩
 ·rw [if_neg hm];clear BE;generalize marketErr bids asks idx last=r at hm CK ⊢;generalize bids.length=nb at CK ⊢;generalize asks.length=na at CK ⊢;go_enter Tryz.func129,Tryz.ntmps129;go_wp2_with fail;refine(CK.out _ ((Below.refl _ w).alloc (Nat.le_refl _) _)).mono ?_;rintro e W ⟨rfl,hw⟩;have B1:=hide (((Below.refl _ w).alloc (Nat.le_refl _) (mktO p p' nb c na c' idx last)).trans (hw.mono (by simp)));clear hw;go_wp2;go_ret2;exact⟨rfl,B1.out⟩
theorem breakEven_any (rest q:Int)(w:World)(h0:¬q=0)(h1:-1000<=q)(h2:q<=1000) :
  Calls Tryz.prog 223 #[.int .i64 rest,.int .i64 q] w fun e w'=>e=.returned (.tuple #[.int .i64 (evenR rest q),.int .i64 0])/\∃k,w'=w.drewN k:=by
 have M:=money_true (mid_money rest);by_cases hq:0<q;focus
  have P:=hide (fun W=>Fix.part_any (-(middleR (-1000000000000) rest 1000000000000)) 1 q true W);rw [even_up hq h2] at P
 rotate_left;focus
  have P:=hide (fun W=>Fix.part_any (middleR (-1000000000000) rest 1000000000000) 1 (-q) false W);rw [even_down (by omega) h1] at P
 all_goals
  have BT:=hide (fun W=>between_any (-1000000000000) rest 1000000000000 W);generalize evenR rest q=T at P ⊢;generalize middleR (-1000000000000) rest 1000000000000=m at P M BT;obtain⟨m1,m2⟩:=M;go_enter Tryz.func223,Tryz.ntmps223;go_wp2_with fail;refine(BT.out _).mono ?_;rintro e w' ⟨rfl,rfl⟩;go_wp2_with fail;refine(P.out _).mono ?_;rintro e w' ⟨rfl,k,rfl⟩;go_wp2;go_ret2;exact⟨rfl,_,rfl⟩
end Go.Proofs.YthdjfhnhjiageaaGreatDoor.Rm
namespace Go.Proofs.YthdjfhnhjiageaaGreatDoor.Rm
open Go.RowKit Num Fix AcP RkP Ac Rk
theorem worths_in:∀(ps ms l:List Int),worths ps ms=some l->∀i,i<ps.length->i<ms.length->betw (-1000) (ps.getD i 0) 1000=true/\betw 0 (ms.getD i 0) 10000=true
 |[],_,_,_,i,hi,_=>by simp at hi
 |_::_,[],_,_,i,_,hi=>by simp at hi
 |p::ps,m::ms,l,h,i,h1,h2=>by
  simp only [worths] at h;split at h
  ·rename_i hc
   cases hw:worths ps ms with
   |none=>rw [hw] at h;cases h
   |some l' =>
    cases i with
    |zero=>simpa using hc
    |succ i=>simpa using worths_in ps ms l' hw i (by simpa using h1) (by simpa using h2)
  ·cases h
theorem addFrom_money:∀(l:List Int)(s n:Int),money s=true->addFrom s l=(n,0)->money n=true
 |[],s,n,hs,h=>by
  simp [addFrom] at h;rw [<- h];exact hs
 |x::l,s,n,hs,h=>by
  simp only [addFrom] at h
  split at h
  ·split at h
   ·rename_i h2
    exact addFrom_money l _ n h2 h
   ·simp at h
  ·simp at h
theorem equity_facts {id bal:Int}{pos marks:List Int}(h:(equityR id bal pos marks).2=0) :
  accErr id bal pos marks.length=0/\pos.length=marks.length/\money (equityR id bal pos marks).1=true/\∀i,i<pos.length->betw (-1000) (pos.getD i 0) 1000=true/\betw 0 (marks.getD i 0) 10000=true:=by
 unfold equityR at *;by_cases he:accErr id bal pos marks.length=0
 ·rw [if_pos he] at h ⊢;obtain⟨a1,a2,a3,a4,a5⟩:=accErr_ok he;have hlen:pos.length=marks.length:=by omega
  cases hw:worths pos marks with
  |none=>rw [hw] at h;simp at h
  |some l =>
   rw [hw] at h;simp only [] at h ⊢;refine⟨he,hlen,?_,fun i hi=>worths_in pos marks l hw i hi (by omega)⟩;exact addFrom_money (bal::l) 0 _ (by decide) (Prod.ext rfl h)
 ·rw [if_neg he] at h;exact absurd h he
theorem bankrupt_any (id bal:Int)(p p2:Option Addr)(n c n2 c2:Nat)(pos marks:List Int)(mk:Int)(w:World)(hl:pos.length=n)(hl2:marks.length=n2)(hn:n<=140737488351232)(h:Row w p pos)(h':Row w p2 marks) :
  Calls Tryz.prog 209 #[accV id bal p n c,.slice p2 n2 c2,.int .i64 mk] w fun e w'=>e=.returned (.tuple #[.int .i64 (bankR id bal pos marks mk).1,.int .i64 (bankR id bal pos marks mk).2])/\Below w.heap.size w w':=by
 have EQ:=hide (fun W hW=>equity_any id bal p p2 n c n2 c2 pos marks W hl hl2 hn (row_below h hW) (row_below h' hW));unfold bankR;by_cases he:(equityR id bal pos marks).2=0
 ·rw [if_pos he];obtain⟨-,f1,f2,f3⟩:=equity_facts he;obtain⟨q1,q2⟩:=money_true f2;clear f2;generalize equityR id bal pos marks=E at he EQ q1 q2 ⊢;obtain⟨eq,r⟩:=E;simp only [] at he EQ q1 q2 ⊢;subst he;by_cases hm:betw 0 mk (pos.length-1)=true
  ·rw [if_pos hm];obtain⟨m1,m2⟩:=betw_true hm;obtain⟨k,rfl⟩:∃k:Nat,mk=k:=⟨mk.toNat,by omega⟩;have hk:k<pos.length:=by omega
   obtain⟨g1,g2⟩:=f3 k hk;have e1:((k:Int)).toNat=k:=by omega
   rw [e1];clear e1 f3;rcases h with rfl | ⟨b,off,rfl,hc⟩
   ·simp at hk
   rcases h' with rfl | ⟨bb,off2,rfl,hc2⟩
   ·rw [f1] at hk;simp at hk
   have c0:=hide (hc k hk);have c1:=hide (hc2 k (by omega));clear hc hc2;have hkn:(k:Int)<(n:Int):=by omega
   have hkn2:(k:Int)<(n2:Int):=by omega
   have hk0:¬(k:Int)<0:=by omega
   have hk1:¬(n:Int)<=(k:Int):=by omega
   generalize pos.getD k 0=q at c0 g1 ⊢;generalize marks.getD k 0=m at c1 g2 ⊢;obtain⟨g3,g4⟩:=betw_true g1;by_cases hq:q=0;focus
    rw [if_pos hq];subst hq;clear hm f1 hl hl2 m1 m2 hk
   rotate_left;focus
    rw [if_neg hq];have BE:=hide (fun W=>breakEven_any (eq - q*m) q W hq g3 g4);have BT:=hide (fun W=>between_any 1 (evenR (eq - q*m) q) 10000 W);have hb:=mul_bd (n:=q) (a:=m) (by omega) (by have:=betw_true g2;omega);obtain⟨z1,z2⟩:=hb;have z3:-10000000<=q*m/\q*m<=10000000:=by
     have:=worth_bd g1 g2;have h3:max q (-q)*m=q*m\/max q (-q)*m = -(q*m):=by
      by_cases hs:0<=q
      ·left;rw [show max q (-q)=q by omega]
      ·right;rw [show max q (-q) = -q by omega,Int.neg_mul]
     omega
    obtain⟨z3,z4⟩:=z3;clear hm f1 hl hl2 m1 m2 hk g1 g2 z1 z2;generalize evenR (eq - q*m) q=T at BE BT ⊢;generalize middleR 1 T 10000=T2 at BT ⊢
   rotate_left;all_goals
    let p:Option Addr:=some ⟨b,off,none⟩;go_enter Tryz.func209,Tryz.ntmps209;go_wp2_with fail;refine(EQ.out _ (below_alloc w _)).mono ?_;rintro e W1 ⟨rfl,hb1⟩;have B1:=hide ((below_alloc w (accO id bal p n c)).trans (hb1.mono (by simp)));have b2:=cell_in hb1 (new_cell w _ _ 2 _ rfl) (by simp);clear hb1;have c0':=(B1.out.cell (World.block_lt_of_cell? _ _ c0.out)).trans c0.out
   ·go_wp2;go_ret2;exact⟨rfl,B1.out⟩
   ·have c1':=(B1.out.cell (World.block_lt_of_cell? _ _ c1.out)).trans c1.out;go_wp2_with fail;refine(BE.out _).mono ?_;rintro e W2 ⟨rfl,k2,rfl⟩;go_wp2_with fail;refine(BT.out _).mono ?_;rintro e W2 ⟨rfl,rfl⟩;go_wp2;go_ret2;exact⟨rfl,Go.below_drewN B1.out _⟩
  ·rw [if_neg hm];have hm':betw 0 mk ((pos.length:Int)-1)=false:=by
    cases e:betw 0 mk ((pos.length:Int)-1)
    ·rfl
    ·exact absurd e hm
   have hm2:=betw_false hm';clear hm hm' h h' f3;by_cases h0:mk<0;rotate_left;focus
    have h1:(n:Int)<=mk:=by omega
   all_goals
    go_enter Tryz.func209,Tryz.ntmps209;go_wp2_with fail;refine(EQ.out _ (below_alloc w _)).mono ?_;rintro e W1 ⟨rfl,hb1⟩;have B1:=hide ((below_alloc w (accO id bal p n c)).trans (hb1.mono (by simp)));have b2:=cell_in hb1 (new_cell w _ _ 2 _ rfl) (by simp);clear hb1;go_wp2;go_ret2;exact⟨rfl,B1.out⟩
 ·rw [if_neg he];generalize equityR id bal pos marks=E at he EQ ⊢;obtain⟨eq,r⟩:=E;simp only [] at he EQ ⊢;clear h h';go_enter Tryz.func209,Tryz.ntmps209;go_wp2_with fail;refine(EQ.out _ (below_alloc w _)).mono ?_;rintro e W1 ⟨rfl,hb1⟩;have B1:=hide ((below_alloc w (accO id bal p n c)).trans (hb1.mono (by simp)));have b2:=cell_in hb1 (new_cell w _ _ 2 _ rfl) (by simp);clear hb1;go_wp2;go_ret2;exact⟨rfl,B1.out⟩
end Go.Proofs.YthdjfhnhjiageaaGreatDoor.Rm
namespace Go.Proofs.YthdjfhnhjiageaaGreatDoor.Rm
open Go.RowKit Num Fix Ac Rk
abbrev Mkt:=(Option Addr × Nat × List Bk.Odr) × (Option Addr × Nat × List Bk.Odr) × Int × Int
abbrev mB (m:Mkt):List Bk.Odr:=m.1.2.2
abbrev mA (m:Mkt):List Bk.Odr:=m.2.1.2.2
abbrev mI (m:Mkt):Int:=m.2.2.1
abbrev mL (m:Mkt):Int:=m.2.2.2
def mCells (m:Mkt):List Value:=[.slice m.1.1 (mB m).length m.1.2.1,.slice m.2.1.1 (mA m).length m.2.1.2.1,.int .i64 (mI m),.int .i64 (mL m)]
def mOk (w:World) (m:Mkt):Prop:=Bk.ORow w m.1.1 (mB m)/\Bk.ORow w m.2.1.1 (mA m)/\(mB m).length<=140737488351232/\(mA m).length<=140737488351232
def MRow (w:World) (p:Option Addr) (ms:List Mkt):Prop :=
 (ms=[]\/∃b off,p=some ⟨b,off,none⟩/\∀j,j<ms.length->∀i v,(mCells ms[j]!)[i]? = some v->w.cell? ⟨b,off+j*4+i,none⟩=some v)/\∀j,j<ms.length->mOk w ms[j]!
theorem mOk_below {w w':World}{m:Mkt}(h:mOk w m)(hb:Below w.heap.size w w'):mOk w' m:=⟨Bk.orow_below h.1 hb,Bk.orow_below h.2.1 hb,h.2.2⟩
def mMark (m:Mkt):Int × Int:=markR (mB m) (mA m) (mI m) (mL m)
def marksFrom (L:List Int):List Mkt->List Int × Int
 |[]=>(L,0)
 |m::r=>if (mMark m).2=0 then marksFrom (L++[(mMark m).1]) r else ([],(mMark m).2)
def marksR (ms:List Mkt):List Int × Int:=if 1<=ms.length/\ms.length<=2 then marksFrom [] ms else ([],2)
theorem drop_mkt (ms:List Mkt)(k:Nat)(h:k<ms.length):ms.drop k=ms[k]! :: ms.drop (k+1):=by
 rw [List.drop_eq_getElem_cons h,getElem!_pos _ k h]
theorem own_under {w w':World}{B n:Nat}{v:Value}{xs:List Value}(h:w.ownsRow B 3 1 v n xs)(hb:Below w.heap.size w w'):w'.ownsRow B 3 1 v n xs:=by
 refine⟨h.1,?_⟩;rcases h.2 with e | ⟨g,cap,cur,e,hB,hg,rest⟩
 ·exact .inl e
 ·exact .inr ⟨g,cap,cur,e,hB,(hb.block g (Array.getElem?_eq_some_iff.1 hg).1).trans hg,rest⟩
theorem marks_in (b off n c:Nat)(ms:List Mkt)(w:World)(hl:ms.length=n)(h1:1<=n)(h2:n<=2)(h:MRow w (some ⟨b,off,none⟩) ms) :
  Calls Tryz.prog 132 #[.slice (some ⟨b,off,none⟩) n c] w fun e w'=>∃v,e=.returned (.tuple #[v,.int .i64 (marksFrom [] ms).2])/\w'.ownsRow w.heap.size 3 1 v (marksFrom [] ms).1.length ((marksFrom [] ms).1.map (Value.int .i64))/\Below w.heap.size w w':=by
 obtain⟨i0,hi,hz0,hz1,hz2⟩:=info_parts (show (Tryz.prog.info? 3).map (fun i=>(i.zero,i.size,i.bytes))=some (some (.int .i64 0),1,8) by kernel_rfl);generalize hT:marksFrom [] ms=T;have T0:Hid (marksFrom [] (ms.drop 0)=T):=hT;have HL:=hide hl;have HC:Hid (∀j,j<ms.length->∀i v,(mCells ms[j]!)[i]? = some v->w.cell? ⟨b,off+j*4+i,none⟩=some v):=by
  rcases h.1 with e | ⟨b',off',e,hc⟩
  ·rw [e] at hl;simp at hl;omega
  ·cases e;exact hc
 have HO:=hide h.2;have z1:¬(n:Int)<1:=by omega
 have z2:¬2<(n:Int):=by omega
 clear h hT hl;go_enter Tryz.func132,Tryz.ntmps132;go_wp2
 go_loopw [4,19] (fun v i wr=>∃(k:Nat) (L:List Int),k<=n/\i=.int .i64 k/\Hid (L.length=k)/\Hid (wr.ownsRow w.heap.size 3 1 v k (L.map (Value.int .i64)))/\Hid (Below w.heap.size w wr)/\Hid (marksFrom L (ms.drop k)=T)) (fun _ i _=>n - (intOf i).toNat)
 case atStart =>
  exact⟨0,[],Nat.zero_le _,rfl,rfl,World.ownsRow_nil _ _ _ _,Below.refl _ _,T0⟩
 case round =>
  obtain⟨k,L,hk,rfl,LL,OW,BW,R⟩:=hrel;by_cases hlt:k<n
  ·have hltz:(k:Int)<(n:Int):=by omega
   have hkx:k<ms.length:=by rw [HL.out];exact hlt
   have hm:=mOk_below (HO.out k hkx) BW.out;have hc:=HC.out k hkx;have RR:=R.out;rw [drop_mkt ms k hkx] at RR;generalize ms[k]! = m at hm hc RR;obtain⟨⟨p,cb,bids⟩,⟨p',ca,asks⟩,idx,last⟩:=m;obtain⟨o1,o2,o3,o4⟩:=hm;simp only [] at o1 o2 o3 o4;have c0:=(BW.out.cell (World.block_lt_of_cell? _ _ (hc 0 _ rfl))).trans (hc 0 _ rfl);have c1:=(BW.out.cell (World.block_lt_of_cell? _ _ (hc 1 _ rfl))).trans (hc 1 _ rfl);have c2:=(BW.out.cell (World.block_lt_of_cell? _ _ (hc 2 _ rfl))).trans (hc 2 _ rfl);have c3:=(BW.out.cell (World.block_lt_of_cell? _ _ (hc 3 _ rfl))).trans (hc 3 _ rfl);simp only [mB,mA,mI,mL,Nat.add_zero] at c0 c1 c2 c3;have MK:=hide (mark_any p p' cb ca bids asks idx last (wr.alloc (mktO p p' bids.length cb asks.length ca idx last)) (Bk.orow_below o1 (below_alloc wr _)) (Bk.orow_below o2 (below_alloc wr _)) o3 o4);have R':=hide RR;clear RR R T0 hc o1 o2 o3 o4;have e0:mMark ((p,cb,bids),(p',ca,asks),idx,last)=markR bids asks idx last:=rfl;simp only [marksFrom,e0] at R';clear e0;generalize markR bids asks idx last=M at MK R';generalize bids.length=nb at MK c0;generalize asks.length=na at MK c1;obtain⟨mv,me⟩:=M;simp only [] at MK R';by_cases hme:me=0
   ·subst hme;rw [if_pos rfl] at R';go_wp2_with fail;refine MK.out.mono ?_;rintro e W1 ⟨rfl,hb1⟩;have O1:=hide (own_under (own_under OW.out (below_alloc wr (mktO p p' nb cb na ca idx last))) hb1);have B1:=hide ((BW.out.alloc BW.out.size (mktO p p' nb cb na ca idx last)).trans (hb1.mono (Nat.le_trans BW.out.size (by simp))));have NW:=hide (one_new W1 mv);have SZ1:Hid (w.heap.size<=(W1.alloc (.cells #[.int .i64 mv] 3)).heap.size):=by
     have:=B1.out.size;show _<=_;simp;omega
    clear hb1;go_wp2_with (first | (at_builtin;refine wpList_append_own _ rfl (.tmp 31) (.tmp 33) 87 rfl w.heap.size 3 i0 (.int .i64 0) 1 8 Tryz.underlying87 hi hz0 hz1 hz2 rfl (by decide) u4 k (L.map (Value.int .i64)) rfl (O1.out.alloc _) ⟨W1.heap.size,0,none⟩ 1 1 [.int .i64 mv] rfl rfl NW.out (Ac.one_cell _) (by unfold maxLen;omega) (by omega) SZ1.out ?_;intro v' w1 hown1 hgrow1 hnil1;clear hnil1));have B2:=((B1.out.alloc B1.out.size (.cells #[.int .i64 mv] 3)).grown hgrow1 (by have:=B1.out.size;simp;omega) (fun j hj=>by have:=(O1.out.lt _ hj).1;omega));go_roundw
    case rel =>
     refine⟨k+1,L++[mv],by omega,by go_num,?_,?_,B2,R'⟩
     ·show _=_;rw [List.length_append,LL.out];rfl
     ·show World.ownsRow _ _ _ _ _ _ _;rw [List.map_append];exact hown1
    case measure=>simp [intOf];omega
   ·rw [if_neg hme] at R';go_wp2_with fail;refine MK.out.mono ?_;rintro e W1 ⟨rfl,hb1⟩;go_wp2;refine bodyPost_ret (v:=.tuple #[.slice none 0 0,.int .i64 me]) (by simp [results,Tryz.results132,go_sem]) rfl ?_;refine⟨_,by rw [<- R'.out],by rw [<- R'.out];exact World.ownsRow_nil _ _ _ _,?_⟩;exact(BW.out.alloc BW.out.size _).trans (hb1.mono (Nat.le_trans BW.out.size (by simp)))
  ·have hkn:k=n:=by omega
   subst hkn;have ON:Hid ((L,0)=T):=by
    have:=R.out;rw [List.drop_eq_nil_of_le (by have:=HL.out;omega)] at this;exact this
   clear R T0;go_wp2;refine bodyPost_ret (v:=.tuple #[_,.int .i64 0]) (by simp [results,Tryz.results132,go_sem];rfl) rfl ?_;rw [<- ON.out];exact⟨_,rfl,by rw [LL.out];exact OW.out,BW.out⟩
theorem marks_any (p:Option Addr)(n c:Nat)(ms:List Mkt)(w:World)(hl:ms.length=n)(h:MRow w p ms) :
  Calls Tryz.prog 132 #[.slice p n c] w fun e w'=>∃v,e=.returned (.tuple #[v,.int .i64 (marksR ms).2])/\w'.ownsRow w.heap.size 3 1 v (marksR ms).1.length ((marksR ms).1.map (Value.int .i64))/\Below w.heap.size w w':=by
 unfold marksR;by_cases hn:1<=ms.length/\ms.length<=2
 ·rw [if_pos hn];have h':=h;rcases h'.1 with e | ⟨b,off,rfl,-⟩
  ·rw [e] at hn;simp at hn
  ·exact marks_in b off n c ms w hl (by omega) (by omega) h
 ·rw [if_neg hn];by_cases h1:(n:Int)<1;rotate_left;focus
   have h2:2<(n:Int):=by omega
  all_goals
   go_enter Tryz.func132,Tryz.ntmps132;go_wp2;refine bodyPost_ret (v:=.tuple #[.slice none 0 0,.int .i64 2]) (by simp [results,Tryz.results132,go_sem]) rfl ?_;exact⟨_,rfl,World.ownsRow_nil _ _ _ _,Below.refl _ _⟩
end Go.Proofs.YthdjfhnhjiageaaGreatDoor.Rm
