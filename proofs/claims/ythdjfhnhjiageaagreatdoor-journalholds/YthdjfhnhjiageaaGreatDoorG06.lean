import Derived.Test.YthdjfhnhjiageaaGreatDoorG05
set_option maxHeartbeats 8000000
set_option maxRecDepth 100000
namespace Go.Proofs.YthdjfhnhjiageaaGreatDoor.RkP
open Num AcP
def tierR (w:Int):Int × Int × Int:=if 1000000<w then (1000000,50,25) else if 100000<w then (100000,20,10) else (0,10,5)
def ofH (w n:Int):Int:=divUp (w*n) 100 true
def beg (w:Int):Int:=ofH w (tierR w).2.1
def goO (w:Int):Int:=ofH w (tierR w).2.2
def marFrom (x y:Int):List Int->List Int->Int × Int × Int
 |p::ps,m::ms=>if betw 0 m 10000=true then marFrom (x+beg (max p (-p)*m)) (y+goO (max p (-p)*m)) ps ms else (0,0,3)
 |_,_=>(x,y,0)
def marginsR (id bal:Int) (pos marks:List Int):Int × Int × Int :=
 if accErr id bal pos marks.length=0 then marFrom 0 0 pos marks else (0,0,accErr id bal pos marks.length)
def soundR (id bal:Int) (pos marks:List Int):Bool × Bool × Int :=
 if (marginsR id bal pos marks).2.2=0 then
  (if (equityR id bal pos marks).2=0 then (decide ((marginsR id bal pos marks).1<=(equityR id bal pos marks).1),decide ((marginsR id bal pos marks).2.1<=(equityR id bal pos marks).1),0)
  else (false,false,(equityR id bal pos marks).2))
 else (false,false,(marginsR id bal pos marks).2.2)
theorem tier_bd (w:Int):0<=(tierR w).2.1/\(tierR w).2.1<=100/\0<=(tierR w).2.2/\(tierR w).2.2<=(tierR w).2.1:=by
 unfold tierR;split
 ·decide
 ·split<;>decide
theorem ofH_bd {w n:Int}(h:0<=w)(hn:0<=n)(hn2:n<=100):0<=ofH w n/\ofH w n<=w:=by
 have h1:0<=w*n:=Int.mul_nonneg h hn;have h2:w*n<=w*100:=Int.mul_le_mul_of_nonneg_left hn2 h;unfold ofH divUp;rw [if_pos rfl];omega
theorem beg_bd {w:Int}(h:0<=w):0<=beg w/\beg w<=w:=ofH_bd h (tier_bd w).1 (tier_bd w).2.1
theorem goO_bd {w:Int}(h:0<=w):0<=goO w/\goO w<=w:=ofH_bd h (tier_bd w).2.2.1 (by have:=tier_bd w;omega)
theorem part_ofH {w n:Int}(h:0<=w)(h2:w<=10000000)(hn:0<=n)(hn2:n<=100):partR w n 100 true=(ofH w n,0):=by
 have b:=ofH_bd h hn hn2;unfold partR;rw [if_pos ⟨money_mk (by omega),betw_mk (by omega),by decide⟩];have:divUp (w*n) 100 true=ofH w n:=rfl;rw [this,if_pos (money_mk (by omega))]
theorem worth_bd {p m:Int}(hp:betw (-1000) p 1000=true)(hm:betw 0 m 10000=true):0<=max p (-p)*m/\max p (-p)*m<=10000000:=by
 have h1:=betw_true hp;have h2:=betw_true hm;have h3:0<=max p (-p):=by omega
 refine⟨Int.mul_nonneg h3 h2.1,?_⟩;exact Int.le_trans (Int.mul_le_mul_of_nonneg_left h2.2 h3) (by omega)
theorem marFrom_on {x y p m:Int}{ps ms:List Int}(hm:betw 0 m 10000=true):marFrom x y (p::ps) (m::ms)=marFrom (x+beg (max p (-p)*m)) (y+goO (max p (-p)*m)) ps ms:=by
 simp only [marFrom,hm,if_true]
theorem marFrom_bad {x y p m:Int}{ps ms:List Int}(hm:betw 0 m 10000=false):marFrom x y (p::ps) (m::ms)=(0,0,3):=by
 simp only [marFrom,hm];rfl
theorem marFrom_end {x y:Int}{ms:List Int}:marFrom x y [] ms=(x,y,0):=by simp [marFrom]
end Go.Proofs.YthdjfhnhjiageaaGreatDoor.RkP
namespace Go.Proofs.YthdjfhnhjiageaaGreatDoor.Rk
open Go.RowKit Num Fix AcP RkP Ac
def tab:List Int:=[0,10,5,100000,20,10,1000000,50,25]
def Laid (w:World):Prop:=∀i,i<9->w.cell? ⟨8,i,none⟩=some (.int .i64 (tab.getD i 0))
theorem Laid.below {w w':World}{B:Nat}(h:Laid w)(hb:Below B w w')(hB:8<B):Laid w':=fun i hi=>(hb.cell hB).trans (h i hi)
theorem Laid.size {w:World}(h:Laid w):8<w.heap.size:=World.block_lt_of_cell? _ _ (h 0 (by decide))
theorem Laid.next {w w':World}(h:Laid w)(hb:Below w.heap.size w w'):Laid w':=h.below hb h.size
abbrev tabV:Value:=.agg #[.int .i64 0,.int .i64 10,.int .i64 5,.int .i64 100000,.int .i64 20,.int .i64 10,.int .i64 1000000,.int .i64 50,.int .i64 25]
theorem tab0 (W:World):(Instr.index 291 tabV (.int .i64 0)).run Tryz.prog W=.ok (.agg #[.int .i64 0,.int .i64 10,.int .i64 5]) W:=by kernel_rfl
theorem tab1 (W:World):(Instr.index 291 tabV (.int .i64 1)).run Tryz.prog W=.ok (.agg #[.int .i64 100000,.int .i64 20,.int .i64 10]) W:=by kernel_rfl
theorem tab2 (W:World):(Instr.index 291 tabV (.int .i64 2)).run Tryz.prog W=.ok (.agg #[.int .i64 1000000,.int .i64 50,.int .i64 25]) W:=by kernel_rfl
theorem tierOf_any (wth:Int)(w:World)(h:Laid w) :
  Calls Tryz.prog 207 #[.int .i64 wth] w fun e w'=>e=.returned (.agg #[.int .i64 (tierR wth).1,.int .i64 (tierR wth).2.1,.int .i64 (tierR wth).2.2])/\Below w.heap.size w w':=by
 have c0:=h 0 (by decide);have c1:=h 1 (by decide);have c2:=h 2 (by decide);have c3:=h 3 (by decide);have c4:=h 4 (by decide);have c5:=h 5 (by decide);have c6:=h 6 (by decide);have c7:=h 7 (by decide);have c8:=h 8 (by decide);simp only [tab,List.getD_cons_zero,List.getD_cons_succ] at c0 c1 c2 c3 c4 c5 c6 c7 c8;have hz:=h.size;have i0:=tab0;have i1:=tab1;have i2:=tab2;clear h;by_cases h1:0<wth
 ·by_cases h2:100000<wth
  ·by_cases h3:1000000<wth;focus
    have e:tierR wth=(1000000,50,25):=by unfold tierR;first | (rw [if_pos (by omega)]) | (rw [if_neg (by omega),if_pos (by omega)]) | (rw [if_neg (by omega),if_neg (by omega)])
   rotate_left;focus
    have e:tierR wth=(100000,20,10):=by unfold tierR;first | (rw [if_pos (by omega)]) | (rw [if_neg (by omega),if_pos (by omega)]) | (rw [if_neg (by omega),if_neg (by omega)])
   rotate_left;all_goals
    rw [e];clear e;go_enter Tryz.func207,Tryz.ntmps207;go_wp2;refine wp_loop_rounds 4 ?_;rw [rounds_succ];go_wp2;rw [rounds_succ];go_wp2;rw [rounds_succ];go_wp2;rw [rounds_succ];go_wp2
   ·refine bodyPost_ret (v:=.agg #[.int .i64 1000000,.int .i64 50,.int .i64 25]) (by simp [results,Tryz.results207,go_sem]) rfl ⟨rfl,?_⟩;exact(below4 _ _ _ _ _).alloc (by simp;omega) _
   ·refine bodyPost_ret (v:=.agg #[.int .i64 100000,.int .i64 20,.int .i64 10]) (by simp [results,Tryz.results207,go_sem]) rfl ⟨rfl,?_⟩;exact(below4 _ _ _ _ _).alloc (by simp;omega) _
  ·have h3:¬1000000<wth:=by omega
   have e:tierR wth=(0,10,5):=by unfold tierR;first | (rw [if_pos (by omega)]) | (rw [if_neg (by omega),if_pos (by omega)]) | (rw [if_neg (by omega),if_neg (by omega)])
   rw [e];clear e;go_enter Tryz.func207,Tryz.ntmps207;go_wp2;refine wp_loop_rounds 4 ?_;rw [rounds_succ];go_wp2;rw [rounds_succ];go_wp2;rw [rounds_succ];go_wp2;rw [rounds_succ];go_wp2;refine bodyPost_ret (v:=.agg #[.int .i64 0,.int .i64 10,.int .i64 5]) (by simp [results,Tryz.results207,go_sem]) rfl ⟨rfl,?_⟩;exact(below4 _ _ _ _ _).alloc (by simp;omega) _
 ·have h2:¬100000<wth:=by omega
  have h3:¬1000000<wth:=by omega
  have e:tierR wth=(0,10,5):=by unfold tierR;first | (rw [if_pos (by omega)]) | (rw [if_neg (by omega),if_pos (by omega)]) | (rw [if_neg (by omega),if_neg (by omega)])
  rw [e];clear e;go_enter Tryz.func207,Tryz.ntmps207;go_wp2;refine wp_loop_rounds 4 ?_;rw [rounds_succ];go_wp2;rw [rounds_succ];go_wp2;rw [rounds_succ];go_wp2;rw [rounds_succ];go_wp2;refine bodyPost_ret (v:=.agg #[.int .i64 0,.int .i64 10,.int .i64 5]) (by simp [results,Tryz.results207,go_sem]) rfl ⟨rfl,?_⟩;exact(below4 _ _ _ _ _).alloc (by simp;omega) _
theorem ofHundred_any (x n:Int)(w:World)(h:0<=x)(h2:x<=10000000)(hn:0<=n)(hn2:n<=100) :
  Calls Tryz.prog 208 #[.int .i64 x,.int .i64 n] w fun e w'=>e=.returned (.int .i64 (ofH x n))/\∃k,w'=w.drewN k:=by
 have P:=hide (fun W=>part_any x n 100 true W);rw [part_ofH h h2 hn hn2] at P;clear h h2 hn hn2;go_enter Tryz.func208,Tryz.ntmps208;go_wp2_with fail;refine(P.out _).mono ?_;rintro e w' ⟨rfl,k,rfl⟩;go_wp2;go_ret;exact⟨rfl,_,rfl⟩
theorem cell_in {w w':World}{a:Addr}{v:Value}{B:Nat}(h:Below B w w')(hc:w.cell? a=some v)(hB:a.block<B):w'.cell? a=some v:=(h.cell hB).trans hc
theorem all_at {pos:List Int}{k:Nat}(h:pos.all pos1=true)(hk:k<pos.length):betw (-1000) (pos.getD k 0) 1000=true:=all_get h hk
theorem max_in {p:Int}(h:betw (-1000) p 1000=true):betw (-1000) (max p (-p)) 1000=true:=by
 have:=betw_true h;exact betw_mk (by omega)
theorem margins_in (id bal:Int)(b off b2 off2:Nat)(n c c2:Nat)(pos marks:List Int)(w:World)(hl:pos.length=n)(hl2:marks.length=n)(hn:n<=2)(hL:Laid w)(hp:pos.all pos1=true)
  (h:∀i,i<pos.length->w.cell? ⟨b,off+i,none⟩=some (.int .i64 (pos.getD i 0))) (h':∀i,i<marks.length->w.cell? ⟨b2,off2+i,none⟩=some (.int .i64 (marks.getD i 0))) (he:accErr id bal pos n=0) :
  Calls Tryz.prog 175 #[accV id bal (some ⟨b,off,none⟩) n c,.slice (some ⟨b2,off2,none⟩) n c2] w fun e w'=>e=.returned (.tuple #[.int .i64 (marFrom 0 0 pos marks).1,.int .i64 (marFrom 0 0 pos marks).2.1,.int .i64 (marFrom 0 0 pos marks).2.2])/\Below w.heap.size w w':=by
 have CK:=hide (fun W hW=>check_any id bal (some ⟨b,off,none⟩) n c pos n W hl (by omega) (row_below (.inr ⟨b,off,rfl,h⟩) hW));rw [he] at CK;clear he;generalize hT:marFrom 0 0 pos marks=T;have T0:Hid (marFrom 0 0 (pos.drop 0) (marks.drop 0)=T):=hT;have HC:=hide h;have HC2:=hide h';have HL:=hide hl;have HL2:=hide hl2;have LA:=hide hL;have AL:=hide (fun k hk=>all_at (k:=k) hp hk);clear h h' hT hl hl2 hL hp;go_enter Tryz.func175,Tryz.ntmps175;go_wp2_with fail;refine(CK.out _ (below_alloc w _)).mono ?_;rintro e W ⟨rfl,rfl⟩;go_wp2
 go_loopw [4,5,21] (fun u4 u5 i wr=>∃(k:Nat) (x y:Int),k<=n/\i=.int .i64 k/\u4=.int .i64 x/\u5=.int .i64 y/\0<=x/\x<=k*10000000/\0<=y/\y<=k*10000000/\Hid (Below w.heap.size w wr)/\wr.cell? ⟨w.heap.size,2,none⟩=some (.slice (some ⟨b,off,none⟩) n c)/\Hid (marFrom x y (pos.drop k) (marks.drop k)=T)) (fun _ _ i _=>n - (intOf i).toNat)
 case atStart =>
  refine⟨0,0,0,Nat.zero_le _,rfl,rfl,rfl,by omega,by omega,by omega,by omega,below_alloc2 _ _ _,?_,T0⟩;exact cell_alloc (new_cell w _ _ 2 _ rfl) _
 case round =>
  obtain⟨k,x,y,hk,rfl,rfl,rfl,x1,x2,y1,y2,BW,hbox,R⟩:=hrel;by_cases hlt:k<n
  ·have hltz:(k:Int)<(n:Int):=by omega
   have hkx:k<pos.length:=by rw [HL.out];exact hlt
   have hky:k<marks.length:=by rw [HL2.out];exact hlt
   have c0:=(BW.out.cell (World.block_lt_of_cell? _ _ (HC.out k hkx))).trans (HC.out k hkx);have c1:=(BW.out.cell (World.block_lt_of_cell? _ _ (HC2.out k hky))).trans (HC2.out k hky);have hin:=hide (AL.out k hkx);have RR:=R.out;rw [drop_get pos k hkx,drop_get marks k hky] at RR;have R':=hide RR;clear RR R T0;generalize pos.getD k 0=p at c0 R' hin;generalize marks.getD k 0=m at c1 R';have hpz:-1000<=p/\p<=1000:=betw_true hin.out;obtain⟨p1,p2⟩:=hpz;by_cases hw:betw 0 m 10000=true
   ·have WO:=hide (fun W=>worth_yes (max p (-p)) m W (max_in hin.out) hw);have ON:=hide ((marFrom_on hw).symm.trans R'.out);obtain⟨q1,q2⟩:=worth_bd hin.out hw;clear R' hw;generalize max p (-p)*m=v at WO ON q1 q2;go_wp2;go_quiet (first | (go_at_call 165;refine Calls.quiet_of_same (WO.out _)));have LW:=hide (LA.out.next (Go.below_drewN BW.out nq));go_wp2_with fail;refine(tierOf_any v _ LW.out).mono ?_;rintro e W1 ⟨rfl,hb1⟩;have BW1:=hide ((Go.below_drewN BW.out nq).trans (hb1.mono (Go.below_drewN BW.out nq).size));have hbox1:=cell_in hb1 (show (wr.drewN nq).cell? _=_ from hbox) (show _<(wr.drewN nq).heap.size from World.block_lt_of_cell? _ _ hbox);clear hb1 hbox;have tb:=tier_bd v;obtain⟨t1,t2,t3,t4⟩:=tb;have gb:=beg_bd q1;have gg:=goO_bd q1;have OH1:=hide (fun W=>ofHundred_any v (tierR v).2.1 W q1 q2 t1 t2);have OH2:=hide (fun W=>ofHundred_any v (tierR v).2.2 W q1 q2 t3 (by omega));rw [show ofH v (tierR v).2.1=beg v from rfl] at OH1;rw [show ofH v (tierR v).2.2=goO v from rfl] at OH2;obtain⟨g1,g2⟩:=gb;obtain⟨g3,g4⟩:=gg;clear t1 t2 t3 t4;generalize beg v=bv at ON OH1 g1 g2;generalize goO v=gv at ON OH2 g3 g4;generalize (tierR v).1=ta at OH1 OH2 ⊢;generalize (tierR v).2.1=tb at OH1 OH2 ⊢;generalize (tierR v).2.2=tc at OH1 OH2 ⊢;go_wp2_with fail;refine(OH1.out _).mono ?_;rintro e W2 ⟨rfl,k1,rfl⟩;go_wp2_with fail;refine(OH2.out _).mono ?_;rintro e W2 ⟨rfl,k2,rfl⟩;go_wp2;go_roundw
    case rel =>
     refine⟨k+1,x+bv,y+gv,by omega,by go_num,rfl,rfl,by omega,by omega,by omega,by omega,Go.below_drewN (BW1.out.alloc BW1.out.size _) _,?_,ON⟩;exact cell_alloc hbox1 _
    case measure=>simp [intOf];omega
   ·have hw':betw 0 m 10000=false:=by
     cases e:betw 0 m 10000
     ·rfl
     ·exact absurd e hw
    have WO:=hide (fun W=>worth_no (max p (-p)) m W (.inr hw'));have ON:=hide ((marFrom_bad hw').symm.trans R'.out);clear R' hw hw';go_wp2;go_quiet (first | (go_at_call 165;refine Calls.quiet_of_same (WO.out _)));go_wp2;refine bodyPost_ret (v:=.tuple #[.int .i64 0,.int .i64 0,.int .i64 3]) (by simp [results,Tryz.results175,go_sem]) rfl ?_;rw [<- ON.out];exact⟨rfl,Go.below_drewN BW.out _⟩
  ·have hkn:k=n:=by omega
   subst hkn;have ON:Hid ((x,y,0)=T):=by
    have:=R.out;rw [List.drop_eq_nil_of_le (by have:=HL.out;omega),marFrom_end] at this;exact this
   clear R T0;go_wp2;refine bodyPost_ret (v:=.tuple #[.int .i64 x,.int .i64 y,.int .i64 0]) (by simp [results,Tryz.results175,go_sem]) rfl ?_;rw [<- ON.out];exact⟨rfl,BW.out⟩
theorem margins_err (id bal:Int)(p p2:Option Addr)(n c n2 c2:Nat)(pos:List Int)(w:World)(hl:pos.length=n)(hn:n<=140737488351232)(h:Row w p pos)(he:¬accErr id bal pos n2=0) :
  Calls Tryz.prog 175 #[accV id bal p n c,.slice p2 n2 c2] w fun e w'=>e=.returned (.tuple #[.int .i64 0,.int .i64 0,.int .i64 (accErr id bal pos n2)])/\Below w.heap.size w w':=by
 have CK:=hide (fun W hW=>check_any id bal p n c pos n2 W hl hn (row_below h hW));clear h;generalize accErr id bal pos n2=r at he CK ⊢;go_enter Tryz.func175,Tryz.ntmps175;go_wp2_with fail;refine(CK.out _ (below_alloc w _)).mono ?_;rintro e W ⟨rfl,rfl⟩;go_wp2;refine bodyPost_ret (v:=.tuple #[.int .i64 0,.int .i64 0,.int .i64 r]) (by simp [results,Tryz.results175,go_sem]) rfl ?_;exact⟨rfl,below_alloc2 _ _ _⟩
theorem margins_any (id bal:Int)(p p2:Option Addr)(n c n2 c2:Nat)(pos marks:List Int)(w:World)(hl:pos.length=n)(hl2:marks.length=n2)(hn:n<=140737488351232)(hL:Laid w)(h:Row w p pos)(h':Row w p2 marks) :
  Calls Tryz.prog 175 #[accV id bal p n c,.slice p2 n2 c2] w fun e w'=>e=.returned (.tuple #[.int .i64 (marginsR id bal pos marks).1,.int .i64 (marginsR id bal pos marks).2.1,.int .i64 (marginsR id bal pos marks).2.2])/\Below w.heap.size w w':=by
 unfold marginsR;rw [hl2];by_cases he:accErr id bal pos n2=0
 ·rw [if_pos he];obtain⟨a1,a2,a3,a4,a5⟩:=accErr_ok he;have hb:=betw_true a2;have:n2=n:=by omega
  subst this;rcases h with rfl | ⟨b,off,rfl,hc⟩
  ·simp at hl;omega
  rcases h' with rfl | ⟨b2,off2,rfl,hc2⟩
  ·simp at hl2;omega
  exact margins_in id bal b off b2 off2 n2 c c2 pos marks w hl hl2 (by omega) hL a5 hc hc2 he
 ·rw [if_neg he];exact margins_err id bal p p2 n c n2 c2 pos w hl hn h he
theorem sound_any (id bal:Int)(p p2:Option Addr)(n c n2 c2:Nat)(pos marks:List Int)(w:World)(hl:pos.length=n)(hl2:marks.length=n2)(hn:n<=140737488351232)(hL:Laid w)(h:Row w p pos)(h':Row w p2 marks) :
  Calls Tryz.prog 133 #[accV id bal p n c,.slice p2 n2 c2] w fun e w'=>e=.returned (.tuple #[.bool (soundR id bal pos marks).1,.bool (soundR id bal pos marks).2.1,.int .i64 (soundR id bal pos marks).2.2])/\Below w.heap.size w w':=by
 have MA:=hide (fun W hW=>margins_any id bal p p2 n c n2 c2 pos marks W hl hl2 hn (hL.next hW) (row_below h hW) (row_below h' hW));have EQ:=hide (fun W hW=>equity_any id bal p p2 n c n2 c2 pos marks W hl hl2 hn (row_below h hW) (row_below h' hW));clear hL h h' hl hl2;unfold soundR;generalize marginsR id bal pos marks=M at MA ⊢;generalize equityR id bal pos marks=E at EQ ⊢;obtain⟨x,y,m⟩:=M;obtain⟨q,r⟩:=E;simp only [] at MA EQ ⊢;by_cases hm:m=0
 ·subst hm;rw [if_pos rfl];by_cases hr:r=0;focus
   subst hr;rw [if_pos rfl]
  rotate_left;focus
   rw [if_neg hr]
  rotate_left;all_goals
   go_enter Tryz.func133,Tryz.ntmps133;go_wp2_with fail;refine(MA.out _ (below_alloc w _)).mono ?_;rintro e W1 ⟨rfl,hb1⟩;have B1:=hide ((below_alloc w _).trans (hb1.mono (by simp)));have b0:=cell_in hb1 (new_cell w _ _ 0 _ rfl) (by simp);have b1:=cell_in hb1 (new_cell w _ _ 1 _ rfl) (by simp);have b2:=cell_in hb1 (new_cell w _ _ 2 _ rfl) (by simp);clear hb1;go_wp2_with fail;refine(EQ.out _ B1.out).mono ?_;rintro e W2 ⟨rfl,hb2⟩;have B2:=hide (B1.out.trans (hb2.mono B1.out.size));clear hb2 b0 b1 b2;go_wp2
  ·refine bodyPost_ret (v:=.tuple #[.bool (decide (x<=q)),.bool (decide (y<=q)),.int .i64 0]) (by simp [results,Tryz.results133,go_sem]) rfl ?_;exact⟨rfl,B2.out⟩
  ·refine bodyPost_ret (v:=.tuple #[.bool false,.bool false,.int .i64 r]) (by simp [results,Tryz.results133,go_sem]) rfl ?_;exact⟨rfl,B2.out⟩
 ·rw [if_neg hm];go_enter Tryz.func133,Tryz.ntmps133;go_wp2_with fail;refine(MA.out _ (below_alloc w _)).mono ?_;rintro e W1 ⟨rfl,hb1⟩;have B1:=hide ((below_alloc w _).trans (hb1.mono (by simp)));clear hb1;go_wp2;refine bodyPost_ret (v:=.tuple #[.bool false,.bool false,.int .i64 m]) (by simp [results,Tryz.results133,go_sem]) rfl ?_;exact⟨rfl,B1.out⟩
end Go.Proofs.YthdjfhnhjiageaaGreatDoor.Rk
