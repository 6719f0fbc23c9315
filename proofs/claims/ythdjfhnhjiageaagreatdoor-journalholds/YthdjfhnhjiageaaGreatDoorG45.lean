import Derived.Test.YthdjfhnhjiageaaGreatDoorG44
import Derived.Test.YthdjfhnhjiageaaGreatDoorG03
set_option maxHeartbeats 8000000
set_option maxRecDepth 100000
namespace Go.Proofs.YthdjfhnhjiageaaGreatDoor.Tx
open Go.RowKit Go.Lib Go.Sort Mix
theorem wp_region_inC {P:Program}{id:Nat}{Q:Exit->Act->World->Prop}{a:Act}{w:World}{l:List Oper}(C:World->Prop)(hm:P.follows .mixedOrders=true)(hB:Region.lexB .any l.toArray=true)(hC:C w.drew)
  (h:wpQuiet P l.toArray (fun x=>∃p:InC C,x=p.w) (fun a'=>∀w',(∃p:InC C,w'=p.w)->Q .normal a' w') l a):(Code.region id l.toArray true).wp P Q a w :=
 wp_region_quiet (C:=fun x=>∃p:InC C,x=p.w) hm hB ⟨⟨_,hC⟩,rfl⟩ (by simpa using h)
theorem calls_inC {P:Program}{f:FuncId}{args:Array Value}{C:World->Prop}{v:Value}(hs:∀x y,C x->Below x.heap.size x y->C y)(p:InC C)
  (h:Calls P f args p.w fun e w'=>e=.returned v/\Below p.w.heap.size p.w w'):Calls P f args p.w fun e w''=>e=.returned v/\∃p':InC C,w''=p'.w :=
 h.mono fun _ w' ⟨he,hb⟩=>⟨he,⟨w',hs _ _ p.h hb⟩,rfl⟩
theorem cd_cells {c:Cd}{B:Nat}{W X:World}(h:W.heap[B]? = some (.cells #[.int .i64 c.kind,.int .i64 c.ac,.int .i64 c.mkt,.int .i64 c.n,.int .i64 c.oi,.int .i64 c.oa,.int .i64 c.sd,.int .i64 c.pr,.int .i64 c.qt,.int .i64 c.how,.bool c.red] 28 (0,0)))(hb:Below W.heap.size W X)(i:Nat){v:Value}
  (hv:#[Value.int .i64 c.kind,.int .i64 c.ac,.int .i64 c.mkt,.int .i64 c.n,.int .i64 c.oi,.int .i64 c.oa,.int .i64 c.sd,.int .i64 c.pr,.int .i64 c.qt,.int .i64 c.how,.bool c.red][i]? = some v):X.cell? ⟨B,i,none⟩=some v:=by
 have h2:X.heap[B]? = W.heap[B]?:=hb.block B (Array.getElem?_eq_some_iff.1 h).1;rw [h] at h2;simp only [World.cell?,h2];exact hv
abbrev CdAt (W:World) (B:Nat) (c:Cd):Prop:=W.heap[B]? = some (.cells #[.int .i64 c.kind,.int .i64 c.ac,.int .i64 c.mkt,.int .i64 c.n,.int .i64 c.oi,.int .i64 c.oa,.int .i64 c.sd,.int .i64 c.pr,.int .i64 c.qt,.int .i64 c.how,.bool c.red] 28 (0,0))
theorem cdAt_below {W X:World}{B:Nat}{c:Cd}(h:CdAt W B c)(hb:Below W.heap.size W X):CdAt X B c:=by
 show X.heap[B]? = _;rw [hb.block B (Array.getElem?_eq_some_iff.1 h).1];exact h
theorem cd_inC {C:World->Prop}{W:World}{B:Nat}{c:Cd}(hC:∀q:InC C,Below W.heap.size W q.w)(h:CdAt W B c):(∀q:InC C,q.w.cell? ⟨B,0,none⟩=some (.int .i64 c.kind))/\(∀q:InC C,q.w.cell? ⟨B,1,none⟩=some (.int .i64 c.ac))/\(∀q:InC C,q.w.cell? ⟨B,2,none⟩=some (.int .i64 c.mkt))/\(∀q:InC C,q.w.cell? ⟨B,3,none⟩=some (.int .i64 c.n))/\(∀q:InC C,q.w.cell? ⟨B,4,none⟩=some (.int .i64 c.oi))/\(∀q:InC C,q.w.cell? ⟨B,5,none⟩=some (.int .i64 c.oa))/\(∀q:InC C,q.w.cell? ⟨B,6,none⟩=some (.int .i64 c.sd))/\(∀q:InC C,q.w.cell? ⟨B,7,none⟩=some (.int .i64 c.pr))/\(∀q:InC C,q.w.cell? ⟨B,8,none⟩=some (.int .i64 c.qt))/\(∀q:InC C,q.w.cell? ⟨B,9,none⟩=some (.int .i64 c.how))/\(∀q:InC C,q.w.cell? ⟨B,10,none⟩=some (.bool c.red)) :=
 ⟨fun q=>cd_cells h (hC q) 0 rfl,fun q=>cd_cells h (hC q) 1 rfl,fun q=>cd_cells h (hC q) 2 rfl,fun q=>cd_cells h (hC q) 3 rfl,fun q=>cd_cells h (hC q) 4 rfl,fun q=>cd_cells h (hC q) 5 rfl,fun q=>cd_cells h (hC q) 6 rfl,fun q=>cd_cells h (hC q) 7 rfl,fun q=>cd_cells h (hC q) 8 rfl,fun q=>cd_cells h (hC q) 9 rfl,fun q=>cd_cells h (hC q) 10 rfl⟩
theorem cd_all {X:World}{B:Nat}{c:Cd}(h:CdAt X B c):X.cell? ⟨B,0,none⟩=some (.int .i64 c.kind)/\X.cell? ⟨B,1,none⟩=some (.int .i64 c.ac)/\X.cell? ⟨B,2,none⟩=some (.int .i64 c.mkt)/\X.cell? ⟨B,3,none⟩=some (.int .i64 c.n)/\X.cell? ⟨B,4,none⟩=some (.int .i64 c.oi)/\X.cell? ⟨B,5,none⟩=some (.int .i64 c.oa)/\X.cell? ⟨B,6,none⟩=some (.int .i64 c.sd)/\X.cell? ⟨B,7,none⟩=some (.int .i64 c.pr)/\X.cell? ⟨B,8,none⟩=some (.int .i64 c.qt)/\X.cell? ⟨B,9,none⟩=some (.int .i64 c.how)/\X.cell? ⟨B,10,none⟩=some (.bool c.red):=by
 simp [World.cell?,h]
theorem cd_frz {X:World}{B:Nat}{c:Cd}(h:CdAt X B c):X.frozen? ⟨B,0,none⟩=false/\X.frozen? ⟨B,1,none⟩=false/\X.frozen? ⟨B,2,none⟩=false/\X.frozen? ⟨B,3,none⟩=false/\X.frozen? ⟨B,4,none⟩=false/\X.frozen? ⟨B,5,none⟩=false/\X.frozen? ⟨B,6,none⟩=false/\X.frozen? ⟨B,7,none⟩=false/\X.frozen? ⟨B,8,none⟩=false/\X.frozen? ⟨B,9,none⟩=false/\X.frozen? ⟨B,10,none⟩=false:=by
 simp [World.frozen?,h]
theorem eqT {k n:Int}(h:k=n):(k == n)=true:=by simp [h]
theorem bs_cases (x:Bs):x=[]\/∃a l,x=a::l:=by
 cases x with
 |nil=>exact .inl rfl
 |cons a l=>exact .inr ⟨a,l,rfl⟩
theorem side_wrap {sd:Int}(h:i64 sd):atW [wSell,[],wBuy,[],[],[],[],[]] (IntKind.i64.wrap (sd+1))=atW sidesL (sd+1):=by
 unfold i64 at h;by_cases hm:sd=9223372036854775807
 ·subst hm;rfl
 ·rw [IntWalk.i64_in (sd+1) ⟨by omega,by omega⟩];rfl
theorem check_any (c:Cd)(w:World)(hf:i64 c.sd):Calls Tryz.prog 46 #[cdV c] w fun e w'=>e=.returned (.int .i64 (checkC c))/\Below w.heap.size w w':=by
 have mixed:Tryz.prog.follows .mixedOrders=true:=by kernel_rfl
 obtain⟨R,hR⟩:∃R,R=checkC c:=⟨_,rfl⟩;rw [<- hR];unfold checkC at hR;have eq:=eqC c (usedC c);obtain⟨kind,ac,mkt,n,oi,oa,sd,pr,qt,how,red⟩:=c;obtain⟨u,hu⟩:∃u,u=usedC ⟨kind,ac,mkt,n,oi,oa,sd,pr,qt,how,red⟩:=⟨_,rfl⟩;have US:=hide (fun w=>used_any ⟨kind,ac,mkt,n,oi,oa,sd,pr,qt,how,red⟩ w);rw [<- hu] at eq hR US;obtain⟨W,hW⟩:∃W,W=w.alloc (cdO ⟨kind,ac,mkt,n,oi,oa,sd,pr,qt,how,red⟩):=⟨_,rfl⟩;have AT:CdAt W w.heap.size ⟨kind,ac,mkt,n,oi,oa,sd,pr,qt,how,red⟩:=by show W.heap[w.heap.size]? = _;rw [hW];exact heap_alloc_new w _
 have BW:Hid (Below w.heap.size w W):=by rw [hW];exact below_alloc w _
 have HW:=hide hW;have HR:=hide hR;clear hu hW hR;dsimp only at HR;have hC:∀q:InC (fun x=>Below W.heap.size W x),Below W.heap.size W q.w:=fun q=>q.h;generalize hCC:(fun x=>Below W.heap.size W x)=C at hC;have CS:∀x y,C x->Below x.heap.size x y->C y:=by rw [<- hCC];exact fun x y hx hy=>onward hx hy
 have C0:Hid (C W.drew):=by rw [<- hCC];exact(Below.refl _ W).drew
 have CB:=hide hC;obtain⟨k0,k1,k2,k3,k4,k5,k6,k7,k8,k9,k10⟩:=cd_inC hC AT;dsimp only at k0 k1 k2 k3 k4 k5 k6 k7 k8 k9 k10;have K1:=hide (fun q:InC C=>calls_inC CS q (kinds_any q.w));have K2:=hide (fun q:InC C=>calls_inC CS q (at_any [] wDeposit wWithdraw wPlace wCancel wIndex wFund wSweep kind q.w));obtain⟨kw,hkw⟩:∃kw,kw=atW kindsL kind:=⟨_,rfl⟩;have e1:atW [[],wDeposit,wWithdraw,wPlace,wCancel,wIndex,wFund,wSweep] kind=kw:=hkw.symm;rw [e1] at K2;rw [<- hkw] at HR;clear hC hCC CS hkw e1;go_enter Tryz.func46,Tryz.ntmps46;go_wp2_with (rw [<- HW.out]);refine wp_region_inC C mixed (by kernel_rfl) C0.out ?_;repeat (go_big_quiet_step (first | (go_at_call 47;refine K1.out _) | (go_at_call 48;refine K2.out _) | exact rfl))
 refine wpQuiet_nil ?_;intro _ hwq;obtain⟨q6,hwq'⟩:=hwq;subst hwq';have HC1:=hide (CB.out q6);obtain⟨X,hX⟩:∃X,X=q6.w:=⟨_,rfl⟩;rw [<- hX] at HC1 ⊢;clear hX k0 k1 k2 k3 k4 k5 k6 k7 k8 k9 k10 K1 K2 CB C0;clear q6;clear C;rcases bs_cases kw with rfl | ⟨ka,kl,rfl⟩
 ·have hR4:Hid (R=4):=by have:=HR.out;rw [if_pos rfl] at this;exact this
  clear HR;go_wp2;go_ret;exact⟨by rw [hR4.out];rfl,onward BW.out HC1.out⟩
 have HR1:Hid (R=if kind=3/\(atW howsL how=[]\/atW sidesL (sd+1)=[]) then 4 else if sameC ⟨kind,ac,mkt,n,oi,oa,sd,pr,qt,how,red⟩ u=true then 0 else 3):=by have:=HR.out;rw [if_neg (by simp)] at this;exact this
 have AX:=cdAt_below AT HC1.out;have BX:=hide (onward BW.out HC1.out);clear HR AT BW HC1;by_cases h3:kind=3;focus
  subst h3;obtain⟨hw,hhw⟩:∃hw,hw=atW howsL how:=⟨_,rfl⟩;obtain⟨t,ht⟩:∃t,IntKind.i64.wrap (sd+1)=t:=⟨_,rfl⟩;obtain⟨sw,hsw⟩:∃sw,sw=atW sidesL (sd+1):=⟨_,rfl⟩;have e2:atW [wSell,[],wBuy,[],[],[],[],[]] t=sw:=by rw [<- ht,side_wrap hf,hsw]
  have e3:atW [[],wLimit,wNow,wWhole,wPost,[],[],[]] how=hw:=hhw.symm;rw [<- hhw,<- hsw] at HR1;have hC:∀q:InC (fun x=>Below X.heap.size X x),Below X.heap.size X q.w:=fun q=>q.h;generalize hCC:(fun x=>Below X.heap.size X x)=C at hC;have CS:∀x y,C x->Below x.heap.size x y->C y:=by rw [<- hCC];exact fun x y hx hy=>onward hx hy
  have C0:Hid (C X.drew):=by rw [<- hCC];exact(Below.refl _ X).drew
  have CB:=hide hC;obtain⟨kind,hkind⟩:∃kind:Int,kind=3:=⟨_,rfl⟩;rw [<- hkind] at AX;obtain⟨k0,k1,k2,k3,k4,k5,k6,k7,k8,k9,k10⟩:=cd_inC hC AX;dsimp only at k0 k1 k2 k3 k4 k5 k6 k7 k8 k9 k10;rw [hkind] at AX;simp only [hkind] at k0;clear hkind;have K1:=hide (fun q:InC C=>calls_inC CS q (hows_any q.w));have K2:=hide (fun q:InC C=>calls_inC CS q (at_any [] wLimit wNow wWhole wPost [] [] [] how q.w));have K3:=hide (fun q:InC C=>calls_inC CS q (sides_any q.w));have K4:=hide (fun q:InC C=>calls_inC CS q (at_any wSell [] wBuy [] [] [] [] [] t q.w));rw [e3] at K2;rw [e2] at K4;clear hC hCC CS hhw hsw e2 e3 hf;rcases bs_cases hw with rfl | ⟨ha,hl,rfl⟩
  ·have hR4:Hid (R=4):=by have:=HR1.out;rw [if_pos ⟨rfl,.inl rfl⟩] at this;exact this
   go_wp2_with fail;refine wp_region_inC C mixed (by kernel_rfl) C0.out ?_;iterate 8 (go_big_quiet_step (first | (go_at_call 69;refine K1.out _) | (go_at_call 48;refine K2.out _) | exact rfl))
   repeat (go_big_quiet_step (first | (go_at_call 70;refine K3.out _) | (go_at_call 48;refine K4.out _) | exact rfl))
   refine wpQuiet_nil ?_;rintro _ ⟨q6,rfl⟩;have B2:=hide (onward BX.out (CB.out q6));clear HR1;go_wp2;go_ret;exact⟨by rw [hR4.out];rfl,B2.out⟩
  rcases bs_cases sw with rfl | ⟨sa,sl,rfl⟩
  ·have hR4:Hid (R=4):=by have:=HR1.out;rw [if_pos ⟨rfl,.inr rfl⟩] at this;exact this
   go_wp2_with fail;refine wp_region_inC C mixed (by kernel_rfl) C0.out ?_;iterate 8 (go_big_quiet_step (first | (go_at_call 69;refine K1.out _) | (go_at_call 48;refine K2.out _) | exact rfl))
   repeat (go_big_quiet_step (first | (go_at_call 70;refine K3.out _) | (go_at_call 48;refine K4.out _) | exact rfl))
   refine wpQuiet_nil ?_;rintro _ ⟨q6,rfl⟩;have B2:=hide (onward BX.out (CB.out q6));clear HR1;go_wp2;go_ret;exact⟨by rw [hR4.out];rfl,B2.out⟩
  have HR2:Hid (R=if sameC ⟨3,ac,mkt,n,oi,oa,sd,pr,qt,how,red⟩ u=true then 0 else 3):=by have:=HR1.out;rw [if_neg (by simp)] at this;exact this
  clear HR1;go_wp2_with fail;refine wp_region_inC C mixed (by kernel_rfl) C0.out ?_;iterate 8 (go_big_quiet_step (first | (go_at_call 69;refine K1.out _) | (go_at_call 48;refine K2.out _) | exact rfl))
  repeat (go_big_quiet_step (first | (go_at_call 70;refine K3.out _) | (go_at_call 48;refine K4.out _) | exact rfl))
  refine wpQuiet_nil ?_;rintro _ ⟨q6,rfl⟩;have HC1:=hide (CB.out q6);obtain⟨Y,hY⟩:∃Y,Y=q6.w:=⟨_,rfl⟩;rw [<- hY] at HC1 ⊢;have AY:=cdAt_below AX HC1.out;have BY:=hide (onward BX.out HC1.out);clear hY k0 k1 k2 k3 k4 k5 k6 k7 k8 k9 k10 K1 K2 K3 K4 CB C0 AX BX HC1 ht;clear q6;clear C;clear X;obtain⟨X,hX⟩:∃X,X=Y:=⟨_,rfl⟩;subst hX;have AX:=AY;have BX:=BY;clear AY BY;obtain⟨kind,hkind⟩:∃kind:Int,kind=3:=⟨_,rfl⟩;rw [<- hkind] at AX eq US;have HR3:Hid (R=if sameC ⟨kind,ac,mkt,n,oi,oa,sd,pr,qt,how,red⟩ u=true then 0 else 3):=by rw [hkind];exact HR2.out
  clear hkind HR2;have HR2:=HR3;clear HR3;have hC:∀q:InC (fun x=>Below X.heap.size X x),Below X.heap.size X q.w:=fun q=>q.h;generalize hCC:(fun x=>Below X.heap.size X x)=C at hC;have CS:∀x y,C x->Below x.heap.size x y->C y:=by rw [<- hCC];exact fun x y hx hy=>onward hx hy
  have C0:Hid (C X.drew):=by rw [<- hCC];exact(Below.refl _ X).drew
  have CB:=hide hC;obtain⟨k0,k1,k2,k3,k4,k5,k6,k7,k8,k9,k10⟩:=cd_inC hC AX;dsimp only at k0 k1 k2 k3 k4 k5 k6 k7 k8 k9 k10;have K5:=hide (fun q:InC C=>calls_inC CS q (US.out q.w));clear hC hCC CS US;cases hs:sameC ⟨kind,ac,mkt,n,oi,oa,sd,pr,qt,how,red⟩ u
  focus
   have hR3:Hid (R=3):=by have:=HR2.out;rw [hs] at this;exact this
  rotate_left;focus
   have hR3:Hid (R=0):=by have:=HR2.out;rw [hs] at this;exact this
 rotate_left 2;focus
  have h3b:(kind == 3)=false:=by simpa using h3
  have HR2:Hid (R=if sameC ⟨kind,ac,mkt,n,oi,oa,sd,pr,qt,how,red⟩ u=true then 0 else 3):=by have:=HR1.out;rw [if_neg (fun h=>h3 h.1)] at this;exact this
  clear HR1;have hC:∀q:InC (fun x=>Below X.heap.size X x),Below X.heap.size X q.w:=fun q=>q.h;generalize hCC:(fun x=>Below X.heap.size X x)=C at hC;have CS:∀x y,C x->Below x.heap.size x y->C y:=by rw [<- hCC];exact fun x y hx hy=>onward hx hy
  have C0:Hid (C X.drew):=by rw [<- hCC];exact(Below.refl _ X).drew
  have CB:=hide hC;obtain⟨k0,k1,k2,k3,k4,k5,k6,k7,k8,k9,k10⟩:=cd_inC hC AX;dsimp only at k0 k1 k2 k3 k4 k5 k6 k7 k8 k9 k10;clear hC hCC CS;go_wp2_with fail;refine wp_region_inC C mixed (by kernel_rfl) C0.out ?_;repeat (go_big_quiet_step (exact rfl))
  refine wpQuiet_nil ?_;rintro _ ⟨q6,rfl⟩;have HC1:=hide (CB.out q6);obtain⟨Y,hY⟩:∃Y,Y=q6.w:=⟨_,rfl⟩;rw [<- hY] at HC1 ⊢;have AY:=cdAt_below AX HC1.out;have BY:=hide (onward BX.out HC1.out);clear hY k0 k1 k2 k3 k4 k5 k6 k7 k8 k9 k10 CB C0 AX BX HC1;clear q6;clear C;clear X;obtain⟨X,hX⟩:∃X,X=Y:=⟨_,rfl⟩;subst hX;have AX:=AY;have BX:=BY;clear AY BY;have hC:∀q:InC (fun x=>Below X.heap.size X x),Below X.heap.size X q.w:=fun q=>q.h;generalize hCC:(fun x=>Below X.heap.size X x)=C at hC;have CS:∀x y,C x->Below x.heap.size x y->C y:=by rw [<- hCC];exact fun x y hx hy=>onward hx hy
  have C0:Hid (C X.drew):=by rw [<- hCC];exact(Below.refl _ X).drew
  have CB:=hide hC;obtain⟨k0,k1,k2,k3,k4,k5,k6,k7,k8,k9,k10⟩:=cd_inC hC AX;dsimp only at k0 k1 k2 k3 k4 k5 k6 k7 k8 k9 k10;have K5:=hide (fun q:InC C=>calls_inC CS q (US.out q.w));clear hC hCC CS US;cases hs:sameC ⟨kind,ac,mkt,n,oi,oa,sd,pr,qt,how,red⟩ u
  focus
   have hR3:Hid (R=3):=by have:=HR2.out;rw [hs] at this;exact this
  rotate_left;focus
   have hR3:Hid (R=0):=by have:=HR2.out;rw [hs] at this;exact this
 all_goals
  rw [hs] at eq;clear HR2 hs;go_wp2_with fail;refine wp_region_inC C mixed (by kernel_rfl) C0.out ?_;repeat (go_big_quiet_step (first | (go_at_call 71;refine K5.out _) | exact rfl))
  refine wpQuiet_nil ?_;rintro _ ⟨q6,rfl⟩;have B2:=hide (onward BX.out (CB.out q6));go_wp2;go_ret;exact⟨by rw [hR3.out];rfl,B2.out⟩
def orderB (c:Cd):Bs:=(atW sidesL (c.sd+1)++32::(itoa c.qt++32::itoa c.pr))++(32::atW howsL c.how)
def redB (c:Cd):Bs:=if c.red=true then 32::wReduce else []
def From (C:World->Prop) (X:World) (x:World):Prop:=C x/\Below X.heap.size X x
theorem from_self {C:World->Prop}{X:World}(h:C X):From C X X:=⟨h,Below.refl _ X⟩
theorem from_shut {C:World->Prop}(hs:∀x y,C x->Below x.heap.size x y->C y)(X:World):∀x y,From C X x->Below x.heap.size x y->From C X y:=fun x y h hb=>⟨hs x y h.1 hb,onward h.2 hb⟩
theorem pair_cells (x:World)(a b:Int)(y:World)(h:Below (x.alloc (.cells #[.int .i64 a,.int .i64 b] 3)).heap.size (x.alloc (.cells #[.int .i64 a,.int .i64 b] 3)) y):y.cell? ⟨x.heap.size,0,none⟩=some (.int .i64 a)/\y.cell? ⟨x.heap.size,1,none⟩=some (.int .i64 b) :=
 ⟨(h.cell (p:=⟨x.heap.size,0,none⟩) (by simp)).trans (new_cell x _ _ 0 _ rfl),(h.cell (p:=⟨x.heap.size,1,none⟩) (by simp)).trans (new_cell x _ _ 1 _ rfl)⟩
theorem order_any (c:Cd)(w:World)(hf:c.fits)(E:Env w):Calls Tryz.prog 50 #[cdV c] w fun e w'=>e=.returned (sV (orderB c++redB c))/\Below w.heap.size w w':=by
 have mixed:Tryz.prog.follows .mixedOrders=true:=by kernel_rfl
 obtain⟨R,hR⟩:∃R,R=orderB c++redB c:=⟨_,rfl⟩;rw [<- hR];unfold orderB redB at hR;have hsl:=atW_len sidesL (by decide) (c.sd+1);have hhl:=atW_len howsL (by decide) c.how;have hql:=itoa_len hf.qt;have hpl:=itoa_len hf.pr;have f1:=hf.sd;have f2:=hf.qt;have f3:=hf.pr;obtain⟨kind,ac,mkt,n,oi,oa,sd,pr,qt,how,red⟩:=c;dsimp only at f1 f2 f3 hsl hhl hR hql hpl;obtain⟨W,hW⟩:∃W,W=w.alloc (cdO ⟨kind,ac,mkt,n,oi,oa,sd,pr,qt,how,red⟩):=⟨_,rfl⟩;have AT:CdAt W w.heap.size ⟨kind,ac,mkt,n,oi,oa,sd,pr,qt,how,red⟩:=by show W.heap[w.heap.size]? = _;rw [hW];exact heap_alloc_new w _
 have BW:Hid (Below w.heap.size w W):=by rw [hW];exact below_alloc w _
 have EW:=E.below BW.out;have HW:=hide hW;obtain⟨hw,hhw⟩:∃hw,hw=atW howsL how:=⟨_,rfl⟩;obtain⟨t,ht⟩:∃t,IntKind.i64.wrap (sd+1)=t:=⟨_,rfl⟩;obtain⟨sw,hsw⟩:∃sw,sw=atW sidesL (sd+1):=⟨_,rfl⟩;have e2:atW [wSell,[],wBuy,[],[],[],[],[]] t=sw:=by rw [<- ht,side_wrap f1,hsw]
 have e3:atW [[],wLimit,wNow,wWhole,wPost,[],[],[]] how=hw:=hhw.symm;rw [<- hhw] at hR hhl;rw [<- hsw] at hR hsl;have HR:=hide hR;have hC:∀q:InC (fun x=>Below W.heap.size W x),Below W.heap.size W q.w:=fun q=>q.h;generalize hCC:(fun x=>Below W.heap.size W x)=C at hC;have CS:∀x y,C x->Below x.heap.size x y->C y:=by rw [<- hCC];exact fun x y hx hy=>onward hx hy
 have C0:Hid (C W.drew):=by rw [<- hCC];exact(Below.refl _ W).drew
 have CB:=hide hC;obtain⟨k0,k1,k2,k3,k4,k5,k6,k7,k8,k9,k10⟩:=cd_inC hC AT;dsimp only at k0 k1 k2 k3 k4 k5 k6 k7 k8 k9 k10;have K1:Hid (∀x,C x->_):=fun x (_:C x)=>hows_any x;have K2:Hid (∀x,C x->_):=fun x (_:C x)=>at_any [] wLimit wNow wWhole wPost [] [] [] how x;have K3:Hid (∀x,C x->_):=fun x (_:C x)=>sides_any x;have K4:Hid (∀x,C x->_):=fun x (_:C x)=>at_any wSell [] wBuy [] [] [] [] [] t x;rw [e3] at K2;rw [e2] at K4;have K5:Hid (∀x b,C x->x.cell? ⟨b,0,none⟩=some (.int .i64 qt)->x.cell? ⟨b,1,none⟩=some (.int .i64 pr)->_):=fun x b hx h0 h1=>phrase_any sw b qt pr x (by omega) f2 f3 (EW.below (hC ⟨x,hx⟩)) h0 h1;have CS0:=hide CS;clear CS;have CS:=CS0;clear hC hCC CS0 hhw hsw e2 e3 f1 f2 f3 E EW hR hW;go_enter Tryz.func50,Tryz.ntmps50;go_wp2_with (rw [<- HW.out]);refine wp_region_tree (.still 1 (.still 2 (.still 3 (.still 4 (.still 6 (.still 7 (.still 8 (.still 9 (.still 10 (.still 11 (.still 16 (.still 17 (.fork 0 (.fork 5 (.main 12 (.main 13 (.still 14 (.main 15 (.main 18 (.still 19 (.still 20 .done))))))) 12 (.main 5 (.main 13 (.still 14 (.main 15 (.main 18 (.still 19 (.still 20 .done)))))))) 12 (.main 0 (.main 5 (.main 13 (.still 14 (.main 15 (.main 18 (.still 19 (.still 20 .done))))))))))))))))))))) C mixed (by kernel_rfl) C0.out ?_;repeat (refine mixT_still (by rfl) ?_;go_big_quiet_step (exact rfl);refine wpQuiet_nil ?_)
 refine mixT_fork (by rfl) (by rfl) ?_ ?_;focus
  rintro ⟨x1,hx1⟩;go_wp2_with (go_at_call 70;refine(K3.out x1 hx1).mono ?_;rintro e w' ⟨rfl,hb'⟩);refine⟨_,CS.out x1 _ hx1 hb',fun _ h=>h,?_⟩;clear hb' hx1;clear x1;try clear w'
  refine mixT_fork (by rfl) (by rfl) ?_ ?_;focus
   rintro ⟨x1,hx1⟩;go_wp2_with (go_at_call 48;refine(K4.out x1 hx1).mono ?_;rintro e w' ⟨rfl,hb'⟩);refine⟨_,CS.out x1 _ hx1 hb',fun _ h=>h,?_⟩;clear hb' hx1;clear x1;try clear w'
   refine mixT_main (by rfl) ?_;rintro ⟨x1,hx1⟩;go_wp2;refine⟨From C (x1.alloc (.cells #[.int .i64 qt,.int .i64 pr] 3)),from_self (CS.out x1 _ hx1 (below_alloc x1 _)),fun x hx=>hx.1,?_⟩;have CS1:=hide (from_shut CS.out (x1.alloc (.cells #[.int .i64 qt,.int .i64 pr] 3)));have SUB:Hid (∀x,From C (x1.alloc (.cells #[.int .i64 qt,.int .i64 pr] 3)) x->C x/\x.cell? ⟨x1.heap.size,0,none⟩=some (.int .i64 qt)/\x.cell? ⟨x1.heap.size,1,none⟩=some (.int .i64 pr)):=fun x hx=>⟨hx.1,pair_cells x1 qt pr x hx.2⟩;generalize From C (x1.alloc (.cells #[.int .i64 qt,.int .i64 pr] 3))=C1 at CS1 SUB ⊢;generalize x1.heap.size=bk at SUB ⊢;clear hx1 x1 CS;have CS:=CS1;clear CS1;have L1:Hid (∀x,C1 x->_):=fun x hx=>K1.out x (SUB.out x hx).1;have L2:Hid (∀x,C1 x->_):=fun x hx=>K2.out x (SUB.out x hx).1;have L3:Hid (∀x,C1 x->_):=fun x hx=>K3.out x (SUB.out x hx).1;have L4:Hid (∀x,C1 x->_):=fun x hx=>K4.out x (SUB.out x hx).1;have L5:Hid (∀x,C1 x->_):=fun x hx=>K5.out x bk (SUB.out x hx).1 (SUB.out x hx).2.1 (SUB.out x hx).2.2
  rotate_left;focus
   rintro ⟨x1,hx1⟩;go_wp2;refine⟨From C (x1.alloc (.cells #[.int .i64 qt,.int .i64 pr] 3)),from_self (CS.out x1 _ hx1 (below_alloc x1 _)),fun x hx=>hx.1,?_⟩;have CS1:=hide (from_shut CS.out (x1.alloc (.cells #[.int .i64 qt,.int .i64 pr] 3)));have SUB:Hid (∀x,From C (x1.alloc (.cells #[.int .i64 qt,.int .i64 pr] 3)) x->C x/\x.cell? ⟨x1.heap.size,0,none⟩=some (.int .i64 qt)/\x.cell? ⟨x1.heap.size,1,none⟩=some (.int .i64 pr)):=fun x hx=>⟨hx.1,pair_cells x1 qt pr x hx.2⟩;generalize From C (x1.alloc (.cells #[.int .i64 qt,.int .i64 pr] 3))=C1 at CS1 SUB ⊢;generalize x1.heap.size=bk at SUB ⊢;clear hx1 x1 CS;have CS:=CS1;clear CS1;have L1:Hid (∀x,C1 x->_):=fun x hx=>K1.out x (SUB.out x hx).1;have L2:Hid (∀x,C1 x->_):=fun x hx=>K2.out x (SUB.out x hx).1;have L3:Hid (∀x,C1 x->_):=fun x hx=>K3.out x (SUB.out x hx).1;have L4:Hid (∀x,C1 x->_):=fun x hx=>K4.out x (SUB.out x hx).1;have L5:Hid (∀x,C1 x->_):=fun x hx=>K5.out x bk (SUB.out x hx).1 (SUB.out x hx).2.1 (SUB.out x hx).2.2;refine mixT_main (by rfl) ?_;rintro ⟨x1,hx1⟩;go_wp2_with (go_at_call 48;refine(L4.out x1 hx1).mono ?_;rintro e w' ⟨rfl,hb'⟩);refine⟨_,CS.out x1 _ hx1 hb',fun _ h=>h,?_⟩;clear hb' hx1;clear x1;try clear w'
 rotate_left 2;focus
  rintro ⟨x1,hx1⟩;go_wp2;refine⟨From C (x1.alloc (.cells #[.int .i64 qt,.int .i64 pr] 3)),from_self (CS.out x1 _ hx1 (below_alloc x1 _)),fun x hx=>hx.1,?_⟩;have CS1:=hide (from_shut CS.out (x1.alloc (.cells #[.int .i64 qt,.int .i64 pr] 3)));have SUB:Hid (∀x,From C (x1.alloc (.cells #[.int .i64 qt,.int .i64 pr] 3)) x->C x/\x.cell? ⟨x1.heap.size,0,none⟩=some (.int .i64 qt)/\x.cell? ⟨x1.heap.size,1,none⟩=some (.int .i64 pr)):=fun x hx=>⟨hx.1,pair_cells x1 qt pr x hx.2⟩;generalize From C (x1.alloc (.cells #[.int .i64 qt,.int .i64 pr] 3))=C1 at CS1 SUB ⊢;generalize x1.heap.size=bk at SUB ⊢;clear hx1 x1 CS;have CS:=CS1;clear CS1;have L1:Hid (∀x,C1 x->_):=fun x hx=>K1.out x (SUB.out x hx).1;have L2:Hid (∀x,C1 x->_):=fun x hx=>K2.out x (SUB.out x hx).1;have L3:Hid (∀x,C1 x->_):=fun x hx=>K3.out x (SUB.out x hx).1;have L4:Hid (∀x,C1 x->_):=fun x hx=>K4.out x (SUB.out x hx).1;have L5:Hid (∀x,C1 x->_):=fun x hx=>K5.out x bk (SUB.out x hx).1 (SUB.out x hx).2.1 (SUB.out x hx).2.2;refine mixT_main (by rfl) ?_;rintro ⟨x1,hx1⟩;go_wp2_with (go_at_call 70;refine(L3.out x1 hx1).mono ?_;rintro e w' ⟨rfl,hb'⟩);refine⟨_,CS.out x1 _ hx1 hb',fun _ h=>h,?_⟩;clear hb' hx1;clear x1;try clear w'
  refine mixT_main (by rfl) ?_;rintro ⟨x1,hx1⟩;go_wp2_with (go_at_call 48;refine(L4.out x1 hx1).mono ?_;rintro e w' ⟨rfl,hb'⟩);refine⟨_,CS.out x1 _ hx1 hb',fun _ h=>h,?_⟩;clear hb' hx1;clear x1;try clear w'
 all_goals
  refine mixT_main (by rfl) ?_;rintro ⟨x1,hx1⟩;go_wp2_with (go_at_call 49;refine(L5.out x1 hx1).mono ?_;rintro e w' ⟨rfl,hb'⟩);refine⟨_,CS.out x1 _ hx1 hb',fun _ h=>h,?_⟩;clear hb' hx1;clear x1;try clear w'
  repeat (refine mixT_still (by rfl) ?_;go_big_quiet_step (exact rfl);refine wpQuiet_nil ?_)
  refine mixT_main (by rfl) ?_;rintro ⟨x1,hx1⟩;go_wp2_with (go_at_call 69;refine(L1.out x1 hx1).mono ?_;rintro e w' ⟨rfl,hb'⟩);refine⟨_,CS.out x1 _ hx1 hb',fun _ h=>h,?_⟩;clear hb' hx1;clear x1;try clear w'
  refine mixT_main (by rfl) ?_;rintro ⟨x1,hx1⟩;go_wp2_with (go_at_call 48;refine(L2.out x1 hx1).mono ?_;rintro e w' ⟨rfl,hb'⟩);refine⟨_,CS.out x1 _ hx1 hb',fun _ h=>h,?_⟩;clear hb' hx1;clear x1;try clear w'
  repeat (refine mixT_still (by rfl) ?_;go_big_quiet_step (exact rfl);refine wpQuiet_nil ?_)
  refine mixT_end ?_;rintro ⟨x9,hx9⟩;dsimp only;have z:x9.cell? ⟨w.heap.size,10,none⟩=some (.bool red):=k10 ⟨x9,(SUB.out x9 hx9).1⟩;have BX:Hid (Below w.heap.size w x9):=onward BW.out (CB.out ⟨x9,(SUB.out x9 hx9).1⟩);clear k0 k1 k2 k3 k4 k5 k6 k7 k8 k9 k10 K1 K2 K3 K4 K5 L1 L2 L3 L4 L5 CS CB C0 hx9 SUB;cases red
  ·go_wp2;go_ret;refine⟨?_,BX.out⟩;show Ending.returned (Value.string (sB (sw++32::(itoa qt++32::itoa pr))++sB [32]++sB hw))=_;rw [HR.out];simp [sB_cat]
  ·go_wp2;go_ret;refine⟨?_,BX.out⟩;show Ending.returned (Value.string (sB (sw++32::(itoa qt++32::itoa pr))++sB [32]++sB hw++sB (32::wReduce)))=_;rw [HR.out];simp [sB_cat]
end Go.Proofs.YthdjfhnhjiageaaGreatDoor.Tx
