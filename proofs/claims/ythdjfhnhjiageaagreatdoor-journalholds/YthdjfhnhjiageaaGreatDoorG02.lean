import Derived.Test.YthdjfhnhjiageaaGreatDoorG01
import Derived.Shelf.Abstract
import Derived.Deep.LoopGhost
set_option maxHeartbeats 8000000
set_option maxRecDepth 100000
namespace Go.Proofs.YthdjfhnhjiageaaGreatDoor.Ac
open Go.RowKit Num Fix AcP
abbrev bigFn:Value:=.func (.func 111) #[] #[]
theorem pos1_lo {x:Int}(h:x < -1000):pos1 x=false:=betw_no (.inl h)
theorem pos1_hi {x:Int}(h:1000<x):pos1 x=false:=betw_no (.inr h)
theorem pos1_mk {x:Int}(h:¬x < -1000)(g:¬1000<x):pos1 x=true:=betw_mk (by omega)
theorem tooGreat_any (x:Int)(w:World) :
  Calls Tryz.prog 111 #[.int .i64 x] w fun e w'=>e=.returned (.bool (!pos1 x))/\w'=w:=by
 by_cases h1:x < -1000
 ·rw [pos1_lo h1];go_enter Tryz.func111,Tryz.ntmps111;go_wp2;go_ret;exact⟨rfl,rfl⟩
 ·by_cases h2:1000<x
  ·rw [pos1_hi h2];go_enter Tryz.func111,Tryz.ntmps111;go_wp2;go_ret;exact⟨rfl,rfl⟩
  ·rw [pos1_mk h1 h2];go_enter Tryz.func111,Tryz.ntmps111;go_wp2;go_ret;exact⟨rfl,rfl⟩
def idxAt:List Int->Nat->Int
 |[],_=>-1
 |x::l,k=>if pos1 x=true then idxAt l (k+1) else (k:Int)
theorem idxAt_hit {xs:List Int}{k:Nat}(h:k<xs.length)(he:pos1 (xs.getD k 0)=false):idxAt (xs.drop k) k=k:=by
 rw [drop_get xs k h];unfold idxAt;rw [he];rfl
theorem idxAt_miss {xs:List Int}{k:Nat}(h:k<xs.length)(he:pos1 (xs.getD k 0)=true):idxAt (xs.drop k) k=idxAt (xs.drop (k+1)) (k+1):=by
 rw [drop_get xs k h];conv=>lhs;unfold idxAt
 rw [he];rfl
theorem idxAt_end {xs:List Int}{k:Nat}:idxAt (xs.drop xs.length) k = -1:=by
 rw [List.drop_length];rfl
theorem idxAt_all:∀(xs:List Int)(k:Nat),decide (0<=idxAt xs k) = !xs.all pos1
 |[],k=>rfl
 |x::l,k=>by
  unfold idxAt
  cases h:pos1 x with
  |true=>simp [h,idxAt_all l (k+1)]
  |false=>simp [h]
theorem indexFunc_some (b off c:Nat)(xs:List Int)(w:World)(hn:xs.length<=140737488351232)
  (hc:∀j,j<xs.length->w.cell? ⟨b,off+j,none⟩=some (.int .i64 (xs.getD j 0))) :
  Calls Tryz.prog 151 #[.slice (some ⟨b,off,none⟩) xs.length c,bigFn] w fun e w'=>e=.returned (.int .i64 (idxAt xs 0))/\w'=w:=by
 have eg:∀args w,(callFunc 111 args).run Tryz.prog w=.ok (.enter 111 args) w:=enters_of Tryz.func111 (by kernel_rfl) rfl;generalize hr:idxAt xs 0=r;have R0:Hid (idxAt (xs.drop 0) 0=r):=hr;clear hr;have HC:=hide hc;clear hc;generalize hxn:xs.length=n at hn ⊢;have N:=hide hxn;clear hxn;go_enter Tryz.func151,Tryz.ntmps151;go_wp2
 go_loop [8] (fun i=>∃k:Nat,k<=n/\i=.int .i64 k/\Hid (idxAt (xs.drop k) k=r)) (fun i=>n - (intOf i).toNat)
 case atStart=>exact⟨0,Nat.zero_le _,rfl,R0⟩
 case round =>
  obtain⟨k,hk,rfl,R⟩:=hrel;by_cases hlt:k<n
  ·have hltz:(k:Int)<(n:Int):=by omega
   have hkx:k<xs.length:=by rw [N.out];exact hlt
   have c0:=HC.out k hkx;generalize hx:xs.getD k 0=x at c0;have X:=hide hx;clear hx;have hcall:=tooGreat_any x w
   cases hh:pos1 x with
   |false =>
    rw [hh] at hcall;go_wp2_with (go_at_fn 111;refine hcall.mono ?_;rintro e w' ⟨rfl,rfl⟩);go_ret;refine⟨?_,rfl⟩;rw [<- R.out,idxAt_hit hkx (by rw [X.out];exact hh)];rfl
   |true =>
    rw [hh] at hcall;go_wp2_with (go_at_fn 111;refine hcall.mono ?_;rintro e w' ⟨rfl,rfl⟩);go_round
    case rel =>
     refine⟨k+1,by omega,by go_num,?_⟩;show idxAt (xs.drop (k+1)) (k+1)=r;rw [<- R.out];exact(idxAt_miss hkx (by rw [X.out];exact hh)).symm
    case measure=>simp [intOf];omega
  ·have hk':k=n:=by omega
   subst hk';go_wp2;go_ret;refine⟨?_,rfl⟩;rw [<- R.out,<- N.out,idxAt_end];rfl
theorem indexFunc_none (p:Option Addr)(c:Nat)(f:Value)(w:World) :
  Calls Tryz.prog 151 #[.slice p 0 c,f] w fun e w'=>e=.returned (.int .i64 (-1))/\w'=w:=by
 go_enter Tryz.func151,Tryz.ntmps151;go_wp2;refine wp_loop_rounds 1 ?_;rw [rounds_succ];go_wp2;go_ret;exact⟨rfl,rfl⟩
theorem containsFunc_any (p:Option Addr)(n c:Nat)(xs:List Int)(w:World)(hl:xs.length=n)(hn:n<=140737488351232)(h:Row w p xs) :
  Calls Tryz.prog 110 #[.slice p n c,bigFn] w fun e w'=>e=.returned (.bool (!xs.all pos1))/\w'=w:=by
 have hcon:Calls Tryz.prog 151 #[.slice p xs.length c,bigFn] w fun e w'=>e=.returned (.int .i64 (idxAt xs 0))/\w'=w:=by
  rcases h with rfl | ⟨b,off,rfl,hc⟩
  ·exact indexFunc_none p c bigFn w
  ·exact indexFunc_some b off c xs w (by omega) hc
 rw [<- idxAt_all xs 0];rw [hl] at hcon;generalize idxAt xs 0=r at hcon ⊢;clear h hl;go_enter Tryz.func110,Tryz.ntmps110;go_wp2_with (go_at_call 151;refine hcon.mono ?_;rintro e w' ⟨rfl,rfl⟩);go_ret;exact⟨rfl,rfl⟩
abbrev accV (id bal:Int) (p:Option Addr) (n c:Nat):Value:=.agg #[.int .i64 id,.int .i64 bal,.slice p n c]
theorem accErr_who {id bal:Int}{pos:List Int}{m:Int}(h:betw 0 id 7=false):accErr id bal pos m=5:=by unfold accErr;rw [h];rfl
theorem accErr_form {id bal:Int}{pos:List Int}{m:Int}(h:betw 0 id 7=true)(g:¬(betw 1 m 2=true/\(pos.length:Int)=m)):accErr id bal pos m=4:=by unfold accErr;rw [if_pos h,if_neg g]
theorem accErr_range {id bal:Int}{pos:List Int}{m:Int}(h:betw 0 id 7=true)(g:betw 1 m 2=true/\(pos.length:Int)=m)(f:¬(money bal=true/\pos.all pos1=true)):accErr id bal pos m=3:=by unfold accErr;rw [if_pos h,if_pos g,if_neg f]
abbrev accO (id bal:Int) (p:Option Addr) (n c:Nat):Obj:=.cells #[.int .i64 id,.int .i64 bal,.slice p n c] 89
theorem row_below {w w':World}{a:Option Addr}{xs:List Int}(h:Row w a xs)(hb:Below w.heap.size w w'):Row w' a xs:=by
 rcases h with h | ⟨b,off,rfl,hc⟩
 ·exact .inl h
 ·refine .inr ⟨b,off,rfl,fun i hi=>?_⟩;exact(hb.cell (World.block_lt_of_cell? _ _ (hc i hi))).trans (hc i hi)
theorem below_alloc (w:World)(o:Obj):Below w.heap.size w (w.alloc o):=(Below.refl _ _).alloc (Nat.le_refl _) o
theorem check_any (id bal:Int)(p:Option Addr)(n c:Nat)(pos:List Int)(m:Int)(w:World)(hl:pos.length=n)(hn:n<=140737488351232)(h:Row w p pos) :
  Calls Tryz.prog 82 #[accV id bal p n c,.int .i64 m] w fun e w'=>e=.returned (.int .i64 (accErr id bal pos m))/\w'=w.alloc (accO id bal p n c):=by
 by_cases h1:id<0
 ·rw [accErr_who (betw_no (.inl h1))];clear h hl;go_enter Tryz.func82,Tryz.ntmps82;go_wp2;go_ret;exact⟨rfl,rfl⟩
 by_cases h2:8<=id
 ·rw [accErr_who (betw_no (.inr (by omega)))];clear h hl;go_enter Tryz.func82,Tryz.ntmps82;go_wp2;go_ret;exact⟨rfl,rfl⟩
 have hid:betw 0 id 7=true:=betw_mk (by omega);by_cases h3:m<1
 ·rw [accErr_form hid (fun hh=>by have:=betw_true hh.1;omega)];clear h hl hid;go_enter Tryz.func82,Tryz.ntmps82;go_wp2;go_ret;exact⟨rfl,rfl⟩
 by_cases h4:2<m
 ·rw [accErr_form hid (fun hh=>by have:=betw_true hh.1;omega)];clear h hl hid;go_enter Tryz.func82,Tryz.ntmps82;go_wp2;go_ret;exact⟨rfl,rfl⟩
 by_cases h5:(n:Int)=m
 ·subst h5;have hf:betw 1 (n:Int) 2=true/\(pos.length:Int)=n:=⟨betw_mk (by omega),by rw [hl]⟩;have hcon:=containsFunc_any p n c pos (w.alloc (accO id bal p n c)) hl hn (row_below h (below_alloc w _));cases hb:money bal
  focus
   rw [accErr_range hid hf (fun hh=>by rw [hb] at hh;cases hh.1)];clear h hl hid hf
  rotate_left;focus
   cases ha:pos.all pos1
   focus
    rw [accErr_range hid hf (fun hh=>by rw [ha] at hh;cases hh.2)]
   rotate_left;focus
    rw [accErr_mk hid hf.1 hf.2 hb ha]
   all_goals
    rw [ha] at hcon;clear h hl hid hf ha
  all_goals
   go_enter Tryz.func82,Tryz.ntmps82;go_wp2_with (first | (go_at_call 26;refine(money_any _ _).mono ?_;rintro e w' ⟨rfl,rfl⟩) | (go_at_call 110;refine hcon.mono ?_;rintro e w' ⟨rfl,rfl⟩));go_ret;exact⟨rfl,rfl⟩
 ·rw [accErr_form hid (fun hh=>h5 (by rw [<- hl];exact hh.2))];clear h hl hid;go_enter Tryz.func82,Tryz.ntmps82;go_wp2;go_ret;exact⟨rfl,rfl⟩
abbrev noA:Value:=.agg #[.int .i64 0,.int .i64 0,.slice none 0 0]
theorem fail_any (x:Int)(w:World) :
  Calls Tryz.prog 204 #[.int .i64 x] w fun e w'=>e=.returned (.tuple #[noA,.int .i64 x])/\Below w.heap.size w w':=by
 go_enter Tryz.func204,Tryz.ntmps204;go_wp2;refine bodyPost_ret (v:=.tuple #[noA,.int .i64 x]) (by simp [results,Tryz.results204,go_sem]) rfl ⟨rfl,?_⟩;exact below_alloc w _
def Three (x:World) (t:Nat):Prop:=∃u0 u1 u2,x.heap[t]? = some (.cells #[u0,u1,u2] 89 (0,0))
theorem three_below {x y:World}{t:Nat}(h:Three x t)(hb:Below x.heap.size x y):Three y t:=by
 obtain⟨u0,u1,u2,h⟩:=h;exact⟨u0,u1,u2,(hb.block t (Array.getElem?_eq_some_iff.1 h).1).trans h⟩
theorem three_facts {x:World}{t:Nat}(h:Three x t):∃u0 u1 u2,x.cell? ⟨t,0,none⟩=some u0/\x.cell? ⟨t,1,none⟩=some u1/\x.cell? ⟨t,2,none⟩=some u2/\x.frozen? ⟨t,0,none⟩=false/\x.frozen? ⟨t,1,none⟩=false/\x.frozen? ⟨t,2,none⟩=false:=by
 obtain⟨u0,u1,u2,h⟩:=h;refine⟨u0,u1,u2,?_,?_,?_,?_,?_,?_⟩<;>simp [World.cell?,World.frozen?,h]
theorem three_made (w:World)(u0 u1 u2:Value):Three (w.alloc (.cells #[u0,u1,u2] 89)) w.heap.size :=
 ⟨u0,u1,u2,by have:=heap_alloc_new w (.cells #[u0,u1,u2] 89);simpa using this⟩
theorem three_made2 (w:World)(o:Obj)(u0 u1 u2:Value):Three ((w.alloc o).alloc (.cells #[u0,u1,u2] 89)) (w.heap.size+1):=by
 have:=three_made (w.alloc o) u0 u1 u2;simpa using this
theorem three_alloc {x:World}{t:Nat}(h:Three x t)(o:Obj):Three (x.alloc o) t:=three_below h (below_alloc x o)
theorem three_set {x:World}{t:Nat}(h:Three x t)(v0 v1 v2:Value):(((x.setCell ⟨t,0,none⟩ v0).setCell ⟨t,1,none⟩ v1).setCell ⟨t,2,none⟩ v2).heap[t]? = some (.cells #[v0,v1,v2] 89 (0,0)):=by
 obtain⟨u0,u1,u2,h⟩:=h;simp [World.setCell,Array.getElem?_modify,h]
theorem three_read {x:World}{t:Nat}{v0 v1 v2:Value}(h:x.heap[t]? = some (.cells #[v0,v1,v2] 89 (0,0))):x.cell? ⟨t,0,none⟩=some v0/\x.cell? ⟨t,1,none⟩=some v1/\x.cell? ⟨t,2,none⟩=some v2:=by
 refine⟨?_,?_,?_⟩<;>simp [World.cell?,h]
theorem three_below_set {B t:Nat}{w x:World}(h:Below B w x)(ht:B<=t)(v0 v1 v2:Value):Below B w (((x.setCell ⟨t,0,none⟩ v0).setCell ⟨t,1,none⟩ v1).setCell ⟨t,2,none⟩ v2):=((h.setCell ht _).setCell ht _).setCell ht _
theorem cell_alloc {w:World}{a:Addr}{v:Value}(h:w.cell? a=some v)(o:Obj):(w.alloc o).cell? a=some v:=((below_alloc w o).cell (World.block_lt_of_cell? _ _ h)).trans h
theorem below_alloc2 (w:World)(o o':Obj):Below w.heap.size w ((w.alloc o).alloc o'):=((Below.refl _ w).alloc (Nat.le_refl _) _).alloc (by simp) _
theorem below3 (w:World)(o o' o3:Obj):Below w.heap.size w (((w.alloc o).alloc o').alloc o3):=(below_alloc2 w o o').alloc (by simp;omega) _
theorem below4 (w:World)(o o' o3 o4:Obj):Below w.heap.size w ((((w.alloc o).alloc o').alloc o3).alloc o4):=(below3 w o o' o3).alloc (by simp;omega) _
theorem trade_b1 (id bal:Int)(p:Option Addr)(n c:Nat)(pos:List Int)(mk q pr fee:Int)(w:World)(hl:pos.length=n)(hn:n<=140737488351232)(h:Row w p pos)(he:¬accErr id bal pos n=0) :
  Calls Tryz.prog 168 #[accV id bal p n c,.int .i64 mk,.int .i64 q,.int .i64 pr,.int .i64 fee] w fun e w'=>e=.returned (.tuple #[noA,.int .i64 (accErr id bal pos n)])/\Below w.heap.size w w':=by
 have eg:∀args w,(callFunc 204 args).run Tryz.prog w=.ok (.enter 204 args) w:=enters_of Tryz.func204 (by kernel_rfl) rfl;have CK:=hide (fun W hW=>check_any id bal p n c pos n W hl hn (row_below h hW));clear h;generalize accErr id bal pos n=r at he CK ⊢;go_enter Tryz.func168,Tryz.ntmps168;go_wp2_with fail;refine(CK.out _ (below_alloc2 _ _ _)).mono ?_;rintro e W ⟨rfl,rfl⟩;go_wp2_with fail;go_at_fn 204;refine(fail_any _ _).mono ?_;rintro e W ⟨rfl,hb⟩;have T:=hide (three_below (three_alloc (three_made2 _ _ _ _ _) _) hb);have BW:=hide ((below3 _ _ _ _).trans (hb.mono (by simp;omega)));obtain⟨u0,u1,u2,t0,t1,t2,t3,t4,t5⟩:=three_facts T.out;clear hb;go_wp2;obtain⟨s0,s1,s2⟩:=three_read (three_set T.out (.int .i64 0) (.int .i64 0) (.slice none 0 0));refine bodyPost_ret (v:=.tuple #[noA,.int .i64 r]) (by simp [results,Tryz.results168,go_sem,s0,s1,s2]) rfl ⟨rfl,three_below_set BW.out (by omega) _ _ _⟩
theorem trade_b2 (id bal:Int)(p:Option Addr)(n c:Nat)(pos:List Int)(mk q pr fee:Int)(w:World)(hl:pos.length=n)(hn:n<=140737488351232)(h:Row w p pos)(he:accErr id bal pos n=0)(hm:mk<0\/(n:Int)<=mk) :
  Calls Tryz.prog 168 #[accV id bal p n c,.int .i64 mk,.int .i64 q,.int .i64 pr,.int .i64 fee] w fun e w'=>e=.returned (.tuple #[noA,.int .i64 5])/\Below w.heap.size w w':=by
 have eg:∀args w,(callFunc 204 args).run Tryz.prog w=.ok (.enter 204 args) w:=enters_of Tryz.func204 (by kernel_rfl) rfl;have CK:=hide (fun W hW=>check_any id bal p n c pos n W hl hn (row_below h hW));clear h;rw [he] at CK;clear he;by_cases h1:mk<0;rotate_left;focus
  have h2:(n:Int)<=mk:=by omega
 all_goals
  clear hm;go_enter Tryz.func168,Tryz.ntmps168;go_wp2_with fail;refine(CK.out _ (below_alloc2 _ _ _)).mono ?_;rintro e W ⟨rfl,rfl⟩;go_wp2_with fail;go_at_fn 204;refine(fail_any _ _).mono ?_;rintro e W ⟨rfl,hb⟩;have T:=hide (three_below (three_alloc (three_made2 _ _ _ _ _) _) hb);have BW:=hide ((below3 _ _ _ _).trans (hb.mono (by simp;omega)));obtain⟨u0,u1,u2,t0,t1,t2,t3,t4,t5⟩:=three_facts T.out;clear hb;go_wp2;obtain⟨s0,s1,s2⟩:=three_read (three_set T.out (.int .i64 0) (.int .i64 0) (.slice none 0 0));refine bodyPost_ret (v:=.tuple #[noA,.int .i64 5]) (by simp [results,Tryz.results168,go_sem,s0,s1,s2]) rfl ⟨rfl,three_below_set BW.out (by omega) _ _ _⟩
theorem trade_b3 (id bal:Int)(p:Option Addr)(n c:Nat)(pos:List Int)(mk q pr fee:Int)(w:World)(hl:pos.length=n)(hn:n<=140737488351232)(h:Row w p pos)(he:accErr id bal pos n=0)(hm:¬mk<0)(hm2:mk<n)(hq:betw (-1000) q 1000=false\/betw 0 pr 10000=false) :
  Calls Tryz.prog 168 #[accV id bal p n c,.int .i64 mk,.int .i64 q,.int .i64 pr,.int .i64 fee] w fun e w'=>e=.returned (.tuple #[noA,.int .i64 3])/\Below w.heap.size w w':=by
 have eg:∀args w,(callFunc 204 args).run Tryz.prog w=.ok (.enter 204 args) w:=enters_of Tryz.func204 (by kernel_rfl) rfl;have CK:=hide (fun W hW=>check_any id bal p n c pos n W hl hn (row_below h hW));clear h;rw [he] at CK;have WO:=hide (fun W=>worth_no q pr W hq);clear he hq;go_enter Tryz.func168,Tryz.ntmps168;go_wp2_with fail;refine(CK.out _ (below_alloc2 _ _ _)).mono ?_;rintro e W ⟨rfl,rfl⟩;go_wp2_with (first | (go_at_call 165;refine(WO.out _).mono ?_;rintro e w' ⟨rfl,rfl⟩) | fail);go_at_fn 204;refine(fail_any _ _).mono ?_;rintro e W ⟨rfl,hb⟩;have T:=hide (three_below (three_alloc (three_made2 _ _ _ _ _) _) hb);have BW:=hide ((below3 _ _ _ _).trans (hb.mono (by simp;omega)));obtain⟨u0,u1,u2,t0,t1,t2,t3,t4,t5⟩:=three_facts T.out;clear hb;go_wp2;obtain⟨s0,s1,s2⟩:=three_read (three_set T.out (.int .i64 0) (.int .i64 0) (.slice none 0 0));refine bodyPost_ret (v:=.tuple #[noA,.int .i64 3]) (by simp [results,Tryz.results168,go_sem,s0,s1,s2]) rfl ⟨rfl,three_below_set BW.out (by omega) _ _ _⟩
theorem trade_b4 (id bal:Int)(p:Option Addr)(n c:Nat)(pos:List Int)(mk q pr fee:Int)(w:World)(hl:pos.length=n)(hn:n<=140737488351232)(h:Row w p pos)(he:accErr id bal pos n=0)(hm:¬mk<0)(hm2:mk<n)(hq:betw (-1000) q 1000=true)(hp:betw 0 pr 10000=true)
  (s r:Int) (ha:addFrom 0 [bal,-(q*pr),wrap64 (-fee)]=(s,r)) (hr:¬r=0) :
  Calls Tryz.prog 168 #[accV id bal p n c,.int .i64 mk,.int .i64 q,.int .i64 pr,.int .i64 fee] w fun e w'=>e=.returned (.tuple #[noA,.int .i64 r])/\Below w.heap.size w w':=by
 have eg:∀args w,(callFunc 204 args).run Tryz.prog w=.ok (.enter 204 args) w:=enters_of Tryz.func204 (by kernel_rfl) rfl;have CK:=hide (fun W hW=>check_any id bal p n c pos n W hl hn (row_below h hW));clear h;rw [he] at CK;have WO:=hide (fun W=>worth_yes q pr W hq hp);have ⟨m1,m2⟩:=mul_bd (n:=q) (a:=pr) (by have:=betw_true hq;omega) (by have:=betw_true hp;omega);have HA:=hide ha;clear he hq hp ha;go_enter Tryz.func168,Tryz.ntmps168;go_wp2_with fail;refine(CK.out _ (below_alloc2 _ _ _)).mono ?_;rintro e W ⟨rfl,rfl⟩;go_wp2_with (first | (go_at_call 165;refine(WO.out _).mono ?_;rintro e w' ⟨rfl,rfl⟩) | fail);refine(add_any _ 3 3 [bal,-(q*pr),wrap64 (-fee)] _ rfl (by decide) (.inr ⟨_,_,rfl,?_⟩)).mono ?_
 ·intro i hi;rw [World.cell?_alloc_at _ _ _ _ (by simp)];match i,hi with
  |0,_=>rfl
  |1,_=>rfl
  |2,_=>rfl
 rintro e w' ⟨rfl,rfl⟩;rw [HA.out];go_wp2_with fail;go_at_fn 204;refine(fail_any _ _).mono ?_;rintro e W ⟨rfl,hb⟩;have T:=hide (three_below (three_alloc (three_alloc (three_made2 _ _ _ _ _) _) _) hb);have BW:=hide ((below4 _ _ _ _ _).trans (hb.mono (by simp;omega)));obtain⟨u0,u1,u2,t0,t1,t2,t3,t4,t5⟩:=three_facts T.out;clear hb;go_wp2;obtain⟨s0,s1,s2⟩:=three_read (three_set T.out (.int .i64 0) (.int .i64 0) (.slice none 0 0));refine bodyPost_ret (v:=.tuple #[noA,.int .i64 r]) (by simp [results,Tryz.results168,go_sem,s0,s1,s2]) rfl ⟨rfl,three_below_set BW.out (by omega) _ _ _⟩
theorem trade_b5 (id bal:Int)(b off:Nat)(n c:Nat)(pos:List Int)(k:Nat)(q pr fee:Int)(w:World)(hl:pos.length=n)(hn:n<=140737488351232)(h:Row w (some ⟨b,off,none⟩) pos)(he:accErr id bal pos n=0)(hm2:k<n)(hq:betw (-1000) q 1000=true)(hp:betw 0 pr 10000=true)
  (s:Int) (ha:addFrom 0 [bal,-(q*pr),wrap64 (-fee)]=(s,0)) (x:Int) (hx:pos.getD k 0=x) (hc:w.cell? ⟨b,off+k,none⟩=some (.int .i64 x)) (hx1:-1000<=x) (hx2:x<=1000) (hg:pos1 (x+q)=false) :
  Calls Tryz.prog 168 #[accV id bal (some ⟨b,off,none⟩) n c,.int .i64 k,.int .i64 q,.int .i64 pr,.int .i64 fee] w fun e w'=>e=.returned (.tuple #[noA,.int .i64 7])/\Below w.heap.size w w':=by
 have eg:∀args w,(callFunc 204 args).run Tryz.prog w=.ok (.enter 204 args) w:=enters_of Tryz.func204 (by kernel_rfl) rfl;have CK:=hide (fun W hW=>check_any id bal (some ⟨b,off,none⟩) n c pos n W hl hn (row_below h hW));have H4:∀o1 o2 o3 o4,((((w.alloc o1).alloc o2).alloc o3).alloc o4).cell? ⟨b,off+k,none⟩=some (.int .i64 x):=fun o1 o2 o3 o4=>cell_alloc (cell_alloc (cell_alloc (cell_alloc hc o1) o2) o3) o4;clear h hc;rw [he] at CK;have WO:=hide (fun W=>worth_yes q pr W hq hp);have ⟨m1,m2⟩:=mul_bd (n:=q) (a:=pr) (by have:=betw_true hq;omega) (by have:=betw_true hp;omega);obtain⟨q1,q2⟩:=betw_true hq;have HA:=hide ha;have HX:=hide hx;have hkz:(k:Int)<n:=by omega
 clear he hq hp ha hx;go_enter Tryz.func168,Tryz.ntmps168;go_wp2_with fail;refine(CK.out _ (below_alloc2 _ _ _)).mono ?_;rintro e W ⟨rfl,rfl⟩;go_wp2_with (first | (go_at_call 165;refine(WO.out _).mono ?_;rintro e w' ⟨rfl,rfl⟩) | fail);refine(add_any _ 3 3 [bal,-(q*pr),wrap64 (-fee)] _ rfl (by decide) (.inr ⟨_,_,rfl,?_⟩)).mono ?_
 ·intro i hi;rw [World.cell?_alloc_at _ _ _ _ (by simp)];match i,hi with
  |0,_=>rfl
  |1,_=>rfl
  |2,_=>rfl
 rintro e w' ⟨rfl,rfl⟩;rw [HA.out];go_wp2_with (first | (go_at_call 111;refine(tooGreat_any _ _).mono ?_;rintro e w' ⟨rfl,rfl⟩;rw [hg]) | fail);go_at_fn 204;refine(fail_any _ _).mono ?_;rintro e W ⟨rfl,hb⟩;have T:=hide (three_below (three_alloc (three_alloc (three_made2 _ _ _ _ _) _) _) hb);have BW:=hide ((below4 _ _ _ _ _).trans (hb.mono (by simp;omega)));obtain⟨u0,u1,u2,t0,t1,t2,t3,t4,t5⟩:=three_facts T.out;clear hb;go_wp2;obtain⟨s0,s1,s2⟩:=three_read (three_set T.out (.int .i64 0) (.int .i64 0) (.slice none 0 0));refine bodyPost_ret (v:=.tuple #[noA,.int .i64 7]) (by simp [results,Tryz.results168,go_sem,s0,s1,s2]) rfl ⟨rfl,three_below_set BW.out (by omega) _ _ _⟩
end Go.Proofs.YthdjfhnhjiageaaGreatDoor.Ac
