import Derived.Test.YthdjfhnhjiageaaGreatDoorProg
import Derived.Test.YthdjfhnhjiageaaGreatDoorG07
import Derived.ProofKit
import Derived.BigQuiet
import Derived.WalkLawsBesides
import Derived.Shelf.SlSortCmp.QuietGrown
set_option maxHeartbeats 8000000
set_option maxRecDepth 100000
namespace Go.Proofs.YthdjfhnhjiageaaGreatDoor.Bk
open Go.RowKit Go.Sort
theorem hide {p:Prop}(h:p):Hid p:=h
def enc (o:Odr):List Value:=[.int .i64 (oid o),.int .i64 (oac o),.int .i64 (osd o),.int .i64 (opr o),.int .i64 (oqt o)]
abbrev odrV (o:Odr):Value:=.agg #[.int .i64 o.1,.int .i64 o.2.1,.int .i64 o.2.2.1,.int .i64 o.2.2.2.1,.int .i64 o.2.2.2.2]
theorem ok5 {a b c d q:Int}(h:a<1\/100000<a\/b<0\/8<=b):okOrder (a,b,c,d,q)=5:=by simp only [okOrder];rw [if_pos h]
theorem ok4 {a b c d q:Int}(h:¬(a<1\/100000<a\/b<0\/8<=b))(h2:c≠1/\c≠-1):okOrder (a,b,c,d,q)=4:=by simp only [okOrder];rw [if_neg h,if_pos h2]
theorem ok3 {a b c d q:Int}(h:¬(a<1\/100000<a\/b<0\/8<=b))(h2:¬(c≠1/\c≠-1))(h3:d<1\/10000<d\/q<1\/1000<q):okOrder (a,b,c,d,q)=3:=by simp only [okOrder];rw [if_neg h,if_neg h2,if_pos h3]
theorem ok0 {a b c d q:Int}(h:¬(a<1\/100000<a\/b<0\/8<=b))(h2:¬(c≠1/\c≠-1))(h3:¬(d<1\/10000<d\/q<1\/1000<q)):okOrder (a,b,c,d,q)=0:=by simp only [okOrder];rw [if_neg h,if_neg h2,if_neg h3]
theorem checkOrder_grow (a b c d q:Int)(w:World) :
  Calls Tryz.prog 158 #[.agg #[.int .i64 a,.int .i64 b,.int .i64 c,.int .i64 d,.int .i64 q]] w fun e w'=>e=.returned (.int .i64 (okOrder (a,b,c,d,q)))/\∃k os,w'=grow (w.drewN k) os:=by
 by_cases h:a<1\/100000<a\/b<0\/8<=b
 ·rw [ok5 h];go_enter Tryz.func158,Tryz.ntmps158;go_wp2;all_goals first | (exfalso;omega) | go_ret
  all_goals exact⟨rfl,0,#[_],alloc_eq_grow w _⟩
 ·by_cases h2:c≠1/\c≠-1
  ·rw [ok4 h h2];have ⟨h3,h4⟩:=h2;have h5:(c != 1)=true:=by simp [h3]
   have h6:(c != -1)=true:=by simp [h4]
   go_enter Tryz.func158,Tryz.ntmps158;go_wp2;all_goals first | (exfalso;omega) | go_ret
   all_goals exact⟨rfl,0,#[_],alloc_eq_grow w _⟩
  ·have h5:(c != 1)=false\/(c != -1)=false:=by
    by_cases e:c=1
    ·left;simp [e]
    ·right;have:c = -1:=by omega
     simp [this]
   have HH:=hide h2;clear h2;have h6:((c != 1)&&(c != -1))=false:=by rcases h5 with e | e<;>simp [e]
   clear h5;by_cases h3:d<1\/10000<d\/q<1\/1000<q;focus
    rw [ok3 h HH.out h3]
   rotate_left;focus
    rw [ok0 h HH.out h3]
   all_goals
    clear HH;go_enter Tryz.func158,Tryz.ntmps158;go_wp2;all_goals first | (exfalso;simp_all;omega) | go_ret
    all_goals exact⟨rfl,0,#[_],alloc_eq_grow w _⟩
def ORow (w:World) (p:Option Addr) (xs:List Odr):Prop :=
 xs=[]\/∃b off,p=some ⟨b,off,none⟩/\∀j,j<xs.length->∀i v,(enc xs[j]!)[i]? = some v->w.cell? ⟨b,off+j*5+i,none⟩=some v
theorem grow_below (w:World)(k:Nat)(os:Array Obj):Below w.heap.size w (grow (w.drewN k) os) :=
 ⟨rfl,rfl,rfl,by simp [grow],fun i hi=>by
  show ((w.drewN k).heap++os)[i]? = _;rw [Array.getElem?_append_left (by exact hi)];rfl⟩
theorem orow_below {w w':World}{p:Option Addr}{xs:List Odr}(h:ORow w p xs)(hb:Below w.heap.size w w'):ORow w' p xs:=by
 rcases h with rfl | ⟨b,off,rfl,hc⟩
 ·exact .inl rfl
 ·refine .inr ⟨b,off,rfl,fun j hj i v hv=>?_⟩;have:=hc j hj i v hv;rw [hb.cell (World.block_lt_of_cell? w _ this)];exact this
theorem orow_cells {w:World}{b off:Nat}{xs:List Odr}(hc:∀j,j<xs.length->∀i v,(enc xs[j]!)[i]? = some v->w.cell? ⟨b,off+j*5+i,none⟩=some v){j:Nat}(hj:j<xs.length) :
  w.cell? ⟨b,off+j*5,none⟩=some (.int .i64 (oid xs[j]!))/\w.cell? ⟨b,off+j*5+1,none⟩=some (.int .i64 (oac xs[j]!))/\w.cell? ⟨b,off+j*5+2,none⟩=some (.int .i64 (osd xs[j]!))/\w.cell? ⟨b,off+j*5+3,none⟩=some (.int .i64 (opr xs[j]!))/\w.cell? ⟨b,off+j*5+4,none⟩=some (.int .i64 (oqt xs[j]!)) :=
 ⟨hc j hj 0 _ rfl,hc j hj 1 _ rfl,hc j hj 2 _ rfl,hc j hj 3 _ rfl,hc j hj 4 _ rfl⟩
theorem ahead_lt {a b:Odr}(h:opr a=opr b):ahead a b=decide (oid a<oid b):=by unfold ahead;rw [if_pos h]
theorem ahead_buy {a b:Odr}(h:¬opr a=opr b)(h2:osd a=1):ahead a b=decide (opr b<opr a):=by unfold ahead;rw [if_neg h,if_pos h2]
theorem ahead_sell {a b:Odr}(h:¬opr a=opr b)(h2:¬osd a=1):ahead a b=decide (opr a<opr b):=by unfold ahead;rw [if_neg h,if_neg h2]
theorem ahead_grow (a b c d q a' b' c' d' q':Int)(w:World) :
  Calls Tryz.prog 191 #[.agg #[.int .i64 a,.int .i64 b,.int .i64 c,.int .i64 d,.int .i64 q],.agg #[.int .i64 a',.int .i64 b',.int .i64 c',.int .i64 d',.int .i64 q']] w
   fun e w'=>e=.returned (.bool (ahead (a,b,c,d,q) (a',b',c',d',q')))/\∃k os,w'=grow (w.drewN k) os:=by
 by_cases h1:d=d';focus
  rw [ahead_lt h1];subst h1
 rotate_left;focus
  have e1:(d == d')=false:=by simp [h1]
  by_cases h2:c=1;focus
   rw [ahead_buy h1 h2];subst h2
  rotate_left;focus
   rw [ahead_sell h1 h2];have e2:(c == 1)=false:=by simp [h2]
 all_goals
  go_enter Tryz.func191,Tryz.ntmps191;go_wp2;go_ret;exact⟨rfl,0,#[_,_],by rw [alloc_eq_grow,alloc_eq_grow,grow_grow];rfl⟩
theorem count_any (p p':Option Addr)(n n' c c':Nat)(w:World)(hn:n<=140737488351232)(hn':n'<=140737488351232) :
  Calls Tryz.prog 152 #[.agg #[.slice p n c,.slice p' n' c']] w fun e w'=>e=.returned (.int .i64 ((n:Int)+(n':Int)))/\∃k os,w'=grow (w.drewN k) os:=by
 go_enter Tryz.func152,Tryz.ntmps152;go_wp2;go_ret;exact⟨rfl,0,#[_],alloc_eq_grow w _⟩
theorem firstPrice_any (p:Option Addr)(c:Nat)(xs:List Odr)(w:World)(h:ORow w p xs) :
  Calls Tryz.prog 206 #[.slice p xs.length c] w fun e w'=>e=.returned (.int .i64 (firstPrice xs))/\w'=w:=by
 rcases h with rfl | ⟨b,off,rfl,hc⟩
 ·go_enter Tryz.func206,Tryz.ntmps206;go_wp2;go_ret;exact⟨rfl,rfl⟩
 ·cases xs with
  |nil =>
   go_enter Tryz.func206,Tryz.ntmps206;go_wp2;go_ret;exact⟨rfl,rfl⟩
  |cons x l =>
   have h3:=(orow_cells hc (j:=0) (by simp)).2.2.2.1;simp only [Nat.zero_mul,Nat.add_zero,List.getElem!_cons_zero] at h3;generalize hn:(x::l).length=n;have h0:0<n:=by rw [<- hn];simp
   clear hn hc;simp only [firstPrice];go_enter Tryz.func206,Tryz.ntmps206;go_wp2;go_ret;exact⟨rfl,rfl⟩
theorem crossesBest_any (o1 o2 o3 o4 o5:Int)(p:Option Addr)(c:Nat)(xs:List Odr)(w:World)(h:ORow w p xs) :
  Calls Tryz.prog 154 #[.agg #[.int .i64 o1,.int .i64 o2,.int .i64 o3,.int .i64 o4,.int .i64 o5],.slice p xs.length c] w fun e w'=>e=.returned (.bool (crosses (o1,o2,o3,o4,o5) xs))/\∃k os,w'=grow (w.drewN k) os:=by
 cases xs with
 |nil =>
  simp only [crosses];go_enter Tryz.func154,Tryz.ntmps154;go_wp2;go_ret;exact⟨rfl,0,#[_],alloc_eq_grow w _⟩
 |cons x l =>
  rcases h with h | ⟨b,off,rfl,hc⟩
  ·cases h
  have h3:=(orow_cells hc (j:=0) (by simp)).2.2.2.1;simp only [Nat.zero_mul,Nat.add_zero,List.getElem!_cons_zero] at h3;have hb:=World.block_lt_of_cell? w _ h3;have h4:=fun (o:Obj)=>(cell?_grow w #[o] ⟨b,off+3,none⟩ hb).trans h3;simp only [<- alloc_eq_grow] at h4;generalize hn:(x::l).length=n;have h0:0<n:=by rw [<- hn];simp
  clear hn hc h3;simp only [crosses];generalize opr x=px at h4 ⊢;by_cases h2:o3=1;focus
   rw [if_pos h2];subst h2
  rotate_left;focus
   rw [if_neg h2];have e2:(o3 == 1)=false:=by simp [h2]
  all_goals
   go_enter Tryz.func154,Tryz.ntmps154;go_wp2_with fail;go_quiet (fail);go_wp2;go_ret;exact⟨rfl,_,#[_],by first | exact alloc_eq_grow _ _ | rfl⟩
open Go.Maps
def prevAt (xs:List Odr) (k:Nat):Option Odr:=if k=0 then none else some xs[k-1]!
def sideAt (side:Int) (seen:List Int) (xs:List Odr) (k:Nat):Int:=sideErr side (prevAt xs k) (seen++(xs.take k).map oid) (xs.drop k)
theorem drop_at {xs:List Odr}{k:Nat}(h:k<xs.length):xs.drop k=xs[k]! :: xs.drop (k+1):=by
 rw [List.drop_eq_getElem_cons h,getElem!_pos xs k h]
theorem sideAt_zero (side:Int)(seen:List Int)(xs:List Odr):sideAt side seen xs 0=sideErr side none seen xs:=by
 simp [sideAt,prevAt]
theorem sideAt_end (side:Int)(seen:List Int)(xs:List Odr):sideAt side seen xs xs.length=0:=by
 unfold sideAt;rw [List.drop_length];rfl
theorem sideAt_bad {side:Int}{seen:List Int}{xs:List Odr}{k:Nat}(h:k<xs.length)(hb:okOrder xs[k]!≠0):sideAt side seen xs k=okOrder xs[k]!:=by
 unfold sideAt;rw [drop_at h];unfold sideErr;rw [if_pos hb]
theorem sideAt_side {side:Int}{seen:List Int}{xs:List Odr}{k:Nat}(h:k<xs.length)(hb:okOrder xs[k]! = 0)(hs:osd xs[k]!≠side):sideAt side seen xs k=4:=by
 unfold sideAt;rw [drop_at h];unfold sideErr;rw [if_neg (fun e=>e hb),if_pos (.inl hs)]
theorem sideAt_form {side:Int}{seen:List Int}{xs:List Odr}{k:Nat}(h:k<xs.length)(hb:okOrder xs[k]! = 0)(hk:0<k)(ha:ahead xs[k-1]! xs[k]! = false):sideAt side seen xs k=4:=by
 unfold sideAt;rw [drop_at h];unfold sideErr;rw [if_neg (fun e=>e hb),if_pos];right;unfold prevAt;rw [if_neg (by omega)];show (!ahead _ _)=true;rw [ha];rfl
theorem ahead_prev {xs:List Odr}{k:Nat}{o:Odr}(ha:k=0\/ahead xs[k-1]! o=true):((prevAt xs k).elim false fun p=>!ahead p o)=false:=by
 unfold prevAt;split
 ·rfl
 ·rcases ha with ha | ha
  ·omega
  ·show (!ahead _ _)=false;rw [ha];rfl
theorem sideAt_twice {side:Int}{seen:List Int}{xs:List Odr}{k:Nat}(h:k<xs.length)(hb:okOrder xs[k]! = 0)(hs:osd xs[k]! = side)(ha:k=0\/ahead xs[k-1]! xs[k]! = true)
  (ht:oid xs[k]!∈seen++(xs.take k).map oid):sideAt side seen xs k=6:=by
 unfold sideAt;rw [drop_at h];unfold sideErr;rw [if_neg (fun e=>e hb),if_neg,if_pos ht];rw [ahead_prev ha];rintro (e | e)
 ·exact e hs
 ·cases e
theorem take_at {xs:List Odr}{k:Nat}(h:k<xs.length):xs.take (k+1)=xs.take k++[xs[k]!]:=by
 rw [List.take_add_one,List.getElem?_eq_getElem h,getElem!_pos xs k h];rfl
theorem ids_at {xs:List Odr}{k:Nat}(seen:List Int)(h:k<xs.length):seen++(xs.take (k+1)).map oid=(seen++(xs.take k).map oid)++[oid xs[k]!]:=by
 rw [take_at h];simp
theorem sideAt_on {side:Int}{seen:List Int}{xs:List Odr}{k:Nat}(h:k<xs.length)(hb:okOrder xs[k]! = 0)(hs:osd xs[k]! = side)(ha:k=0\/ahead xs[k-1]! xs[k]! = true)
  (ht:¬oid xs[k]!∈seen++(xs.take k).map oid):sideAt side seen xs k=sideAt side seen xs (k+1):=by
 unfold sideAt;rw [drop_at h,ids_at seen h]
 conv=>lhs;unfold sideErr
 rw [if_neg (fun e=>e hb),if_neg (by rw [ahead_prev ha];rintro (e | e);exact e hs;cases e),if_neg ht];rfl
def Sset (ids:List Int):DataW Unit:=setOf (.agg []) (ids.map (Lit.int .i64))
theorem Sset_snoc (ids:List Int)(x:Int):Sset (ids++[x])=(Sset ids).put (.int .i64 x) (.agg []):=by
 unfold Sset;rw [List.map_append,List.map_singleton,setOf_snoc]
theorem any_key (x:Int):∀l:List Int,l.any ((fun y:Lit=>y.sameKey (.int .i64 x)) ∘ Lit.int .i64)=decide (x∈l)
 |[]=>by simp
 |a::r=>by
  rw [List.any_cons,any_key x r];show (decide (IntKind.i64=IntKind.i64/\a=x) || decide (x∈r))=_;by_cases e:a=x
  ·subst e;simp
  ·have e':¬x=a:=fun h=>e h.symm;simp [e,e']
theorem has_Sset (ids:List Int)(x:Int):Maps.has (Sset ids) (.int .i64 x)=decide (x∈ids):=by
 unfold Sset;rw [has_setOf _ _ _ (fun y hy=>by obtain⟨_,_,rfl⟩:=List.mem_map.1 hy;trivial),List.any_map];exact any_key x _
theorem lawI:Keyed Tryz.prog 3:=int_keyed Tryz.underlying3
theorem zeroU (w:World):(zeroValue 261).run Tryz.prog w=.ok (.agg #[]) w:=by kernel_rfl
theorem keyI {x:Int}(h:1<=x/\x<=100000):keyOf Tryz.prog 3 (.int .i64 x)=some (.int .i64 x):=keyOf_int_mk Tryz.underlying3 (WalkArith.wf_i64 (by omega))
abbrev OwnsSet (w:World) (B m:Nat) (ids:List Int):Prop:=w.ownsMap Tryz.prog 3 (unitElem (H:=Unit)) B m (Sset ids)
theorem ownsSet_lt {w:World}{B m:Nat}{ids:List Int}(h:OwnsSet w B m ids):B<w.heap.size:=by
 obtain⟨es,clock,h1,_⟩:=h;exact(Array.getElem?_eq_some_iff.1 h1).1
open Go.Maps
theorem ownsSet_below {S:Nat}{w w':World}{B m:Nat}{ids:List Int}(h:OwnsSet w B m ids)(hb:Below S w w')(hB:B<S):OwnsSet w' B m ids:=by
 obtain⟨es,clock,h1,rest⟩:=h;exact⟨es,clock,(hb.block B hB).trans h1,rest⟩
theorem box_below (w:World)(o:Obj)(q:Nat)(os:Array Obj):Below w.heap.size w (grow ((w.alloc o).drewN q) os) :=
 ((Below.refl _ w).alloc (Nat.le_refl _) o).trans ((grow_below (w.alloc o) q os).mono (by simp))
theorem box_cell (w:World)(cs:Array Value)(t:TypeId)(q:Nat)(os:Array Obj)(i:Nat)(v:Value)(h:cs[i]? = some v):(grow ((w.alloc (.cells cs t)).drewN q) os).cell? ⟨w.heap.size,i,none⟩=some v:=by
 refine cell_grown (by simp) ?_ q os;rw [World.cell?_alloc_at _ _ _ _ (by simp)];exact h
theorem checkSide_some (b off c:Nat)(xs:List Odr)(side:Int)(B m:Nat)(seen:List Int)(w:World)(hB:b<B)(hown0:OwnsSet w B m seen)(hlen:xs.length<=40)(hm:m<=40)
  (hc:∀j,j<xs.length->∀i v,(enc xs[j]!)[i]? = some v->w.cell? ⟨b,off+j*5+i,none⟩=some v) :
  Calls Tryz.prog 153 #[.slice (some ⟨b,off,none⟩) xs.length c,.int .i64 side,.map (some B)] w fun e w' =>
   e=.returned (.int .i64 (sideErr side none seen xs))/\Below B w w'/\(sideErr side none seen xs=0->OwnsSet w' B (m+xs.length) (seen++xs.map oid)):=by
 have mixed:Tryz.prog.follows .mixedOrders=true:=by kernel_rfl
 rw [<- sideAt_zero];generalize hr:sideAt side seen xs 0=r;have R0:=hide hr;clear hr;have HC:=hide hc;clear hc;generalize hn:xs.length=n at hlen ⊢;have N:=hide hn;clear hn;have O0:=hide hown0;clear hown0;go_enter Tryz.func153,Tryz.ntmps153;go_wp2
 go_loopw [14] (fun i wr=>∃k:Nat,k<=n/\i=.int .i64 k/\Hid (OwnsSet wr B (m+k) (seen++(xs.take k).map oid))/\Hid (Below B w wr)/\Hid (sideAt side seen xs k=r)) (fun i _=>n - (intOf i).toNat)
 case atStart=>exact⟨0,Nat.zero_le _,rfl,by simpa [Hid] using O0,Below.refl _ _,R0⟩
 case round =>
  obtain⟨k,hk,rfl,O,BW,R⟩:=hrel;by_cases hlt:k<n
  ·have hltz:(k:Int)<(n:Int):=by omega
   have hkx:k<xs.length:=by rw [N.out];exact hlt
   obtain⟨c0,c1,c2,c3,c4⟩:=orow_cells (w:=wr) (b:=b) (off:=off) (xs:=xs) (fun j hj i v hv=>(BW.out.cell hB).trans (HC.out j hj i v hv)) hkx;generalize hx:xs[k]! = x at c0 c1 c2 c3 c4;have X:=hide hx;clear hx;obtain⟨a,ac,sd,pr,q⟩:=x;dsimp only [oid,oac,osd,opr,oqt] at c0 c1 c2 c3 c4;by_cases hok:okOrder (a,ac,sd,pr,q)=0
   ·have hBr:B<wr.heap.size:=ownsSet_lt O.out;go_wp2_with fail;refine(checkOrder_grow _ _ _ _ _ _).mono ?_;rintro e w' ⟨rfl,q1,os1,hw⟩;rw [hok];have B2:Hid (Below wr.heap.size wr w'):=hide (by rw [hw];exact box_below _ _ _ _);have O2:=hide (ownsSet_below O.out B2.out hBr);have e0:∀n os,(grow (w'.drewN n) os).cell? ⟨wr.heap.size,0,none⟩=some (.int .i64 a):=fun n os=>by rw [hw];exact cell_grown (by simp [grow];omega) (box_cell _ _ _ _ _ _ _ rfl) n os
    have e1:∀n os,(grow (w'.drewN n) os).cell? ⟨wr.heap.size,1,none⟩=some (.int .i64 ac):=fun n os=>by rw [hw];exact cell_grown (by simp [grow];omega) (box_cell _ _ _ _ _ _ _ rfl) n os
    have e2:∀n os,(grow (w'.drewN n) os).cell? ⟨wr.heap.size,2,none⟩=some (.int .i64 sd):=fun n os=>by rw [hw];exact cell_grown (by simp [grow];omega) (box_cell _ _ _ _ _ _ _ rfl) n os
    have e3:∀n os,(grow (w'.drewN n) os).cell? ⟨wr.heap.size,3,none⟩=some (.int .i64 pr):=fun n os=>by rw [hw];exact cell_grown (by simp [grow];omega) (box_cell _ _ _ _ _ _ _ rfl) n os
    have e4:∀n os,(grow (w'.drewN n) os).cell? ⟨wr.heap.size,4,none⟩=some (.int .i64 q):=fun n os=>by rw [hw];exact cell_grown (by simp [grow];omega) (box_cell _ _ _ _ _ _ _ rfl) n os
    clear hw c0 c1 c2 c3 c4;generalize w'=W2 at B2 O2 e0 e1 e2 e3 e4 ⊢;by_cases hs:sd=side
    ·have hs':(sd != side)=false:=by simp [hs]
     have HS:=hide hs;clear hs;by_cases hk0:k=0
     ·have HA:Hid (k=0\/ahead xs[k-1]! xs[k]! = true):=.inl hk0;have hk1:decide (0<k)=false:=by simp;omega
      have HK:=hide hk0;clear hk0;go_wp2_with fail;refine wp_region_quiet_grown (by assumption) (by kernel_rfl) ?_;repeat (go_big_quiet_step (fail))
      refine wpQuiet_nil ?_;intro _ hwq;obtain⟨⟨nq,osq⟩,hwq'⟩:=hwq;subst hwq';have O3:=hide (ownsSet_below O2.out (grow_below W2 nq osq) (Nat.lt_of_lt_of_le hBr B2.out.size));have B3:=hide (B2.out.trans ((grow_below W2 nq osq).mono B2.out.size));have d0:(grow (W2.drewN nq) osq).cell? ⟨wr.heap.size,0,none⟩=some (.int .i64 a):=e0 nq osq;clear e0 e1 e2 e3 e4 O2 B2;generalize grow (W2.drewN nq) osq=W3 at O3 B3 d0 ⊢;have hBW:=Nat.lt_of_lt_of_le hBr B3.out.size;have d1:∀o,(W3.alloc o).cell? ⟨wr.heap.size,0,none⟩=some (.int .i64 a):=fun o=>by rw [alloc_eq_grow];exact(cell?_grow W3 #[o] _ (World.block_lt_of_cell? _ _ d0)).trans d0
      have hkey:=keyI (okOrder_id hok);dsimp only [oid] at hkey;have hhas:=has_Sset (seen++(xs.take k).map oid) a;generalize hI:seen++(xs.take k).map oid=I at O3 hhas;have HI:=hide hI;clear hI;by_cases hin:a∈I
      ·rw [decide_eq_true hin] at hhas
       go_wp2_with (first
        | (at_lookup;refine wpList_lookup_own_unit _ rfl _ _ 222 rfl 3 261 lawI Tryz.underlying222 (zeroU _) B (m+k) _ rfl O3.out _ _ rfl hkey ?_)
        |go_in)
       go_ret;have hrr:r=6:=by rw [<- R.out];exact sideAt_twice hkx (by rw [X.out];exact hok) (by rw [X.out];exact HS.out) HA.out (by rw [X.out,HI.out];exact hin)
       refine⟨by rw [hrr];rfl,?_,fun h0=>by rw [hrr] at h0;cases h0⟩;exact BW.out.trans ((B3.out.alloc B3.out.size _).mono (Nat.le_of_lt hBr))
      ·rw [decide_eq_false hin] at hhas
       go_wp2_with (first
        | (at_lookup;refine wpList_lookup_own_unit _ rfl _ _ 222 rfl 3 261 lawI Tryz.underlying222 (zeroU _) B (m+k) _ rfl O3.out _ _ rfl hkey ?_)
        | (at_mapUpdate;refine wpList_mapUpdate_own _ rfl _ _ _ 222 rfl 3 261 lawI Tryz.underlying222 (unitElem (H:=Unit)) B (m+k) _ rfl (O3.out.alloc _) (by unfold maxLen;omega) _ _ _ rfl rfl hkey _ [] unitElem_mk ?_;intro w1 hown1 hgrow1)
        |go_in)
       go_roundw
       case rel =>
        refine⟨k+1,by omega,by go_num,?_,?_,?_⟩
        ·show OwnsSet w1 B (m+(k+1)) _;rw [ids_at seen hkx,X.out,HI.out];unfold OwnsSet;rw [Sset_snoc];exact hown1
        ·refine BW.out.trans ((((B3.out.alloc B3.out.size _).mono (Nat.le_of_lt hBr))).grown hgrow1 (by simp;omega) (fun j hj=>by cases hj;exact Nat.le_refl _))
        ·show sideAt side seen xs (k+1)=r;rw [<- R.out];exact(sideAt_on hkx (by rw [X.out];exact hok) (by rw [X.out];exact HS.out) HA.out (by rw [X.out,HI.out];exact hin)).symm
       case measure=>simp [intOf];omega
     ·have hk1:(0:Int)<(k:Int):=by omega
      obtain⟨k0,hk2⟩:∃k0:Nat,k=k0+1:=⟨k-1,by omega⟩;have hkx1:k-1<xs.length:=by omega
      obtain⟨f0,f1,f2,f3,f4⟩:=orow_cells (w:=W2) (b:=b) (off:=off) (xs:=xs) (fun j hj i v hv=>(B2.out.cell (Nat.lt_trans hB hBr)).trans ((BW.out.cell hB).trans (HC.out j hj i v hv))) hkx1;have hbW:b<W2.heap.size:=Nat.lt_of_lt_of_le (Nat.lt_trans hB hBr) B2.out.size;generalize hy:xs[k-1]! = y at f0 f1 f2 f3 f4;have Y:=hide hy;clear hy;obtain⟨a',ac',sd',pr',q'⟩:=y;dsimp only [oid,oac,osd,opr,oqt] at f0 f1 f2 f3 f4;have g0:=fun n os=>cell_grown (a:=⟨b,off+(k-1)*5,none⟩) hbW f0 n os;have g1:=fun n os=>cell_grown (a:=⟨b,off+(k-1)*5+1,none⟩) hbW f1 n os;have g2:=fun n os=>cell_grown (a:=⟨b,off+(k-1)*5+2,none⟩) hbW f2 n os;have g3:=fun n os=>cell_grown (a:=⟨b,off+(k-1)*5+3,none⟩) hbW f3 n os;have g4:=fun n os=>cell_grown (a:=⟨b,off+(k-1)*5+4,none⟩) hbW f4 n os;clear f0 f1 f2 f3 f4 hkx1;have hk3:0<k:=by omega
      have HK:=hide hk2;clear hk2;go_wp2_with fail
      cases hah:ahead (a',ac',sd',pr',q') (a,ac,sd,pr,q) with
      |false =>
       refine wp_region_quiet_grown (by assumption) (by kernel_rfl) ?_;repeat (go_big_quiet_step (first | (go_at_call 191;refine Calls.grown_of (hah▸ahead_grow _ _ _ _ _ _ _ _ _ _ _))))
       refine wpQuiet_nil ?_;intro _ hwq;obtain⟨⟨nq,osq⟩,hwq'⟩:=hwq;subst hwq';go_wp2;go_ret;have hrr:r=4:=by rw [<- R.out];exact sideAt_form hkx (by rw [X.out];exact hok) hk3 (by rw [X.out,Y.out];exact hah)
       refine⟨by rw [hrr];rfl,?_,fun h0=>by rw [hrr] at h0;cases h0⟩;exact BW.out.trans ((B2.out.trans ((grow_below W2 nq osq).mono B2.out.size)).mono (Nat.le_of_lt hBr))
      |true =>
       have HA:Hid (k=0\/ahead xs[k-1]! xs[k]! = true):=.inr (by rw [X.out,Y.out];exact hah);refine wp_region_quiet_grown (by assumption) (by kernel_rfl) ?_;repeat (go_big_quiet_step (first | (go_at_call 191;refine Calls.grown_of (hah▸ahead_grow _ _ _ _ _ _ _ _ _ _ _))))
       refine wpQuiet_nil ?_;intro _ hwq;obtain⟨⟨nq,osq⟩,hwq'⟩:=hwq;subst hwq';have O3:=hide (ownsSet_below O2.out (grow_below W2 nq osq) (Nat.lt_of_lt_of_le hBr B2.out.size));have B3:=hide (B2.out.trans ((grow_below W2 nq osq).mono B2.out.size));have d0:(grow (W2.drewN nq) osq).cell? ⟨wr.heap.size,0,none⟩=some (.int .i64 a):=e0 nq osq;clear e0 e1 e2 e3 e4 O2 B2;generalize grow (W2.drewN nq) osq=W3 at O3 B3 d0 ⊢;have hBW:=Nat.lt_of_lt_of_le hBr B3.out.size;have d1:∀o,(W3.alloc o).cell? ⟨wr.heap.size,0,none⟩=some (.int .i64 a):=fun o=>by rw [alloc_eq_grow];exact(cell?_grow W3 #[o] _ (World.block_lt_of_cell? _ _ d0)).trans d0
       have hkey:=keyI (okOrder_id hok);dsimp only [oid] at hkey;have hhas:=has_Sset (seen++(xs.take k).map oid) a;generalize hI:seen++(xs.take k).map oid=I at O3 hhas;have HI:=hide hI;clear hI;by_cases hin:a∈I
       ·rw [decide_eq_true hin] at hhas
        go_wp2_with (first
         | (at_lookup;refine wpList_lookup_own_unit _ rfl _ _ 222 rfl 3 261 lawI Tryz.underlying222 (zeroU _) B (m+k) _ rfl O3.out _ _ rfl hkey ?_)
         |go_in)
        go_ret;have hrr:r=6:=by rw [<- R.out];exact sideAt_twice hkx (by rw [X.out];exact hok) (by rw [X.out];exact HS.out) HA.out (by rw [X.out,HI.out];exact hin)
        refine⟨by rw [hrr];rfl,?_,fun h0=>by rw [hrr] at h0;cases h0⟩;exact BW.out.trans ((B3.out.alloc B3.out.size _).mono (Nat.le_of_lt hBr))
       ·rw [decide_eq_false hin] at hhas
        go_wp2_with (first
         | (at_lookup;refine wpList_lookup_own_unit _ rfl _ _ 222 rfl 3 261 lawI Tryz.underlying222 (zeroU _) B (m+k) _ rfl O3.out _ _ rfl hkey ?_)
         | (at_mapUpdate;refine wpList_mapUpdate_own _ rfl _ _ _ 222 rfl 3 261 lawI Tryz.underlying222 (unitElem (H:=Unit)) B (m+k) _ rfl (O3.out.alloc _) (by unfold maxLen;omega) _ _ _ rfl rfl hkey _ [] unitElem_mk ?_;intro w1 hown1 hgrow1)
         |go_in)
        go_roundw
        case rel =>
         refine⟨k+1,by omega,by go_num,?_,?_,?_⟩
         ·show OwnsSet w1 B (m+(k+1)) _;rw [ids_at seen hkx,X.out,HI.out];unfold OwnsSet;rw [Sset_snoc];exact hown1
         ·refine BW.out.trans ((((B3.out.alloc B3.out.size _).mono (Nat.le_of_lt hBr))).grown hgrow1 (by simp;omega) (fun j hj=>by cases hj;exact Nat.le_refl _))
         ·show sideAt side seen xs (k+1)=r;rw [<- R.out];exact(sideAt_on hkx (by rw [X.out];exact hok) (by rw [X.out];exact HS.out) HA.out (by rw [X.out,HI.out];exact hin)).symm
        case measure=>simp [intOf];omega
    ·have hs':(sd != side)=true:=by simp [hs]
     go_wp2_with fail;clear e0 e1 e3 e4;refine wp_region_quiet_grown (by assumption) (by kernel_rfl) ?_;repeat (go_big_quiet_step (fail))
     refine wpQuiet_nil ?_;intro _ hwq;obtain⟨⟨nq,osq⟩,hwq'⟩:=hwq;subst hwq';go_wp2;go_ret;have hrr:r=4:=by rw [<- R.out];exact sideAt_side hkx (by rw [X.out];exact hok) (by rw [X.out];exact hs)
     refine⟨by rw [hrr];rfl,?_,fun h0=>by rw [hrr] at h0;cases h0⟩;exact BW.out.trans ((B2.out.trans ((grow_below W2 nq osq).mono B2.out.size)).mono (Nat.le_of_lt hBr))
   ·go_wp2_with (go_at_call 158;refine(checkOrder_grow _ _ _ _ _ _).mono ?_;rintro e w' ⟨rfl,q1,os1,rfl⟩);go_ret;have hrr:r=okOrder (a,ac,sd,pr,q):=by rw [<- R.out,sideAt_bad hkx (by rw [X.out];exact hok),X.out]
    refine⟨by rw [hrr];rfl,?_,fun h0=>absurd (hrr.symm.trans h0) hok⟩;exact BW.out.trans ((box_below _ _ _ _).mono (Nat.le_of_lt (ownsSet_lt O.out)))
  ·have hk':k=n:=by omega
   subst hk';go_wp2;go_ret;have hrr:r=0:=by rw [<- R.out,<- N.out,sideAt_end]
   refine⟨by rw [hrr];rfl,BW.out,fun _=>?_⟩;have:=O.out;rw [<- N.out,List.take_length] at this;rw [<- N.out];exact this
theorem checkSide_none (p:Option Addr)(c:Nat)(side:Int)(v:Value)(w:World) :
  Calls Tryz.prog 153 #[.slice p 0 c,.int .i64 side,v] w fun e w'=>e=.returned (.int .i64 0)/\w'=w:=by
 go_enter Tryz.func153,Tryz.ntmps153;go_wp2;refine wp_loop_rounds 1 ?_;rw [rounds_succ];go_wp2;go_ret;exact⟨rfl,rfl⟩
theorem checkSide_any (p:Option Addr)(c:Nat)(xs:List Odr)(side:Int)(B m:Nat)(seen:List Int)(w w0:World)(h:ORow w0 p xs)(hw:Below w0.heap.size w0 w)(hB:w0.heap.size<=B)(hown:OwnsSet w B m seen)(hlen:xs.length<=40)(hm:m<=40) :
  Calls Tryz.prog 153 #[.slice p xs.length c,.int .i64 side,.map (some B)] w fun e w' =>
   e=.returned (.int .i64 (sideErr side none seen xs))/\Below B w w'/\(sideErr side none seen xs=0->OwnsSet w' B (m+xs.length) (seen++xs.map oid)):=by
 have hnil:∀xs:List Odr,xs=[]->Calls Tryz.prog 153 #[.slice p xs.length c,.int .i64 side,.map (some B)] w fun e w' =>
   e=.returned (.int .i64 (sideErr side none seen xs))/\Below B w w'/\(sideErr side none seen xs=0->OwnsSet w' B (m+xs.length) (seen++xs.map oid)):=by
  rintro _ rfl;refine(checkSide_none p c side (.map (some B)) w).mono ?_;rintro e w' ⟨rfl,rfl⟩;exact⟨rfl,Below.refl _ _,fun _=>by simpa using hown⟩
 by_cases hx:xs=[]
 ·exact hnil xs hx
 ·rcases h with h | ⟨b,off,rfl,hc⟩
  ·exact absurd h hx
  ·have hbl:b<w0.heap.size:=World.block_lt_of_cell? w0 _ (hc 0 (List.length_pos_iff.2 hx) 0 _ rfl);refine checkSide_some b off c xs side B m seen w (Nat.lt_of_lt_of_le hbl hB) hown hlen hm fun j hj i v hv=>?_;exact(hw.cell hbl).trans (hc j hj i v hv)
end Go.Proofs.YthdjfhnhjiageaaGreatDoor.Bk
