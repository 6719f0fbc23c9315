import Derived.Test.YthdjfhnhjiageaaGreatDoorG08
import Derived.Test.YthdjfhnhjiageaaGreatDoorG03
import Derived.Laws.AppendOwnNone
import Derived.Test.YthdjfhnhjiageaaGreatDoorG04
set_option maxHeartbeats 8000000
set_option maxRecDepth 100000
namespace Go.Proofs.YthdjfhnhjiageaaGreatDoor.Bk
open Go.RowKit Go.Sort Go.Maps
theorem below_map (w:World){W:World}(h:Below w.heap.size w W):Below w.heap.size w (W.alloc (.map #[] 0)):=h.alloc h.size _
theorem cell_alloc {w:World}{a:Addr}{v:Value}(h:w.cell? a=some v)(o:Obj):(w.alloc o).cell? a=some v:=by
 rw [alloc_eq_grow];exact(cell?_grow w #[o] _ (World.block_lt_of_cell? _ _ h)).trans h
theorem check_any (p p':Option Addr)(c c':Nat)(bids asks:List Odr)(w:World)(h:ORow w p bids)(h':ORow w p' asks)(hn:bids.length<=140737488351232)(hn':asks.length<=140737488351232) :
  Calls Tryz.prog 112 #[.agg #[.slice p bids.length c,.slice p' asks.length c']] w fun e w'=>e=.returned (.int .i64 (bookErr bids asks))/\Below w.heap.size w w':=by
 have mixed:Tryz.prog.follows .mixedOrders=true:=by kernel_rfl
 have hmm:=@run_makeMap Tryz.prog;generalize hr:bookErr bids asks=r;have R:=hide hr;clear hr;have H:=hide h;have H':=hide h';clear h h';have CB:=fun (B m:Nat) (w1:World) (hw:Below w.heap.size w w1) (hB:w.heap.size<=B) (hown:OwnsSet w1 B m []) hl hm=>checkSide_any p c bids 1 B m [] w1 w H.out hw hB hown hl hm;have CA:=fun (B m:Nat) (w1:World) (hw:Below w.heap.size w w1) (hB:w.heap.size<=B) (hown:OwnsSet w1 B m (bids.map oid)) hl hm=>checkSide_any p' c' asks (-1) B m (bids.map oid) w1 w H'.out hw hB hown hl hm;have CC:=fun (o:Odr) (w1:World) (hw:Below w.heap.size w w1)=>crossesBest_any o.1 o.2.1 o.2.2.1 o.2.2.2.1 o.2.2.2.2 p' c' asks w1 (orow_below H'.out hw);have hfew:Hid (40<bids.length+asks.length->r=2):=fun h=>by rw [<- R.out];unfold bookErr;rw [if_pos h]
 have hb0:Hid (¬40<bids.length+asks.length->sideErr 1 none [] bids≠0->r=sideErr 1 none [] bids):=fun h1 h2=>by rw [<- R.out];unfold bookErr;rw [if_neg h1,if_pos h2]
 have ha0:Hid (¬40<bids.length+asks.length->sideErr 1 none [] bids=0->sideErr (-1) none (bids.map oid) asks≠0->r=sideErr (-1) none (bids.map oid) asks):=fun h1 h2 h3=>by rw [<- R.out];unfold bookErr;rw [if_neg h1,if_neg (fun e=>e h2),if_pos h3]
 have hx0:Hid (¬40<bids.length+asks.length->sideErr 1 none [] bids=0->sideErr (-1) none (bids.map oid) asks=0->r=if crossed bids asks=true then 4 else 0):=fun h1 h2 h3=>by rw [<- R.out];unfold bookErr;rw [if_neg h1,if_neg (fun e=>e h2),if_neg (fun e=>e h3)]
 generalize hnb:bids.length=nb at hn hfew hb0 ha0 hx0 CB ⊢;generalize hna:asks.length=na at hn' hfew hb0 ha0 hx0 CA CC ⊢;have CB':=hide CB;have CA':=hide CA;have CC':=hide CC;have NB:=hide hnb;have NA:=hide hna;clear CB CA CC hnb hna;go_enter Tryz.func112,Tryz.ntmps112;go_wp2_with fail;refine(count_any _ _ _ _ _ _ _ hn hn').mono ?_;rintro e w' ⟨rfl,q1,os1,hw⟩;have B1:Hid (Below w.heap.size w w'):=hide (by rw [hw];exact box_below _ _ _ _);have e0:w'.cell? ⟨w.heap.size,0,none⟩=some (.slice p nb c):=by rw [hw];exact box_cell _ _ _ _ _ _ _ rfl
 have e1:w'.cell? ⟨w.heap.size,1,none⟩=some (.slice p' na c'):=by rw [hw];exact box_cell _ _ _ _ _ _ _ rfl
 have s1:Hid (w.heap.size<w'.heap.size):=World.block_lt_of_cell? _ _ e0;clear hw;by_cases hmany:40<nb+na
 ·have hm2:(40:Int)<(nb:Int)+(na:Int):=by omega
  go_wp2;go_ret;exact⟨by rw [hfew.out hmany];rfl,B1.out⟩
 ·have hm2:¬(40:Int)<(nb:Int)+(na:Int):=by omega
  have f0:=fun o=>cell_alloc e0 o;have f1:=fun o=>cell_alloc e1 o;go_wp2_with fail;refine(CB'.out w'.heap.size 0 _ (below_map w B1.out) B1.out.size (World.ownsMap_made _ _ _ _) (by omega) (by omega)).mono ?_;rintro e w2 ⟨rfl,B2,O2⟩;have B2':Hid (Below w'.heap.size w' w2):=hide (((Below.refl w'.heap.size w').alloc (Nat.le_refl _) _).trans B2);have O2':=hide O2;have g0:w2.cell? ⟨w.heap.size,0,none⟩=some (.slice p nb c):=(B2'.out.cell (p:=⟨w.heap.size,0,none⟩) s1.out).trans e0;have g1:w2.cell? ⟨w.heap.size,1,none⟩=some (.slice p' na c'):=(B2'.out.cell (p:=⟨w.heap.size,1,none⟩) s1.out).trans e1;clear e0 e1 f0 f1 B2 O2;by_cases hb:sideErr 1 none [] bids=0
  ·rw [hb];go_wp2_with fail;have O3:OwnsSet w2 w'.heap.size nb (bids.map oid):=by
    have:=O2'.out hb;rwa [List.nil_append,Nat.zero_add] at this
   refine(CA'.out w'.heap.size nb w2 (B1.out.trans (B2'.out.mono (Nat.le_of_lt s1.out))) B1.out.size O3 (by omega) (by omega)).mono ?_;rintro e w3 ⟨rfl,B3,O3'⟩;clear O3 O3';have B3':Hid (Below w'.heap.size w' w3):=hide (B2'.out.trans B3);have k0:w3.cell? ⟨w.heap.size,0,none⟩=some (.slice p nb c):=(B3.cell (p:=⟨w.heap.size,0,none⟩) s1.out).trans g0;have k1:w3.cell? ⟨w.heap.size,1,none⟩=some (.slice p' na c'):=(B3.cell (p:=⟨w.heap.size,1,none⟩) s1.out).trans g1;have B4:=hide (B1.out.trans (B3'.out.mono (Nat.le_of_lt s1.out)));clear B3 g0 g1 B2' O2' B3';by_cases ha:sideErr (-1) none (bids.map oid) asks=0
   ·rw [ha];have hr4:=hide (hx0.out hmany hb ha);have s3:w.heap.size<w3.heap.size:=World.block_lt_of_cell? _ _ k0;have m0:=fun n os=>cell_grown (a:=⟨w.heap.size,0,none⟩) s3 k0 n os;have m1:=fun n os=>cell_grown (a:=⟨w.heap.size,1,none⟩) s3 k1 n os;by_cases hbn:bids=[]
    ·have hnb0:nb=0:=by rw [<- NB.out,hbn];rfl
     have hcr:crossed bids asks=false:=by rw [hbn];rfl
     have hnd:decide (0<nb)=false:=by rw [hnb0];rfl
     have hr5:=hr4.out;rw [hcr] at hr5;clear hb ha hbn hnb0 hcr;go_wp2_with fail;refine wp_region_quiet_grown (by assumption) (by kernel_rfl) ?_;repeat (go_big_quiet_step (fail))
     refine wpQuiet_nil ?_;intro _ hwq;obtain⟨⟨nq,osq⟩,hwq'⟩:=hwq;subst hwq';go_wp2;go_ret;exact⟨by rw [hr5];rfl,B4.out.trans ((grow_below w3 nq osq).mono B4.out.size)⟩
    ·rcases H.out with hh | ⟨b,off,rfl,hc⟩
     ·exact absurd hh hbn
     ·have hpos:=List.length_pos_iff.2 hbn;obtain⟨x,bs,hbx⟩:=List.exists_cons_of_ne_nil hbn;have hnd:0<nb:=by rw [<- NB.out];exact hpos
      have hbl:b<w.heap.size:=World.block_lt_of_cell? w _ (hc 0 hpos 0 _ rfl);obtain⟨c0,c1,c2,c3,c4⟩:=orow_cells (w:=w3) (b:=b) (off:=off) (xs:=bids) (fun j hj i v hv=>(B4.out.cell hbl).trans (hc j hj i v hv)) hpos;have hx1:bids[0]! = x:=by rw [hbx];rfl
      rw [hx1] at c0 c1 c2 c3 c4;simp only [Nat.zero_mul,Nat.add_zero] at c0 c1 c2 c3 c4;have hcr:crossed bids asks=crosses x asks:=by rw [hbx];rfl
      have hr5:=hide (hr4.out);rw [hcr] at hr5;have hb3:=Nat.lt_of_lt_of_le hbl B4.out.size;obtain⟨a,ac,sd,pr,q⟩:=x;dsimp only [oid,oac,osd,opr,oqt] at c0 c1 c2 c3 c4;have n0:=fun n os=>cell_grown (a:=⟨b,off,none⟩) hb3 c0 n os;have n1:=fun n os=>cell_grown (a:=⟨b,off+1,none⟩) hb3 c1 n os;have n2:=fun n os=>cell_grown (a:=⟨b,off+2,none⟩) hb3 c2 n os;have n3:=fun n os=>cell_grown (a:=⟨b,off+3,none⟩) hb3 c3 n os;have n4:=fun n os=>cell_grown (a:=⟨b,off+4,none⟩) hb3 c4 n os;clear c0 c1 c2 c3 c4 hc hx1 hcr hbx hpos hb ha k0 k1 hr4;have CG:=hide (fun n os=>CC'.out (a,ac,sd,pr,q) (grow (w3.drewN n) os) (B4.out.trans ((grow_below w3 n os).mono B4.out.size)));dsimp only at CG
      cases hcx:crosses (a,ac,sd,pr,q) asks with
      |true =>
       have hr6:=hr5.out;rw [hcx] at hr6;rw [hcx] at CG;go_wp2_with fail;refine wp_region_quiet_grown (by assumption) (by kernel_rfl) ?_;repeat (go_big_quiet_step (first | (go_at_call 154;refine Calls.grown_of (CG.out _ _))))
       refine wpQuiet_nil ?_;intro _ hwq;obtain⟨⟨nq,osq⟩,hwq'⟩:=hwq;subst hwq';go_wp2;go_ret;exact⟨by rw [hr6];rfl,B4.out.trans ((grow_below w3 nq osq).mono B4.out.size)⟩
      |false =>
       have hr6:=hr5.out;rw [hcx] at hr6;rw [hcx] at CG;go_wp2_with fail;refine wp_region_quiet_grown (by assumption) (by kernel_rfl) ?_;repeat (go_big_quiet_step (first | (go_at_call 154;refine Calls.grown_of (CG.out _ _))))
       refine wpQuiet_nil ?_;intro _ hwq;obtain⟨⟨nq,osq⟩,hwq'⟩:=hwq;subst hwq';go_wp2;go_ret;exact⟨by rw [hr6];rfl,B4.out.trans ((grow_below w3 nq osq).mono B4.out.size)⟩
   ·have hr4:=hide (ha0.out hmany hb ha);generalize sideErr (-1) none (bids.map oid) asks=ea at ha hr4 ⊢;go_wp2;go_ret;exact⟨by rw [hr4.out];rfl,B4.out⟩
  ·have hr4:=hide (hb0.out hmany hb);generalize sideErr 1 none [] bids=eb at hb hr4 ⊢;go_wp2;go_ret;exact⟨by rw [hr4.out];rfl,B1.out.trans (B2'.out.mono (Nat.le_of_lt s1.out))⟩
def idxAt (id:Int):List Odr->Nat->Int
 |[],_=>-1
 |o::l,k=>if oid o=id then (k:Int) else idxAt id l (k+1)
theorem idxAt_hit {id:Int}{xs:List Odr}{k:Nat}(h:k<xs.length)(he:oid xs[k]! = id):idxAt id (xs.drop k) k=k:=by
 rw [drop_at h];unfold idxAt;rw [if_pos he]
theorem idxAt_miss {id:Int}{xs:List Odr}{k:Nat}(h:k<xs.length)(he:¬oid xs[k]! = id):idxAt id (xs.drop k) k=idxAt id (xs.drop (k+1)) (k+1):=by
 rw [drop_at h];conv=>lhs;unfold idxAt
 rw [if_neg he]
theorem idxAt_end {id:Int}{xs:List Odr}{k:Nat}:idxAt id (xs.drop xs.length) k = -1:=by
 rw [List.drop_length];rfl
theorem idxAt_ways (id:Int):∀(xs:List Odr)(k:Nat),(idxAt id xs k = -1/\xs.find? (hasId id)=none/\∀x,x∈xs->¬oid x=id)\/∃j,j<xs.length/\idxAt id xs k=((k+j:Nat):Int)/\xs.find? (hasId id)=some xs[j]!/\xs.take j=(xs.take j).filter (fun x=>!hasId id x)
 |[],k=>.inl ⟨rfl,rfl,by simp⟩
 |o::l,k=>by
  unfold idxAt;by_cases he:oid o=id
  ·refine .inr ⟨0,by simp,?_,?_,rfl⟩
   ·rw [if_pos he];rfl
   ·rw [List.find?_cons,show hasId id o=true from (hasId_iff id o).2 he];rfl
  ·have hf:hasId id o=false:=by simp [hasId,he]
   rw [if_neg he];rcases idxAt_ways id l (k+1) with⟨h1,h2,h3⟩ | ⟨j,h1,h2,h3,h4⟩
   ·refine .inl ⟨h1,?_,?_⟩
    ·rw [List.find?_cons,hf];exact h2
    ·intro x hx;rcases List.mem_cons.1 hx with rfl | hx
     ·exact he
     ·exact h3 x hx
   ·refine .inr ⟨j+1,by simp;omega,?_,?_,?_⟩
    ·rw [h2];congr 1;omega
    ·rw [List.find?_cons,hf];exact h3
    ·rw [List.take_succ_cons,List.filter_cons,hf];exact congrArg (o :: ·) h4
theorem idxAt_any (id:Int)(xs:List Odr):decide (0<=idxAt id xs 0)=xs.any (hasId id):=by
 rcases idxAt_ways id xs 0 with⟨h1,h2,h3⟩ | ⟨j,h1,h2,h3,_⟩
 ·rw [h1];have:xs.any (hasId id)=false:=by
   rw [List.any_eq_false];intro x hx;simp [hasId,h3 x hx]
  rw [this];rfl
 ·rw [h2];have:xs.any (hasId id)=true:=by
   rw [List.any_eq_true];exact⟨_,List.mem_of_find?_eq_some h3,List.find?_some h3⟩
  rw [this];simp
abbrev idFn (B:Nat):Value:=.func (.func 222) #[] #[.pointer (some ⟨B,0,none⟩)]
theorem hasID_any (id:Int)(w:World) :
  Calls Tryz.prog 203 #[.int .i64 id] w fun e w'=>e=.returned (idFn w.heap.size)/\w'=w.alloc (.cells #[.int .i64 id] 3):=by
 go_enter Tryz.func203,Tryz.ntmps203;go_wp2;go_ret;exact⟨rfl,rfl⟩
theorem hasID1_any (a ac sd pr q id:Int)(B:Nat)(w:World)(hc:w.cell? ⟨B,0,none⟩=some (.int .i64 id)) :
  Calls Tryz.prog 222 #[.agg #[.int .i64 a,.int .i64 ac,.int .i64 sd,.int .i64 pr,.int .i64 q],.pointer (some ⟨B,0,none⟩)] w fun e w'=>e=.returned (.bool (hasId id (a,ac,sd,pr,q)))/\∃k os,w'=grow (w.drewN k) os:=by
 have h1:=fun o=>cell_alloc hc o;clear hc;go_enter Tryz.func222,Tryz.ntmps222;go_wp2;go_ret;refine⟨?_,0,#[_],alloc_eq_grow w _⟩;by_cases e:a=id<;>simp [hasId,e]
theorem indexFunc_some (b off c:Nat)(xs:List Odr)(id:Int)(B:Nat)(w:World)(hn:xs.length<=140737488351232)
  (hc:∀j,j<xs.length->∀i v,(enc xs[j]!)[i]? = some v->w.cell? ⟨b,off+j*5+i,none⟩=some v) (hb:b<w.heap.size) (hid:w.cell? ⟨B,0,none⟩=some (.int .i64 id)) :
  Calls Tryz.prog 202 #[.slice (some ⟨b,off,none⟩) xs.length c,idFn B] w fun e w'=>e=.returned (.int .i64 (idxAt id xs 0))/\Below w.heap.size w w':=by
 have eg:∀args w,(callFunc 222 args).run Tryz.prog w=.ok (.enter 222 args) w:=enters_of Tryz.func222 (by kernel_rfl) rfl;generalize hr:idxAt id xs 0=r;have R0:Hid (idxAt id (xs.drop 0) 0=r):=hr;clear hr;have HC:=hide hc;have HI:=hide hid;clear hc hid;generalize hxn:xs.length=n at hn ⊢;have N:=hide hxn;clear hxn;go_enter Tryz.func202,Tryz.ntmps202;go_wp2
 go_loopw [8] (fun i wr=>∃k:Nat,k<=n/\i=.int .i64 k/\Hid (Below w.heap.size w wr)/\Hid (idxAt id (xs.drop k) k=r)) (fun i _=>n - (intOf i).toNat)
 case atStart=>exact⟨0,Nat.zero_le _,rfl,Below.refl _ _,R0⟩
 case round =>
  obtain⟨k,hk,rfl,BW,R⟩:=hrel;by_cases hlt:k<n
  ·have hltz:(k:Int)<(n:Int):=by omega
   have hkx:k<xs.length:=by rw [N.out];exact hlt
   obtain⟨c0,c1,c2,c3,c4⟩:=orow_cells (w:=wr) (b:=b) (off:=off) (xs:=xs) (fun j hj i v hv=>(BW.out.cell hb).trans (HC.out j hj i v hv)) hkx;generalize hx:xs[k]! = x at c0 c1 c2 c3 c4;have X:=hide hx;clear hx;obtain⟨a,ac,sd,pr,q⟩:=x;dsimp only [oid,oac,osd,opr,oqt] at c0 c1 c2 c3 c4;have hcall:=hasID1_any a ac sd pr q id B wr ((BW.out.cell (World.block_lt_of_cell? _ _ HI.out)).trans HI.out)
   cases hh:hasId id (a,ac,sd,pr,q) with
   |true =>
    rw [hh] at hcall;go_wp2_with (go_at_fn 222;refine hcall.mono ?_;rintro e w' ⟨rfl,q1,os1,rfl⟩);go_ret;refine⟨?_,BW.out.trans ((grow_below wr q1 os1).mono BW.out.size)⟩;rw [<- R.out,idxAt_hit hkx (by rw [X.out];exact(hasId_iff _ _).1 hh)];rfl
   |false =>
    rw [hh] at hcall;go_wp2_with (go_at_fn 222;refine hcall.mono ?_;rintro e w' ⟨rfl,q1,os1,rfl⟩);go_roundw
    case rel =>
     refine⟨k+1,by omega,by go_num,BW.out.trans ((grow_below wr q1 os1).mono BW.out.size),?_⟩;show idxAt id (xs.drop (k+1)) (k+1)=r;rw [<- R.out];exact(idxAt_miss hkx (by rw [X.out];intro e;rw [(hasId_iff _ _).2 e] at hh;cases hh)).symm
    case measure=>simp [intOf];omega
  ·have hk':k=n:=by omega
   subst hk';go_wp2;go_ret;refine⟨?_,BW.out⟩;rw [<- R.out,<- N.out,idxAt_end];rfl
theorem indexFunc_none (p:Option Addr)(c:Nat)(f:Value)(w:World) :
  Calls Tryz.prog 202 #[.slice p 0 c,f] w fun e w'=>e=.returned (.int .i64 (-1))/\w'=w:=by
 go_enter Tryz.func202,Tryz.ntmps202;go_wp2;refine wp_loop_rounds 1 ?_;rw [rounds_succ];go_wp2;go_ret;exact⟨rfl,rfl⟩
theorem indexFunc_any (p:Option Addr)(c:Nat)(xs:List Odr)(id:Int)(B:Nat)(w:World)(hn:xs.length<=140737488351232)(h:ORow w p xs)(hid:w.cell? ⟨B,0,none⟩=some (.int .i64 id)) :
  Calls Tryz.prog 202 #[.slice p xs.length c,idFn B] w fun e w'=>e=.returned (.int .i64 (idxAt id xs 0))/\Below w.heap.size w w':=by
 by_cases hx:xs=[]
 ·subst hx;refine(indexFunc_none p c (idFn B) w).mono ?_;rintro e w' ⟨rfl,rfl⟩;exact⟨rfl,Below.refl _ _⟩
 ·rcases h with h | ⟨b,off,rfl,hc⟩
  ·exact absurd h hx
  ·exact indexFunc_some b off c xs id B w hn hc (World.block_lt_of_cell? w _ (hc 0 (List.length_pos_iff.2 hx) 0 _ rfl)) hid
theorem containsFunc_any (p:Option Addr)(c:Nat)(xs:List Odr)(id:Int)(B:Nat)(w:World)(hn:xs.length<=140737488351232)(h:ORow w p xs)(hid:w.cell? ⟨B,0,none⟩=some (.int .i64 id)) :
  Calls Tryz.prog 219 #[.slice p xs.length c,idFn B] w fun e w'=>e=.returned (.bool (xs.any (hasId id)))/\Below w.heap.size w w':=by
 have hcon:=indexFunc_any p c xs id B w hn h hid;rw [<- idxAt_any];generalize idxAt id xs 0=r at hcon ⊢;generalize xs.length=n at hcon ⊢;clear h hid;go_enter Tryz.func219,Tryz.ntmps219;go_wp2_with (go_at_call 202;refine hcon.mono ?_;rintro e w' ⟨rfl,hb'⟩);go_ret;exact⟨rfl,hb'⟩
open Mix
theorem new_cell (w:World)(cs:Array Value)(t:TypeId)(i:Nat)(v:Value)(h:cs[i]? = some v):(w.alloc (.cells cs t)).cell? ⟨w.heap.size,i,none⟩=some v:=by
 rw [World.cell?_alloc_at _ _ _ _ (by simp)];exact h
theorem new_cell2 (w:World)(o:Obj)(cs:Array Value)(t:TypeId)(i:Nat)(v:Value)(h:cs[i]? = some v):((w.alloc o).alloc (.cells cs t)).cell? ⟨w.heap.size+1,i,none⟩=some v:=by
 have:=new_cell (w.alloc o) cs t i v h;simpa using this
theorem below_drawn (w:World):Below w.heap.size w { w with drawn:=w.drawn+1 }:=⟨rfl,rfl,rfl,Nat.le_refl _,fun _ _=>rfl⟩
theorem may_book {bids asks:List Odr}{o:Odr}(h:¬bookErr bids asks=0):mayRest bids asks o=bookErr bids asks:=by unfold mayRest;rw [if_pos h]
theorem may_twice {bids asks:List Odr}{o:Odr}(h:bookErr bids asks=0)(h1:(bids.any (hasId (oid o)) || asks.any (hasId (oid o)))=true):mayRest bids asks o=6:=by unfold mayRest;rw [if_neg (fun e=>e h),if_pos h1]
theorem may_order {bids asks:List Odr}{o:Odr}(h:bookErr bids asks=0)(h1:(bids.any (hasId (oid o)) || asks.any (hasId (oid o)))=false)(h2:¬okOrder o=0):mayRest bids asks o=okOrder o:=by
 unfold mayRest;rw [if_neg (fun e=>e h),if_neg (by rw [h1];exact Bool.false_ne_true),if_pos h2]
theorem may_full {bids asks:List Odr}{o:Odr}(h:bookErr bids asks=0)(h1:(bids.any (hasId (oid o)) || asks.any (hasId (oid o)))=false)(h2:okOrder o=0)(h3:40<=bids.length+asks.length):mayRest bids asks o=7:=by
 unfold mayRest;rw [if_neg (fun e=>e h),if_neg (by rw [h1];exact Bool.false_ne_true),if_neg (fun e=>e h2),if_pos h3]
theorem may_post {bids asks:List Odr}{o:Odr}(h:bookErr bids asks=0)(h1:(bids.any (hasId (oid o)) || asks.any (hasId (oid o)))=false)(h2:okOrder o=0)(h3:¬40<=bids.length+asks.length)(t:Bool)(h4:crosses o (if osd o = -1 then bids else asks)=t):mayRest bids asks o=if t=true then 9 else 0:=by
 unfold mayRest;rw [if_neg (fun e=>e h),if_neg (by rw [h1];exact Bool.false_ne_true),if_neg (fun e=>e h2),if_neg h3,h4]
def Shut (C:World->Prop):Prop:=∀x y,C x->Below x.heap.size x y->C y
theorem shut_below (w:World):Shut (fun x=>Below w.heap.size w x):=fun _ _ hx hy=>hx.trans (hy.mono hx.size)
def From (C:World->Prop) (w:World):World->Prop:=fun x=>C x/\Below w.heap.size w x
theorem from_shut {C:World->Prop}(h:Shut C)(w:World):Shut (From C w):=fun x y hx hy=>⟨h x y hx.1 hy,hx.2.trans (hy.mono hx.2.size)⟩
theorem from_self {C:World->Prop}{w:World}(h:C w):From C w w:=⟨h,Below.refl _ _⟩
theorem from_cell {C:World->Prop}{w x:World}(h:From C w x){a:Addr}{v:Value}(hc:w.cell? a=some v):x.cell? a=some v:=(h.2.cell (World.block_lt_of_cell? _ _ hc)).trans hc
theorem mayRest_any (p p':Option Addr)(c c':Nat)(bids asks:List Odr)(a ac sd pr q:Int)(w:World)(h:ORow w p bids)(h':ORow w p' asks)(hn:bids.length<=140737488351232)(hn':asks.length<=140737488351232) :
  Calls Tryz.prog 197 #[.agg #[.slice p bids.length c,.slice p' asks.length c'],.agg #[.int .i64 a,.int .i64 ac,.int .i64 sd,.int .i64 pr,.int .i64 q]] w fun e w'=>e=.returned (.int .i64 (mayRest bids asks (a,ac,sd,pr,q)))/\Below w.heap.size w w':=by
 have mixed:Tryz.prog.follows .mixedOrders=true:=by kernel_rfl
 generalize hr:mayRest bids asks (a,ac,sd,pr,q)=r;have R:=hide hr;clear hr;have H:=hide h;have H':=hide h';clear h h';go_enter Tryz.func197,Tryz.ntmps197;go_wp2_with fail;refine(check_any p p' c c' bids asks _ (orow_below H.out (((Below.refl _ w).alloc (Nat.le_refl _) _).alloc (by simp) _)) (orow_below H'.out (((Below.refl _ w).alloc (Nat.le_refl _) _).alloc (by simp) _)) hn hn').mono ?_;rintro e W2 ⟨rfl,hb⟩;have B2:Hid (Below w.heap.size w W2):=hide ((((Below.refl _ w).alloc (Nat.le_refl _) _).alloc (by simp) _).trans (hb.mono (by simp;omega)));have hsz:Hid (w.heap.size+1<W2.heap.size):=by have:=hb.size;simp at this;exact(by omega:w.heap.size+1<W2.heap.size)
 have e0:W2.cell? ⟨w.heap.size,0,none⟩=some (.slice p bids.length c):=(hb.cell (by simp;omega)).trans (cell_alloc (new_cell _ _ _ _ _ rfl) _);have e1:W2.cell? ⟨w.heap.size,1,none⟩=some (.slice p' asks.length c'):=(hb.cell (by simp;omega)).trans (cell_alloc (new_cell _ _ _ _ _ rfl) _);have f0:W2.cell? ⟨w.heap.size+1,0,none⟩=some (.int .i64 a):=(hb.cell (by simp)).trans (new_cell2 _ _ _ _ _ _ rfl);have f1:W2.cell? ⟨w.heap.size+1,1,none⟩=some (.int .i64 ac):=(hb.cell (by simp)).trans (new_cell2 _ _ _ _ _ _ rfl);have f2:W2.cell? ⟨w.heap.size+1,2,none⟩=some (.int .i64 sd):=(hb.cell (by simp)).trans (new_cell2 _ _ _ _ _ _ rfl);have f3:W2.cell? ⟨w.heap.size+1,3,none⟩=some (.int .i64 pr):=(hb.cell (by simp)).trans (new_cell2 _ _ _ _ _ _ rfl);have f4:W2.cell? ⟨w.heap.size+1,4,none⟩=some (.int .i64 q):=(hb.cell (by simp)).trans (new_cell2 _ _ _ _ _ _ rfl);clear hb;by_cases hbk:bookErr bids asks=0
 ·have hfew:=(bookErr_zero.1 hbk).few;have M2:=hide (fun h1=>R.out.symm.trans (may_twice (o:=(a,ac,sd,pr,q)) hbk h1));have M3:=hide (fun h1 h2=>R.out.symm.trans (may_order (o:=(a,ac,sd,pr,q)) hbk h1 h2));have M4:=hide (fun h1 h2 h3=>R.out.symm.trans (may_full (o:=(a,ac,sd,pr,q)) hbk h1 h2 h3));have M5:=hide (fun h1 h2 h3 t h4=>R.out.symm.trans (may_post (o:=(a,ac,sd,pr,q)) hbk h1 h2 h3 t h4));rw [hbk];clear hbk;have hC:∀p1:InC (fun x=>Below W2.heap.size W2 x),∀x v,W2.cell? x=some v->p1.w.cell? x=some v:=fun p1 x v hx=>(p1.h.cell (World.block_lt_of_cell? _ _ hx)).trans hx;generalize hCC:(fun x=>Below W2.heap.size W2 x)=C at hC;have g0:=fun p1=>hC p1 _ _ e0;have g1:=fun p1=>hC p1 _ _ e1;have g2:=fun p1=>hC p1 _ _ f0;have CE:=hide hCC;clear hCC hC;generalize hnb:bids.length=nb at hn hfew e0 g0 ⊢;generalize hna:asks.length=na at hn' hfew e1 g1 ⊢;have NB:=hide hnb;have NA:=hide hna;clear hnb hna;go_wp2_with fail;refine wp_region_mix [(0,true),(1,true),(2,true),(3,true),(4,false),(5,false),(6,true),(7,true),(8,true),(9,true),(10,true),(11,false),(12,false),(13,false)] C mixed (by kernel_rfl) (by rw [<- CE.out];exact below_drawn W2) ?_;repeat (refine mix_still (by rfl) ?_;go_big_quiet_step (exact rfl);refine wpQuiet_nil ?_)
  have CS:Hid (Shut C):=by rw [<- CE.out];exact shut_below W2
  have CW:Hid (∀x,C x->Below w.heap.size w x):=fun x hx=>by rw [<- CE.out] at hx;exact B2.out.trans (hx.mono B2.out.size)
  refine mix_main (by rfl) ?_;rintro ⟨x1,hx1⟩;go_wp2_with (go_at_call 203;refine(hasID_any _ _).mono ?_;rintro e w' ⟨rfl,rfl⟩);have hC1:C (x1.alloc (.cells #[.int .i64 a] 3)):=CS.out x1 _ hx1 ((Below.refl _ _).alloc (Nat.le_refl _) _);refine⟨From C (x1.alloc (.cells #[.int .i64 a] 3)),from_self hC1,fun x hx=>hx.1,?_⟩;have CS1:=hide (from_shut CS.out (x1.alloc (.cells #[.int .i64 a] 3)));have K1:Hid (∀x,From C (x1.alloc (.cells #[.int .i64 a] 3)) x->C x/\x.cell? ⟨x1.heap.size,0,none⟩=some (.int .i64 a)):=fun x hx=>⟨hx.1,from_cell hx (new_cell _ _ _ _ _ rfl)⟩;generalize From C (x1.alloc (.cells #[.int .i64 a] 3))=C1 at CS1 K1 ⊢;have g3:=fun p1:InC C1=>g1 ⟨p1.w,(K1.out p1.w p1.h).1⟩;have g4:=fun p1:InC C1=>g2 ⟨p1.w,(K1.out p1.w p1.h).1⟩;dsimp only at g3 g4;generalize x1.heap.size=bx at K1 ⊢;clear g0 g1 g2 hC1 hx1 x1;refine mix_main (by rfl) ?_;rintro ⟨x2,hx2⟩;have hcon:=containsFunc_any p c bids a bx x2 (by rw [NB.out];exact hn) (orow_below H.out (CW.out x2 (K1.out x2 hx2).1)) (K1.out x2 hx2).2;rw [NB.out] at hcon
  cases ht1:bids.any (hasId a) with
  |true =>
   rw [ht1] at hcon;go_wp2_with (go_at_call 219;refine hcon.mono ?_;rintro e w' ⟨rfl,hb'⟩);refine⟨C1,CS1.out x2 _ hx2 hb',fun _ h=>h,?_⟩;repeat (refine mix_still (by rfl) ?_;go_big_quiet_step (exact rfl);refine wpQuiet_nil ?_)
   refine mix_main (by rfl) ?_;rintro ⟨x3,hx3⟩;go_wp2;refine⟨C1,hx3,fun _ h=>h,?_⟩;refine mix_main (by rfl) ?_;rintro ⟨x4,hx4⟩;go_wp2;refine⟨C1,hx4,fun _ h=>h,?_⟩;refine mix_main (by rfl) ?_;rintro ⟨x5,hx5⟩;go_wp2;refine⟨C1,hx5,fun _ h=>h,?_⟩;refine mix_end ?_;rintro ⟨x6,hx6⟩;dsimp only;have BX:=hide (CW.out x6 (K1.out x6 hx6).1);go_wp2;go_ret;exact⟨by rw [M2.out (by dsimp only [oid];rw [ht1];rfl)];rfl,BX.out⟩
  |false =>
   rw [ht1] at hcon;go_wp2_with (go_at_call 219;refine hcon.mono ?_;rintro e w' ⟨rfl,hb'⟩);refine⟨C1,CS1.out x2 _ hx2 hb',fun _ h=>h,?_⟩;repeat (refine mix_still (by rfl) ?_;go_big_quiet_step (exact rfl);refine wpQuiet_nil ?_)
   refine mix_main (by rfl) ?_;rintro ⟨x3,hx3⟩;go_wp2_with (go_at_call 203;refine(hasID_any _ _).mono ?_;rintro e w' ⟨rfl,rfl⟩);have hC1:C1 (x3.alloc (.cells #[.int .i64 a] 3)):=CS1.out x3 _ hx3 ((Below.refl _ _).alloc (Nat.le_refl _) _);refine⟨From C1 (x3.alloc (.cells #[.int .i64 a] 3)),from_self hC1,fun x hx=>hx.1,?_⟩;have CS2:=hide (from_shut CS1.out (x3.alloc (.cells #[.int .i64 a] 3)));have K2:Hid (∀x,From C1 (x3.alloc (.cells #[.int .i64 a] 3)) x->C x/\x.cell? ⟨x3.heap.size,0,none⟩=some (.int .i64 a)):=fun x hx=>⟨(K1.out x hx.1).1,from_cell hx (new_cell _ _ _ _ _ rfl)⟩;generalize From C1 (x3.alloc (.cells #[.int .i64 a] 3))=C2 at CS2 K2 ⊢;generalize x3.heap.size=by3 at K2 ⊢;clear g3 g4 hC1 hx3 x3 hx2 hcon hb' x2;refine mix_main (by rfl) ?_;rintro ⟨x4,hx4⟩;have hcon:=containsFunc_any p' c' asks a by3 x4 (by rw [NA.out];exact hn') (orow_below H'.out (CW.out x4 (K2.out x4 hx4).1)) (K2.out x4 hx4).2;rw [NA.out] at hcon
   cases ht2:asks.any (hasId a) with
   |true =>
    rw [ht2] at hcon;go_wp2_with (go_at_call 219;refine hcon.mono ?_;rintro e w' ⟨rfl,hb'⟩);refine⟨C2,CS2.out x4 _ hx4 hb',fun _ h=>h,?_⟩;refine mix_main (by rfl) ?_;rintro ⟨x5,hx5⟩;go_wp2;refine⟨C2,hx5,fun _ h=>h,?_⟩;refine mix_end ?_;rintro ⟨x6,hx6⟩;dsimp only;have BX:=hide (CW.out x6 (K2.out x6 hx6).1);go_wp2;go_ret;exact⟨by rw [M2.out (by dsimp only [oid];rw [ht1,ht2];rfl)];rfl,BX.out⟩
   |false =>
    rw [ht2] at hcon;go_wp2_with (go_at_call 219;refine hcon.mono ?_;rintro e w' ⟨rfl,hb'⟩);refine⟨C2,CS2.out x4 _ hx4 hb',fun _ h=>h,?_⟩;refine mix_main (by rfl) ?_;rintro ⟨x5,hx5⟩;go_wp2;refine⟨C2,hx5,fun _ h=>h,?_⟩;refine mix_end ?_;rintro ⟨x6,hx6⟩;dsimp only;have hx6':=(K2.out x6 hx6).1;rw [<- CE.out] at hx6';have BX:=hide (CW.out x6 (K2.out x6 hx6).1);have hany:(bids.any (hasId (oid (a,ac,sd,pr,q))) || asks.any (hasId (oid (a,ac,sd,pr,q))))=false:=by dsimp only [oid];rw [ht1,ht2];rfl
    have k0:x6.cell? ⟨w.heap.size,0,none⟩=some (.slice p nb c):=(hx6'.cell (World.block_lt_of_cell? _ _ e0)).trans e0;have k1:x6.cell? ⟨w.heap.size,1,none⟩=some (.slice p' na c'):=(hx6'.cell (World.block_lt_of_cell? _ _ e1)).trans e1;have n0:x6.cell? ⟨w.heap.size+1,0,none⟩=some (.int .i64 a):=(hx6'.cell (World.block_lt_of_cell? _ _ f0)).trans f0;have n1:x6.cell? ⟨w.heap.size+1,1,none⟩=some (.int .i64 ac):=(hx6'.cell (World.block_lt_of_cell? _ _ f1)).trans f1;have n2:x6.cell? ⟨w.heap.size+1,2,none⟩=some (.int .i64 sd):=(hx6'.cell (World.block_lt_of_cell? _ _ f2)).trans f2;have n3:x6.cell? ⟨w.heap.size+1,3,none⟩=some (.int .i64 pr):=(hx6'.cell (World.block_lt_of_cell? _ _ f3)).trans f3;have n4:x6.cell? ⟨w.heap.size+1,4,none⟩=some (.int .i64 q):=(hx6'.cell (World.block_lt_of_cell? _ _ f4)).trans f4;clear e0 e1 f0 f1 f2 f3 f4 hx6' hx6 hcon hx4 hx5 hb' K1 K2 CS CS1 CS2 CE CW;have HANY:=hide hany;clear hany;go_wp2_with fail;refine(checkOrder_grow _ _ _ _ _ _).mono ?_;rintro e x7 ⟨rfl,q1,os1,hw⟩;have B7:Below x6.heap.size x6 x7:=by rw [hw];exact grow_below _ _ _
    have B7':=hide (BX.out.trans (B7.mono BX.out.size));have k0':x7.cell? ⟨w.heap.size,0,none⟩=some (.slice p nb c):=(B7.cell (World.block_lt_of_cell? _ _ k0)).trans k0;have k1':x7.cell? ⟨w.heap.size,1,none⟩=some (.slice p' na c'):=(B7.cell (World.block_lt_of_cell? _ _ k1)).trans k1;have n0':x7.cell? ⟨w.heap.size+1,0,none⟩=some (.int .i64 a):=(B7.cell (World.block_lt_of_cell? _ _ n0)).trans n0;have n1':x7.cell? ⟨w.heap.size+1,1,none⟩=some (.int .i64 ac):=(B7.cell (World.block_lt_of_cell? _ _ n1)).trans n1;have n2':x7.cell? ⟨w.heap.size+1,2,none⟩=some (.int .i64 sd):=(B7.cell (World.block_lt_of_cell? _ _ n2)).trans n2;have n3':x7.cell? ⟨w.heap.size+1,3,none⟩=some (.int .i64 pr):=(B7.cell (World.block_lt_of_cell? _ _ n3)).trans n3;have n4':x7.cell? ⟨w.heap.size+1,4,none⟩=some (.int .i64 q):=(B7.cell (World.block_lt_of_cell? _ _ n4)).trans n4;clear hw B7 k0 k1 n0 n1 n2 n3 n4 BX M2;by_cases hok:okOrder (a,ac,sd,pr,q)=0
    ·have M4':=hide (fun h3=>M4.out HANY.out hok h3);have M5':=hide (fun h3 t h4=>M5.out HANY.out hok h3 t h4);rw [hok];clear M3 M4 M5 hok;go_wp2_with fail;refine(count_any _ _ _ _ _ _ _ (by omega) (by omega)).mono ?_;rintro e x8 ⟨rfl,q2,os2,hw⟩;have B8:Below x7.heap.size x7 x8:=by rw [hw];exact grow_below _ _ _
     have B8':=hide (B7'.out.trans (B8.mono B7'.out.size));have k0:x8.cell? ⟨w.heap.size,0,none⟩=some (.slice p nb c):=(B8.cell (World.block_lt_of_cell? _ _ k0')).trans k0';have k1:x8.cell? ⟨w.heap.size,1,none⟩=some (.slice p' na c'):=(B8.cell (World.block_lt_of_cell? _ _ k1')).trans k1';have n0:x8.cell? ⟨w.heap.size+1,0,none⟩=some (.int .i64 a):=(B8.cell (World.block_lt_of_cell? _ _ n0')).trans n0';have n1:x8.cell? ⟨w.heap.size+1,1,none⟩=some (.int .i64 ac):=(B8.cell (World.block_lt_of_cell? _ _ n1')).trans n1';have n2:x8.cell? ⟨w.heap.size+1,2,none⟩=some (.int .i64 sd):=(B8.cell (World.block_lt_of_cell? _ _ n2')).trans n2';have n3:x8.cell? ⟨w.heap.size+1,3,none⟩=some (.int .i64 pr):=(B8.cell (World.block_lt_of_cell? _ _ n3')).trans n3';have n4:x8.cell? ⟨w.heap.size+1,4,none⟩=some (.int .i64 q):=(B8.cell (World.block_lt_of_cell? _ _ n4')).trans n4';clear hw B8 k0' k1' n0' n1' n2' n3' n4' B7';by_cases hfull:40<=nb+na
     ·have hf2:(40:Int)<=(nb:Int)+(na:Int):=by omega
      go_wp2;go_ret;exact⟨by rw [M4'.out (by rw [NB.out,NA.out];exact hfull)];rfl,B8'.out⟩
     ·have hf2:¬(40:Int)<=(nb:Int)+(na:Int):=by omega
      have M6:=hide (fun t h4=>M5'.out (by rw [NB.out,NA.out];exact hfull) t h4);clear M5' M4';by_cases hsd:sd = -1
      ·have hcon:=crossesBest_any a ac sd pr q p c bids x8 (orow_below H.out B8'.out);rw [NB.out] at hcon;have hsb:(sd == -1)=true:=by simp [hsd]
       have M7:=hide (fun t h4=>M6.out t (by dsimp only [osd];rw [if_pos hsd];exact h4));clear hsd
       cases ht:crosses (a,ac,sd,pr,q) bids with
       |true =>
        rw [ht] at hcon;have hr9:=M7.out true ht;go_wp2_with (go_at_call 154;refine hcon.mono ?_;rintro e w' ⟨rfl,q3,os3,rfl⟩);go_ret;exact⟨by rw [hr9];rfl,B8'.out.trans ((grow_below x8 q3 os3).mono B8'.out.size)⟩
       |false =>
        rw [ht] at hcon;have hr9:=M7.out false ht;go_wp2_with (go_at_call 154;refine hcon.mono ?_;rintro e w' ⟨rfl,q3,os3,rfl⟩);go_ret;exact⟨by rw [hr9];rfl,B8'.out.trans ((grow_below x8 q3 os3).mono B8'.out.size)⟩
      ·have hcon:=crossesBest_any a ac sd pr q p' c' asks x8 (orow_below H'.out B8'.out);rw [NA.out] at hcon;have hsb:(sd == -1)=false:=by simp [hsd]
       have M7:=hide (fun t h4=>M6.out t (by dsimp only [osd];rw [if_neg hsd];exact h4));clear hsd
       cases ht:crosses (a,ac,sd,pr,q) asks with
       |true =>
        rw [ht] at hcon;have hr9:=M7.out true ht;go_wp2_with (go_at_call 154;refine hcon.mono ?_;rintro e w' ⟨rfl,q3,os3,rfl⟩);go_ret;exact⟨by rw [hr9];rfl,B8'.out.trans ((grow_below x8 q3 os3).mono B8'.out.size)⟩
       |false =>
        rw [ht] at hcon;have hr9:=M7.out false ht;go_wp2_with (go_at_call 154;refine hcon.mono ?_;rintro e w' ⟨rfl,q3,os3,rfl⟩);go_ret;exact⟨by rw [hr9];rfl,B8'.out.trans ((grow_below x8 q3 os3).mono B8'.out.size)⟩
    ·have hr1:=M3.out HANY.out hok;generalize okOrder (a,ac,sd,pr,q)=eo at hok hr1 ⊢;go_wp2;go_ret;exact⟨by rw [hr1];rfl,B7'.out⟩
 ·have hr1:=R.out.symm.trans (may_book (o:=(a,ac,sd,pr,q)) hbk);generalize bookErr bids asks=eb at hbk hr1 ⊢;clear R;go_wp2;go_ret;exact⟨by rw [hr1];rfl,B2.out⟩
open Mix
theorem enc_length (o:Odr):(enc o).length=5:=rfl
def flat (xs:List Odr):List Value:=xs.flatMap enc
theorem flat_cons (x:Odr)(xs:List Odr):flat (x::xs)=enc x++flat xs:=rfl
theorem flat_append (xs ys:List Odr):flat (xs++ys)=flat xs++flat ys:=by unfold flat;rw [List.flatMap_append]
theorem flat_length:∀xs:List Odr,(flat xs).length=xs.length*5
 |[]=>rfl
 |x::xs=>by rw [flat_cons,List.length_append,enc_length,flat_length xs,List.length_cons];omega
theorem flat_get:∀(xs:List Odr)(j i:Nat),j<xs.length->i<5->(flat xs)[j*5+i]? = (enc xs[j]!)[i]?
 |[],j,_,h,_=>absurd h (by simp)
 |x::xs,0,i,_,hi=>by
  rw [flat_cons,Nat.zero_mul,Nat.zero_add,List.getElem?_append_left (by rw [enc_length];exact hi)];rfl
 |x::xs,j+1,i,h,hi=>by
  rw [flat_cons,List.getElem?_append_right (by rw [enc_length];omega),enc_length,show (j+1)*5+i-5=j*5+i by omega,flat_get xs j i (by simpa using h) hi];rfl
theorem flat_one (xs:List Odr):∀u∈flat xs,u.oneCell'=true:=by
 intro u hu;obtain⟨x,_,hx⟩:=List.mem_flatMap.1 hu;simp only [enc,List.mem_cons,List.not_mem_nil,or_false] at hx;rcases hx with rfl | rfl | rfl | rfl | rfl<;>rfl
theorem add_lit (b off j:Nat):(⟨b,off,none⟩:Addr).add j = ⟨b,off+j,none⟩:=by unfold Addr.add;split<;>simp_all
theorem flat_cells {w:World}{b off:Nat}{xs:List Odr}(hc:∀j,j<xs.length->∀i v,(enc xs[j]!)[i]? = some v->w.cell? ⟨b,off+j*5+i,none⟩=some v) :
  ∀j u,(flat xs)[j]? = some u->w.cell? ((⟨b,off,none⟩:Addr).add j)=some u:=by
 intro j u hu;have hj:j<xs.length*5:=by
  rw [<- flat_length];exact(List.getElem?_eq_some_iff.1 hu).1
 have e:j=(j / 5)*5+j % 5:=by omega
 rw [e,flat_get xs (j / 5) (j % 5) (by omega) (by omega)] at hu;rw [add_lit];have:=hc (j / 5) (by omega) (j % 5) u hu;rw [show off+j=off+j / 5*5+j % 5 by omega];exact this
theorem cells_flat {w:World}{b off:Nat}{xs:List Odr}(h:∀j u,(flat xs)[j]? = some u->w.cell? ⟨b,off+j,none⟩=some u) :
  ∀j,j<xs.length->∀i v,(enc xs[j]!)[i]? = some v->w.cell? ⟨b,off+j*5+i,none⟩=some v:=by
 intro j hj i v hv;have hi:i<5:=by have:=(List.getElem?_eq_some_iff.1 hv).1;rw [enc_length] at this;exact this
 rw [Nat.add_assoc];exact h (j*5+i) v (by rw [flat_get xs j i hj hi];exact hv)
structure OV (w:World) (p:Option Addr) (c:Nat) (xs:List Odr):Prop where
 row:ORow w p xs
 nil:p=none->c=0
 cap:xs.length<=c
theorem OV.below {w w':World}{p:Option Addr}{c:Nat}{xs:List Odr}(h:OV w p c xs)(hb:Below w.heap.size w w'):OV w' p c xs:=⟨orow_below h.row hb,h.nil,h.cap⟩
theorem ov_nil (w:World):OV w none 0 []:=⟨.inl rfl,fun _=>rfl,Nat.le_refl _⟩
theorem own_ov {w:World}{B:Nat}{v:Value}{xs:List Odr}(h:w.ownsRow B 26 5 v xs.length (flat xs)):∃p c,v=.slice p xs.length c/\OV w p c xs/\(∀a,p=some a->B<=a.block/\a.block<w.heap.size):=by
 have hc:=fun g=>h.cells (g:=g);have hl:=h.lt;rcases h.2 with⟨rfl,hn⟩ | ⟨g,cap,cur,rfl,hb,hg,hnc,hm,hs,ht⟩
 ·have hx:xs=[]:=List.eq_nil_of_length_eq_zero hn;subst hx;exact⟨none,0,rfl,ov_nil w,fun a ha=>by cases ha⟩
 ·refine⟨some ⟨g,0,none⟩,cap,rfl,⟨.inr ⟨g,0,rfl,cells_flat fun j u hu=>?_⟩,(fun h=>by cases h),hnc⟩,fun a ha=>?_⟩
  ·have:=hc g rfl j u hu;rw [add_lit] at this;exact this
  ·cases ha
   exact hl g rfl
theorem Tryz.infoO:(Tryz.prog.info? 26).map (fun i=>(i.zero,i.size,i.bytes))=some (some (odrV noOdr),5,40):=by kernel_rfl
theorem copyOf_any (p:Option Addr)(c:Nat)(xs:List Odr)(w:World)(h:OV w p c xs)(hn:xs.length*40<=140737488351232) :
  Calls Tryz.prog 199 #[.slice p xs.length c] w fun e w'=>∃v,e=.returned v/\w'.ownsRow w.heap.size 26 5 v xs.length (flat xs)/\Below w.heap.size w w':=by
 obtain⟨i0,hi,hz0,hz1,hz2⟩:=info_parts Tryz.infoO
 cases p with
 |none =>
  have hc0:=h.nil rfl;subst hc0;have hx:xs=[]:=List.eq_nil_of_length_eq_zero (Nat.le_zero.1 h.cap);subst hx;go_enter Tryz.func199,Tryz.ntmps199;go_wp2_with (at_builtin;refine wpList_append_own_none rfl _ _ 92 rfl w.heap.size 26 i0 5 Tryz.underlying92 hi _ 0 [] rfl (World.ownsRow_nil _ _ _ _) rfl ?_);go_ret;exact⟨_,rfl,World.ownsRow_nil _ _ _ _,Below.refl _ _⟩
 |some ad =>
  have hcells:Hid (∀j u,(flat xs)[j]? = some u->w.cell? (ad.add j)=some u):=by
   rcases h.row with rfl | ⟨b,off,he,hc⟩
   ·intro j u hu;simp [flat] at hu
   ·cases he;exact flat_cells hc
  have hfl:=hide (flat_length xs);have hf1:=hide (flat_one xs);generalize hfx:flat xs=fl at hcells hfl hf1 ⊢;generalize hxn:xs.length=n at hfl hn ⊢;clear h hfx hxn xs;go_enter Tryz.func199,Tryz.ntmps199;go_wp2_with (at_builtin;refine wpList_append_own _ rfl _ _ 92 rfl w.heap.size 26 i0 (odrV noOdr) 5 40 Tryz.underlying92 hi hz0 hz1 hz2 rfl (by decide) _ 0 [] rfl (World.ownsRow_nil _ _ _ _) ad n c fl rfl hfl.out hcells.out hf1.out (by unfold maxLen;omega) (by omega) (Nat.le_refl _) ?_;intro v' w1 hown1 hgrow1 hnil1);go_ret;refine⟨_,rfl,?_,?_⟩
  ·rw [Nat.zero_add,List.nil_append] at hown1;exact hown1
  ·exact(Below.refl _ _).grown hgrow1 (Nat.le_refl _) (fun k hk=>by cases hk)
open Mix
theorem grow_any (n:Nat)(w:World)(hn:n*40<=140737488351232) :
  Calls Tryz.prog 230 #[.slice none 0 0,.int .i64 n] w fun e w'=>∃v,e=.returned v/\w'.ownsRow w.heap.size 26 5 v 0 []/\Below w.heap.size w w':=by
 by_cases h0:n=0
 ·subst h0;refine(Any8.slices_Grow_room Tryz.growB none 0 0 0 w (Nat.le_refl _) (by omega) (by omega) (by omega)).mono ?_;rintro e w' ⟨rfl,rfl⟩;exact⟨_,rfl,World.ownsRow_nil _ _ _ _,Below.refl _ _⟩
 ·obtain⟨i0,hi,hz0,hz1,hz2⟩:=info_parts Tryz.infoO;have hg:=Any8.slices_Grow_grow Tryz.growB i0 (odrV noOdr) hi hz0 (by rw [hz1];decide) none 0 0 n [] w (Nat.le_refl _) (by omega) (by rw [hz2];omega) (by omega) (by simp) (fun _=>rfl) (fun a ha=>by cases ha);refine hg.mono ?_;rintro e w' ⟨rfl,rfl⟩;have hge:=grownCap_ge w (0+n) 0 26;have hle:=grownCap_le_maxLen w (0+n) 0 26 (by unfold maxLen;omega);refine⟨_,rfl,?_,?_⟩
  ·refine World.ownsRow_made (w:=w.drew) (base:=w.heap.size) (e:=26) (size:=5) _ _ (Nat.le_refl _) hle ?_;simp only [Array.size_append,size_zeroCells];show 0+(0+n-0)*5+(grownCap w (0+n) 0 26 - (0+n))*5=grownCap w (0+n) 0 26*5;omega
  ·exact((Below.refl _ w).drew).alloc (Nat.le_refl _) _
abbrev Lst:=Option Addr × Nat × List Odr
abbrev lstV (l:Lst):Value:=.slice l.1 l.2.2.length l.2.1
def joined (ls:List Lst):List Odr:=ls.flatMap fun l=>l.2.2
theorem joined_at {ls:List Lst}{k:Nat}(h:k<ls.length):joined (ls.take (k+1))=joined (ls.take k)++(ls[k]!).2.2:=by
 rw [List.take_add_one,List.getElem?_eq_getElem h,getElem!_pos ls k h];unfold joined;rw [List.flatMap_append];simp
theorem joined_le (ls:List Lst)(k:Nat):(joined (ls.take k)).length<=(joined ls).length:=by
 conv=>rhs;rw [<- List.take_append_drop k ls]
 unfold joined;rw [List.flatMap_append,List.length_append];omega
theorem concat_any (g c:Nat)(ls:List Lst)(w:World)(hc:∀j,j<ls.length->w.cell? ⟨g,j,none⟩=some (lstV ls[j]!))(hls:∀j,j<ls.length->OV w (ls[j]!).1 (ls[j]!).2.1 (ls[j]!).2.2)(hg:g<w.heap.size)
  (hk:ls.length<=1000) (hn:(joined ls).length*40<=140737488351232) :
  Calls Tryz.prog 221 #[.slice (some ⟨g,0,none⟩) ls.length c] w fun e w'=>∃v,e=.returned v/\w'.ownsRow w.heap.size 26 5 v (joined ls).length (flat (joined ls))/\Below w.heap.size w w':=by
 obtain⟨i0,hi,hz0,hz1,hz2⟩:=info_parts Tryz.infoO;have HC:=hide hc;have HL:=hide hls;have JL:=hide (joined_le ls);clear hc hls;generalize hkn:ls.length=n at hk ⊢;have N:=hide hkn;clear hkn;generalize hjn:(joined ls).length=tot at hn JL;have JT:=hide hjn;clear hjn;have G:=hide hg;clear hg;go_enter Tryz.func221,Tryz.ntmps221;go_wp2
 go_loopw [3,11] (fun s i wr=>∃k sk:Nat,k<=n/\i=.int .i64 k/\s=.int .i64 sk/\Hid (Below w.heap.size w wr)/\Hid (sk=(joined (ls.take k)).length)) (fun _ i _=>n - (intOf i).toNat)
 case atStart=>exact⟨0,0,Nat.zero_le _,rfl,rfl,Below.refl _ _,rfl⟩
 case round =>
  obtain⟨k,sk,hkn,rfl,rfl,BW,SK⟩:=hrel;by_cases hlt:k<n
  ·have hltz:(k:Int)<(n:Int):=by omega
   have hkx:k<ls.length:=by rw [N.out];exact hlt
   have cx:=(BW.out.cell (p:=⟨g,k,none⟩) G.out).trans (HC.out k hkx);have hj:=hide (congrArg List.length (joined_at hkx));have hjl:=JL.out (k+1);rw [hj.out,List.length_append,<- SK.out] at hjl;generalize hlk:ls[k]! = lk at cx hj hjl;obtain⟨pk,ck,xk⟩:=lk;dsimp only [lstV] at cx hj hjl;have hj2:Hid (sk+xk.length=(joined (ls.take (k+1))).length):=by rw [hj.out,List.length_append,<- SK.out];rfl
   generalize xk.length=nk at cx hj2 hjl;clear hj hlk;go_wp2;go_roundw
   case rel=>exact⟨k+1,sk+nk,by omega,by go_num,by go_num,BW,hj2⟩
   case measure=>simp [intOf];omega
  ·have hk':k=n:=by omega
   subst hk';have hst:Hid (sk=tot):=by rw [SK.out,<- N.out,List.take_length,JT.out];rfl
   have hst':=hst.out;clear SK;subst hst';go_wp2_with fail;refine(grow_any sk wr (by omega)).mono ?_;rintro e w2 ⟨v0,rfl,hown0,hb0⟩;have O0:Hid (w2.ownsRow w.heap.size 26 5 v0 0 []):=hide (by
    refine⟨hown0.1,?_⟩;rcases hown0.2 with h | ⟨g1,cap,cur,h1,h2,h3⟩
    ·exact .inl h
    ·exact .inr ⟨g1,cap,cur,h1,Nat.le_trans BW.out.size h2,h3⟩)
   have BW2:=hide (BW.out.trans (hb0.mono BW.out.size));clear hown0 hb0 hst BW;go_wp2
   go_loopw [6,27] (fun v i wr=>∃j:Nat,j<=k/\i=.int .i64 j/\Hid (Below w.heap.size w wr)/\Hid (wr.ownsRow w.heap.size 26 5 v (joined (ls.take j)).length (flat (joined (ls.take j))))) (fun _ i _=>k - (intOf i).toNat)
   case atStart=>exact⟨0,Nat.zero_le _,rfl,BW2,O0⟩
   case round =>
    obtain⟨j,hjk,rfl,BW,O⟩:=hrel;by_cases hltj:j<k
    ·have hltz2:(j:Int)<(k:Int):=by omega
     have hjx:j<ls.length:=by rw [N.out];exact hltj
     have cx:=(BW.out.cell (p:=⟨g,j,none⟩) G.out).trans (HC.out j hjx);have hov:=(HL.out j hjx).below BW.out;have hja:=hide (joined_at hjx);have hjl:=JL.out (j+1);rw [hja.out,List.length_append] at hjl;generalize ls[j]! = lj at cx hja hjl hov;obtain⟨pj,cj,xj⟩:=lj;dsimp only [lstV] at cx hja hjl hov;have hsz:=BW.out.size
     cases pj with
     |none =>
      have hc0:=hov.nil rfl;subst hc0;have hx:xj=[]:=List.eq_nil_of_length_eq_zero (Nat.le_zero.1 hov.cap);subst hx;clear hov;simp only [List.length_nil] at cx;have hja2:Hid (joined (ls.take (j+1))=joined (ls.take j)):=by rw [hja.out,List.append_nil];rfl
      clear hja hjl;go_wp2_with (at_builtin;refine wpList_append_own_none rfl _ _ 92 rfl w.heap.size 26 i0 5 Tryz.underlying92 hi _ _ _ rfl O.out rfl ?_);go_roundw
      case rel=>exact⟨j+1,by omega,by go_num,BW,by rw [hja2.out];exact O⟩
      case measure=>simp [intOf];omega
     |some ad =>
      have hcells:Hid (∀jj u,(flat xj)[jj]? = some u->wr.cell? (ad.add jj)=some u):=by
       rcases hov.row with rfl | ⟨b,off,he,hc⟩
       ·intro jj u hu;simp [flat] at hu
       ·cases he;exact flat_cells hc
      have hfl:=hide (flat_length xj);have hf1:=hide (flat_one xj);have hj3:Hid ((joined (ls.take (j+1))).length=(joined (ls.take j)).length+xj.length):=by rw [hja.out,List.length_append];rfl
      have hj4:Hid (flat (joined (ls.take (j+1)))=flat (joined (ls.take j))++flat xj):=by rw [hja.out,flat_append];rfl
      clear hja hov;generalize flat xj=fx at hcells hfl hf1 hj4;generalize xj.length=nj at cx hfl hjl hj3;generalize joined (ls.take j)=J at O hj3 hj4 hjl;generalize hJn:J.length=Jn at O hj3 hjl;generalize hJf:flat J=Jf at O hj4;clear hJn hJf;go_wp2_with (at_builtin;refine wpList_append_own _ rfl _ _ 92 rfl w.heap.size 26 i0 (odrV noOdr) 5 40 Tryz.underlying92 hi hz0 hz1 hz2 rfl (by decide) _ Jn Jf rfl O.out ad nj cj fx rfl hfl.out hcells.out hf1.out (by unfold maxLen;omega) (by omega) hsz ?_;intro v' w1 hown1 hgrow1 hnil1);go_roundw
      case rel =>
       refine⟨j+1,by omega,by go_num,?_,?_⟩
       ·exact BW.out.grown hgrow1 hsz (fun kk hkk=>(O.out.lt kk hkk).1)
       ·rw [hj3.out,hj4.out];exact hown1
      case measure=>simp [intOf];omega
    ·have hj':j=k:=by omega
     subst hj';go_wp2;go_ret;refine⟨_,rfl,?_,BW.out⟩;have:=O.out;rw [<- N.out,List.take_length,JT.out] at this;exact this
end Go.Proofs.YthdjfhnhjiageaaGreatDoor.Bk
