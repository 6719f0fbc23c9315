import Derived.Test.YthdjfhnhjiageaaGreatDoorG35
import Derived.Test.YthdjfhnhjiageaaGreatDoorG30
set_option maxHeartbeats 8000000
set_option maxRecDepth 100000
namespace Go.Proofs.YthdjfhnhjiageaaGreatDoor.Vn
open Go.RowKit Num Fix AcP FuP Bk Rm Ac Go.Sort Go.Maps Mix RkP
def DInv (w:World) (T:Nat) (F L:Nat->Prop) (s:Tn) (id:Int) (k:Nat) (R:Res) (l:List Odr) (wr:World):Prop :=
 ∃G t,TA wr T G L t/\Newer w F G/\But F w wr/\Str t/\Sums t/\t.accs=s.accs/\t.mkts.length=s.mkts.length/\t.evs.length+l.length<=1000000/\dropL id k l t=R
theorem DInv.same {w:World}{T:Nat}{F L:Nat->Prop}{s:Tn}{id:Int}{k:Nat}{R:Res}{l:List Odr}{wr wn:World}(h:DInv w T F L s id k R l wr)(hb:Below wr.heap.size wr wn):DInv w T F L s id k R l wn:=by
 obtain⟨G,t,ta,nw,bt,h1,h2,h3,h4,h5,h6⟩:=h;exact⟨G,t,ta.below hb,nw,bt.trans (But.of_below (F:=F) hb) (fun _ f=>.inl f),h1,h2,h3,h4,h5,h6⟩
theorem drop_step {id:Int}{k j:Nat}{l r:List Odr}{t:Tn}(hj:j<l.length):dropL id k (l.drop j++r) t=if oac (l[j]'hj)=id then (if findE (mktAt t k).1 (mktAt t k).2.1 (oid (l[j]'hj))=0 then dropL id k (l.drop (j+1)++r) (remR t k (oid (l[j]'hj)) (l[j]'hj)) else .error (findE (mktAt t k).1 (mktAt t k).2.1 (oid (l[j]'hj)))) else dropL id k (l.drop (j+1)++r) t:=by
 rw [List.drop_eq_getElem_cons hj,List.cons_append,dropL]
theorem kn_one {X P x:World}{c:Array Value}{t:TypeId}(hb:Below P.heap.size P x)(hP:P.heap=(X.alloc (.cells c t)).heap):x.heap[X.heap.size]? = some (.cells c t (0,0)):=by
 rw [hb.block _ (by rw [hP];simp),hP];exact heap_alloc_new X _
theorem kn_two {X P x:World}{c1 c2:Array Value}{t1 t2:TypeId}(hb:Below P.heap.size P x)(hP:P.heap=((X.alloc (.cells c1 t1)).alloc (.cells c2 t2)).heap):x.heap[X.heap.size]? = some (.cells c1 t1 (0,0))/\x.heap[X.heap.size+1]? = some (.cells c2 t2 (0,0)):=by
 have h2:=heap_alloc_new (X.alloc (.cells c1 t1)) (.cells c2 t2);rw [World.size_alloc] at h2;have h1:((X.alloc (.cells c1 t1)).alloc (.cells c2 t2)).heap[X.heap.size]? = some (.cells c1 t1 (0,0)):=blk_below (heap_alloc_new X _) (Ac.below_alloc _ _);refine⟨?_,?_⟩
 ·rw [hb.block _ (by rw [hP];simp;omega),hP];exact h1
 ·rw [hb.block _ (by rw [hP];simp),hP];exact h2
theorem bk_kept {w:World}{B:Nat}{t:TypeId}{a b:Value}(h:w.heap[B]? = some (.cells #[a,b] t (0,0))):(w.cell? ⟨B,0,none⟩=some a/\w.cell? ⟨B,1,none⟩=some b)/\w.frozen? ⟨B,0,none⟩=false/\w.frozen? ⟨B,1,none⟩=false:=⟨⟨(blk_cell h 0).1,(blk_cell h 1).1⟩,(blk_cell h 0).2,(blk_cell h 1).2⟩
theorem od_kept {w:World}{B:Nat}{t:TypeId}{a b c d e:Value}(h:w.heap[B]? = some (.cells #[a,b,c,d,e] t (0,0))):(w.cell? ⟨B,0,none⟩=some a/\w.cell? ⟨B,1,none⟩=some b/\w.cell? ⟨B,2,none⟩=some c/\w.cell? ⟨B,3,none⟩=some d/\w.cell? ⟨B,4,none⟩=some e)/\w.frozen? ⟨B,0,none⟩=false/\w.frozen? ⟨B,1,none⟩=false/\w.frozen? ⟨B,2,none⟩=false/\w.frozen? ⟨B,3,none⟩=false/\w.frozen? ⟨B,4,none⟩=false:=⟨⟨(blk_cell h 0).1,(blk_cell h 1).1,(blk_cell h 2).1,(blk_cell h 3).1,(blk_cell h 4).1⟩,(blk_cell h 0).2,(blk_cell h 1).2,(blk_cell h 2).2,(blk_cell h 3).2,(blk_cell h 4).2⟩
theorem five_far {w:World}{B C:Nat}{v0 v1 v2 v3 v4:Value}{o:Option Obj}(h:w.heap[C]? = o)(hne:¬B=C):(((((w.setCell ⟨B,0,none⟩ v0).setCell ⟨B,1,none⟩ v1).setCell ⟨B,2,none⟩ v2).setCell ⟨B,3,none⟩ v3).setCell ⟨B,4,none⟩ v4).heap[C]? = o:=by
 simp only [World.setCell,Array.getElem?_modify,if_neg hne];exact h
theorem drop_any (T:Nat)(F L:Nat->Prop)(s:Tn)(i k:Nat)(w:World)(h:TA w T F L s)(hs:Str s)(hS:Sums s)(hi:i<s.accs.length)(hk:k<s.mkts.length)(hE:s.evs.length<=900000) :
  Calls Tryz.prog 177 #[turnP T,.int .i64 (i:Nat),.int .i64 (k:Nat)] w (Ends w T F L (dropL (accAt s i).1 k ((mktAt s k).1++(mktAt s k).2.1) s)):=by
 have mixed:Tryz.prog.follows .mixedOrders=true:=by kernel_rfl
 obtain⟨R,hR⟩:∃R,R=dropL (accAt s i).1 k ((mktAt s k).1++(mktAt s k).2.1) s:=⟨_,rfl⟩;rw [<- hR];obtain⟨ID,hID⟩:∃ID,ID=(accAt s i).1:=⟨_,rfl⟩;rw [<- hID] at hR;have hRt:=(hs.at hk).1;have hfew:=book_few hRt;have I0:Hid (DInv w T F L s ID k R ((mktAt s k).1++(mktAt s k).2.1) w):=⟨F,s,h,newer_refl _ _,But.refl F w,hs,hS,rfl,rfl,by rw [List.length_append];omega,hR.symm⟩;obtain⟨A,M,va,vm,ve,tv,hrw,hlt⟩:=h;have hkM:k<M.length:=by rw [tv.lenM];exact hk
 obtain⟨gm,cm,rfl,hgF,fz,m0,m1,-,-⟩:=tv.atM hkM;have t1:w.cell? ⟨T,1,none⟩=some (.slice (some ⟨gm,0,none⟩) M.length cm):=by rw [tv.cell];rfl
 obtain⟨ov1,ov2,of1,of2⟩:=tv.eachM _ (List.getElem_mem hkM);have hism:=tv.isMkt hkM;have fe1:(mktAt s k).1=mB (M[k]'hkM):=by rw [hism];rfl
 have fe2:(mktAt s k).2.1=mA (M[k]'hkM):=by rw [hism];rfl
 rw [<- fe1] at m0 ov1 of1;rw [<- fe2] at m1 ov2 of2;have hkz:(k:Int)<(M.length:Int):=by omega
 generalize (M[k]'hkM).1.1=pb at *;generalize (M[k]'hkM).1.2.1=cb at *;generalize (M[k]'hkM).2.1.1=pa at *;generalize (M[k]'hkM).2.1.2.1=ca at *;obtain⟨bids,hbids⟩:∃bids,bids=(mktAt s k).1:=⟨_,rfl⟩;obtain⟨asks,hasks⟩:∃asks,asks=(mktAt s k).2.1:=⟨_,rfl⟩;rw [<- hbids] at m0 ov1 of1 I0 hfew;rw [<- hasks] at m1 ov2 of2 I0 hfew;obtain⟨lb,hlb⟩:∃lb,bids.length=lb:=⟨_,rfl⟩;obtain⟨ls,hls⟩:∃ls,asks.length=ls:=⟨_,rfl⟩;rw [hlb] at m0 hfew;rw [hls] at m1 hfew;have OB:=hide ov1.row;have OA:=hide ov2.row;have FB:=hide of1;have FA:=hide of2;have LB:=hide hlb;have LS:=hide hls;have HID:=hide hID;have HI:=hide hi;have HK:=hide hk;obtain⟨fw1,fw2⟩:=hfew;clear hR hID hs hS hi hk hE hRt tv hrw hlt hgF fz ov1 ov2 of1 of2 hism fe1 fe2 hbids hasks hlb hls;go_enter Tryz.func177,Tryz.ntmps177;go_wp2_with fail;refine(sides_any pb pa lb cb ls ca _).mono ?_;rintro e X3 ⟨rfl,hb3'⟩;have I3:=hide (I0.out.same hb3');have BX3:=hide hb3';have y0:=idx2_0 (.slice pb lb cb) (.slice pa ls ca);have y1:=idx2_1 (.slice pb lb cb) (.slice pa ls ca);clear m0 m1 t1 hb3' I0;go_wp2_with fail;refine wp_loop_rounds 3 ?_;rw [rounds_succ];go_wp2_with fail;have S0:Hid (DInv w T F L s ID k R (bids.drop 0++asks) X3):=by rw [List.drop_zero];exact I3
 clear I3
 go_loopw [29] (fun i wi=>∃(j:Nat),j<=lb/\i=.int .i64 j/\Hid (DInv w T F L s ID k R (bids.drop j++asks) wi)) (fun i _=>lb - (intOf i).toNat)
 case atStart=>exact⟨0,Nat.zero_le _,rfl,S0⟩
 case round =>
  clear S0;obtain⟨j,hj,rfl,II⟩:=hrel;by_cases hjl:j<lb
  ·obtain⟨pq,hpq⟩:∃pq,pq=pb:=⟨_,rfl⟩;subst hpq;have hjz:(j:Int)<(lb:Int):=by omega
   have hjX:j<bids.length:=by rw [LB.out];exact hjl
   obtain⟨G,t,ta,nw,bt,hst,hsu,hta,htm,hev,hdr⟩:=II.out;obtain⟨ob,oo,rfl,hco⟩:∃ob oo,pq=some ⟨ob,oo,none⟩/\∀i,i<bids.length->∀l v,(enc bids[i]!)[l]? = some v->wr.cell? ⟨ob,oo+i*5+l,none⟩=some v:=by
    rcases orow_but OB.out bt FB.out with e | e
    ·rw [e] at hjX;simp at hjX
    ·exact e
   obtain⟨d0,d1,d2,d3,d4⟩:=orow_cells hco hjX;have hsp:=hdr.symm.trans (drop_step hjX);have hxx:bids[j]! = bids[j]'hjX:=getElem!_pos bids j hjX;rw [<- hxx] at hsp;have hlen:(bids.drop j++asks).length=(bids.drop (j+1)++asks).length+1:=by rw [List.drop_eq_getElem_cons hjX];rfl
   rw [hlen] at hev;generalize bids[j]! = x at *;obtain⟨y1,y2,y3,y4,y5⟩:=x;dsimp only [oid,oac,osd,opr,oqt] at d0 d1 d2 d3 d4 hsp;obtain⟨l',hl'⟩:∃l',l'=bids.drop (j+1)++asks:=⟨_,rfl⟩;rw [<- hl'] at hsp hev;obtain⟨O1,hO1⟩:∃O1,O1=wr.alloc (.cells #[.int .i64 y1,.int .i64 y2,.int .i64 y3,.int .i64 y4,.int .i64 y5] 26):=⟨_,rfl⟩;have bo1:Below wr.heap.size wr O1:=by rw [hO1];exact Ac.below_alloc wr _
   have eo:O1.heap[wr.heap.size]? = some (.cells #[.int .i64 y1,.int .i64 y2,.int .i64 y3,.int .i64 y4,.int .i64 y5] 26 (0,0)):=by rw [hO1];exact heap_alloc_new wr _
   obtain⟨X,hX⟩:∃X,X=O1.drew:=⟨_,rfl⟩;have bx1:Below O1.heap.size O1 X:=by rw [hX];exact(Below.refl _ O1).drew
   have EX:=hide (blk_below eo bx1);have BX:=hide (bo1.trans (bx1.mono bo1.size));obtain⟨A2,M2,va2,vm2,ve2,tv,hrw,hlt⟩:=ta.below bo1;have hiA:i<A2.length:=by rw [tv.lenA,hta];exact HI.out
   obtain⟨ga,cga,rfl,-,-,-,-,k0,-,-⟩:=tv.atA hiA;have t0:O1.cell? ⟨T,0,none⟩=some (.slice (some ⟨ga,0,none⟩) A2.length cga):=by rw [tv.cell];rfl
   have hida:(A2[i]'hiA).id=ID:=by
    have h1:=tv.isAcc hiA;have h2:accAt t i=accAt s i:=by unfold accAt;rw [hta]
    rw [HID.out,<- h2,h1]
   rw [hida] at k0;have r1:=(blk_cell eo 1).1;simp only [List.getElem?_toArray,List.getElem?_cons_zero,List.getElem?_cons_succ] at r1;have hiz:(i:Int)<(A2.length:Int):=by omega
   have HO1:=hide hO1;have HX:=hide hX;have HSP:=hide hsp;have HEV:=hide hev;have HL':=hide hl';have HST:=hide hst;have HSU:=hide hsu;have HTA:=hide hta;have HTM:=hide htm;have NW:=hide nw;have BTX:Hid (But F w X):=bt.trans (But.of_below (F:=F) BX.out) (fun _ f=>.inl f);have TV1:=hide (tv.below bx1);have HRW:=hide hrw;have HLT:Hid (∀b,L b->b<X.heap.size):=fun b hb=>Nat.lt_of_lt_of_le (hlt b hb) bx1.size;have NC:Hid (¬G wr.heap.size):=fun g=>by have:=ta.lt _ g;omega
   clear hO1 hX hsp hev hl' hst hsu hta htm nw bt tv hrw hlt eo bo1 bx1 hco hxx hlen hdr hida ta II;by_cases hy:y2=ID
   ·have HY:=hide hy;have hyb:(y2 == ID)=true:=by simpa using hy
    clear hy;go_wp2_with (rw [<- HO1.out]);go_region;rw [<- HX.out];clear HX HO1 k0 t0 r1 d0 d1 d2 d3 d4;have hkM2:k<M2.length:=by rw [TV1.out.lenM,HTM.out];exact HK.out
    obtain⟨gm2,cm2,rfl,hgF,fz,m0,m1,-,-⟩:=TV1.out.atM hkM2;have t1:X.cell? ⟨T,1,none⟩=some (.slice (some ⟨gm2,0,none⟩) M2.length cm2):=by rw [TV1.out.cell];rfl
    obtain⟨ov1,ov2,-,-⟩:=TV1.out.eachM _ (List.getElem_mem hkM2);have hism:=TV1.out.isMkt hkM2;have fe1:(mktAt t k).1=mB (M2[k]'hkM2):=by rw [hism];rfl
    have fe2:(mktAt t k).2.1=mA (M2[k]'hkM2):=by rw [hism];rfl
    rw [<- fe1] at m0 ov1;rw [<- fe2] at m1 ov2;have hRt:=(HST.out.at (show k<t.mkts.length by rw [HTM.out];exact HK.out)).1;have RM:Hid (∀Y,Below X.heap.size X Y->_):=fun Y hY=>remove_all (M2[k]'hkM2).1.1 (M2[k]'hkM2).2.1.1 (M2[k]'hkM2).1.2.1 (M2[k]'hkM2).2.1.2.1 (mktAt t k).1 (mktAt t k).2.1 y1 Y (ov1.below hY) (ov2.below hY) hRt;have hkz2:(k:Int)<(M2.length:Int):=by omega
    obtain⟨fo,hfo⟩:∃fo,fo=findO (mktAt t k).1 (mktAt t k).2.1 y1:=⟨_,rfl⟩;obtain⟨fe,hfe⟩:∃fe,fe=findE (mktAt t k).1 (mktAt t k).2.1 y1:=⟨_,rfl⟩;rw [<- hfo,<- hfe] at RM;have HSP2:Hid (R=if fe=0 then dropL ID k l' (remR t k y1 (y1,y2,y3,y4,y5)) else .error fe):=by
     have:=HSP.out;rw [if_pos HY.out,<- hfe] at this;exact this
    have HFE:=hide hfe;obtain⟨z1,z2,z3,z4,z5⟩:=fo;generalize (M2[k]'hkM2).1.1=qb at *;generalize (M2[k]'hkM2).1.2.1=kb at *;generalize (M2[k]'hkM2).2.1.1=qa at *;generalize (M2[k]'hkM2).2.1.2.1=ka at *;generalize hmb:(mktAt t k).1.length=nb at *;generalize hma:(mktAt t k).2.1.length=na at *;have x0:∀Y,Below X.heap.size X Y->Y.cell? ⟨T,1,none⟩=some (.slice (some ⟨gm2,0,none⟩) M2.length cm2):=fun Y hY=>(hY.cell (World.block_lt_of_cell? _ _ t1)).trans t1;have x1:∀Y,Below X.heap.size X Y->Y.cell? ⟨gm2,k*4,none⟩=some (.slice qb nb kb):=fun Y hY=>(hY.cell (World.block_lt_of_cell? _ _ m0)).trans m0;have x2:∀Y,Below X.heap.size X Y->Y.cell? ⟨gm2,k*4+1,none⟩=some (.slice qa na ka):=fun Y hY=>(hY.cell (World.block_lt_of_cell? _ _ m1)).trans m1;have x3:∀Y,Below X.heap.size X Y->Y.cell? ⟨wr.heap.size,0,none⟩=some (.int .i64 y1):=fun Y hY=>(blk_cell (blk_below EX.out hY) 0).1;clear m0 m1 t1 ov1 ov2 hism fe1 fe2 hRt hfo hfe HSP hmb hma fz hgF;have XD:Hid (Below X.heap.size X X.drew):=(Below.refl _ X).drew;have sx:X.heap.size<=X.heap.size+1:=Nat.le_succ _;go_wp2_with fail;go_region_held3 (fun w'=>Below X.heap.size X w') (first | (with_reducible assumption) | (with_reducible exact XD.out) | (repeat (first | (with_reducible assumption) | (with_reducible exact XD.out) | (with_reducible exact Below.refl _ _) | (with_reducible refine Below.drew ?_) | (with_reducible refine Below.alloc ?_ ?_ _) | (with_reducible refine Below.setCell ?_ ?_ _) | (exact Below.size (by with_reducible assumption)) | (exact Nat.le_refl _) | (exact sx) | (with_reducible refine(?_:Below X.heap.size X _).size) | (simp;done)))) ((go_at_call 127;refine(RM.out _ ?_).mono ?_;assumption;rintro e w3 ⟨p1,n1,c1,p2,n2',c2',rfl,hb3,tp⟩;have TP:=hide tp;have hb3':Below X.heap.size X w3:=Below.trans (by assumption) (hb3.mono (Below.size (by assumption)));clear tp;first | (have kn:=kn_two (X:=X) (c1:=#[.slice none 0 0,.slice none 0 0]) (t1:=94) (c2:=#[.int .i64 0,.int .i64 0,.int .i64 0,.int .i64 0,.int .i64 0]) (t2:=26) hb3 rfl;have KN:=hide kn;obtain⟨⟨ce0,ce1⟩,fr0,fr1⟩:=bk_kept kn.1;obtain⟨⟨oe0,oe1,oe2,oe3,oe4⟩,og0,og1,og2,og3,og4⟩:=od_kept kn.2;clear kn) | (have kn:=kn_two (X:=X) (c1:=#[.int .i64 0,.int .i64 0,.int .i64 0,.int .i64 0,.int .i64 0]) (t1:=26) (c2:=#[.slice none 0 0,.slice none 0 0]) (t2:=94) hb3 rfl;have KN:=hide kn;obtain⟨⟨ce0,ce1⟩,fr0,fr1⟩:=bk_kept kn.2;obtain⟨⟨oe0,oe1,oe2,oe3,oe4⟩,og0,og1,og2,og3,og4⟩:=od_kept kn.1;clear kn) | (have kn:=kn_one (X:=X) (c:=#[.slice none 0 0,.slice none 0 0]) (t:=94) hb3 rfl;have KN:=hide kn;obtain⟨⟨ce0,ce1⟩,fr0,fr1⟩:=bk_kept kn;have ceA0:=fun o=>cell_old ce0 o;have frA0:=fun o=>frozen_old ce0 fr0 o;have ceA1:=fun o=>cell_old ce1 o;have frA1:=fun o=>frozen_old ce1 fr1 o;have nv1:¬w3.heap.size=X.heap.size:=(by have:=(Array.getElem?_eq_some_iff.1 kn).1;omega);have nv2:¬X.heap.size=w3.heap.size:=(by have:=(Array.getElem?_eq_some_iff.1 kn).1;omega);clear kn) | (have kn:=kn_one (X:=X) (c:=#[.int .i64 0,.int .i64 0,.int .i64 0,.int .i64 0,.int .i64 0]) (t:=26) hb3 rfl;have KN:=hide kn;obtain⟨⟨ce0,ce1,ce2,ce3,ce4⟩,fr0,fr1,fr2,fr3,fr4⟩:=od_kept kn;have ceA0:=fun o=>cell_old ce0 o;have frA0:=fun o=>frozen_old ce0 fr0 o;have ceA1:=fun o=>cell_old ce1 o;have frA1:=fun o=>frozen_old ce1 fr1 o;have ceA2:=fun o=>cell_old ce2 o;have frA2:=fun o=>frozen_old ce2 fr2 o;have ceA3:=fun o=>cell_old ce3 o;have frA3:=fun o=>frozen_old ce3 fr3 o;have ceA4:=fun o=>cell_old ce4 o;have frA4:=fun o=>frozen_old ce4 fr4 o;have nv1:¬w3.heap.size=X.heap.size:=(by have:=(Array.getElem?_eq_some_iff.1 kn).1;omega);have nv2:¬X.heap.size=w3.heap.size:=(by have:=(Array.getElem?_eq_some_iff.1 kn).1;omega);clear kn) | skip))
    all_goals
     first
     |obtain⟨Y,hY⟩:∃Y,Y=(w3.alloc (.cells #[.slice p1 n1 c1,.slice p2 n2' c2'] 94)).alloc (.cells #[.int .i64 z1,.int .i64 z2,.int .i64 z3,.int .i64 z4,.int .i64 z5] 26):=⟨_,rfl⟩
      rw [<- hY]
      have EY:Hid (Y.heap[w3.heap.size]? = some (.cells #[.slice p1 n1 c1,.slice p2 n2' c2'] 94 (0,0))):=by
       show Y.heap[w3.heap.size]? = _
       rw [hY];exact blk_below (heap_alloc_new w3 _) (Ac.below_alloc _ _)
      have BY:Hid (Below X.heap.size X Y):=by
       rw [hY]
       exact(hb3'.alloc hb3'.size _).alloc (by have:=hb3'.size;simp;omega) _
      have bw:But (fun b=>False) w3 Y:=by
       rw [hY];exact .of_below (Ac.below_alloc2 w3 _ _)
      have TPY:Hid (RemY (mktAt t k).1 (mktAt t k).2.1 y1 Y X.heap.size p1 n1 c1 p2 n2' c2'):=remY_on TP.out bw (fun a ha=>⟨by simpa using ha,id⟩)
     |obtain⟨Y,hY⟩:∃Y,Y=(w3.alloc (.cells #[.int .i64 z1,.int .i64 z2,.int .i64 z3,.int .i64 z4,.int .i64 z5] 26)).alloc (.cells #[.slice p1 n1 c1,.slice p2 n2' c2'] 94):=⟨_,rfl⟩
      rw [<- hY]
      have EY:Hid (Y.heap[w3.heap.size+1]? = some (.cells #[.slice p1 n1 c1,.slice p2 n2' c2'] 94 (0,0))):=by
       show Y.heap[w3.heap.size+1]? = _
       rw [hY];have:=heap_alloc_new (w3.alloc (.cells #[.int .i64 z1,.int .i64 z2,.int .i64 z3,.int .i64 z4,.int .i64 z5] 26)) (.cells #[.slice p1 n1 c1,.slice p2 n2' c2'] 94);rw [World.size_alloc] at this;exact this
      have BY:Hid (Below X.heap.size X Y):=by
       rw [hY]
       exact(hb3'.alloc hb3'.size _).alloc (by have:=hb3'.size;simp;omega) _
      have bw:But (fun b=>False) w3 Y:=by
       rw [hY];exact .of_below (Ac.below_alloc2 w3 _ _)
      have TPY:Hid (RemY (mktAt t k).1 (mktAt t k).2.1 y1 Y X.heap.size p1 n1 c1 p2 n2' c2'):=remY_on TP.out bw (fun a ha=>⟨by simpa using ha,id⟩)
     |obtain⟨Y,hY⟩:∃Y,Y=((((((((w3.alloc (.cells #[.int .i64 0,.int .i64 0,.int .i64 0,.int .i64 0,.int .i64 0] 26)).setCell ⟨X.heap.size,0,none⟩ (.slice p1 n1 c1)).setCell ⟨X.heap.size,1,none⟩ (.slice p2 n2' c2')).setCell ⟨w3.heap.size,0,none⟩ (.int .i64 z1)).setCell ⟨w3.heap.size,1,none⟩ (.int .i64 z2)).setCell ⟨w3.heap.size,2,none⟩ (.int .i64 z3)).setCell ⟨w3.heap.size,3,none⟩ (.int .i64 z4)).setCell ⟨w3.heap.size,4,none⟩ (.int .i64 z5)):=⟨_,rfl⟩
      rw [<- hY]
      have EY:Hid (Y.heap[X.heap.size]? = some (.cells #[.slice p1 n1 c1,.slice p2 n2' c2'] 94 (0,0))):=by
       show Y.heap[X.heap.size]? = _
       rw [hY]
       refine five_far ?_ (fun e=>nv1 e)
       exact heap_set (heap_set (blk_below KN.out (Ac.below_alloc w3 _)) 0 _) 1 _
      have BY:Hid (Below X.heap.size X Y):=by
       rw [hY];exact(((((((hb3'.alloc hb3'.size _).setCell (p:=⟨X.heap.size,0,none⟩) (Nat.le_refl _) _).setCell (p:=⟨X.heap.size,1,none⟩) (Nat.le_refl _) _).setCell (p:=⟨w3.heap.size,0,none⟩) hb3'.size _).setCell (p:=⟨w3.heap.size,1,none⟩) hb3'.size _).setCell (p:=⟨w3.heap.size,2,none⟩) hb3'.size _).setCell (p:=⟨w3.heap.size,3,none⟩) hb3'.size _).setCell (p:=⟨w3.heap.size,4,none⟩) hb3'.size _
      have bw:But (fun b=>b=X.heap.size) w3 Y:=by
       rw [hY]
       exact(((((((But.of_below (F:=fun b=>b=X.heap.size) (Ac.below_alloc w3 _)).setCell (p:=⟨X.heap.size,0,none⟩) (.inl rfl) _).setCell (p:=⟨X.heap.size,1,none⟩) (.inl rfl) _).setCell (p:=⟨w3.heap.size,0,none⟩) (.inr (Nat.le_refl _)) _).setCell (p:=⟨w3.heap.size,1,none⟩) (.inr (Nat.le_refl _)) _).setCell (p:=⟨w3.heap.size,2,none⟩) (.inr (Nat.le_refl _)) _).setCell (p:=⟨w3.heap.size,3,none⟩) (.inr (Nat.le_refl _)) _).setCell (p:=⟨w3.heap.size,4,none⟩) (.inr (Nat.le_refl _)) _
      have TPY:Hid (RemY (mktAt t k).1 (mktAt t k).2.1 y1 Y X.heap.size p1 n1 c1 p2 n2' c2'):=remY_on TP.out bw (fun a ha=>⟨by simp at ha;omega,fun e=>by simp at ha;omega⟩)
     |obtain⟨Y,hY⟩:∃Y,Y=((((((((w3).setCell ⟨X.heap.size,0,none⟩ (.slice p1 n1 c1)).setCell ⟨X.heap.size,1,none⟩ (.slice p2 n2' c2')).setCell ⟨X.heap.size+1,0,none⟩ (.int .i64 z1)).setCell ⟨X.heap.size+1,1,none⟩ (.int .i64 z2)).setCell ⟨X.heap.size+1,2,none⟩ (.int .i64 z3)).setCell ⟨X.heap.size+1,3,none⟩ (.int .i64 z4)).setCell ⟨X.heap.size+1,4,none⟩ (.int .i64 z5)):=⟨_,rfl⟩
      rw [<- hY]
      have EY:Hid (Y.heap[X.heap.size]? = some (.cells #[.slice p1 n1 c1,.slice p2 n2' c2'] 94 (0,0))):=by
       show Y.heap[X.heap.size]? = _
       rw [hY]
       refine five_far ?_ (by omega)
       exact heap_set (heap_set KN.out.1 0 _) 1 _
      have BY:Hid (Below X.heap.size X Y):=by
       rw [hY];exact(((((((hb3').setCell (p:=⟨X.heap.size,0,none⟩) (Nat.le_refl _) _).setCell (p:=⟨X.heap.size,1,none⟩) (Nat.le_refl _) _).setCell (p:=⟨X.heap.size+1,0,none⟩) (show X.heap.size<=X.heap.size+1 from Nat.le_succ _) _).setCell (p:=⟨X.heap.size+1,1,none⟩) (show X.heap.size<=X.heap.size+1 from Nat.le_succ _) _).setCell (p:=⟨X.heap.size+1,2,none⟩) (show X.heap.size<=X.heap.size+1 from Nat.le_succ _) _).setCell (p:=⟨X.heap.size+1,3,none⟩) (show X.heap.size<=X.heap.size+1 from Nat.le_succ _) _).setCell (p:=⟨X.heap.size+1,4,none⟩) (show X.heap.size<=X.heap.size+1 from Nat.le_succ _) _
      have bw:But (fun b=>b=X.heap.size\/b=X.heap.size+1) w3 Y:=by
       rw [hY];exact(((((((But.refl _ w3).setCell (p:=⟨X.heap.size,0,none⟩) (.inl (.inl rfl)) _).setCell (p:=⟨X.heap.size,1,none⟩) (.inl (.inl rfl)) _).setCell (p:=⟨X.heap.size+1,0,none⟩) (.inl (.inr rfl)) _).setCell (p:=⟨X.heap.size+1,1,none⟩) (.inl (.inr rfl)) _).setCell (p:=⟨X.heap.size+1,2,none⟩) (.inl (.inr rfl)) _).setCell (p:=⟨X.heap.size+1,3,none⟩) (.inl (.inr rfl)) _).setCell (p:=⟨X.heap.size+1,4,none⟩) (.inl (.inr rfl)) _
      have TPY:Hid (RemY (mktAt t k).1 (mktAt t k).2.1 y1 Y X.heap.size p1 n1 c1 p2 n2' c2'):=remY_on TP.out bw (fun a ha=>⟨by simp at ha;omega,fun e=>by simp at ha;omega⟩)
     |obtain⟨Y,hY⟩:∃Y,Y=((((((w3.alloc (.cells #[.slice p1 n1 c1,.slice p2 n2' c2'] 94)).setCell ⟨X.heap.size,0,none⟩ (.int .i64 z1)).setCell ⟨X.heap.size,1,none⟩ (.int .i64 z2)).setCell ⟨X.heap.size,2,none⟩ (.int .i64 z3)).setCell ⟨X.heap.size,3,none⟩ (.int .i64 z4)).setCell ⟨X.heap.size,4,none⟩ (.int .i64 z5)):=⟨_,rfl⟩
      rw [<- hY]
      have EY:Hid (Y.heap[w3.heap.size]? = some (.cells #[.slice p1 n1 c1,.slice p2 n2' c2'] 94 (0,0))):=by
       show Y.heap[w3.heap.size]? = _
       rw [hY]
       refine five_far ?_ (fun e=>nv2 e)
       exact heap_alloc_new w3 _
      have BY:Hid (Below X.heap.size X Y):=by
       rw [hY];exact(((((hb3'.alloc hb3'.size _).setCell (p:=⟨X.heap.size,0,none⟩) (Nat.le_refl _) _).setCell (p:=⟨X.heap.size,1,none⟩) (Nat.le_refl _) _).setCell (p:=⟨X.heap.size,2,none⟩) (Nat.le_refl _) _).setCell (p:=⟨X.heap.size,3,none⟩) (Nat.le_refl _) _).setCell (p:=⟨X.heap.size,4,none⟩) (Nat.le_refl _) _
      have bw:But (fun b=>b=X.heap.size) w3 Y:=by
       rw [hY]
       exact(((((But.of_below (F:=fun b=>b=X.heap.size) (Ac.below_alloc w3 _)).setCell (p:=⟨X.heap.size,0,none⟩) (.inl rfl) _).setCell (p:=⟨X.heap.size,1,none⟩) (.inl rfl) _).setCell (p:=⟨X.heap.size,2,none⟩) (.inl rfl) _).setCell (p:=⟨X.heap.size,3,none⟩) (.inl rfl) _).setCell (p:=⟨X.heap.size,4,none⟩) (.inl rfl) _
      have TPY:Hid (RemY (mktAt t k).1 (mktAt t k).2.1 y1 Y X.heap.size p1 n1 c1 p2 n2' c2'):=remY_on TP.out bw (fun a ha=>⟨by simp at ha;omega,fun e=>by simp at ha;omega⟩)
     |obtain⟨Y,hY⟩:∃Y,Y=((((((((w3).setCell ⟨X.heap.size+1,0,none⟩ (.slice p1 n1 c1)).setCell ⟨X.heap.size+1,1,none⟩ (.slice p2 n2' c2')).setCell ⟨X.heap.size,0,none⟩ (.int .i64 z1)).setCell ⟨X.heap.size,1,none⟩ (.int .i64 z2)).setCell ⟨X.heap.size,2,none⟩ (.int .i64 z3)).setCell ⟨X.heap.size,3,none⟩ (.int .i64 z4)).setCell ⟨X.heap.size,4,none⟩ (.int .i64 z5)):=⟨_,rfl⟩
      rw [<- hY]
      have EY:Hid (Y.heap[X.heap.size+1]? = some (.cells #[.slice p1 n1 c1,.slice p2 n2' c2'] 94 (0,0))):=by
       show Y.heap[X.heap.size+1]? = _
       rw [hY]
       refine five_far ?_ (by omega)
       exact heap_set (heap_set KN.out.2 0 _) 1 _
      have BY:Hid (Below X.heap.size X Y):=by
       rw [hY];exact(((((((hb3').setCell (p:=⟨X.heap.size+1,0,none⟩) (show X.heap.size<=X.heap.size+1 from Nat.le_succ _) _).setCell (p:=⟨X.heap.size+1,1,none⟩) (show X.heap.size<=X.heap.size+1 from Nat.le_succ _) _).setCell (p:=⟨X.heap.size,0,none⟩) (Nat.le_refl _) _).setCell (p:=⟨X.heap.size,1,none⟩) (Nat.le_refl _) _).setCell (p:=⟨X.heap.size,2,none⟩) (Nat.le_refl _) _).setCell (p:=⟨X.heap.size,3,none⟩) (Nat.le_refl _) _).setCell (p:=⟨X.heap.size,4,none⟩) (Nat.le_refl _) _
      have bw:But (fun b=>b=X.heap.size\/b=X.heap.size+1) w3 Y:=by
       rw [hY];exact(((((((But.refl _ w3).setCell (p:=⟨X.heap.size+1,0,none⟩) (.inl (.inr rfl)) _).setCell (p:=⟨X.heap.size+1,1,none⟩) (.inl (.inr rfl)) _).setCell (p:=⟨X.heap.size,0,none⟩) (.inl (.inl rfl)) _).setCell (p:=⟨X.heap.size,1,none⟩) (.inl (.inl rfl)) _).setCell (p:=⟨X.heap.size,2,none⟩) (.inl (.inl rfl)) _).setCell (p:=⟨X.heap.size,3,none⟩) (.inl (.inl rfl)) _).setCell (p:=⟨X.heap.size,4,none⟩) (.inl (.inl rfl)) _
      have TPY:Hid (RemY (mktAt t k).1 (mktAt t k).2.1 y1 Y X.heap.size p1 n1 c1 p2 n2' c2'):=remY_on TP.out bw (fun a ha=>⟨by simp at ha;omega,fun e=>by simp at ha;omega⟩)
    all_goals
     have EBY:=hide (blk_below EX.out BY.out);have s0:=(blk_cell EBY.out 0).1;have s1:=(blk_cell EBY.out 1).1;have s2:=(blk_cell EBY.out 2).1;have s3:=(blk_cell EBY.out 3).1;have s4:=(blk_cell EBY.out 4).1;have yy0:=(blk_cell EY.out 0).1;have yy1:=(blk_cell EY.out 1).1;simp only [List.getElem?_toArray,List.getElem?_cons_zero,List.getElem?_cons_succ] at s0 s1 s2 s3 s4 yy0 yy1;by_cases hfe:fe=0
     ·have HR3:Hid (R=dropL ID k l' (remR t k y1 (y1,y2,y3,y4,y5))):=by
       have:=HSP2.out;rw [if_pos hfe] at this;exact this
      obtain⟨hn1,hn2,o1,o2,zz1,zz2⟩:=TPY.out (by rw [<- HFE.out];exact hfe);have tvY:=TV1.out.below BY.out;have offG:∀{p:Option Addr} (l:List Odr),(∀a,p=some a->X.heap.size<=a.block)->Off G p l:=fun l hp=>.inr fun x hx f=>by have:=hp x hx;have:=TV1.out.lt _ f;omega
      have offL:∀{p:Option Addr} (l:List Odr),(∀a,p=some a->X.heap.size<=a.block)->Off L p l:=fun l hp=>.inr fun x hx f=>by have:=hp x hx;have:=HLT.out _ f;omega
      obtain⟨gm',cm',e',hgG,fz,m0,m1,-,-⟩:=tvY.atM hkM2;cases e'
      have t1:Y.cell? ⟨T,1,none⟩=some (.slice (some ⟨gm2,0,none⟩) M2.length cm2):=by rw [tvY.cell];rfl
      have f0:=fz (k*4);have f1:=fz (k*4+1);have PB:=tvY.putBook hkM2 o1 o2 (offG _ zz1) (offG _ zz2);rw [<- hn1,<- hn2] at PB;obtain⟨Z,hZ⟩:∃Z,Z=((Y.setCell ⟨gm2,k*4,none⟩ (.slice p1 n1 c1)).setCell ⟨gm2,k*4+1,none⟩ (.slice p2 n2' c2')).drew:=⟨_,rfl⟩;have BYZ:But G Y Z:=by rw [hZ];exact But.drew (((But.refl G Y).setCell (p:=⟨gm2,k*4,none⟩) (.inl hgG) _).setCell (p:=⟨gm2,k*4+1,none⟩) (.inl hgG) _)
      have BZ:Hid (But F w Z):=by
       rw [hZ];exact But.drew (((BTX.out.trans (But.of_below (F:=F) BY.out) (fun _ f=>.inl f)).setCell (p:=⟨gm2,k*4,none⟩) (NW.out _ hgG) _).setCell (p:=⟨gm2,k*4+1,none⟩) (NW.out _ hgG) _)
      have tZ:=PB.below (Below.refl _ _).drew;rw [<- hZ] at tZ;have eZ:=blk_but EBY.out BYZ NC.out;have u0:=(blk_cell eZ 0).1;have u1:=(blk_cell eZ 1).1;have u2:=(blk_cell eZ 2).1;have u3:=(blk_cell eZ 3).1;have u4:=(blk_cell eZ 4).1;simp only [List.getElem?_toArray,List.getElem?_cons_zero,List.getElem?_cons_succ] at u0 u1 u2 u3 u4;have rZ:=HRW.out.setM k (m:=((p1,c1,without y1 (mktAt t k).1),(p2,c2',without y1 (mktAt t k).2.1),mI (M2[k]'hkM2),mL (M2[k]'hkM2))) (offL _ zz1) (offL _ zz2);have RZ:=hide rZ;have GN:=hide (gone_any T G _ A2 _ _ _ ve2 (k:Nat) y5 (y1,y2,y3,y4,y5) Z tZ (by have:=HEV.out;show t.evs.length<=_;omega));have LZ:Hid (∀b,L b->b<Z.heap.size):=fun b hb=>Nat.lt_of_lt_of_le (HLT.out b hb) (Nat.le_trans BY.out.size BYZ.size);have HZ:=hide hZ;subst hfe;clear hn1 hn2 o1 o2 zz1 zz2 tvY offG offL hgG fz PB BYZ tZ eZ rZ hZ TPY TP hY bw HSP2 s0 s1 s2 s3 s4 EY EBY;go_wp2_with fail;go_region;rw [<- HZ.out];clear HZ t1 m0 m1 f0 f1 yy0 yy1;go_wp2_with fail;refine GN.out.mono ?_;rintro e V3 ⟨rfl,g3,cap3,tv3,hg3,b3⟩;have SF:=rem_facts HST.out HSU.out (show k<t.mkts.length by rw [HTM.out];exact HK.out) y1 (y1,y2,y3,y4,y5);have I':Hid (DInv w T F L s ID k R l' V3):=by
       refine⟨_,remR t k y1 (y1,y2,y3,y4,y5),⟨_,_,_,_,_,tv3,RZ.out,fun b hb=>Nat.lt_of_lt_of_le (LZ.out b hb) b3.size⟩,?_,BZ.out.trans b3 (fun b g=>NW.out b g),SF.str,SF.sums,HTA.out,SF.len.trans HTM.out,?_,HR3.out.symm⟩
       ·rintro b (hb | rfl)
        ·exact NW.out b hb
        ·rcases hg3 with h | h
         ·exact NW.out _ h
         ·exact .inr (Nat.le_trans BZ.out.size h)
       ·have:=HEV.out;show (t.evs++[_]).length+_<=_;rw [List.length_append];simp;omega
      rw [HL'.out] at I';clear tv3 hg3 b3 GN SF u0 u1 u2 u3 u4;go_wp2;go_roundw
      case rel=>exact⟨j+1,hjl,by go_num,I'⟩
      case measure=>simp [intOf];omega
     ·have EE:Hid (Ends w T F L R (.returned (.int .i64 fe)) Y):=by
       refine .inr ⟨fe,?_,rfl,hfe,BTX.out.trans (But.of_below (F:=F) BY.out) (fun _ f=>.inl f)⟩;have:=HSP2.out;rw [if_neg hfe] at this;exact this
      clear HSP2 TPY TP hY bw;go_wp2;go_ret;exact EE.out
   ·have hyb:(y2 == ID)=false:=by simpa using hy
    have I':Hid (DInv w T F L s ID k R l' X):=by
     refine⟨G,t,⟨_,_,_,_,_,TV1.out,HRW.out,HLT.out⟩,NW.out,BTX.out,HST.out,HSU.out,HTA.out,HTM.out,by have:=HEV.out;omega,?_⟩;have:=HSP.out;rw [if_neg hy] at this;exact this.symm
    rw [HL'.out] at I';go_wp2_with (rw [<- HO1.out]);go_region;rw [<- HX.out];clear HX HO1 k0 t0 r1 d0 d1 d2 d3 d4;go_wp2;go_roundw
    case rel=>exact⟨j+1,hjl,by go_num,I'⟩
    case measure=>simp [intOf];omega
  ·have S1:Hid (DInv w T F L s ID k R (asks.drop 0++[]) wr):=by
    have:=II.out;rw [List.drop_eq_nil_of_le (by rw [LB.out];omega),List.nil_append] at this;rw [List.drop_zero,List.append_nil];exact this
   clear II;obtain⟨X4,hX4⟩:∃X4,X4=wr:=⟨_,rfl⟩;subst hX4;go_wp2_with fail;rw [rounds_succ];go_wp2_with fail
   go_loopw [29] (fun i wi=>∃(j:Nat),j<=ls/\i=.int .i64 j/\Hid (DInv w T F L s ID k R (asks.drop j++[]) wi)) (fun i _=>ls - (intOf i).toNat)
   case atStart=>exact⟨0,Nat.zero_le _,rfl,S1⟩
   case round =>
    clear S1;obtain⟨j,hj,rfl,II⟩:=hrel;by_cases hjl:j<ls
    ·obtain⟨pq,hpq⟩:∃pq,pq=pa:=⟨_,rfl⟩;subst hpq;have hjz:(j:Int)<(ls:Int):=by omega
     have hjX:j<asks.length:=by rw [LS.out];exact hjl
     obtain⟨G,t,ta,nw,bt,hst,hsu,hta,htm,hev,hdr⟩:=II.out;obtain⟨ob,oo,rfl,hco⟩:∃ob oo,pq=some ⟨ob,oo,none⟩/\∀i,i<asks.length->∀l v,(enc asks[i]!)[l]? = some v->wr.cell? ⟨ob,oo+i*5+l,none⟩=some v:=by
      rcases orow_but OA.out bt FA.out with e | e
      ·rw [e] at hjX;simp at hjX
      ·exact e
     obtain⟨d0,d1,d2,d3,d4⟩:=orow_cells hco hjX;have hsp:=hdr.symm.trans (drop_step hjX);have hxx:asks[j]! = asks[j]'hjX:=getElem!_pos asks j hjX;rw [<- hxx] at hsp;have hlen:(asks.drop j++[]).length=(asks.drop (j+1)++[]).length+1:=by rw [List.drop_eq_getElem_cons hjX];rfl
     rw [hlen] at hev;generalize asks[j]! = x at *;obtain⟨y1,y2,y3,y4,y5⟩:=x;dsimp only [oid,oac,osd,opr,oqt] at d0 d1 d2 d3 d4 hsp;obtain⟨l',hl'⟩:∃l',l'=asks.drop (j+1)++[]:=⟨_,rfl⟩;rw [<- hl'] at hsp hev;obtain⟨O1,hO1⟩:∃O1,O1=wr.alloc (.cells #[.int .i64 y1,.int .i64 y2,.int .i64 y3,.int .i64 y4,.int .i64 y5] 26):=⟨_,rfl⟩;have bo1:Below wr.heap.size wr O1:=by rw [hO1];exact Ac.below_alloc wr _
     have eo:O1.heap[wr.heap.size]? = some (.cells #[.int .i64 y1,.int .i64 y2,.int .i64 y3,.int .i64 y4,.int .i64 y5] 26 (0,0)):=by rw [hO1];exact heap_alloc_new wr _
     obtain⟨X,hX⟩:∃X,X=O1.drew:=⟨_,rfl⟩;have bx1:Below O1.heap.size O1 X:=by rw [hX];exact(Below.refl _ O1).drew
     have EX:=hide (blk_below eo bx1);have BX:=hide (bo1.trans (bx1.mono bo1.size));obtain⟨A2,M2,va2,vm2,ve2,tv,hrw,hlt⟩:=ta.below bo1;have hiA:i<A2.length:=by rw [tv.lenA,hta];exact HI.out
     obtain⟨ga,cga,rfl,-,-,-,-,k0,-,-⟩:=tv.atA hiA;have t0:O1.cell? ⟨T,0,none⟩=some (.slice (some ⟨ga,0,none⟩) A2.length cga):=by rw [tv.cell];rfl
     have hida:(A2[i]'hiA).id=ID:=by
      have h1:=tv.isAcc hiA;have h2:accAt t i=accAt s i:=by unfold accAt;rw [hta]
      rw [HID.out,<- h2,h1]
     rw [hida] at k0;have r1:=(blk_cell eo 1).1;simp only [List.getElem?_toArray,List.getElem?_cons_zero,List.getElem?_cons_succ] at r1;have hiz:(i:Int)<(A2.length:Int):=by omega
     have HO1:=hide hO1;have HX:=hide hX;have HSP:=hide hsp;have HEV:=hide hev;have HL':=hide hl';have HST:=hide hst;have HSU:=hide hsu;have HTA:=hide hta;have HTM:=hide htm;have NW:=hide nw;have BTX:Hid (But F w X):=bt.trans (But.of_below (F:=F) BX.out) (fun _ f=>.inl f);have TV1:=hide (tv.below bx1);have HRW:=hide hrw;have HLT:Hid (∀b,L b->b<X.heap.size):=fun b hb=>Nat.lt_of_lt_of_le (hlt b hb) bx1.size;have NC:Hid (¬G wr.heap.size):=fun g=>by have:=ta.lt _ g;omega
     clear hO1 hX hsp hev hl' hst hsu hta htm nw bt tv hrw hlt eo bo1 bx1 hco hxx hlen hdr hida ta II;by_cases hy:y2=ID
     ·have HY:=hide hy;have hyb:(y2 == ID)=true:=by simpa using hy
      clear hy;go_wp2_with (rw [<- HO1.out]);go_region;rw [<- HX.out];clear HX HO1 k0 t0 r1 d0 d1 d2 d3 d4;have hkM2:k<M2.length:=by rw [TV1.out.lenM,HTM.out];exact HK.out
      obtain⟨gm2,cm2,rfl,hgF,fz,m0,m1,-,-⟩:=TV1.out.atM hkM2;have t1:X.cell? ⟨T,1,none⟩=some (.slice (some ⟨gm2,0,none⟩) M2.length cm2):=by rw [TV1.out.cell];rfl
      obtain⟨ov1,ov2,-,-⟩:=TV1.out.eachM _ (List.getElem_mem hkM2);have hism:=TV1.out.isMkt hkM2;have fe1:(mktAt t k).1=mB (M2[k]'hkM2):=by rw [hism];rfl
      have fe2:(mktAt t k).2.1=mA (M2[k]'hkM2):=by rw [hism];rfl
      rw [<- fe1] at m0 ov1;rw [<- fe2] at m1 ov2;have hRt:=(HST.out.at (show k<t.mkts.length by rw [HTM.out];exact HK.out)).1;have RM:Hid (∀Y,Below X.heap.size X Y->_):=fun Y hY=>remove_all (M2[k]'hkM2).1.1 (M2[k]'hkM2).2.1.1 (M2[k]'hkM2).1.2.1 (M2[k]'hkM2).2.1.2.1 (mktAt t k).1 (mktAt t k).2.1 y1 Y (ov1.below hY) (ov2.below hY) hRt;have hkz2:(k:Int)<(M2.length:Int):=by omega
      obtain⟨fo,hfo⟩:∃fo,fo=findO (mktAt t k).1 (mktAt t k).2.1 y1:=⟨_,rfl⟩;obtain⟨fe,hfe⟩:∃fe,fe=findE (mktAt t k).1 (mktAt t k).2.1 y1:=⟨_,rfl⟩;rw [<- hfo,<- hfe] at RM;have HSP2:Hid (R=if fe=0 then dropL ID k l' (remR t k y1 (y1,y2,y3,y4,y5)) else .error fe):=by
       have:=HSP.out;rw [if_pos HY.out,<- hfe] at this;exact this
      have HFE:=hide hfe;obtain⟨z1,z2,z3,z4,z5⟩:=fo;generalize (M2[k]'hkM2).1.1=qb at *;generalize (M2[k]'hkM2).1.2.1=kb at *;generalize (M2[k]'hkM2).2.1.1=qa at *;generalize (M2[k]'hkM2).2.1.2.1=ka at *;generalize hmb:(mktAt t k).1.length=nb at *;generalize hma:(mktAt t k).2.1.length=na at *;have x0:∀Y,Below X.heap.size X Y->Y.cell? ⟨T,1,none⟩=some (.slice (some ⟨gm2,0,none⟩) M2.length cm2):=fun Y hY=>(hY.cell (World.block_lt_of_cell? _ _ t1)).trans t1;have x1:∀Y,Below X.heap.size X Y->Y.cell? ⟨gm2,k*4,none⟩=some (.slice qb nb kb):=fun Y hY=>(hY.cell (World.block_lt_of_cell? _ _ m0)).trans m0;have x2:∀Y,Below X.heap.size X Y->Y.cell? ⟨gm2,k*4+1,none⟩=some (.slice qa na ka):=fun Y hY=>(hY.cell (World.block_lt_of_cell? _ _ m1)).trans m1;have x3:∀Y,Below X.heap.size X Y->Y.cell? ⟨wr.heap.size,0,none⟩=some (.int .i64 y1):=fun Y hY=>(blk_cell (blk_below EX.out hY) 0).1;clear m0 m1 t1 ov1 ov2 hism fe1 fe2 hRt hfo hfe HSP hmb hma fz hgF;have XD:Hid (Below X.heap.size X X.drew):=(Below.refl _ X).drew;have sx:X.heap.size<=X.heap.size+1:=Nat.le_succ _;go_wp2_with fail;go_region_held3 (fun w'=>Below X.heap.size X w') (first | (with_reducible assumption) | (with_reducible exact XD.out) | (repeat (first | (with_reducible assumption) | (with_reducible exact XD.out) | (with_reducible exact Below.refl _ _) | (with_reducible refine Below.drew ?_) | (with_reducible refine Below.alloc ?_ ?_ _) | (with_reducible refine Below.setCell ?_ ?_ _) | (exact Below.size (by with_reducible assumption)) | (exact Nat.le_refl _) | (exact sx) | (with_reducible refine(?_:Below X.heap.size X _).size) | (simp;done)))) ((go_at_call 127;refine(RM.out _ ?_).mono ?_;assumption;rintro e w3 ⟨p1,n1,c1,p2,n2',c2',rfl,hb3,tp⟩;have TP:=hide tp;have hb3':Below X.heap.size X w3:=Below.trans (by assumption) (hb3.mono (Below.size (by assumption)));clear tp;first | (have kn:=kn_two (X:=X) (c1:=#[.slice none 0 0,.slice none 0 0]) (t1:=94) (c2:=#[.int .i64 0,.int .i64 0,.int .i64 0,.int .i64 0,.int .i64 0]) (t2:=26) hb3 rfl;have KN:=hide kn;obtain⟨⟨ce0,ce1⟩,fr0,fr1⟩:=bk_kept kn.1;obtain⟨⟨oe0,oe1,oe2,oe3,oe4⟩,og0,og1,og2,og3,og4⟩:=od_kept kn.2;clear kn) | (have kn:=kn_two (X:=X) (c1:=#[.int .i64 0,.int .i64 0,.int .i64 0,.int .i64 0,.int .i64 0]) (t1:=26) (c2:=#[.slice none 0 0,.slice none 0 0]) (t2:=94) hb3 rfl;have KN:=hide kn;obtain⟨⟨ce0,ce1⟩,fr0,fr1⟩:=bk_kept kn.2;obtain⟨⟨oe0,oe1,oe2,oe3,oe4⟩,og0,og1,og2,og3,og4⟩:=od_kept kn.1;clear kn) | (have kn:=kn_one (X:=X) (c:=#[.slice none 0 0,.slice none 0 0]) (t:=94) hb3 rfl;have KN:=hide kn;obtain⟨⟨ce0,ce1⟩,fr0,fr1⟩:=bk_kept kn;have ceA0:=fun o=>cell_old ce0 o;have frA0:=fun o=>frozen_old ce0 fr0 o;have ceA1:=fun o=>cell_old ce1 o;have frA1:=fun o=>frozen_old ce1 fr1 o;have nv1:¬w3.heap.size=X.heap.size:=(by have:=(Array.getElem?_eq_some_iff.1 kn).1;omega);have nv2:¬X.heap.size=w3.heap.size:=(by have:=(Array.getElem?_eq_some_iff.1 kn).1;omega);clear kn) | (have kn:=kn_one (X:=X) (c:=#[.int .i64 0,.int .i64 0,.int .i64 0,.int .i64 0,.int .i64 0]) (t:=26) hb3 rfl;have KN:=hide kn;obtain⟨⟨ce0,ce1,ce2,ce3,ce4⟩,fr0,fr1,fr2,fr3,fr4⟩:=od_kept kn;have ceA0:=fun o=>cell_old ce0 o;have frA0:=fun o=>frozen_old ce0 fr0 o;have ceA1:=fun o=>cell_old ce1 o;have frA1:=fun o=>frozen_old ce1 fr1 o;have ceA2:=fun o=>cell_old ce2 o;have frA2:=fun o=>frozen_old ce2 fr2 o;have ceA3:=fun o=>cell_old ce3 o;have frA3:=fun o=>frozen_old ce3 fr3 o;have ceA4:=fun o=>cell_old ce4 o;have frA4:=fun o=>frozen_old ce4 fr4 o;have nv1:¬w3.heap.size=X.heap.size:=(by have:=(Array.getElem?_eq_some_iff.1 kn).1;omega);have nv2:¬X.heap.size=w3.heap.size:=(by have:=(Array.getElem?_eq_some_iff.1 kn).1;omega);clear kn) | skip))
      all_goals
       first
       |obtain⟨Y,hY⟩:∃Y,Y=(w3.alloc (.cells #[.slice p1 n1 c1,.slice p2 n2' c2'] 94)).alloc (.cells #[.int .i64 z1,.int .i64 z2,.int .i64 z3,.int .i64 z4,.int .i64 z5] 26):=⟨_,rfl⟩
        rw [<- hY]
        have EY:Hid (Y.heap[w3.heap.size]? = some (.cells #[.slice p1 n1 c1,.slice p2 n2' c2'] 94 (0,0))):=by
         show Y.heap[w3.heap.size]? = _
         rw [hY];exact blk_below (heap_alloc_new w3 _) (Ac.below_alloc _ _)
        have BY:Hid (Below X.heap.size X Y):=by
         rw [hY]
         exact(hb3'.alloc hb3'.size _).alloc (by have:=hb3'.size;simp;omega) _
        have bw:But (fun b=>False) w3 Y:=by
         rw [hY];exact .of_below (Ac.below_alloc2 w3 _ _)
        have TPY:Hid (RemY (mktAt t k).1 (mktAt t k).2.1 y1 Y X.heap.size p1 n1 c1 p2 n2' c2'):=remY_on TP.out bw (fun a ha=>⟨by simpa using ha,id⟩)
       |obtain⟨Y,hY⟩:∃Y,Y=(w3.alloc (.cells #[.int .i64 z1,.int .i64 z2,.int .i64 z3,.int .i64 z4,.int .i64 z5] 26)).alloc (.cells #[.slice p1 n1 c1,.slice p2 n2' c2'] 94):=⟨_,rfl⟩
        rw [<- hY]
        have EY:Hid (Y.heap[w3.heap.size+1]? = some (.cells #[.slice p1 n1 c1,.slice p2 n2' c2'] 94 (0,0))):=by
         show Y.heap[w3.heap.size+1]? = _
         rw [hY];have:=heap_alloc_new (w3.alloc (.cells #[.int .i64 z1,.int .i64 z2,.int .i64 z3,.int .i64 z4,.int .i64 z5] 26)) (.cells #[.slice p1 n1 c1,.slice p2 n2' c2'] 94);rw [World.size_alloc] at this;exact this
        have BY:Hid (Below X.heap.size X Y):=by
         rw [hY]
         exact(hb3'.alloc hb3'.size _).alloc (by have:=hb3'.size;simp;omega) _
        have bw:But (fun b=>False) w3 Y:=by
         rw [hY];exact .of_below (Ac.below_alloc2 w3 _ _)
        have TPY:Hid (RemY (mktAt t k).1 (mktAt t k).2.1 y1 Y X.heap.size p1 n1 c1 p2 n2' c2'):=remY_on TP.out bw (fun a ha=>⟨by simpa using ha,id⟩)
       |obtain⟨Y,hY⟩:∃Y,Y=((((((((w3.alloc (.cells #[.int .i64 0,.int .i64 0,.int .i64 0,.int .i64 0,.int .i64 0] 26)).setCell ⟨X.heap.size,0,none⟩ (.slice p1 n1 c1)).setCell ⟨X.heap.size,1,none⟩ (.slice p2 n2' c2')).setCell ⟨w3.heap.size,0,none⟩ (.int .i64 z1)).setCell ⟨w3.heap.size,1,none⟩ (.int .i64 z2)).setCell ⟨w3.heap.size,2,none⟩ (.int .i64 z3)).setCell ⟨w3.heap.size,3,none⟩ (.int .i64 z4)).setCell ⟨w3.heap.size,4,none⟩ (.int .i64 z5)):=⟨_,rfl⟩
        rw [<- hY]
        have EY:Hid (Y.heap[X.heap.size]? = some (.cells #[.slice p1 n1 c1,.slice p2 n2' c2'] 94 (0,0))):=by
         show Y.heap[X.heap.size]? = _
         rw [hY]
         refine five_far ?_ (fun e=>nv1 e)
         exact heap_set (heap_set (blk_below KN.out (Ac.below_alloc w3 _)) 0 _) 1 _
        have BY:Hid (Below X.heap.size X Y):=by
         rw [hY];exact(((((((hb3'.alloc hb3'.size _).setCell (p:=⟨X.heap.size,0,none⟩) (Nat.le_refl _) _).setCell (p:=⟨X.heap.size,1,none⟩) (Nat.le_refl _) _).setCell (p:=⟨w3.heap.size,0,none⟩) hb3'.size _).setCell (p:=⟨w3.heap.size,1,none⟩) hb3'.size _).setCell (p:=⟨w3.heap.size,2,none⟩) hb3'.size _).setCell (p:=⟨w3.heap.size,3,none⟩) hb3'.size _).setCell (p:=⟨w3.heap.size,4,none⟩) hb3'.size _
        have bw:But (fun b=>b=X.heap.size) w3 Y:=by
         rw [hY]
         exact(((((((But.of_below (F:=fun b=>b=X.heap.size) (Ac.below_alloc w3 _)).setCell (p:=⟨X.heap.size,0,none⟩) (.inl rfl) _).setCell (p:=⟨X.heap.size,1,none⟩) (.inl rfl) _).setCell (p:=⟨w3.heap.size,0,none⟩) (.inr (Nat.le_refl _)) _).setCell (p:=⟨w3.heap.size,1,none⟩) (.inr (Nat.le_refl _)) _).setCell (p:=⟨w3.heap.size,2,none⟩) (.inr (Nat.le_refl _)) _).setCell (p:=⟨w3.heap.size,3,none⟩) (.inr (Nat.le_refl _)) _).setCell (p:=⟨w3.heap.size,4,none⟩) (.inr (Nat.le_refl _)) _
        have TPY:Hid (RemY (mktAt t k).1 (mktAt t k).2.1 y1 Y X.heap.size p1 n1 c1 p2 n2' c2'):=remY_on TP.out bw (fun a ha=>⟨by simp at ha;omega,fun e=>by simp at ha;omega⟩)
       |obtain⟨Y,hY⟩:∃Y,Y=((((((((w3).setCell ⟨X.heap.size,0,none⟩ (.slice p1 n1 c1)).setCell ⟨X.heap.size,1,none⟩ (.slice p2 n2' c2')).setCell ⟨X.heap.size+1,0,none⟩ (.int .i64 z1)).setCell ⟨X.heap.size+1,1,none⟩ (.int .i64 z2)).setCell ⟨X.heap.size+1,2,none⟩ (.int .i64 z3)).setCell ⟨X.heap.size+1,3,none⟩ (.int .i64 z4)).setCell ⟨X.heap.size+1,4,none⟩ (.int .i64 z5)):=⟨_,rfl⟩
        rw [<- hY]
        have EY:Hid (Y.heap[X.heap.size]? = some (.cells #[.slice p1 n1 c1,.slice p2 n2' c2'] 94 (0,0))):=by
         show Y.heap[X.heap.size]? = _
         rw [hY]
         refine five_far ?_ (by omega)
         exact heap_set (heap_set KN.out.1 0 _) 1 _
        have BY:Hid (Below X.heap.size X Y):=by
         rw [hY];exact(((((((hb3').setCell (p:=⟨X.heap.size,0,none⟩) (Nat.le_refl _) _).setCell (p:=⟨X.heap.size,1,none⟩) (Nat.le_refl _) _).setCell (p:=⟨X.heap.size+1,0,none⟩) (show X.heap.size<=X.heap.size+1 from Nat.le_succ _) _).setCell (p:=⟨X.heap.size+1,1,none⟩) (show X.heap.size<=X.heap.size+1 from Nat.le_succ _) _).setCell (p:=⟨X.heap.size+1,2,none⟩) (show X.heap.size<=X.heap.size+1 from Nat.le_succ _) _).setCell (p:=⟨X.heap.size+1,3,none⟩) (show X.heap.size<=X.heap.size+1 from Nat.le_succ _) _).setCell (p:=⟨X.heap.size+1,4,none⟩) (show X.heap.size<=X.heap.size+1 from Nat.le_succ _) _
        have bw:But (fun b=>b=X.heap.size\/b=X.heap.size+1) w3 Y:=by
         rw [hY];exact(((((((But.refl _ w3).setCell (p:=⟨X.heap.size,0,none⟩) (.inl (.inl rfl)) _).setCell (p:=⟨X.heap.size,1,none⟩) (.inl (.inl rfl)) _).setCell (p:=⟨X.heap.size+1,0,none⟩) (.inl (.inr rfl)) _).setCell (p:=⟨X.heap.size+1,1,none⟩) (.inl (.inr rfl)) _).setCell (p:=⟨X.heap.size+1,2,none⟩) (.inl (.inr rfl)) _).setCell (p:=⟨X.heap.size+1,3,none⟩) (.inl (.inr rfl)) _).setCell (p:=⟨X.heap.size+1,4,none⟩) (.inl (.inr rfl)) _
        have TPY:Hid (RemY (mktAt t k).1 (mktAt t k).2.1 y1 Y X.heap.size p1 n1 c1 p2 n2' c2'):=remY_on TP.out bw (fun a ha=>⟨by simp at ha;omega,fun e=>by simp at ha;omega⟩)
       |obtain⟨Y,hY⟩:∃Y,Y=((((((w3.alloc (.cells #[.slice p1 n1 c1,.slice p2 n2' c2'] 94)).setCell ⟨X.heap.size,0,none⟩ (.int .i64 z1)).setCell ⟨X.heap.size,1,none⟩ (.int .i64 z2)).setCell ⟨X.heap.size,2,none⟩ (.int .i64 z3)).setCell ⟨X.heap.size,3,none⟩ (.int .i64 z4)).setCell ⟨X.heap.size,4,none⟩ (.int .i64 z5)):=⟨_,rfl⟩
        rw [<- hY]
        have EY:Hid (Y.heap[w3.heap.size]? = some (.cells #[.slice p1 n1 c1,.slice p2 n2' c2'] 94 (0,0))):=by
         show Y.heap[w3.heap.size]? = _
         rw [hY]
         refine five_far ?_ (fun e=>nv2 e)
         exact heap_alloc_new w3 _
        have BY:Hid (Below X.heap.size X Y):=by
         rw [hY];exact(((((hb3'.alloc hb3'.size _).setCell (p:=⟨X.heap.size,0,none⟩) (Nat.le_refl _) _).setCell (p:=⟨X.heap.size,1,none⟩) (Nat.le_refl _) _).setCell (p:=⟨X.heap.size,2,none⟩) (Nat.le_refl _) _).setCell (p:=⟨X.heap.size,3,none⟩) (Nat.le_refl _) _).setCell (p:=⟨X.heap.size,4,none⟩) (Nat.le_refl _) _
        have bw:But (fun b=>b=X.heap.size) w3 Y:=by
         rw [hY]
         exact(((((But.of_below (F:=fun b=>b=X.heap.size) (Ac.below_alloc w3 _)).setCell (p:=⟨X.heap.size,0,none⟩) (.inl rfl) _).setCell (p:=⟨X.heap.size,1,none⟩) (.inl rfl) _).setCell (p:=⟨X.heap.size,2,none⟩) (.inl rfl) _).setCell (p:=⟨X.heap.size,3,none⟩) (.inl rfl) _).setCell (p:=⟨X.heap.size,4,none⟩) (.inl rfl) _
        have TPY:Hid (RemY (mktAt t k).1 (mktAt t k).2.1 y1 Y X.heap.size p1 n1 c1 p2 n2' c2'):=remY_on TP.out bw (fun a ha=>⟨by simp at ha;omega,fun e=>by simp at ha;omega⟩)
       |obtain⟨Y,hY⟩:∃Y,Y=((((((((w3).setCell ⟨X.heap.size+1,0,none⟩ (.slice p1 n1 c1)).setCell ⟨X.heap.size+1,1,none⟩ (.slice p2 n2' c2')).setCell ⟨X.heap.size,0,none⟩ (.int .i64 z1)).setCell ⟨X.heap.size,1,none⟩ (.int .i64 z2)).setCell ⟨X.heap.size,2,none⟩ (.int .i64 z3)).setCell ⟨X.heap.size,3,none⟩ (.int .i64 z4)).setCell ⟨X.heap.size,4,none⟩ (.int .i64 z5)):=⟨_,rfl⟩
        rw [<- hY]
        have EY:Hid (Y.heap[X.heap.size+1]? = some (.cells #[.slice p1 n1 c1,.slice p2 n2' c2'] 94 (0,0))):=by
         show Y.heap[X.heap.size+1]? = _
         rw [hY]
         refine five_far ?_ (by omega)
         exact heap_set (heap_set KN.out.2 0 _) 1 _
        have BY:Hid (Below X.heap.size X Y):=by
         rw [hY];exact(((((((hb3').setCell (p:=⟨X.heap.size+1,0,none⟩) (show X.heap.size<=X.heap.size+1 from Nat.le_succ _) _).setCell (p:=⟨X.heap.size+1,1,none⟩) (show X.heap.size<=X.heap.size+1 from Nat.le_succ _) _).setCell (p:=⟨X.heap.size,0,none⟩) (Nat.le_refl _) _).setCell (p:=⟨X.heap.size,1,none⟩) (Nat.le_refl _) _).setCell (p:=⟨X.heap.size,2,none⟩) (Nat.le_refl _) _).setCell (p:=⟨X.heap.size,3,none⟩) (Nat.le_refl _) _).setCell (p:=⟨X.heap.size,4,none⟩) (Nat.le_refl _) _
        have bw:But (fun b=>b=X.heap.size\/b=X.heap.size+1) w3 Y:=by
         rw [hY];exact(((((((But.refl _ w3).setCell (p:=⟨X.heap.size+1,0,none⟩) (.inl (.inr rfl)) _).setCell (p:=⟨X.heap.size+1,1,none⟩) (.inl (.inr rfl)) _).setCell (p:=⟨X.heap.size,0,none⟩) (.inl (.inl rfl)) _).setCell (p:=⟨X.heap.size,1,none⟩) (.inl (.inl rfl)) _).setCell (p:=⟨X.heap.size,2,none⟩) (.inl (.inl rfl)) _).setCell (p:=⟨X.heap.size,3,none⟩) (.inl (.inl rfl)) _).setCell (p:=⟨X.heap.size,4,none⟩) (.inl (.inl rfl)) _
        have TPY:Hid (RemY (mktAt t k).1 (mktAt t k).2.1 y1 Y X.heap.size p1 n1 c1 p2 n2' c2'):=remY_on TP.out bw (fun a ha=>⟨by simp at ha;omega,fun e=>by simp at ha;omega⟩)
      all_goals
       have EBY:=hide (blk_below EX.out BY.out);have s0:=(blk_cell EBY.out 0).1;have s1:=(blk_cell EBY.out 1).1;have s2:=(blk_cell EBY.out 2).1;have s3:=(blk_cell EBY.out 3).1;have s4:=(blk_cell EBY.out 4).1;have yy0:=(blk_cell EY.out 0).1;have yy1:=(blk_cell EY.out 1).1;simp only [List.getElem?_toArray,List.getElem?_cons_zero,List.getElem?_cons_succ] at s0 s1 s2 s3 s4 yy0 yy1;by_cases hfe:fe=0
       ·have HR3:Hid (R=dropL ID k l' (remR t k y1 (y1,y2,y3,y4,y5))):=by
         have:=HSP2.out;rw [if_pos hfe] at this;exact this
        obtain⟨hn1,hn2,o1,o2,zz1,zz2⟩:=TPY.out (by rw [<- HFE.out];exact hfe);have tvY:=TV1.out.below BY.out;have offG:∀{p:Option Addr} (l:List Odr),(∀a,p=some a->X.heap.size<=a.block)->Off G p l:=fun l hp=>.inr fun x hx f=>by have:=hp x hx;have:=TV1.out.lt _ f;omega
        have offL:∀{p:Option Addr} (l:List Odr),(∀a,p=some a->X.heap.size<=a.block)->Off L p l:=fun l hp=>.inr fun x hx f=>by have:=hp x hx;have:=HLT.out _ f;omega
        obtain⟨gm',cm',e',hgG,fz,m0,m1,-,-⟩:=tvY.atM hkM2;cases e'
        have t1:Y.cell? ⟨T,1,none⟩=some (.slice (some ⟨gm2,0,none⟩) M2.length cm2):=by rw [tvY.cell];rfl
        have f0:=fz (k*4);have f1:=fz (k*4+1);have PB:=tvY.putBook hkM2 o1 o2 (offG _ zz1) (offG _ zz2);rw [<- hn1,<- hn2] at PB;obtain⟨Z,hZ⟩:∃Z,Z=((Y.setCell ⟨gm2,k*4,none⟩ (.slice p1 n1 c1)).setCell ⟨gm2,k*4+1,none⟩ (.slice p2 n2' c2')).drew:=⟨_,rfl⟩;have BYZ:But G Y Z:=by rw [hZ];exact But.drew (((But.refl G Y).setCell (p:=⟨gm2,k*4,none⟩) (.inl hgG) _).setCell (p:=⟨gm2,k*4+1,none⟩) (.inl hgG) _)
        have BZ:Hid (But F w Z):=by
         rw [hZ];exact But.drew (((BTX.out.trans (But.of_below (F:=F) BY.out) (fun _ f=>.inl f)).setCell (p:=⟨gm2,k*4,none⟩) (NW.out _ hgG) _).setCell (p:=⟨gm2,k*4+1,none⟩) (NW.out _ hgG) _)
        have tZ:=PB.below (Below.refl _ _).drew;rw [<- hZ] at tZ;have eZ:=blk_but EBY.out BYZ NC.out;have u0:=(blk_cell eZ 0).1;have u1:=(blk_cell eZ 1).1;have u2:=(blk_cell eZ 2).1;have u3:=(blk_cell eZ 3).1;have u4:=(blk_cell eZ 4).1;simp only [List.getElem?_toArray,List.getElem?_cons_zero,List.getElem?_cons_succ] at u0 u1 u2 u3 u4;have rZ:=HRW.out.setM k (m:=((p1,c1,without y1 (mktAt t k).1),(p2,c2',without y1 (mktAt t k).2.1),mI (M2[k]'hkM2),mL (M2[k]'hkM2))) (offL _ zz1) (offL _ zz2);have RZ:=hide rZ;have GN:=hide (gone_any T G _ A2 _ _ _ ve2 (k:Nat) y5 (y1,y2,y3,y4,y5) Z tZ (by have:=HEV.out;show t.evs.length<=_;omega));have LZ:Hid (∀b,L b->b<Z.heap.size):=fun b hb=>Nat.lt_of_lt_of_le (HLT.out b hb) (Nat.le_trans BY.out.size BYZ.size);have HZ:=hide hZ;subst hfe;clear hn1 hn2 o1 o2 zz1 zz2 tvY offG offL hgG fz PB BYZ tZ eZ rZ hZ TPY TP hY bw HSP2 s0 s1 s2 s3 s4 EY EBY;go_wp2_with fail;go_region;rw [<- HZ.out];clear HZ t1 m0 m1 f0 f1 yy0 yy1;go_wp2_with fail;refine GN.out.mono ?_;rintro e V3 ⟨rfl,g3,cap3,tv3,hg3,b3⟩;have SF:=rem_facts HST.out HSU.out (show k<t.mkts.length by rw [HTM.out];exact HK.out) y1 (y1,y2,y3,y4,y5);have I':Hid (DInv w T F L s ID k R l' V3):=by
         refine⟨_,remR t k y1 (y1,y2,y3,y4,y5),⟨_,_,_,_,_,tv3,RZ.out,fun b hb=>Nat.lt_of_lt_of_le (LZ.out b hb) b3.size⟩,?_,BZ.out.trans b3 (fun b g=>NW.out b g),SF.str,SF.sums,HTA.out,SF.len.trans HTM.out,?_,HR3.out.symm⟩
         ·rintro b (hb | rfl)
          ·exact NW.out b hb
          ·rcases hg3 with h | h
           ·exact NW.out _ h
           ·exact .inr (Nat.le_trans BZ.out.size h)
         ·have:=HEV.out;show (t.evs++[_]).length+_<=_;rw [List.length_append];simp;omega
        rw [HL'.out] at I';clear tv3 hg3 b3 GN SF u0 u1 u2 u3 u4;go_wp2;go_roundw
        case rel=>exact⟨j+1,hjl,by go_num,I'⟩
        case measure=>simp [intOf];omega
       ·have EE:Hid (Ends w T F L R (.returned (.int .i64 fe)) Y):=by
         refine .inr ⟨fe,?_,rfl,hfe,BTX.out.trans (But.of_below (F:=F) BY.out) (fun _ f=>.inl f)⟩;have:=HSP2.out;rw [if_neg hfe] at this;exact this
        clear HSP2 TPY TP hY bw;go_wp2;go_ret;exact EE.out
     ·have hyb:(y2 == ID)=false:=by simpa using hy
      have I':Hid (DInv w T F L s ID k R l' X):=by
       refine⟨G,t,⟨_,_,_,_,_,TV1.out,HRW.out,HLT.out⟩,NW.out,BTX.out,HST.out,HSU.out,HTA.out,HTM.out,by have:=HEV.out;omega,?_⟩;have:=HSP.out;rw [if_neg hy] at this;exact this.symm
      rw [HL'.out] at I';go_wp2_with (rw [<- HO1.out]);go_region;rw [<- HX.out];clear HX HO1 k0 t0 r1 d0 d1 d2 d3 d4;go_wp2;go_roundw
      case rel=>exact⟨j+1,hjl,by go_num,I'⟩
      case measure=>simp [intOf];omega
    ·have EE:Hid (Ends w T F L R (.returned (.int .i64 0)) wr):=by
      obtain⟨G,t,ta,nw,bt,-,-,-,-,-,hdr⟩:=II.out;rw [List.drop_eq_nil_of_le (by rw [LS.out];omega),List.append_nil] at hdr;exact .inl ⟨t,hdr.symm,rfl,G,ta,nw,bt⟩
     clear II;go_wp2_with fail;rw [rounds_succ];go_wp2;go_ret;exact EE.out
end Go.Proofs.YthdjfhnhjiageaaGreatDoor.Vn
