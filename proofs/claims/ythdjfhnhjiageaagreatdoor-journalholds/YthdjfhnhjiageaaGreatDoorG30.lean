import Derived.Test.YthdjfhnhjiageaaGreatDoorG29
set_option maxHeartbeats 8000000
set_option maxRecDepth 100000
namespace Go.Proofs.YthdjfhnhjiageaaGreatDoor.Vn
open Go.RowKit Num Fix AcP FuP Bk Rm Ac Go.Sort Go.Maps Mix RkP
def MRow (w:World) (p:Option Addr) (M:List Mkt):Prop:=M=[]\/∃b off,p=some ⟨b,off,none⟩/\∀j u,(flatM M)[j]? = some u->w.cell? ⟨b,off+j,none⟩=some u
theorem mrow_below {w w':World}{p:Option Addr}{M:List Mkt}(h:MRow w p M)(hb:Below w.heap.size w w'):MRow w' p M:=by
 rcases h with h | ⟨b,off,rfl,hc⟩
 ·exact .inl h
 ·exact .inr ⟨b,off,rfl,fun j u hu=>(hb.cell (World.block_lt_of_cell? _ _ (hc j u hu))).trans (hc j u hu)⟩
theorem mrow_cells {w:World}{b off:Nat}{M:List Mkt}(hc:∀j u,(flatM M)[j]? = some u->w.cell? ⟨b,off+j,none⟩=some u){k:Nat}(hk:k<M.length) :
  w.cell? ⟨b,off+k*4,none⟩=some (.slice (M[k]'hk).1.1 (mB (M[k]'hk)).length (M[k]'hk).1.2.1)/\w.cell? ⟨b,off+k*4+1,none⟩=some (.slice (M[k]'hk).2.1.1 (mA (M[k]'hk)).length (M[k]'hk).2.1.2.1)/\w.cell? ⟨b,off+k*4+2,none⟩=some (.int .i64 (mI (M[k]'hk)))/\w.cell? ⟨b,off+k*4+3,none⟩=some (.int .i64 (mL (M[k]'hk))):=by
 have h0:=flat_get mCells_len M k hk 0 (by omega);have h1:=flat_get mCells_len M k hk 1 (by omega);have h2:=flat_get mCells_len M k hk 2 (by omega);have h3:=flat_get mCells_len M k hk 3 (by omega);exact⟨hc (k*4) _ h0,hc (k*4+1) _ h1,hc (k*4+2) _ h2,hc (k*4+3) _ h3⟩
theorem sides_any (p p':Option Addr)(n c n' c':Nat)(w:World):Calls Tryz.prog 84 #[.agg #[.slice p n c,.slice p' n' c']] w fun e w'=>e=.returned (.agg #[.slice p n c,.slice p' n' c'])/\Below w.heap.size w w':=by
 go_enter Tryz.func84,Tryz.ntmps84;go_wp2;refine bodyPost_ret (v:=.agg #[.slice p n c,.slice p' n' c']) (by simp [results,Tryz.results84,go_sem]) rfl ⟨rfl,?_⟩;exact Ac.below_alloc2 w _ _
theorem orders_step {L:List Acc}{nx:Int}{l r:List Odr}{k:Nat}(hk:k<l.length):ordersE L nx (l.drop k++r)=if hasA L (oac (l[k]'hk))=true/\oid (l[k]'hk)<nx then ordersE L nx (l.drop (k+1)++r) else 5:=by
 rw [List.drop_eq_getElem_cons hk,List.cons_append,ordersE]
theorem mkts_step {L:List Acc}{nx:Int}{M:List Mkt}{k:Nat}(hk:k<M.length):mktsE L nx ((M.map mpOf).drop k) =
  if marketErr (mB (M[k]'hk)) (mA (M[k]'hk)) (mI (M[k]'hk)) (mL (M[k]'hk))≠0 then marketErr (mB (M[k]'hk)) (mA (M[k]'hk)) (mI (M[k]'hk)) (mL (M[k]'hk))
  else if ordersE L nx (mB (M[k]'hk)++mA (M[k]'hk))≠0 then ordersE L nx (mB (M[k]'hk)++mA (M[k]'hk)) else mktsE L nx ((M.map mpOf).drop (k+1)):=by
 have hk':k<(M.map mpOf).length:=by simpa using hk
 rw [List.drop_eq_getElem_cons hk',mktsE];simp only [List.getElem_map,mpOf]
structure MOk (w:World) (m:Mkt):Prop where
 b:ORow w m.1.1 (mB m)
 a:ORow w m.2.1.1 (mA m)
 nb:(mB m).length<=140737488351232
 na:(mA m).length<=140737488351232
theorem MOk.below {w w':World}{m:Mkt}(h:MOk w m)(hb:Below w.heap.size w w'):MOk w' m:=⟨orow_below h.b hb,orow_below h.a hb,h.nb,h.na⟩
theorem markets_any (p p':Option Addr)(n c m c':Nat)(A:List Am)(M:List Mkt)(ins res nx inn out:Int)(w:World)(hl:A.length=n)(hn:n<=140737488351232)(h:ARow w p A)(hs:Srt (A.map Am.acc))(hm:M.length=m)(hmn:m<=140737488351232)(hM:MRow w p' M)(hE:∀x,x∈M->MOk w x) :
  Calls Tryz.prog 61 #[.agg #[.slice p n c,.slice p' m c',.int .i64 ins,.int .i64 res,.int .i64 nx,.int .i64 inn,.int .i64 out]] w fun e w'=>e=.returned (.int .i64 (mktsE (A.map Am.acc) nx (M.map mpOf)))/\Below w.heap.size w w':=by
 have mixed:Tryz.prog.follows .mixedOrders=true:=by kernel_rfl
 obtain⟨R,hR⟩:∃R,R=mktsE (A.map Am.acc) nx (M.map mpOf):=⟨_,rfl⟩;rw [<- hR];have R0:Hid (mktsE (A.map Am.acc) nx ((M.map mpOf).drop 0)=R):=by rw [List.drop_zero];exact hR.symm
 obtain⟨W,hW⟩:∃W,W=w.alloc (.cells #[.slice p n c,.slice p' m c',.int .i64 ins,.int .i64 res,.int .i64 nx,.int .i64 inn,.int .i64 out] 51):=⟨_,rfl⟩;have b0:Below w.heap.size w W:=by rw [hW];exact Ac.below_alloc w _
 have eB:W.heap[w.heap.size]? = some (.cells #[.slice p n c,.slice p' m c',.int .i64 ins,.int .i64 res,.int .i64 nx,.int .i64 inn,.int .i64 out] 51 (0,0)):=by rw [hW];exact heap_alloc_new w _
 have a1:=(blk_cell eB 1).1;simp only [List.getElem?_toArray,List.getElem?_cons_zero,List.getElem?_cons_succ] at a1;have HW:=hide hW;have B0:=hide b0;have EB:=hide eB;have MR:=hide (mrow_below hM b0);have ME:Hid (∀x,x∈M->MOk W x):=fun x hx=>(hE x hx).below b0;have HM:=hide hm;have PL:Hid (∀(Y:World) (id:Int),Below W.heap.size W Y->Calls Tryz.prog 85 #[.slice p n c,.int .i64 id] Y fun e w'=>e=.returned (.tuple #[.int .i64 (plc (A.map Am.acc) id:Nat),.bool (hasA (A.map Am.acc) id)])/\Below Y.heap.size Y w'):=fun Y id hY=>placeOf_any p n c A id Y hl hn (arow_below h (b0.trans (hY.mono b0.size))) hs;clear hR hW b0 eB h hM hE hl hm hn;go_enter Tryz.func61,Tryz.ntmps61;go_wp2_with (rw [<- HW.out]);clear HW a1
 go_loopw [15] (fun i wr=>∃(k:Nat),k<=m/\i=.int .i64 k/\Hid (Below W.heap.size W wr)/\Hid (mktsE (A.map Am.acc) nx ((M.map mpOf).drop k)=R)) (fun i _=>m - (intOf i).toNat)
 case atStart=>exact⟨0,Nat.zero_le _,rfl,Below.refl _ _,R0⟩
 case round =>
  clear R0;obtain⟨k,hk,rfl,BW,RR⟩:=hrel;by_cases hlt:k<m
  ·have hltz:(k:Int)<(m:Int):=by omega
   have hkM:k<M.length:=by rw [HM.out];exact hlt
   obtain⟨b,off,rfl,hc⟩:∃b off,p'=some ⟨b,off,none⟩/\∀j u,(flatM M)[j]? = some u->wr.cell? ⟨b,off+j,none⟩=some u:=by
    rcases mrow_below MR.out BW.out with e | e
    ·rw [e] at hkM;simp at hkM
    ·exact e
   obtain⟨k0,k1,k2,k3⟩:=mrow_cells hc hkM;have hok:=(ME.out _ (List.getElem_mem hkM)).below BW.out;have hstep:=RR.out.symm.trans (mkts_step hkM);generalize (M[k]'hkM)=mk at *;obtain⟨⟨pb,cb,bids⟩,⟨pa,ca,asks⟩,ix,la⟩:=mk;obtain⟨ob,oa,nb,na⟩:=hok;dsimp only [mB,mA,mI,mL] at k0 k1 k2 k3 hstep ob oa nb na;obtain⟨X1,hX1⟩:∃X1,X1=wr.alloc (mktO pb pa bids.length cb asks.length ca ix la):=⟨_,rfl⟩;have bx1:Below wr.heap.size wr X1:=by rw [hX1];exact Ac.below_alloc wr _
   have e9:X1.heap[wr.heap.size]? = some (.cells #[.slice pb bids.length cb,.slice pa asks.length ca,.int .i64 ix,.int .i64 la] 96 (0,0)):=by rw [hX1];exact heap_alloc_new wr _
   have CK:=hide (checkMarket_any pb pa cb ca bids asks ix la X1 (orow_below ob bx1) (orow_below oa bx1) nb na);have v0:=(blk_cell e9 0).1;have v1:=(blk_cell e9 1).1;have v2:=(blk_cell e9 2).1;have v3:=(blk_cell e9 3).1;simp only [List.getElem?_toArray,List.getElem?_cons_zero,List.getElem?_cons_succ] at v0 v1 v2 v3;have BX1:=hide (BW.out.trans (bx1.mono BW.out.size));obtain⟨er,her⟩:∃er,er=marketErr bids asks ix la:=⟨_,rfl⟩;rw [<- her] at CK hstep;obtain⟨lb,hlb⟩:∃lb,bids.length=lb:=⟨_,rfl⟩;obtain⟨ls,hls⟩:∃ls,asks.length=ls:=⟨_,rfl⟩;rw [hlb] at k0 v0 CK nb;rw [hls] at k1 v1 CK na;rw [hlb,hls] at hX1 e9;have HX1:=hide hX1;have E9:=hide e9;have HST:=hide hstep;have OB:=hide (orow_below ob bx1);have OA:=hide (orow_below oa bx1);have LB:=hide hlb;have LS:=hide hls;clear hX1 e9 hstep hc her bx1 RR ob oa hlb hls;go_wp2_with (rw [<- HX1.out]);refine CK.out.mono ?_;rintro e X2 ⟨rfl,b2⟩;have BX2:=hide (BX1.out.trans (b2.mono BX1.out.size));have w0:=(blk_cell (blk_below E9.out b2) 0).1;have w1:=(blk_cell (blk_below E9.out b2) 1).1;simp only [List.getElem?_toArray,List.getElem?_cons_zero,List.getElem?_cons_succ] at w0 w1;have HB2:=hide b2;clear k0 k1 k2 k3 v0 v1 v2 v3 HX1 CK b2;by_cases her:er=0
   ·obtain⟨RO,hRO⟩:∃RO,RO=ordersE (A.map Am.acc) nx (bids++asks):=⟨_,rfl⟩;have HS2:Hid (R=if RO≠0 then RO else mktsE (A.map Am.acc) nx ((M.map mpOf).drop (k+1))):=by
     have:=HST.out;rw [if_neg (fun h=>h her),<- hRO] at this;exact this
    have S0:Hid (ordersE (A.map Am.acc) nx (bids.drop 0++asks)=RO):=by rw [List.drop_zero];exact hRO.symm
    subst her;clear HST hRO;go_wp2_with fail;refine(sides_any pb pa lb cb ls ca X2).mono ?_;rintro e X3 ⟨rfl,b3⟩;have BX3:=hide (BX2.out.trans (b3.mono BX2.out.size));have OB3:=hide (orow_below OB.out (HB2.out.trans (b3.mono HB2.out.size)));have OA3:=hide (orow_below OA.out (HB2.out.trans (b3.mono HB2.out.size)));have x0:=idx2_0 (.slice pb lb cb) (.slice pa ls ca);have x1:=idx2_1 (.slice pb lb cb) (.slice pa ls ca);clear b3 w0 w1 OB OA HB2 BX1 BX2;obtain⟨wo,hwo⟩:∃wo,wo=wr:=⟨_,rfl⟩;subst hwo;go_wp2_with fail;refine wp_loop_rounds 3 ?_;rw [rounds_succ];go_wp2_with fail
    go_loopw [32] (fun i wi=>∃(j:Nat),j<=lb/\i=.int .i64 j/\Hid (Below X3.heap.size X3 wi)/\Hid (ordersE (A.map Am.acc) nx (bids.drop j++asks)=RO)) (fun i _=>lb - (intOf i).toNat)
    case atStart=>exact⟨0,Nat.zero_le _,rfl,Below.refl _ _,S0⟩
    case round =>
     clear S0;obtain⟨j,hj,rfl,BI,SS⟩:=hrel;by_cases hjl:j<lb
     ·obtain⟨pq,hpq⟩:∃pq,pq=pb:=⟨_,rfl⟩;subst hpq;have hjz:(j:Int)<(lb:Int):=by omega
      have hjX:j<bids.length:=by rw [LB.out];exact hjl
      obtain⟨ob,oo,rfl,hco⟩:∃ob oo,pq=some ⟨ob,oo,none⟩/\∀i,i<bids.length->∀l v,(enc bids[i]!)[l]? = some v->wr.cell? ⟨ob,oo+i*5+l,none⟩=some v:=by
       rcases orow_below OB3.out BI.out with e | e
       ·rw [e] at hjX;simp at hjX
       ·exact e
      obtain⟨d0,d1,d2,d3,d4⟩:=orow_cells hco hjX;have hst:=SS.out.symm.trans (orders_step hjX);have hxx:bids[j]! = bids[j]'hjX:=getElem!_pos bids j hjX;rw [<- hxx] at hst;generalize bids[j]! = x at *;obtain⟨y1,y2,y3,y4,y5⟩:=x;dsimp only [oid,oac,osd,opr,oqt] at d0 d1 d2 d3 d4 hst;obtain⟨O1,hO1⟩:∃O1,O1=wr.alloc (.cells #[.int .i64 y1,.int .i64 y2,.int .i64 y3,.int .i64 y4,.int .i64 y5] 26):=⟨_,rfl⟩;have bo1:Below wr.heap.size wr O1:=by rw [hO1];exact Ac.below_alloc wr _
      have eo:O1.heap[wr.heap.size]? = some (.cells #[.int .i64 y1,.int .i64 y2,.int .i64 y3,.int .i64 y4,.int .i64 y5] 26 (0,0)):=by rw [hO1];exact heap_alloc_new wr _
      have BO1:=BX3.out.trans ((BI.out.trans (bo1.mono BI.out.size)).mono BX3.out.size);have PL1:=hide (PL.out O1 y2 BO1);have r0:=(blk_cell (blk_below EB.out BO1) 0).1;have r1:=(blk_cell eo 1).1;simp only [List.getElem?_toArray,List.getElem?_cons_zero,List.getElem?_cons_succ] at r0 r1;obtain⟨hh,hhh⟩:∃hh,hh=hasA (A.map Am.acc) y2:=⟨_,rfl⟩;rw [<- hhh] at PL1 hst;have HO1:=hide hO1;have HEO:=hide eo;have HBO1:=hide BO1;have BJ:=hide (BI.out.trans (bo1.mono BI.out.size));have HSO:=hide hst;clear hO1 eo BO1 hst hxx hco bo1 hhh SS;go_wp2_with (rw [<- HO1.out]);refine PL1.out.mono ?_;rintro e O2 ⟨rfl,b5⟩;have BO2:=hide (HBO1.out.trans (b5.mono HBO1.out.size));have BJ2:=hide (BJ.out.trans (b5.mono BJ.out.size));have f0:=(blk_cell (blk_below HEO.out b5) 0).1;have f4:=(blk_cell (blk_below EB.out BO2.out) 4).1;simp only [List.getElem?_toArray,List.getElem?_cons_zero,List.getElem?_cons_succ] at f0 f4;clear d0 d1 d2 d3 d4 r0 r1 HO1 PL1 b5 HEO HBO1;cases hh
      ·have HR5:Hid (R=5):=by
        have e5:RO=5:=by have:=HSO.out;rw [if_neg (fun h=>by simp at h)] at this;exact this
        have:=HS2.out;rw [e5,if_pos (by decide)] at this;exact this
       clear HSO HS2;go_wp2;go_ret;exact⟨by rw [HR5.out];rfl,B0.out.trans (BO2.out.mono B0.out.size)⟩
      ·by_cases hid:nx<=y1
       ·have HR5:Hid (R=5):=by
         have e5:RO=5:=by have:=HSO.out;rw [if_neg (fun h=>by omega)] at this;exact this
         have:=HS2.out;rw [e5,if_pos (by decide)] at this;exact this
        clear HSO HS2;go_wp2;go_ret;exact⟨by rw [HR5.out];rfl,B0.out.trans (BO2.out.mono B0.out.size)⟩
       ·go_wp2;go_roundw
        case rel =>
         refine⟨j+1,hjl,by go_num,BJ2.out,?_⟩;have:=HSO.out;rw [if_pos ⟨by trivial,by omega⟩] at this;exact this.symm
        case measure=>simp [intOf];omega
     ·have S1:Hid (ordersE (A.map Am.acc) nx (asks.drop 0++[])=RO):=by
       have:=SS.out;rw [List.drop_eq_nil_of_le (by rw [LB.out];omega),List.nil_append] at this;rw [List.drop_zero,List.append_nil];exact this
      have BX4:=hide (BX3.out.trans (BI.out.mono BX3.out.size));have OA4:=hide (orow_below OA3.out BI.out);clear SS OB3 OA3 BX3 BI;obtain⟨X4,hX4⟩:∃X4,X4=wr:=⟨_,rfl⟩;subst hX4;go_wp2_with fail;rw [rounds_succ];go_wp2_with fail
      go_loopw [32] (fun i wi=>∃(j:Nat),j<=ls/\i=.int .i64 j/\Hid (Below X4.heap.size X4 wi)/\Hid (ordersE (A.map Am.acc) nx (asks.drop j++[])=RO)) (fun i _=>ls - (intOf i).toNat)
      case atStart=>exact⟨0,Nat.zero_le _,rfl,Below.refl _ _,S1⟩
      case round =>
       clear S1;obtain⟨j,hj,rfl,BI,SS⟩:=hrel;by_cases hjl:j<ls
       ·obtain⟨pq,hpq⟩:∃pq,pq=pa:=⟨_,rfl⟩;subst hpq;have hjz:(j:Int)<(ls:Int):=by omega
        have hjX:j<asks.length:=by rw [LS.out];exact hjl
        obtain⟨ob,oo,rfl,hco⟩:∃ob oo,pq=some ⟨ob,oo,none⟩/\∀i,i<asks.length->∀l v,(enc asks[i]!)[l]? = some v->wr.cell? ⟨ob,oo+i*5+l,none⟩=some v:=by
         rcases orow_below OA4.out BI.out with e | e
         ·rw [e] at hjX;simp at hjX
         ·exact e
        obtain⟨d0,d1,d2,d3,d4⟩:=orow_cells hco hjX;have hst:=SS.out.symm.trans (orders_step hjX);have hxx:asks[j]! = asks[j]'hjX:=getElem!_pos asks j hjX;rw [<- hxx] at hst;generalize asks[j]! = x at *;obtain⟨y1,y2,y3,y4,y5⟩:=x;dsimp only [oid,oac,osd,opr,oqt] at d0 d1 d2 d3 d4 hst;obtain⟨O1,hO1⟩:∃O1,O1=wr.alloc (.cells #[.int .i64 y1,.int .i64 y2,.int .i64 y3,.int .i64 y4,.int .i64 y5] 26):=⟨_,rfl⟩;have bo1:Below wr.heap.size wr O1:=by rw [hO1];exact Ac.below_alloc wr _
        have eo:O1.heap[wr.heap.size]? = some (.cells #[.int .i64 y1,.int .i64 y2,.int .i64 y3,.int .i64 y4,.int .i64 y5] 26 (0,0)):=by rw [hO1];exact heap_alloc_new wr _
        have BO1:=BX4.out.trans ((BI.out.trans (bo1.mono BI.out.size)).mono BX4.out.size);have PL1:=hide (PL.out O1 y2 BO1);have r0:=(blk_cell (blk_below EB.out BO1) 0).1;have r1:=(blk_cell eo 1).1;simp only [List.getElem?_toArray,List.getElem?_cons_zero,List.getElem?_cons_succ] at r0 r1;obtain⟨hh,hhh⟩:∃hh,hh=hasA (A.map Am.acc) y2:=⟨_,rfl⟩;rw [<- hhh] at PL1 hst;have HO1:=hide hO1;have HEO:=hide eo;have HBO1:=hide BO1;have BJ:=hide (BI.out.trans (bo1.mono BI.out.size));have HSO:=hide hst;clear hO1 eo BO1 hst hxx hco bo1 hhh SS;go_wp2_with (rw [<- HO1.out]);refine PL1.out.mono ?_;rintro e O2 ⟨rfl,b5⟩;have BO2:=hide (HBO1.out.trans (b5.mono HBO1.out.size));have BJ2:=hide (BJ.out.trans (b5.mono BJ.out.size));have f0:=(blk_cell (blk_below HEO.out b5) 0).1;have f4:=(blk_cell (blk_below EB.out BO2.out) 4).1;simp only [List.getElem?_toArray,List.getElem?_cons_zero,List.getElem?_cons_succ] at f0 f4;clear d0 d1 d2 d3 d4 r0 r1 HO1 PL1 b5 HEO HBO1;cases hh
        ·have HR5:Hid (R=5):=by
          have e5:RO=5:=by have:=HSO.out;rw [if_neg (fun h=>by simp at h)] at this;exact this
          have:=HS2.out;rw [e5,if_pos (by decide)] at this;exact this
         clear HSO HS2;go_wp2;go_ret;exact⟨by rw [HR5.out];rfl,B0.out.trans (BO2.out.mono B0.out.size)⟩
        ·by_cases hid:nx<=y1
         ·have HR5:Hid (R=5):=by
           have e5:RO=5:=by have:=HSO.out;rw [if_neg (fun h=>by omega)] at this;exact this
           have:=HS2.out;rw [e5,if_pos (by decide)] at this;exact this
          clear HSO HS2;go_wp2;go_ret;exact⟨by rw [HR5.out];rfl,B0.out.trans (BO2.out.mono B0.out.size)⟩
         ·go_wp2;go_roundw
          case rel =>
           refine⟨j+1,hjl,by go_num,BJ2.out,?_⟩;have:=HSO.out;rw [if_pos ⟨by trivial,by omega⟩] at this;exact this.symm
          case measure=>simp [intOf];omega
       ·have HS3:Hid (R=mktsE (A.map Am.acc) nx ((M.map mpOf).drop (k+1))):=by
         have e0:RO=0:=by
          have:=SS.out;rw [List.drop_eq_nil_of_le (by rw [LS.out];omega)] at this;exact this.symm
         have:=HS2.out;rw [e0,if_neg (fun h=>h rfl)] at this;exact this
        have BF:=hide (BX4.out.trans (BI.out.mono BX4.out.size));clear SS HS2;go_wp2_with fail;rw [rounds_succ];go_wp2;go_roundw
        case rel=>exact⟨k+1,hlt,by go_num,BF.out,HS3.out.symm⟩
        case measure=>simp [intOf];omega
   ·have HRE:Hid (R=er):=by
     have:=HST.out;rw [if_pos her] at this;exact this
    clear HST;go_wp2;go_ret;exact⟨by rw [HRE.out];rfl,B0.out.trans (BX2.out.mono B0.out.size)⟩
  ·have hR0:Hid (R=0):=by
    have:=RR.out;rw [List.drop_eq_nil_of_le (by rw [List.length_map,HM.out];omega)] at this;exact this.symm
   clear RR;go_wp2;go_ret;exact⟨by rw [hR0.out];rfl,B0.out.trans (BW.out.mono B0.out.size)⟩
abbrev fnV (f:Nat):Value:=.func (.func f) #[] #[]
structure VRead (w:World) (p p':Option Addr) (A:List Am) (M:List Mkt) (s:Tn):Prop where
 accs:A.map Am.acc=s.accs
 mkts:M.map mpOf=s.mkts
 na:A.length<=140737488351232
 nm:M.length<=140737488351232
 rowA:ARow w p A
 rowM:MRow w p' M
 eachA:∀a,a∈A->AOk w a
 eachM:∀m,m∈M->MOk w m
theorem VRead.below {w w':World}{p p':Option Addr}{A:List Am}{M:List Mkt}{s:Tn}(h:VRead w p p' A M s)(hb:Below w.heap.size w w'):VRead w' p p' A M s :=
 ⟨h.accs,h.mkts,h.na,h.nm,arow_below h.rowA hb,mrow_below h.rowM hb,fun a ha=>(h.eachA a ha).below hb,fun m hm=>(h.eachM m hm).below hb⟩
theorem lim_is {s:Tn}{A:List Am}{M:List Mkt}(h1:A.map Am.acc=s.accs)(h2:M.map mpOf=s.mkts):limV A.length M.length s.ins s.res s.next s.inn s.out=limE s:=by
 unfold limV limE;rw [<- h1,<- h2,List.length_map,List.length_map]
theorem lim_ok {s:Tn}(h:limE s=0):s.accs.length<=8/\(0<=s.ins/\s.ins<=1000000000000)/\(0<=s.res/\s.res<=1000000000000)/\(0<=s.inn/\s.inn<=1000000000000)/\(0<=s.out/\s.out<=1000000000000):=by
 unfold limE at h;split at h
 ·cases h
 ·rename_i h1;split at h
  ·rename_i h2;obtain⟨a,b,c,d,-⟩:=h2;exact⟨by omega,betw_true a,betw_true b,betw_true c,betw_true d⟩
  ·cases h
theorem idxf_0 (a b c d:Value)(w:World):Sem.run Tryz.prog (Instr.index 111 (.agg #[a,b,c,d]) (.int .i64 0)) w=.ok a w:=by
 have h1:=Tryz.underlying111;have h2:=Tryz.sizeOf82;have h3:=Tryz.isAgg82;simp [Instr.index,go_sem,h2,h3,run_underlying h1,asIntOf]
theorem idxf_1 (a b c d:Value)(w:World):Sem.run Tryz.prog (Instr.index 111 (.agg #[a,b,c,d]) (.int .i64 1)) w=.ok b w:=by
 have h1:=Tryz.underlying111;have h2:=Tryz.sizeOf82;have h3:=Tryz.isAgg82;simp [Instr.index,go_sem,h2,h3,run_underlying h1,asIntOf]
theorem idxf_2 (a b c d:Value)(w:World):Sem.run Tryz.prog (Instr.index 111 (.agg #[a,b,c,d]) (.int .i64 2)) w=.ok c w:=by
 have h1:=Tryz.underlying111;have h2:=Tryz.sizeOf82;have h3:=Tryz.isAgg82;simp [Instr.index,go_sem,h2,h3,run_underlying h1,asIntOf]
theorem idxf_3 (a b c d:Value)(w:World):Sem.run Tryz.prog (Instr.index 111 (.agg #[a,b,c,d]) (.int .i64 3)) w=.ok d w:=by
 have h1:=Tryz.underlying111;have h2:=Tryz.sizeOf82;have h3:=Tryz.isAgg82;simp [Instr.index,go_sem,h2,h3,run_underlying h1,asIntOf]
theorem venue_check (p p':Option Addr)(n c m c':Nat)(A:List Am)(M:List Mkt)(s:Tn)(w:World)(h:VRead w p p' A M s)(hn:A.length=n)(hm:M.length=m) :
  Calls Tryz.prog 38 #[venV (.slice p n c) (.slice p' m c') s] w fun e w'=>e=.returned (.int .i64 (checkE s))/\Below w.heap.size w w':=by
 have i0:=idxf_0 (fnV 58) (fnV 59) (fnV 60) (fnV 61);have i1:=idxf_1 (fnV 58) (fnV 59) (fnV 60) (fnV 61);have i2:=idxf_2 (fnV 58) (fnV 59) (fnV 60) (fnV 61);have i3:=idxf_3 (fnV 58) (fnV 59) (fnV 60) (fnV 61);obtain⟨R,hR⟩:∃R,R=checkE s:=⟨_,rfl⟩;rw [<- hR];unfold checkE at hR;obtain⟨W,hW⟩:∃W,W=w.alloc (.cells #[.slice p n c,.slice p' m c',.int .i64 s.ins,.int .i64 s.res,.int .i64 s.next,.int .i64 s.inn,.int .i64 s.out] 51):=⟨_,rfl⟩;have b0:Below w.heap.size w W:=by rw [hW];exact Ac.below_alloc w _
 have EW:Hid (W.heap[w.heap.size]? = some (.cells #[.slice p n c,.slice p' m c',.int .i64 s.ins,.int .i64 s.res,.int .i64 s.next,.int .i64 s.inn,.int .i64 s.out] 51 (0,0))):=by show W.heap[w.heap.size]? = _;rw [hW];exact heap_alloc_new w _
 have HW:=hide hW;have BW:=hide b0;have V0:=hide h;have hacc:=h.accs;have hmkt:=h.mkts;have hlm:s.mkts.length=m:=by rw [<- hmkt,List.length_map,hm]
 have hln:s.accs.length=n:=by rw [<- hacc,List.length_map,hn]
 obtain⟨l,hl⟩:∃l,l=limE s:=⟨_,rfl⟩;obtain⟨ae,hae⟩:∃ae,ae=accsE s.mkts.length none s.accs:=⟨_,rfl⟩;obtain⟨se,hse⟩:∃se,se=sumsE s:=⟨_,rfl⟩;obtain⟨me,hme⟩:∃me,me=mktsE s.accs s.next s.mkts:=⟨_,rfl⟩;rw [<- hl,<- hae,<- hse,<- hme] at hR;have C1:Hid (∀Y:World,Below w.heap.size w Y->Calls Tryz.prog 58 #[venV (.slice p n c) (.slice p' m c') s] Y fun e w'=>e=.returned (.int .i64 l)/\Below Y.heap.size Y w'):=fun Y hY=>by
  have:=limits_any p p' n c m c' s.ins s.res s.next s.inn s.out Y;rw [<- hn,<- hm,lim_is hacc hmkt,<- hl,hn,hm] at this;exact this
 have C2:Hid (∀Y:World,Below w.heap.size w Y->Calls Tryz.prog 59 #[venV (.slice p n c) (.slice p' m c') s] Y fun e w'=>e=.returned (.int .i64 ae)/\Below Y.heap.size Y w'):=fun Y hY=>by
  have:=accounts_any p p' n c m c' A s.ins s.res s.next s.inn s.out Y hn (by rw [<- hn];exact h.na) (h.below hY).rowA (h.below hY).eachA;rw [hacc,<- hlm,<- hae,hlm] at this;exact this
 have C3:Hid (∀Y:World,Below w.heap.size w Y->l=0->ae=0->Calls Tryz.prog 60 #[venV (.slice p n c) (.slice p' m c') s] Y fun e w'=>e=.returned (.int .i64 se)/\Below Y.heap.size Y w'):=fun Y hY e1 e2=>by
  obtain⟨q0,q1,q2,q3,q4⟩:=lim_ok (hl.symm.trans e1);have q5:=((accsE_zero _ _ _).1 (hae.symm.trans e2)).1;have:=sums_any p p' n c m c' A s.ins s.res s.next s.inn s.out Y hn (by rw [<- hln];exact q0) (h.below hY).rowA (h.below hY).eachA (fun a ha=>by
   have:=q5 a.acc (by rw [<- hacc];exact List.mem_map_of_mem ha);rw [hlm] at this;exact this) q1 q2 q3 q4
  rw [hacc] at this;rw [hse];exact this
 have C4:Hid (∀Y:World,Below w.heap.size w Y->ae=0->Calls Tryz.prog 61 #[venV (.slice p n c) (.slice p' m c') s] Y fun e w'=>e=.returned (.int .i64 me)/\Below Y.heap.size Y w'):=fun Y hY e2=>by
  have q5:=((accsE_zero _ _ _).1 (hae.symm.trans e2)).2.1;have:=markets_any p p' n c m c' A M s.ins s.res s.next s.inn s.out Y hn (by rw [<- hn];exact h.na) (h.below hY).rowA (by rw [hacc];exact q5) hm (by rw [<- hm];exact h.nm) (h.below hY).rowM (h.below hY).eachM;rw [hacc,hmkt,<- hme] at this;exact this
 have HR:=hide hR;have K1:=hide (C1.out W b0);clear hR hW b0 h hacc hmkt hlm hln hl hae hse hme hn hm C1;have c0:=(blk_cell EW.out 0).1;have c1:=(blk_cell EW.out 1).1;have c2:=(blk_cell EW.out 2).1;have c3:=(blk_cell EW.out 3).1;have c4:=(blk_cell EW.out 4).1;have c5:=(blk_cell EW.out 5).1;have c6:=(blk_cell EW.out 6).1;simp only [List.getElem?_toArray,List.getElem?_cons_zero,List.getElem?_cons_succ] at c0 c1 c2 c3 c4 c5 c6;go_enter Tryz.func38,Tryz.ntmps38;go_wp2_with (rw [<- HW.out]);refine wp_loop_rounds 5 ?_;rw [rounds_succ];go_wp2_with fail;refine K1.out.mono ?_;rintro e Y1 ⟨rfl,hbY1⟩;have EY1:=hide (blk_below EW.out hbY1);have BY1:=hide (BW.out.trans (hbY1.mono BW.out.size));clear hbY1 K1 HW c0 c1 c2 c3 c4 c5 c6;by_cases h1:l=0
 ·have HR1:Hid (R=if ae≠0 then ae else if se≠0 then se else me):=by
   have:=HR.out;rw [if_neg (fun h=>h h1)] at this;exact this
  have C31:=hide (fun Y hY=>C3.out Y hY h1);subst h1;have K2:=hide (C2.out Y1 BY1.out);clear HR C2 C3;have c0:=(blk_cell EY1.out 0).1;have c1:=(blk_cell EY1.out 1).1;have c2:=(blk_cell EY1.out 2).1;have c3:=(blk_cell EY1.out 3).1;have c4:=(blk_cell EY1.out 4).1;have c5:=(blk_cell EY1.out 5).1;have c6:=(blk_cell EY1.out 6).1;simp only [List.getElem?_toArray,List.getElem?_cons_zero,List.getElem?_cons_succ] at c0 c1 c2 c3 c4 c5 c6;go_wp2_with fail;rw [rounds_succ];go_wp2_with fail;refine K2.out.mono ?_;rintro e Y2 ⟨rfl,hbY2⟩;have EY2:=hide (blk_below EY1.out hbY2);have BY2:=hide (BY1.out.trans (hbY2.mono BY1.out.size));clear hbY2 K2 c0 c1 c2 c3 c4 c5 c6;by_cases h2:ae=0
  ·have HR2:Hid (R=if se≠0 then se else me):=by
    have:=HR1.out;rw [if_neg (fun h=>h h2)] at this;exact this
   have K3:=hide (C31.out Y2 BY2.out h2);have C41:=hide (fun Y hY=>C4.out Y hY h2);subst h2;clear HR1 C31 C4;have c0:=(blk_cell EY2.out 0).1;have c1:=(blk_cell EY2.out 1).1;have c2:=(blk_cell EY2.out 2).1;have c3:=(blk_cell EY2.out 3).1;have c4:=(blk_cell EY2.out 4).1;have c5:=(blk_cell EY2.out 5).1;have c6:=(blk_cell EY2.out 6).1;simp only [List.getElem?_toArray,List.getElem?_cons_zero,List.getElem?_cons_succ] at c0 c1 c2 c3 c4 c5 c6;go_wp2_with fail;rw [rounds_succ];go_wp2_with fail;refine K3.out.mono ?_;rintro e Y3 ⟨rfl,hbY3⟩;have EY3:=hide (blk_below EY2.out hbY3);have BY3:=hide (BY2.out.trans (hbY3.mono BY2.out.size));clear hbY3 K3 c0 c1 c2 c3 c4 c5 c6;by_cases h3:se=0
   ·have HR3:Hid (R=me):=by
     have:=HR2.out;rw [if_neg (fun h=>h h3)] at this;exact this
    have K4:=hide (C41.out Y3 BY3.out);subst h3;clear HR2 C41;have c0:=(blk_cell EY3.out 0).1;have c1:=(blk_cell EY3.out 1).1;have c2:=(blk_cell EY3.out 2).1;have c3:=(blk_cell EY3.out 3).1;have c4:=(blk_cell EY3.out 4).1;have c5:=(blk_cell EY3.out 5).1;have c6:=(blk_cell EY3.out 6).1;simp only [List.getElem?_toArray,List.getElem?_cons_zero,List.getElem?_cons_succ] at c0 c1 c2 c3 c4 c5 c6;go_wp2_with fail;rw [rounds_succ];go_wp2_with fail;refine K4.out.mono ?_;rintro e Y4 ⟨rfl,hbY4⟩;have BY4:=hide (BY3.out.trans (hbY4.mono BY3.out.size));clear hbY4 K4 c0 c1 c2 c3 c4 c5 c6;by_cases h4:me=0
    ·have RE:Hid (R=0):=by
      have:=HR3.out;rw [h4] at this;exact this
     subst h4;clear HR3;go_wp2_with fail;rw [rounds_succ];go_wp2;go_ret;exact⟨by rw [RE.out];rfl,BY4.out⟩
    ·have RE:=hide HR3.out;clear HR3;go_wp2;go_ret;exact⟨by rw [RE.out];rfl,BY4.out⟩
   ·have RE:Hid (R=se):=by
     have:=HR2.out;rw [if_pos h3] at this;exact this
    clear HR2;go_wp2;go_ret;exact⟨by rw [RE.out];rfl,BY3.out⟩
  ·have RE:Hid (R=ae):=by
    have:=HR1.out;rw [if_pos h2] at this;exact this
   clear HR1;go_wp2;go_ret;exact⟨by rw [RE.out];rfl,BY2.out⟩
 ·have RE:Hid (R=l):=by
   have:=HR.out;rw [if_pos h1] at this;exact this
  clear HR;go_wp2;go_ret;exact⟨by rw [RE.out];rfl,BY1.out⟩
theorem copyO_any (p:Option Addr)(n c:Nat)(fl:List Value)(w:World)(h0:p=none->n=0/\c=0/\fl=[])(hfl:fl.length=n*5)(hf1:∀u∈fl,u.oneCell'=true)(hc:∀ad,p=some ad->∀j u,fl[j]? = some u->w.cell? (ad.add j)=some u)(hn:n*40<=140737488351232) :
  Calls Tryz.prog 65 #[.slice p n c] w fun e w'=>∃v,e=.returned v/\w'.ownsRow w.heap.size 26 5 v n fl/\Below w.heap.size w w':=by
 obtain⟨i0,hi,hz0,hz1,hz2⟩:=info_parts (show (Tryz.prog.info? 26).map (fun i=>(i.zero,i.size,i.bytes))=some (some (odrV noOdr),5,40) by kernel_rfl)
 cases p with
 |none =>
  obtain⟨rfl,rfl,rfl⟩:=h0 rfl;go_enter Tryz.func65,Tryz.ntmps65;go_wp2_with (at_builtin;refine wpList_append_own_none rfl _ _ 92 rfl w.heap.size 26 i0 5 Tryz.underlying92 hi _ 0 [] rfl (World.ownsRow_nil _ _ _ _) rfl ?_);go_ret;exact⟨_,rfl,World.ownsRow_nil _ _ _ _,Below.refl _ _⟩
 |some ad =>
  have hcells:=hide (hc ad rfl);have HF:=hide hfl;have H1:=hide hf1;clear h0 hc hfl hf1;go_enter Tryz.func65,Tryz.ntmps65;go_wp2_with (at_builtin;refine wpList_append_own _ rfl _ _ 92 rfl w.heap.size 26 i0 (odrV noOdr) 5 40 Tryz.underlying92 hi hz0 hz1 hz2 rfl (by decide) _ 0 [] rfl (World.ownsRow_nil _ _ _ _) ad n c fl rfl HF.out hcells.out H1.out (by unfold maxLen;omega) (by omega) (Nat.le_refl _) ?_;intro v' w1 hown1 hgrow1 hnil1);go_ret;refine⟨_,rfl,?_,?_⟩
  ·rw [Nat.zero_add,List.nil_append] at hown1;exact hown1
  ·exact(Below.refl _ _).grown hgrow1 (Nat.le_refl _) (fun k hk=>by cases hk)
theorem copyI_any (p:Option Addr)(n c:Nat)(fl:List Value)(w:World)(h0:p=none->n=0/\c=0/\fl=[])(hfl:fl.length=n*1)(hf1:∀u∈fl,u.oneCell'=true)(hc:∀ad,p=some ad->∀j u,fl[j]? = some u->w.cell? (ad.add j)=some u)(hn:n*8<=140737488351232) :
  Calls Tryz.prog 63 #[.slice p n c] w fun e w'=>∃v,e=.returned v/\w'.ownsRow w.heap.size 3 1 v n fl/\Below w.heap.size w w':=by
 obtain⟨i0,hi,hz0,hz1,hz2⟩:=info_parts (show (Tryz.prog.info? 3).map (fun i=>(i.zero,i.size,i.bytes))=some (some (.int .i64 0),1,8) by kernel_rfl)
 cases p with
 |none =>
  obtain⟨rfl,rfl,rfl⟩:=h0 rfl;go_enter Tryz.func63,Tryz.ntmps63;go_wp2_with (at_builtin;refine wpList_append_own_none rfl _ _ 87 rfl w.heap.size 3 i0 1 Tryz.underlying87 hi _ 0 [] rfl (World.ownsRow_nil _ _ _ _) rfl ?_);go_ret;exact⟨_,rfl,World.ownsRow_nil _ _ _ _,Below.refl _ _⟩
 |some ad =>
  have hcells:=hide (hc ad rfl);have HF:=hide hfl;have H1:=hide hf1;clear h0 hc hfl hf1;go_enter Tryz.func63,Tryz.ntmps63;go_wp2_with (at_builtin;refine wpList_append_own _ rfl _ _ 87 rfl w.heap.size 3 i0 (.int .i64 0) 1 8 Tryz.underlying87 hi hz0 hz1 hz2 rfl (by decide) _ 0 [] rfl (World.ownsRow_nil _ _ _ _) ad n c fl rfl HF.out hcells.out H1.out (by unfold maxLen;omega) (by omega) (Nat.le_refl _) ?_;intro v' w1 hown1 hgrow1 hnil1);go_ret;refine⟨_,rfl,?_,?_⟩
  ·rw [Nat.zero_add,List.nil_append] at hown1;exact hown1
  ·exact(Below.refl _ _).grown hgrow1 (Nat.le_refl _) (fun k hk=>by cases hk)
theorem copyA_any (p:Option Addr)(n c:Nat)(fl:List Value)(w:World)(h0:p=none->n=0/\c=0/\fl=[])(hfl:fl.length=n*3)(hf1:∀u∈fl,u.oneCell'=true)(hc:∀ad,p=some ad->∀j u,fl[j]? = some u->w.cell? (ad.add j)=some u)(hn:n*40<=140737488351232) :
  Calls Tryz.prog 62 #[.slice p n c] w fun e w'=>∃v,e=.returned v/\w'.ownsRow w.heap.size 89 3 v n fl/\Below w.heap.size w w':=by
 obtain⟨i0,hi,hz0,hz1,hz2⟩:=info_parts (show (Tryz.prog.info? 89).map (fun i=>(i.zero,i.size,i.bytes))=some (some (.agg #[.int .i64 0,.int .i64 0,.slice none 0 0]),3,40) by kernel_rfl)
 cases p with
 |none =>
  obtain⟨rfl,rfl,rfl⟩:=h0 rfl;go_enter Tryz.func62,Tryz.ntmps62;go_wp2_with (at_builtin;refine wpList_append_own_none rfl _ _ 48 rfl w.heap.size 89 i0 3 Tryz.underlying48 hi _ 0 [] rfl (World.ownsRow_nil _ _ _ _) rfl ?_);go_ret;exact⟨_,rfl,World.ownsRow_nil _ _ _ _,Below.refl _ _⟩
 |some ad =>
  have hcells:=hide (hc ad rfl);have HF:=hide hfl;have H1:=hide hf1;clear h0 hc hfl hf1;go_enter Tryz.func62,Tryz.ntmps62;go_wp2_with (at_builtin;refine wpList_append_own _ rfl _ _ 48 rfl w.heap.size 89 i0 (.agg #[.int .i64 0,.int .i64 0,.slice none 0 0]) 3 40 Tryz.underlying48 hi hz0 hz1 hz2 rfl (by decide) _ 0 [] rfl (World.ownsRow_nil _ _ _ _) ad n c fl rfl HF.out hcells.out H1.out (by unfold maxLen;omega) (by omega) (Nat.le_refl _) ?_;intro v' w1 hown1 hgrow1 hnil1);go_ret;refine⟨_,rfl,?_,?_⟩
  ·rw [Nat.zero_add,List.nil_append] at hown1;exact hown1
  ·exact(Below.refl _ _).grown hgrow1 (Nat.le_refl _) (fun k hk=>by cases hk)
theorem copyM_any (p:Option Addr)(n c:Nat)(fl:List Value)(w:World)(h0:p=none->n=0/\c=0/\fl=[])(hfl:fl.length=n*4)(hf1:∀u∈fl,u.oneCell'=true)(hc:∀ad,p=some ad->∀j u,fl[j]? = some u->w.cell? (ad.add j)=some u)(hn:n*64<=140737488351232) :
  Calls Tryz.prog 64 #[.slice p n c] w fun e w'=>∃v,e=.returned v/\w'.ownsRow w.heap.size 96 4 v n fl/\Below w.heap.size w w':=by
 obtain⟨i0,hi,hz0,hz1,hz2⟩:=info_parts (show (Tryz.prog.info? 96).map (fun i=>(i.zero,i.size,i.bytes))=some (some (.agg #[.slice none 0 0,.slice none 0 0,.int .i64 0,.int .i64 0]),4,64) by kernel_rfl)
 cases p with
 |none =>
  obtain⟨rfl,rfl,rfl⟩:=h0 rfl;go_enter Tryz.func64,Tryz.ntmps64;go_wp2_with (at_builtin;refine wpList_append_own_none rfl _ _ 49 rfl w.heap.size 96 i0 4 Tryz.underlying49 hi _ 0 [] rfl (World.ownsRow_nil _ _ _ _) rfl ?_);go_ret;exact⟨_,rfl,World.ownsRow_nil _ _ _ _,Below.refl _ _⟩
 |some ad =>
  have hcells:=hide (hc ad rfl);have HF:=hide hfl;have H1:=hide hf1;clear h0 hc hfl hf1;go_enter Tryz.func64,Tryz.ntmps64;go_wp2_with (at_builtin;refine wpList_append_own _ rfl _ _ 49 rfl w.heap.size 96 i0 (.agg #[.slice none 0 0,.slice none 0 0,.int .i64 0,.int .i64 0]) 4 64 Tryz.underlying49 hi hz0 hz1 hz2 rfl (by decide) _ 0 [] rfl (World.ownsRow_nil _ _ _ _) ad n c fl rfl HF.out hcells.out H1.out (by unfold maxLen;omega) (by omega) (Nat.le_refl _) ?_;intro v' w1 hown1 hgrow1 hnil1);go_ret;refine⟨_,rfl,?_,?_⟩
  ·rw [Nat.zero_add,List.nil_append] at hown1;exact hown1
  ·exact(Below.refl _ _).grown hgrow1 (Nat.le_refl _) (fun k hk=>by cases hk)
end Go.Proofs.YthdjfhnhjiageaaGreatDoor.Vn
