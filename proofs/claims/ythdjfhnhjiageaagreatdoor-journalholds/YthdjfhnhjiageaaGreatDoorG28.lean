import Derived.Test.YthdjfhnhjiageaaGreatDoorG27
import Derived.Test.YthdjfhnhjiageaaGreatDoorG26
set_option maxHeartbeats 8000000
set_option maxRecDepth 100000
namespace Go.Proofs.YthdjfhnhjiageaaGreatDoor.Vn
open Go.RowKit Num Fix AcP FuP Bk Rm Ac Go.Sort Go.Maps Mix RkP
theorem fail_any (r:Int)(w:World):Calls Tryz.prog 157 #[.int .i64 r] w fun e w'=>e=.returned (.tuple #[odrV noOdr,.int .i64 r])/\Below w.heap.size w w':=by
 go_enter Tryz.func157,Tryz.ntmps157;go_wp2;refine bodyPost_ret (v:=.tuple #[odrV noOdr,.int .i64 r]) (by simp [results,Tryz.results157,go_sem]) rfl ⟨rfl,?_⟩;exact Ac.below_alloc w _
theorem orderE_4 {s:Tn}{c:Cm}(h1:okOrder (s.next,c.ac,c.o.2.2)=0)(h2:c.red=true/\c.how≠2):orderE s c=4:=by
 unfold orderE;rw [if_neg (fun h=>h h1),if_pos h2]
theorem orderE_5 {s:Tn}{c:Cm}(h1:okOrder (s.next,c.ac,c.o.2.2)=0)(h2:¬(c.red=true/\c.how≠2))(h3:hasA s.accs c.ac=false\/hasM s c.mkt=false):orderE s c=5:=by
 unfold orderE;rw [if_neg (fun h=>h h1),if_neg h2,if_pos h3]
theorem orderE_7 {s:Tn}{c:Cm}(h1:okOrder (s.next,c.ac,c.o.2.2)=0)(h2:¬(c.red=true/\c.how≠2))(h3:¬(hasA s.accs c.ac=false\/hasM s c.mkt=false))(h4:s.next=100000):orderE s c=7:=by
 unfold orderE;rw [if_neg (fun h=>h h1),if_neg h2,if_neg h3,if_pos h4]
theorem orderE_12 {s:Tn}{c:Cm}(h1:okOrder (s.next,c.ac,c.o.2.2)=0)(h2:¬(c.red=true/\c.how≠2))(h3:¬(hasA s.accs c.ac=false\/hasM s c.mkt=false))(h4:¬s.next=100000)(h5:c.red=true/\-(osd c.o)*posAt (accAt s (plc s.accs c.ac)) c.mkt.toNat<=0):orderE s c=12:=by
 unfold orderE;rw [if_neg (fun h=>h h1),if_neg h2,if_neg h3,if_neg h4,if_pos h5]
theorem orderE_0 {s:Tn}{c:Cm}(h1:okOrder (s.next,c.ac,c.o.2.2)=0)(h2:¬(c.red=true/\c.how≠2))(h3:¬(hasA s.accs c.ac=false\/hasM s c.mkt=false))(h4:¬s.next=100000)(h5:¬(c.red=true/\-(osd c.o)*posAt (accAt s (plc s.accs c.ac)) c.mkt.toNat<=0)):orderE s c=0:=by
 unfold orderE;rw [if_neg (fun h=>h h1),if_neg h2,if_neg h3,if_neg h4,if_neg h5]
theorem orderOf_any (T:Nat)(F L:Nat->Prop)(s:Tn)(c:Cm)(w:World)(h:TA w T F L s)(hs:Str s) :
  Calls Tryz.prog 120 #[turnP T,cmV c] w fun e w'=>e=.returned (.tuple #[odrV (if orderE s c=0 then orderO s c else noOdr),.int .i64 (orderE s c)])/\Below w.heap.size w w':=by
 have mixed:Tryz.prog.follows .mixedOrders=true:=by kernel_rfl
 obtain⟨W,hW⟩:∃W,W=((w.alloc (cmO c)).alloc (.cells #[.int .i64 0,.int .i64 0,.int .i64 0,.int .i64 0,.int .i64 0] 26)).alloc (.cells #[.int .i64 c.o.1,.int .i64 c.o.2.1,.int .i64 c.o.2.2.1,.int .i64 c.o.2.2.2.1,.int .i64 c.o.2.2.2.2] 26):=⟨_,rfl⟩;have b0:Below w.heap.size w W:=by rw [hW];exact(((Below.refl _ w).alloc (Nat.le_refl _) _).alloc (by simp) _).alloc (by simp;omega) _
 have eB:W.heap[w.heap.size]? = some (cmO c):=by
  rw [hW];exact blk_below (blk_below (heap_alloc_new w _) (Ac.below_alloc _ _)) (Ac.below_alloc _ _)
 have f5:Five W (w.heap.size+1):=by
  rw [hW];exact five_below (five_made w _ _ _ _ _ _) (Ac.below_alloc _ _)
 have eO:W.heap[w.heap.size+2]? = some (.cells #[.int .i64 c.o.1,.int .i64 c.o.2.1,.int .i64 c.o.2.2.1,.int .i64 c.o.2.2.2.1,.int .i64 c.o.2.2.2.2] 26 (0,0)):=by
  rw [hW,show w.heap.size+2=((w.alloc (cmO c)).alloc (.cells #[.int .i64 0,.int .i64 0,.int .i64 0,.int .i64 0,.int .i64 0] 26)).heap.size from by simp];exact heap_alloc_new _ _
 obtain⟨OE,hOE⟩:∃OE,OE=orderE s c:=⟨_,rfl⟩;obtain⟨OO,hOO⟩:∃OO,OO=if orderE s c=0 then orderO s c else noOdr:=⟨_,rfl⟩
 rw [<- hOO,<- hOE];obtain⟨kind,ac,mkt,n,⟨o1,o2,o3,o4,o5⟩,how,red⟩:=c;dsimp only at eB eO hW;have TA0:=hide (h.below b0);obtain⟨A,M,va,vm,ve,tv,-,-⟩:=h.below b0;have t4:W.cell? ⟨T,4,none⟩=some (.int .i64 s.next):=by rw [tv.cell];rfl
 have EB:=hide eB;have EO:=hide eO;have RF:=hide f5;have HOE:=hide hOE;have HOO:=hide hOO;have HS:=hide hs;have B0:=hide b0;have HW:=hide hW;have a1:=(blk_cell eB 1).1;have x0:=(blk_cell eO 0).1;have x1:=(blk_cell eO 1).1;have x2:=(blk_cell eO 2).1;have x3:=(blk_cell eO 3).1;have x4:=(blk_cell eO 4).1;have z0:=(blk_cell eO 0).2;have z1:=(blk_cell eO 1).2;simp only [List.getElem?_toArray,List.getElem?_cons_zero,List.getElem?_cons_succ] at a1 x0 x1 x2 x3 x4;have hTz:T<w.heap.size:=by obtain⟨_,_,_,_,_,tv0,-,-⟩:=h;exact tv0.lt _ tv0.own
 have BS:Hid (w.heap.size+2<W.heap.size):=(Array.getElem?_eq_some_iff.1 eO).1;obtain⟨nx,hnx⟩:∃nx,s.next=nx:=⟨_,rfl⟩;rw [hnx] at t4;have HNX:=hide hnx;have TAW:=hide h;clear hnx;clear h hs tv f5 eO eB hOE hOO hW b0;go_enter Tryz.func120,Tryz.ntmps120;go_wp2_with (rw [<- HW.out]);clear HW;go_region;clear x0 x1 x2 x3 x4 z0 z1 a1 t4;obtain⟨X,hX⟩:∃X,X=((W.setCell ⟨w.heap.size+1+1,0,none⟩ (.int .i64 nx)).setCell ⟨w.heap.size+1+1,1,none⟩ (.int .i64 ac)).drew:=⟨_,rfl⟩;rw [<- hX];have eX:X.heap[w.heap.size+1+1]? = some (.cells #[.int .i64 nx,.int .i64 ac,.int .i64 o3,.int .i64 o4,.int .i64 o5] 26 (0,0)):=by
  rw [hX];exact heap_set (heap_set EO.out 0 (.int .i64 nx)) 1 (.int .i64 ac)
 have bX:But (fun b=>b=w.heap.size+1+1) W X:=by
  rw [hX];exact But.drew ((but_one W ⟨w.heap.size+1+1,0,none⟩ _).setCell (p:=⟨w.heap.size+1+1,1,none⟩) (.inl rfl) _)
 have BX:Hid (Below w.heap.size w X):=by
  rw [hX];exact((B0.out.setCell (p:=⟨w.heap.size+1+1,0,none⟩) (by show w.heap.size<=w.heap.size+1+1;omega) _).setCell (p:=⟨w.heap.size+1+1,1,none⟩) (by show w.heap.size<=w.heap.size+1+1;omega) _).drew
 have EBX:=hide (blk_but EB.out bX (by show ¬w.heap.size=w.heap.size+1+1;omega));have FX:Hid (Five X (w.heap.size+1)):=by
  obtain⟨v0,v1,v2,v3,v4,hv⟩:=RF.out;exact⟨v0,v1,v2,v3,v4,blk_but hv bX (by show ¬w.heap.size+1=w.heap.size+1+1;omega)⟩
 have TX:Hid (TA X T F L s):=TAW.out.below BX.out;have GC1:Hid (w.heap.size<=w.heap.size+1):=by show w.heap.size<=_;omega
 have GC2:Hid (w.heap.size<=w.heap.size+1+1):=by show w.heap.size<=_;omega
 have EOX:=hide eX;have NE12:Hid (¬w.heap.size+1=w.heap.size+1+1):=by show ¬w.heap.size+1=w.heap.size+1+1;omega
 clear hX bX EB EO RF TA0 TAW B0 BS;have x0:=(blk_cell eX 0).1;have x1:=(blk_cell eX 1).1;have x2:=(blk_cell eX 2).1;have x3:=(blk_cell eX 3).1;have x4:=(blk_cell eX 4).1;simp only [List.getElem?_toArray,List.getElem?_cons_zero,List.getElem?_cons_succ] at x0 x1 x2 x3 x4;clear eX;generalize w.heap.size+1+1=c2 at *;generalize w.heap.size+1=c1 at *;go_wp2_with fail;refine(checkOrder_grow nx ac o3 o4 o5 X).mono ?_;rintro e X1 ⟨rfl,q,os,hX1⟩;have b1:Below X.heap.size X X1:=by rw [hX1];exact grow_below X q os
 have E1:=hide (blk_below EBX.out b1);have O1:=hide (blk_below EOX.out b1);have F1:=hide (five_below FX.out b1);have T1:=hide (TX.out.below b1);have B1:=hide (BX.out.trans (b1.mono BX.out.size));clear hX1 b1 x0 x1 x2 x3 x4 EBX EOX FX TX BX;obtain⟨oe,hoe⟩:∃oe,oe=okOrder (nx,ac,o3,o4,o5):=⟨_,rfl⟩;rw [<- hoe];have HOK:=hide hoe;clear hoe;by_cases hoe:oe=0
 ·rw [hoe] at HOK;have HOK:Hid (okOrder (s.next,ac,o3,o4,o5)=0):=by
   show okOrder (s.next,ac,o3,o4,o5)=0;rw [HNX.out];exact HOK.out.symm
  subst hoe;have e1:=(blk_cell E1.out 1).1;have e5:=(blk_cell E1.out 9).1;have e6:=(blk_cell E1.out 10).1;simp only [List.getElem?_toArray,List.getElem?_cons_zero,List.getElem?_cons_succ] at e1 e5 e6
  cases red
  ·obtain⟨A,M,va,vm,ve,tv,-,-⟩:=T1.out;obtain⟨p,cc,rfl,t0,-⟩:=tv.place HS.out ac;have PL:Hid (∀Y,Below X1.heap.size X1 Y->Calls Tryz.prog 85 #[.slice p A.length cc,.int .i64 ac] Y fun e w'=>e=.returned (.tuple #[.int .i64 (plc s.accs ac:Nat),.bool (hasA s.accs ac)])/\Below Y.heap.size Y w'):=fun Y hY=>by
    obtain⟨p',c',e',-,pl⟩:=(tv.below hY).place HS.out ac;cases e';exact pl
   have r0:∀Y,Below X1.heap.size X1 Y->Y.cell? ⟨T,0,none⟩=some (.slice p A.length cc):=fun Y hY=>(hY.cell (World.block_lt_of_cell? _ _ t0)).trans t0;have r1:∀Y,Below X1.heap.size X1 Y->Y.cell? ⟨w.heap.size,1,none⟩=some (.int .i64 ac):=fun Y hY=>(blk_cell (blk_below E1.out hY) 1).1;have WD:Hid (Below X1.heap.size X1 X1.drew):=(Below.refl _ X1).drew;obtain⟨k,hk⟩:∃k,k=plc s.accs ac:=⟨_,rfl⟩;obtain⟨hh,hhh⟩:∃hh,hh=hasA s.accs ac:=⟨_,rfl⟩;rw [<- hk,<- hhh] at PL;have HK:=hide hk;have HH:=hide hhh;clear tv t0 hk hhh;go_wp2_with fail;go_region_held3 (fun w'=>Below X1.heap.size X1 w') (first | (with_reducible assumption) | (with_reducible exact WD.out)) ((go_at_call 85;refine(PL.out _ ?_).mono ?_;assumption;rintro e X2 ⟨rfl,hb2⟩;have hb2':Below X1.heap.size X1 X2:=Below.trans (by assumption) (hb2.mono (Below.size (by assumption)))));have E2:=hide (blk_below E1.out hb2');have O2:=hide (blk_below O1.out hb2');have F2:=hide (five_below F1.out hb2');have T2:=hide (T1.out.below hb2');have B2:=hide (B1.out.trans (hb2'.mono B1.out.size));clear r0 r1 WD PL hb2 hb2' E1 O1 F1 T1 B1 e1 e5 e6;cases hh
   ·have hor:orderE s ⟨kind,ac,mkt,n,(o1,o2,o3,o4,o5),how,false⟩=5:=orderE_5 HOK.out (by first | exact fun h=>h.2 HHOW.out | exact fun h=>by simp at h) (.inl HH.out.symm);have HE:Hid (Ending.returned (.tuple #[odrV OO,.int .i64 OE])=Ending.returned (.tuple #[odrV noOdr,.int .i64 (5)])):=by
     have he:OE=5:=by rw [HOE.out];exact hor
     have ho:OO=noOdr:=by rw [HOO.out,if_neg (by rw [hor];first | decide | assumption)]
     show Ending.returned (.tuple #[odrV OO,.int .i64 OE])=_;rw [he,ho]
    clear hor;go_wp2_with fail;refine(fail_any (5) X2).mono ?_;rintro e wz ⟨rfl,hbz⟩;have TZ:=hide (five_below F2.out hbz);have BZ:=hide (B2.out.trans (hbz.mono B2.out.size));obtain⟨⟨q0,q1,q2,q3,q4,z0,z1,z2,z3,z4⟩,y0,y1,y2,y3,y4⟩:=five_facts TZ.out;clear hbz;go_wp2;obtain⟨s0,s1,s2,s3,s4⟩:=five_set TZ.out (.int .i64 0) (.int .i64 0) (.int .i64 0) (.int .i64 0) (.int .i64 0);refine bodyPost_ret (v:=.tuple #[odrV noOdr,.int .i64 (5)]) (by simp [results,Tryz.results120,go_sem,s0,s1,s2,s3,s4]) rfl ⟨HE.out.symm,five_below_set BZ.out GC1.out _ _ _ _ _⟩
   ·have e2:=(blk_cell E2.out 2).1;have e10:=(blk_cell E2.out 10).1;simp only [List.getElem?_toArray,List.getElem?_cons_zero,List.getElem?_cons_succ] at e2 e10;have HM:=hide (hasMarket_ta T F L s mkt X2 T2.out);obtain⟨hm,hhm⟩:∃hm,hm=hasM s mkt:=⟨_,rfl⟩;rw [<- hhm] at HM;have HHM:=hide hhm;clear hhm;go_wp2_with fail;refine HM.out.mono ?_;rintro e X3 ⟨rfl,hX3⟩;rw [hX3];clear hX3 HM;cases hm
    ·have hor:orderE s ⟨kind,ac,mkt,n,(o1,o2,o3,o4,o5),how,false⟩=5:=orderE_5 HOK.out (by first | exact fun h=>h.2 HHOW.out | exact fun h=>by simp at h) (.inr HHM.out.symm);have HE:Hid (Ending.returned (.tuple #[odrV OO,.int .i64 OE])=Ending.returned (.tuple #[odrV noOdr,.int .i64 (5)])):=by
      have he:OE=5:=by rw [HOE.out];exact hor
      have ho:OO=noOdr:=by rw [HOO.out,if_neg (by rw [hor];first | decide | assumption)]
      show Ending.returned (.tuple #[odrV OO,.int .i64 OE])=_;rw [he,ho]
     clear hor;go_wp2_with fail;refine(fail_any (5) X2).mono ?_;rintro e wz ⟨rfl,hbz⟩;have TZ:=hide (five_below F2.out hbz);have BZ:=hide (B2.out.trans (hbz.mono B2.out.size));obtain⟨⟨q0,q1,q2,q3,q4,z0,z1,z2,z3,z4⟩,y0,y1,y2,y3,y4⟩:=five_facts TZ.out;clear hbz;go_wp2;obtain⟨s0,s1,s2,s3,s4⟩:=five_set TZ.out (.int .i64 0) (.int .i64 0) (.int .i64 0) (.int .i64 0) (.int .i64 0);refine bodyPost_ret (v:=.tuple #[odrV noOdr,.int .i64 (5)]) (by simp [results,Tryz.results120,go_sem,s0,s1,s2,s3,s4]) rfl ⟨HE.out.symm,five_below_set BZ.out GC1.out _ _ _ _ _⟩
    ·have HM3:Hid (¬(hasA s.accs ac=false\/hasM s mkt=false)):=fun h=>by
      rw [<- HH.out,<- HHM.out] at h;simp at h
     obtain⟨A,M,va,vm,ve,tv,-,-⟩:=T2.out;have t4:X2.cell? ⟨T,4,none⟩=some (.int .i64 nx):=by rw [tv.cell,<- HNX.out];rfl
     by_cases hnx:nx=100000
     ·have hor:orderE s ⟨kind,ac,mkt,n,(o1,o2,o3,o4,o5),how,false⟩=7:=orderE_7 HOK.out (by first | exact fun h=>h.2 HHOW.out | exact fun h=>by simp at h) HM3.out (HNX.out.trans hnx);have hnb:(nx == 100000)=true:=by simpa using hnx
      have HNX7:=hide hnx;clear hnx tv;have HE:Hid (Ending.returned (.tuple #[odrV OO,.int .i64 OE])=Ending.returned (.tuple #[odrV noOdr,.int .i64 (7)])):=by
       have he:OE=7:=by rw [HOE.out];exact hor
       have ho:OO=noOdr:=by rw [HOO.out,if_neg (by rw [hor];first | decide | assumption)]
       show Ending.returned (.tuple #[odrV OO,.int .i64 OE])=_;rw [he,ho]
      clear hor;go_wp2_with fail;refine(fail_any (7) X2).mono ?_;rintro e wz ⟨rfl,hbz⟩;have TZ:=hide (five_below F2.out hbz);have BZ:=hide (B2.out.trans (hbz.mono B2.out.size));obtain⟨⟨q0,q1,q2,q3,q4,z0,z1,z2,z3,z4⟩,y0,y1,y2,y3,y4⟩:=five_facts TZ.out;clear hbz;go_wp2;obtain⟨s0,s1,s2,s3,s4⟩:=five_set TZ.out (.int .i64 0) (.int .i64 0) (.int .i64 0) (.int .i64 0) (.int .i64 0);refine bodyPost_ret (v:=.tuple #[odrV noOdr,.int .i64 (7)]) (by simp [results,Tryz.results120,go_sem,s0,s1,s2,s3,s4]) rfl ⟨HE.out.symm,five_below_set BZ.out GC1.out _ _ _ _ _⟩
     ·have HN4:Hid (¬s.next=100000):=by rw [HNX.out];exact hnx
      have hor:orderE s ⟨kind,ac,mkt,n,(o1,o2,o3,o4,o5),how,false⟩=0:=orderE_0 HOK.out (by first | exact fun h=>h.2 HHOW.out | exact fun h=>by simp at h) HM3.out HN4.out (fun h=>by simp at h);have hoo:orderO s ⟨kind,ac,mkt,n,(o1,o2,o3,o4,o5),how,false⟩=(nx,ac,o3,o4,o5):=by
       unfold orderO;rw [HNX.out];rfl
      clear tv;have HE:Hid (Ending.returned (.tuple #[odrV OO,.int .i64 OE])=Ending.returned (.tuple #[odrV (nx,ac,o3,o4,o5),.int .i64 0])):=by
       have he:OE=0:=by rw [HOE.out];exact hor
       have ho:OO=(nx,ac,o3,o4,o5):=by
        rw [HOO.out,if_pos hor];exact hoo
       show Ending.returned (.tuple #[odrV OO,.int .i64 OE])=_;rw [he,ho]
      clear hor hoo;have x0:=(blk_cell O2.out 0).1;have x1:=(blk_cell O2.out 1).1;have x2:=(blk_cell O2.out 2).1;have x3:=(blk_cell O2.out 3).1;have x4:=(blk_cell O2.out 4).1;simp only [List.getElem?_toArray,List.getElem?_cons_zero,List.getElem?_cons_succ] at x0 x1 x2 x3 x4;obtain⟨⟨q0,q1,q2,q3,q4,z0,z1,z2,z3,z4⟩,y0,y1,y2,y3,y4⟩:=five_facts F2.out;go_wp2;obtain⟨s0,s1,s2,s3,s4⟩:=five_set F2.out (.int .i64 nx) (.int .i64 ac) (.int .i64 o3) (.int .i64 o4) (.int .i64 (o5));refine bodyPost_ret (v:=.tuple #[odrV (nx,ac,o3,o4,o5),.int .i64 0]) (by simp [results,Tryz.results120,go_sem,s0,s1,s2,s3,s4]) rfl ⟨HE.out.symm,five_below_set B2.out GC1.out _ _ _ _ _⟩
  ·by_cases hhow:how=2
   ·have hhb:(how == 2)=true:=by simpa using hhow
    have HHOW:=hide hhow;clear hhow;obtain⟨A,M,va,vm,ve,tv,-,-⟩:=T1.out;obtain⟨p,cc,rfl,t0,-⟩:=tv.place HS.out ac;have PL:Hid (∀Y,Below X1.heap.size X1 Y->Calls Tryz.prog 85 #[.slice p A.length cc,.int .i64 ac] Y fun e w'=>e=.returned (.tuple #[.int .i64 (plc s.accs ac:Nat),.bool (hasA s.accs ac)])/\Below Y.heap.size Y w'):=fun Y hY=>by
     obtain⟨p',c',e',-,pl⟩:=(tv.below hY).place HS.out ac;cases e';exact pl
    have r0:∀Y,Below X1.heap.size X1 Y->Y.cell? ⟨T,0,none⟩=some (.slice p A.length cc):=fun Y hY=>(hY.cell (World.block_lt_of_cell? _ _ t0)).trans t0;have r1:∀Y,Below X1.heap.size X1 Y->Y.cell? ⟨w.heap.size,1,none⟩=some (.int .i64 ac):=fun Y hY=>(blk_cell (blk_below E1.out hY) 1).1;have WD:Hid (Below X1.heap.size X1 X1.drew):=(Below.refl _ X1).drew;obtain⟨k,hk⟩:∃k,k=plc s.accs ac:=⟨_,rfl⟩;obtain⟨hh,hhh⟩:∃hh,hh=hasA s.accs ac:=⟨_,rfl⟩;rw [<- hk,<- hhh] at PL;have HK:=hide hk;have HH:=hide hhh;clear tv t0 hk hhh;go_wp2_with fail;go_region_held3 (fun w'=>Below X1.heap.size X1 w') (first | (with_reducible assumption) | (with_reducible exact WD.out)) ((go_at_call 85;refine(PL.out _ ?_).mono ?_;assumption;rintro e X2 ⟨rfl,hb2⟩;have hb2':Below X1.heap.size X1 X2:=Below.trans (by assumption) (hb2.mono (Below.size (by assumption)))));have E2:=hide (blk_below E1.out hb2');have O2:=hide (blk_below O1.out hb2');have F2:=hide (five_below F1.out hb2');have T2:=hide (T1.out.below hb2');have B2:=hide (B1.out.trans (hb2'.mono B1.out.size));clear r0 r1 WD PL hb2 hb2' E1 O1 F1 T1 B1 e1 e5 e6;cases hh
    ·have hor:orderE s ⟨kind,ac,mkt,n,(o1,o2,o3,o4,o5),how,true⟩=5:=orderE_5 HOK.out (by first | exact fun h=>h.2 HHOW.out | exact fun h=>by simp at h) (.inl HH.out.symm);have HE:Hid (Ending.returned (.tuple #[odrV OO,.int .i64 OE])=Ending.returned (.tuple #[odrV noOdr,.int .i64 (5)])):=by
      have he:OE=5:=by rw [HOE.out];exact hor
      have ho:OO=noOdr:=by rw [HOO.out,if_neg (by rw [hor];first | decide | assumption)]
      show Ending.returned (.tuple #[odrV OO,.int .i64 OE])=_;rw [he,ho]
     clear hor;go_wp2_with fail;refine(fail_any (5) X2).mono ?_;rintro e wz ⟨rfl,hbz⟩;have TZ:=hide (five_below F2.out hbz);have BZ:=hide (B2.out.trans (hbz.mono B2.out.size));obtain⟨⟨q0,q1,q2,q3,q4,z0,z1,z2,z3,z4⟩,y0,y1,y2,y3,y4⟩:=five_facts TZ.out;clear hbz;go_wp2;obtain⟨s0,s1,s2,s3,s4⟩:=five_set TZ.out (.int .i64 0) (.int .i64 0) (.int .i64 0) (.int .i64 0) (.int .i64 0);refine bodyPost_ret (v:=.tuple #[odrV noOdr,.int .i64 (5)]) (by simp [results,Tryz.results120,go_sem,s0,s1,s2,s3,s4]) rfl ⟨HE.out.symm,five_below_set BZ.out GC1.out _ _ _ _ _⟩
    ·have e2:=(blk_cell E2.out 2).1;have e10:=(blk_cell E2.out 10).1;simp only [List.getElem?_toArray,List.getElem?_cons_zero,List.getElem?_cons_succ] at e2 e10;have HM:=hide (hasMarket_ta T F L s mkt X2 T2.out);obtain⟨hm,hhm⟩:∃hm,hm=hasM s mkt:=⟨_,rfl⟩;rw [<- hhm] at HM;have HHM:=hide hhm;clear hhm;go_wp2_with fail;refine HM.out.mono ?_;rintro e X3 ⟨rfl,hX3⟩;rw [hX3];clear hX3 HM;cases hm
     ·have hor:orderE s ⟨kind,ac,mkt,n,(o1,o2,o3,o4,o5),how,true⟩=5:=orderE_5 HOK.out (by first | exact fun h=>h.2 HHOW.out | exact fun h=>by simp at h) (.inr HHM.out.symm);have HE:Hid (Ending.returned (.tuple #[odrV OO,.int .i64 OE])=Ending.returned (.tuple #[odrV noOdr,.int .i64 (5)])):=by
       have he:OE=5:=by rw [HOE.out];exact hor
       have ho:OO=noOdr:=by rw [HOO.out,if_neg (by rw [hor];first | decide | assumption)]
       show Ending.returned (.tuple #[odrV OO,.int .i64 OE])=_;rw [he,ho]
      clear hor;go_wp2_with fail;refine(fail_any (5) X2).mono ?_;rintro e wz ⟨rfl,hbz⟩;have TZ:=hide (five_below F2.out hbz);have BZ:=hide (B2.out.trans (hbz.mono B2.out.size));obtain⟨⟨q0,q1,q2,q3,q4,z0,z1,z2,z3,z4⟩,y0,y1,y2,y3,y4⟩:=five_facts TZ.out;clear hbz;go_wp2;obtain⟨s0,s1,s2,s3,s4⟩:=five_set TZ.out (.int .i64 0) (.int .i64 0) (.int .i64 0) (.int .i64 0) (.int .i64 0);refine bodyPost_ret (v:=.tuple #[odrV noOdr,.int .i64 (5)]) (by simp [results,Tryz.results120,go_sem,s0,s1,s2,s3,s4]) rfl ⟨HE.out.symm,five_below_set BZ.out GC1.out _ _ _ _ _⟩
     ·have HM3:Hid (¬(hasA s.accs ac=false\/hasM s mkt=false)):=fun h=>by
       rw [<- HH.out,<- HHM.out] at h;simp at h
      obtain⟨A,M,va,vm,ve,tv,-,-⟩:=T2.out;have t4:X2.cell? ⟨T,4,none⟩=some (.int .i64 nx):=by rw [tv.cell,<- HNX.out];rfl
      by_cases hnx:nx=100000
      ·have hor:orderE s ⟨kind,ac,mkt,n,(o1,o2,o3,o4,o5),how,true⟩=7:=orderE_7 HOK.out (by first | exact fun h=>h.2 HHOW.out | exact fun h=>by simp at h) HM3.out (HNX.out.trans hnx);have hnb:(nx == 100000)=true:=by simpa using hnx
       have HNX7:=hide hnx;clear hnx tv;have HE:Hid (Ending.returned (.tuple #[odrV OO,.int .i64 OE])=Ending.returned (.tuple #[odrV noOdr,.int .i64 (7)])):=by
        have he:OE=7:=by rw [HOE.out];exact hor
        have ho:OO=noOdr:=by rw [HOO.out,if_neg (by rw [hor];first | decide | assumption)]
        show Ending.returned (.tuple #[odrV OO,.int .i64 OE])=_;rw [he,ho]
       clear hor;go_wp2_with fail;refine(fail_any (7) X2).mono ?_;rintro e wz ⟨rfl,hbz⟩;have TZ:=hide (five_below F2.out hbz);have BZ:=hide (B2.out.trans (hbz.mono B2.out.size));obtain⟨⟨q0,q1,q2,q3,q4,z0,z1,z2,z3,z4⟩,y0,y1,y2,y3,y4⟩:=five_facts TZ.out;clear hbz;go_wp2;obtain⟨s0,s1,s2,s3,s4⟩:=five_set TZ.out (.int .i64 0) (.int .i64 0) (.int .i64 0) (.int .i64 0) (.int .i64 0);refine bodyPost_ret (v:=.tuple #[odrV noOdr,.int .i64 (7)]) (by simp [results,Tryz.results120,go_sem,s0,s1,s2,s3,s4]) rfl ⟨HE.out.symm,five_below_set BZ.out GC1.out _ _ _ _ _⟩
      ·have HN4:Hid (¬s.next=100000):=by rw [HNX.out];exact hnx
       obtain⟨mn,hmn⟩:∃mn:Nat,mkt=mn:=⟨mkt.toNat,by have:=hasM_iff.1 HHM.out.symm;omega⟩;have hmk:mn<s.mkts.length:=by have:=hasM_iff.1 HHM.out.symm;omega
       subst hmn;have hks:k<s.accs.length:=by
        rw [HK.out];exact(accAt_has HS.out.srt HH.out.symm).1
       have hkA:k<A.length:=by rw [tv.lenA];exact hks
       obtain⟨pb,po,ep,lp,cp,px1,px2⟩:=tv.posn HS.out hmk hkA;obtain⟨ga,ca,rfl,-,-,-,-,k0,k1,k2⟩:=tv.atA hkA;rw [ep] at k2;have t0:X2.cell? ⟨T,0,none⟩=some (.slice (some ⟨ga,0,none⟩) A.length ca):=by rw [tv.cell];rfl
       have e2:=(blk_cell E2.out 2).1;have x2:=(blk_cell O2.out 2).1;simp only [List.getElem?_toArray,List.getElem?_cons_zero,List.getElem?_cons_succ] at e2 x2;have hkz:(k:Int)<(A.length:Int):=by omega
       obtain⟨pn,hpn⟩:∃pn,(A[k]'hkA).n=pn:=⟨_,rfl⟩;obtain⟨pc,hpc⟩:∃pc,(A[k]'hkA).c=pc:=⟨_,rfl⟩;rw [hpn] at lp k2;rw [hpc] at k2;have lpz:(mn:Int)<(pn:Int):=by omega
       obtain⟨px,hpx⟩:∃px,px=posAt (accAt s k) mn:=⟨_,rfl⟩;rw [<- hpx] at cp px1 px2;have hsd:o3=1\/o3 = -1:=okOrder_sd HOK.out;obtain⟨u,hu⟩:∃u,-o3*px=u:=⟨_,rfl⟩;have hub:-1000<=u/\u<=1000:=by rcases hsd with e | e<;>rw [e] at hu<;>omega
       have wu:IntKind.i64.wrap u=u:=IntWalk.i64_in u ⟨by omega,by omega⟩;have wu':wrap64 u=u:=IntWalk.wrap64_in u ⟨by omega,by omega⟩;have wn:IntKind.i64.wrap (-o3) = -o3:=IntWalk.i64_in _ ⟨by omega,by omega⟩;have wn':wrap64 (-o3) = -o3:=IntWalk.wrap64_in _ ⟨by omega,by omega⟩;have HPX:Hid (-(osd (o1,o2,o3,o4,o5))*posAt (accAt s (plc s.accs ac)) (mn:Int).toNat=u):=by
        show -o3*posAt (accAt s (plc s.accs ac)) (mn:Int).toNat=u;rw [<- HK.out,Int.toNat_natCast,<- hpx];exact hu
       have HSD:=hide hsd;clear hsd hpx ep tv hpn hpc;by_cases hle:u<=0;focus
        have hor:orderE s ⟨kind,ac,mn,n,(o1,o2,o3,o4,o5),how,true⟩=12:=orderE_12 HOK.out (by first | exact fun h=>h.2 HHOW.out | exact fun h=>by simp at h) HM3.out HN4.out ⟨rfl,by rw [HPX.out];exact hle⟩;have HE:Hid (Ending.returned (.tuple #[odrV OO,.int .i64 OE])=Ending.returned (.tuple #[odrV noOdr,.int .i64 (12)])):=by
         have he:OE=12:=by rw [HOE.out];exact hor
         have ho:OO=noOdr:=by rw [HOO.out,if_neg (by rw [hor];first | decide | assumption)]
         show Ending.returned (.tuple #[odrV OO,.int .i64 OE])=_;rw [he,ho]
        clear hor
       rotate_left;focus
        have hor:orderE s ⟨kind,ac,mn,n,(o1,o2,o3,o4,o5),how,true⟩=0:=orderE_0 HOK.out (by first | exact fun h=>h.2 HHOW.out | exact fun h=>by simp at h) HM3.out HN4.out (fun h=>by rw [HPX.out] at h;exact hle h.2);have hoo:orderO s ⟨kind,ac,mn,n,(o1,o2,o3,o4,o5),how,true⟩=(nx,ac,o3,o4,min o5 u):=by
         unfold orderO;rw [HNX.out,HPX.out];rfl
        obtain⟨mi,hmi⟩:∃mi,min o5 u=mi:=⟨_,rfl⟩;rw [hmi] at hoo
       rotate_left;all_goals
        go_wp2_with fail;go_quiet (fail);obtain⟨X3,hX3⟩:∃X3,X3=X2.drewN nq:=⟨_,rfl⟩;rw [<- hX3];have bd:Below X2.heap.size X2 X3:=by rw [hX3];exact⟨rfl,rfl,rfl,Nat.le_refl _,fun _ _=>rfl⟩
        have O3:=hide (blk_below O2.out bd);have F3:=hide (five_below F2.out bd);have B3:=hide (B2.out.trans (bd.mono B2.out.size));clear bd hX3 E2 O2 F2 T2 B2 x2 e2 t0 k0 k1 k2 cp t4
       ·go_wp2_with fail;refine(fail_any (12) X3).mono ?_;rintro e wz ⟨rfl,hbz⟩;have TZ:=hide (five_below F3.out hbz);have BZ:=hide (B3.out.trans (hbz.mono B3.out.size));obtain⟨⟨q0,q1,q2,q3,q4,z0,z1,z2,z3,z4⟩,y0,y1,y2,y3,y4⟩:=five_facts TZ.out;clear hbz;go_wp2;obtain⟨s0,s1,s2,s3,s4⟩:=five_set TZ.out (.int .i64 0) (.int .i64 0) (.int .i64 0) (.int .i64 0) (.int .i64 0);refine bodyPost_ret (v:=.tuple #[odrV noOdr,.int .i64 (12)]) (by simp [results,Tryz.results120,go_sem,s0,s1,s2,s3,s4]) rfl ⟨HE.out.symm,five_below_set BZ.out GC1.out _ _ _ _ _⟩
       ·have x4:=(blk_cell O3.out 4).1;have q4:=(blk_cell O3.out 4).2;simp only [List.getElem?_toArray,List.getElem?_cons_zero,List.getElem?_cons_succ] at x4;have O4:Hid ((X3.setCell ⟨c2,4,none⟩ (.int .i64 mi)).heap[c2]? = some (.cells #[.int .i64 nx,.int .i64 ac,.int .i64 o3,.int .i64 o4,.int .i64 mi] 26 (0,0))):=heap_set O3.out 4 (.int .i64 mi);have F4:Hid (Five (X3.setCell ⟨c2,4,none⟩ (.int .i64 mi)) c1):=by
         obtain⟨v0,v1,v2,v3,v4,hv⟩:=F3.out;exact⟨v0,v1,v2,v3,v4,blk_but hv (but_one X3 ⟨c2,4,none⟩ _) NE12.out⟩
        have B4:Hid (Below w.heap.size w (X3.setCell ⟨c2,4,none⟩ (.int .i64 mi))):=B3.out.setCell (p:=⟨c2,4,none⟩) GC2.out _;obtain⟨X4,hX4⟩:∃X4,X4=X3.setCell ⟨c2,4,none⟩ (.int .i64 mi):=⟨_,rfl⟩;rw [<- hX4] at O4 F4 B4;have HX4:=hide hX4;clear hX4;have x44:=x4;clear x4;have HE:Hid (Ending.returned (.tuple #[odrV OO,.int .i64 OE])=Ending.returned (.tuple #[odrV (nx,ac,o3,o4,mi),.int .i64 0])):=by
         have he:OE=0:=by rw [HOE.out];exact hor
         have ho:OO=(nx,ac,o3,o4,mi):=by
          rw [HOO.out,if_pos hor];exact hoo
         show Ending.returned (.tuple #[odrV OO,.int .i64 OE])=_;rw [he,ho]
        clear hor hoo;have x0:=(blk_cell O4.out 0).1;have x1:=(blk_cell O4.out 1).1;have x2:=(blk_cell O4.out 2).1;have x3:=(blk_cell O4.out 3).1;have x4:=(blk_cell O4.out 4).1;simp only [List.getElem?_toArray,List.getElem?_cons_zero,List.getElem?_cons_succ] at x0 x1 x2 x3 x4;obtain⟨⟨q0,q1,q2,q3,q4,z0,z1,z2,z3,z4⟩,y0,y1,y2,y3,y4⟩:=five_facts F4.out;go_wp2_with (rw [<- HX4.out]);obtain⟨s0,s1,s2,s3,s4⟩:=five_set F4.out (.int .i64 nx) (.int .i64 ac) (.int .i64 o3) (.int .i64 o4) (.int .i64 (mi));refine bodyPost_ret (v:=.tuple #[odrV (nx,ac,o3,o4,mi),.int .i64 0]) (by simp [results,Tryz.results120,go_sem,s0,s1,s2,s3,s4]) rfl ⟨HE.out.symm,five_below_set B4.out GC1.out _ _ _ _ _⟩
   ·have hor:orderE s ⟨kind,ac,mkt,n,(o1,o2,o3,o4,o5),how,true⟩=4:=orderE_4 HOK.out ⟨rfl,hhow⟩;have HE:Hid (Ending.returned (.tuple #[odrV OO,.int .i64 OE])=Ending.returned (.tuple #[odrV noOdr,.int .i64 (4)])):=by
     have he:OE=4:=by rw [HOE.out];exact hor
     have ho:OO=noOdr:=by rw [HOO.out,if_neg (by rw [hor];first | decide | assumption)]
     show Ending.returned (.tuple #[odrV OO,.int .i64 OE])=_;rw [he,ho]
    clear hor;go_wp2_with fail;refine(fail_any (4) X1).mono ?_;rintro e wz ⟨rfl,hbz⟩;have TZ:=hide (five_below F1.out hbz);have BZ:=hide (B1.out.trans (hbz.mono B1.out.size));obtain⟨⟨q0,q1,q2,q3,q4,z0,z1,z2,z3,z4⟩,y0,y1,y2,y3,y4⟩:=five_facts TZ.out;clear hbz;go_wp2;obtain⟨s0,s1,s2,s3,s4⟩:=five_set TZ.out (.int .i64 0) (.int .i64 0) (.int .i64 0) (.int .i64 0) (.int .i64 0);refine bodyPost_ret (v:=.tuple #[odrV noOdr,.int .i64 (4)]) (by simp [results,Tryz.results120,go_sem,s0,s1,s2,s3,s4]) rfl ⟨HE.out.symm,five_below_set BZ.out GC1.out _ _ _ _ _⟩
 ·have hor:orderE s ⟨kind,ac,mkt,n,(o1,o2,o3,o4,o5),how,red⟩=oe:=by
   unfold orderE;rw [if_pos (by show okOrder (s.next,ac,o3,o4,o5)≠0;rw [HNX.out,<- HOK.out];exact hoe)];show okOrder (s.next,ac,o3,o4,o5)=oe;rw [HNX.out,<- HOK.out]
  have HE:Hid (Ending.returned (.tuple #[odrV OO,.int .i64 OE])=Ending.returned (.tuple #[odrV noOdr,.int .i64 (oe)])):=by
   have he:OE=oe:=by rw [HOE.out];exact hor
   have ho:OO=noOdr:=by rw [HOO.out,if_neg (by rw [hor];first | decide | assumption)]
   show Ending.returned (.tuple #[odrV OO,.int .i64 OE])=_;rw [he,ho]
  clear hor;go_wp2_with fail;refine(fail_any (oe) X1).mono ?_;rintro e wz ⟨rfl,hbz⟩;have TZ:=hide (five_below F1.out hbz);have BZ:=hide (B1.out.trans (hbz.mono B1.out.size));obtain⟨⟨q0,q1,q2,q3,q4,z0,z1,z2,z3,z4⟩,y0,y1,y2,y3,y4⟩:=five_facts TZ.out;clear hbz;go_wp2;obtain⟨s0,s1,s2,s3,s4⟩:=five_set TZ.out (.int .i64 0) (.int .i64 0) (.int .i64 0) (.int .i64 0) (.int .i64 0);refine bodyPost_ret (v:=.tuple #[odrV noOdr,.int .i64 (oe)]) (by simp [results,Tryz.results120,go_sem,s0,s1,s2,s3,s4]) rfl ⟨HE.out.symm,five_below_set BZ.out GC1.out _ _ _ _ _⟩
def CameY (s:Tn) (k:Nat) (o:Odr) (how:Int) (Y:World) (B:Nat) (p1:Option Addr) (n1 c1:Nat) (p2:Option Addr) (n2 c2:Nat) (pf:Option Addr) (nf:Nat) (l r:Int):Prop :=
 (comeE (mktAt s k).1 (mktAt s k).2.1 o how=0/\r=0/\n1=(comeB (mktAt s k).1 (mktAt s k).2.1 o how).length/\n2=(comeA (mktAt s k).1 (mktAt s k).2.1 o how).length/\nf=(takeT (mktAt s k).1 (mktAt s k).2.1 o).2.1.length/\l=comeL how (takeT (mktAt s k).1 (mktAt s k).2.1 o).2.2.1/\OV Y p1 c1 (comeB (mktAt s k).1 (mktAt s k).2.1 o how)/\OV Y p2 c2 (comeA (mktAt s k).1 (mktAt s k).2.1 o how)/\FRow Y pf (takeT (mktAt s k).1 (mktAt s k).2.1 o).2.1/\(∀a,p1=some a->B<=a.block)/\(∀a,p2=some a->B<=a.block)/\(∀a,pf=some a->B<=a.block))\/(¬comeE (mktAt s k).1 (mktAt s k).2.1 o how=0/\r=comeE (mktAt s k).1 (mktAt s k).2.1 o how)
theorem came_y {s:Tn}{k:Nat}{o:Odr}{how:Int}{w3 Y:World}{B C:Nat}{p1:Option Addr}{n1 c1:Nat}{p2:Option Addr}{n2 c2:Nat}{pf:Option Addr}{nf:Nat}{l r:Int}{D:Nat->Prop}(h:CameY s k o how w3 C p1 n1 c1 p2 n2 c2 pf nf l r)(hb:But D w3 Y)(hC:∀a,C<=a->B<=a/\¬D a):CameY s k o how Y B p1 n1 c1 p2 n2 c2 pf nf l r:=by
 rcases h with⟨he,hr,hn1,hn2,hnf,hl,o1,o2,fr,z1,z2,z3⟩ | h
 ·exact .inl ⟨he,hr,hn1,hn2,hnf,hl,ov_but o1 hb (.inr fun x hx=>(hC _ (z1 x hx)).2),ov_but o2 hb (.inr fun x hx=>(hC _ (z2 x hx)).2),frow_but fr hb (.inr fun x hx=>(hC _ (z3 x hx)).2),fun a ha=>(hC _ (z1 a ha)).1,fun a ha=>(hC _ (z2 a ha)).1,fun a ha=>(hC _ (z3 a ha)).1⟩
 ·exact .inr h
theorem come_all (s:Tn)(k:Nat)(p p':Option Addr)(c c':Nat)(o:Odr)(how:Int)(w:World)(h:OV w p c (mktAt s k).1)(h':OV w p' c' (mktAt s k).2.1)(hR:Right (mktAt s k).1 (mktAt s k).2.1) :
  Calls Tryz.prog 122 #[.agg #[.slice p (mktAt s k).1.length c,.slice p' (mktAt s k).2.1.length c'],odrV o,.int .i64 how] w fun e w'=>∃p1 n1 c1 p2 n2 c2 pf nf cf l r,e=.returned (.tuple #[.agg #[.slice p1 n1 c1,.slice p2 n2 c2],.slice pf nf cf,.int .i64 l,.int .i64 r])/\Below w.heap.size w w'/\CameY s k o how w' w.heap.size p1 n1 c1 p2 n2 c2 pf nf l r:=by
 have hfew:=book_few hR;by_cases he:comeE (mktAt s k).1 (mktAt s k).2.1 o how=0
 ·refine(come_ok p p' c c' _ _ o how w h h' he).mono ?_;rintro e w' ⟨p1,c1,p2,c2,vF,rfl,o1,o2,oF,hb,z1,z2⟩;obtain⟨pf,cf,rfl,fr,z3⟩:=own_frow oF;exact⟨p1,_,c1,p2,_,c2,pf,_,cf,_,_,rfl,hb,.inl ⟨he,rfl,rfl,rfl,rfl,rfl,o1,o2,fr,z1,z2,z3⟩⟩
 ·refine(come_bad p p' c c' _ _ o how w h h' (by omega) (by omega) he).mono ?_;rintro e w' ⟨rfl,hb⟩;exact⟨none,0,0,none,0,0,none,0,0,0,_,rfl,hb,.inr ⟨he,rfl⟩⟩
theorem come_fok {s:Tn}(hs:Str s){k:Nat}(hk:k<s.mkts.length){o:Odr}{how:Int}(he:comeE (mktAt s k).1 (mktAt s k).2.1 o how=0)(hid:hasA s.accs (oac o)=true):FOk (cameR s k o how) (takeT (mktAt s k).1 (mktAt s k).2.1 o).2.1/\(takeT (mktAt s k).1 (mktAt s k).2.1 o).2.1.length<=40:=by
 obtain⟨-,hok,-⟩:=come_facts he;obtain⟨h1,h2⟩:=take_fok hs hk hok hid;exact⟨h1.same rfl,h2⟩
end Go.Proofs.YthdjfhnhjiageaaGreatDoor.Vn
