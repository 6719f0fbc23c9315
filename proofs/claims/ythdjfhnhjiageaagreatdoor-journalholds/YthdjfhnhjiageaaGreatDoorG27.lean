import Derived.Test.YthdjfhnhjiageaaGreatDoorG25
set_option maxHeartbeats 8000000
set_option maxRecDepth 100000
namespace Go.Proofs.YthdjfhnhjiageaaGreatDoor.Vn
open Go.RowKit Num Fix AcP FuP Bk Rm Ac Go.Sort Go.Maps Mix RkP
theorem laid_but {F:Nat->Prop}{w w':World}(h:Rk.Laid w)(hb:But F w w')(hF:¬F 8):Rk.Laid w':=fun i hi=>hb.cell (p:=⟨8,i,none⟩) hF (h i hi)
theorem out_any (T:Nat)(F L:Nat->Prop)(s:Tn)(n:Int)(w:World)(h:TA w T F L s) :
  Calls Tryz.prog 116 #[.pointer (some ⟨T,6,none⟩),.int .i64 n] w (Ends w T F L (if addE s.out n=0 then .ok { s with out:=addV s.out n } else .error (addE s.out n))):=by
 obtain⟨A,M,va,vm,ve,h,hrw,hlt⟩:=h;have c2:w.cell? ⟨T,6,none⟩=some (.int .i64 s.out):=by rw [h.cell];rfl
 by_cases he:addE s.out n=0
 ·rw [if_pos he];refine(grow_ok ⟨T,6,none⟩ s.out n w c2 (h.frozen 6) he).mono ?_;rintro e w' ⟨rfl,o,rfl⟩;have b1:=(Below.refl w.heap.size w).alloc (Nat.le_refl _) o;exact .inl ⟨_,rfl,rfl,F,⟨_,_,_,_,_,(h.below b1).setOut _,hrw,fun b hb=>Nat.lt_of_lt_of_le (hlt b hb) (by simp [World.setCell])⟩,newer_refl _ _,(But.of_below b1).setCell (p:=⟨T,6,none⟩) (.inl h.own) _⟩
 ·rw [if_neg he];refine(grow_bad ⟨T,6,none⟩ s.out n w c2 he).mono ?_;rintro e w' ⟨rfl,hb⟩;exact .inr ⟨_,rfl,rfl,he,.of_below hb⟩
theorem withdraw_any (T:Nat)(F L:Nat->Prop)(s:Tn)(c:Cm)(w:World)(h:TA w T F L s)(hs:Str s)(hL:Rk.Laid w)(hF0:¬F 8)(hE:s.evs.length<=900000) :
  Calls Tryz.prog 87 #[turnP T,cmV c] w (Ends w T F L (withdrawR s c.ac c.n)):=by
 have mixed:Tryz.prog.follows .mixedOrders=true:=by kernel_rfl
 obtain⟨W,hW⟩:∃W,W=w.alloc (cmO c):=⟨_,rfl⟩;have b0:Below w.heap.size w W:=by rw [hW];exact below_alloc w _
 have eB:W.heap[w.heap.size]? = some (cmO c):=by rw [hW];exact heap_alloc_new w _
 have CP:=hide (checkPayment_any c W);have HW:=hide hW;have B0:=hide b0;obtain⟨kind,ac,mkt,n,⟨o1,o2,o3,o4,o5⟩,how,red⟩:=c;dsimp only at eB CP HW ⊢;obtain⟨R,hR⟩:∃R,R=withdrawR s ac n:=⟨_,rfl⟩;rw [<- hR];unfold withdrawR at hR;have NB:Hid (¬F w.heap.size):=fun f=>by have:=h.lt _ f;omega
 have hB:w.heap.size<W.heap.size:=(Array.getElem?_eq_some_iff.1 eB).1;have EB:=hide eB;have a:∀i v,_->W.cell? ⟨w.heap.size,i,none⟩=some v:=fun i v hv=>((blk_cell (by exact eB) i).1).trans hv;have a0:=a 0 (.int .i64 kind) rfl;have a1:=a 1 (.int .i64 ac) rfl;have a2:=a 2 (.int .i64 mkt) rfl;have a3:=a 3 (.int .i64 n) rfl;have a4:=a 4 (.int .i64 o1) rfl;have a5:=a 5 (.int .i64 o2) rfl;have a6:=a 6 (.int .i64 o3) rfl;have a7:=a 7 (.int .i64 o4) rfl;have a8:=a 8 (.int .i64 o5) rfl;have a9:=a 9 (.int .i64 how) rfl;have a10:=a 10 (.bool red) rfl;have TA0:=hide (h.below b0);have HS:=hide hs;have HL:=hide (hL.next b0);have HF0:=hide hF0;have HE:=hide hE;have HR:=hide hR;obtain⟨pe,hpe⟩:∃pe,pe=payE ac n:=⟨_,rfl⟩;rw [<- hpe] at CP;have HPE:=hide hpe;clear a hR hs hL hF0 hE hW b0 eB h hpe;go_enter Tryz.func87,Tryz.ntmps87;go_wp2_with (rw [<- HW.out]);refine CP.out.mono ?_;rintro e W1 ⟨rfl,b1⟩;have E1:=hide (blk_below EB.out b1);have TA1:=hide (TA0.out.below b1);have L1:=hide (HL.out.next b1);have B1:=hide (B0.out.trans (b1.mono B0.out.size));have hB1:w.heap.size<W1.heap.size:=Nat.lt_of_lt_of_le hB b1.size;clear a0 a1 a2 a3 a4 a5 a6 a7 a8 a9 a10 b1 CP HW EB TA0 HL;by_cases hpe:pe=0
 ·have HR1:Hid (R=if hasA s.accs ac=true then (if addE s.out n=0 then (match moveR { s with out:=addV s.out n } (plc s.accs ac) (-n) with | .ok t=>if readyE t.mkts (accAt t (plc s.accs ac))=0 then .ok t else .error (readyE t.mkts (accAt t (plc s.accs ac))) | .error e=>.error e) else .error (addE s.out n)) else .error 5):=by
   have:=HR.out;rw [if_pos (by rw [<- HPE.out];exact hpe)] at this;exact this
  have hpay:=pay_ok (by rw [<- HPE.out];exact hpe);subst hpe;clear HR;obtain⟨A,M,va,vm,ve,tv,-,-⟩:=TA1.out;obtain⟨p,cc,rfl,t0,-⟩:=tv.place HS.out ac;have PL:Hid (∀Y,Below W1.heap.size W1 Y->Calls Tryz.prog 85 #[.slice p A.length cc,.int .i64 ac] Y fun e w'=>e=.returned (.tuple #[.int .i64 (plc s.accs ac:Nat),.bool (hasA s.accs ac)])/\Below Y.heap.size Y w'):=fun Y hY=>by
   obtain⟨p',c',e',-,pl⟩:=(tv.below hY).place HS.out ac;cases e';exact pl
  have r0:∀Y,Below W1.heap.size W1 Y->Y.cell? ⟨T,0,none⟩=some (.slice p A.length cc):=fun Y hY=>(hY.cell (World.block_lt_of_cell? _ _ t0)).trans t0;have r1:∀Y,Below W1.heap.size W1 Y->Y.cell? ⟨w.heap.size,1,none⟩=some (.int .i64 ac):=fun Y hY=>(blk_cell (blk_below E1.out hY) 1).1;have WD:Hid (Below W1.heap.size W1 W1.drew):=(Below.refl _ W1).drew;obtain⟨k,hk⟩:∃k,k=plc s.accs ac:=⟨_,rfl⟩;obtain⟨hh,hhh⟩:∃hh,hh=hasA s.accs ac:=⟨_,rfl⟩;rw [<- hk,<- hhh] at PL HR1;have HK:=hide hk;have HH:=hide hhh;clear tv t0 hk hhh;go_wp2_with fail;go_region_held3 (fun w'=>Below W1.heap.size W1 w') (first | (with_reducible assumption) | (with_reducible exact WD.out)) ((go_at_call 85;refine(PL.out _ ?_).mono ?_;assumption;rintro e W2 ⟨rfl,hb2⟩;have hb2':Below W1.heap.size W1 W2:=Below.trans (by assumption) (hb2.mono (Below.size (by assumption)))));have E2:=hide (blk_below E1.out hb2');have TA2:=hide (TA1.out.below hb2');have L2:=hide (L1.out.next hb2');have B2:=hide (B1.out.trans (hb2'.mono B1.out.size));have hB2:w.heap.size<W2.heap.size:=Nat.lt_of_lt_of_le hB1 hb2'.size;clear r0 r1 WD PL hb2 hb2' E1 TA1 L1;cases hh
  ·have EE:Hid (Ends w T F L R (.returned (.int .i64 5)) W2):=.inr ⟨5,HR1.out,rfl,by decide,.of_below B2.out⟩;clear HR1;go_wp2;go_ret;exact EE.out
  ·have HR2:Hid (R=if addE s.out n=0 then (match moveR { s with out:=addV s.out n } k (-n) with | .ok t=>if readyE t.mkts (accAt t k)=0 then .ok t else .error (readyE t.mkts (accAt t k)) | .error e=>.error e) else .error (addE s.out n)):=HR1.out;clear HR1;have e3:=(blk_cell E2.out 3).1;simp only [List.getElem?_toArray,List.getElem?_cons_zero,List.getElem?_cons_succ] at e3;by_cases hae:addE s.out n=0
   ·have OUT:Hid (Calls Tryz.prog 116 #[.pointer (some ⟨T,6,none⟩),.int .i64 n] W2.drew fun e w'=>e=.returned (.int .i64 0)/\Stepped W2 T F L { s with out:=addV s.out n } w'):=by
     have hd:Below W2.heap.size W2 W2.drew:=(Below.refl _ W2).drew;have:=out_any T F L s n W2.drew (TA2.out.below hd);rw [if_pos hae] at this;refine this.mono ?_;rintro e w' (⟨t,hR,he,G,ta,nw,bt⟩ | ⟨r,hR,-⟩)
     ·cases hR
      exact⟨he,G,ta,nw,(But.of_below hd).trans bt (fun _ g=>.inl g)⟩
     ·cases hR
    have HR3:Hid (R=match moveR { s with out:=addV s.out n } k (-n) with | .ok t=>if readyE t.mkts (accAt t k)=0 then .ok t else .error (readyE t.mkts (accAt t k)) | .error e=>.error e):=by
     have:=HR2.out;rw [if_pos hae] at this;exact this
    clear HR2;go_wp2_with fail;go_region_held3 (fun w'=>w'.cell? ⟨w.heap.size,3,none⟩=some (.int .i64 n)) (first | (with_reducible assumption) | exact e3) ((go_at_call 116;refine OUT.out.mono ?_;rintro e W3 ⟨rfl,hS3⟩;have e33:W3.cell? ⟨w.heap.size,3,none⟩=some (.int .i64 n):=(by obtain⟨G,ta,nw,bt⟩:=hS3;exact bt.cell NB.out e3)));obtain⟨G,ta,nw,bt⟩:=hS3;have hks:k<({ s with out:=addV s.out n }:Tn).accs.length:=by
     rw [HK.out];exact(accAt_has HS.out.srt HH.out.symm).1
    have MV:=hide (move_any T G L { s with out:=addV s.out n } k (-n) W3 ta hks (by have:=HE.out;show s.evs.length<=_;omega));have NW:=hide (show Newer w F G from fun b hb=>(nw b hb).imp id (Nat.le_trans B2.out.size));have BT:=hide ((But.of_below B2.out:But F w W2).trans bt (fun _ g=>.inl g));have L3:=hide (laid_but L2.out bt HF0.out);have GF0:Hid (¬G 8):=newer_not nw L2.out.size HF0.out;have hn1:-9223372036854775808<=-n:=by omega
    have hn2:n<=9223372036854775807:=by omega
    clear ta nw bt OUT e3 E2 TA2 L2;go_wp2_with fail;refine MV.out.mono ?_;rintro e W4 (⟨t,ht,rfl,G2,ta2,nw2,bt2⟩ | ⟨r,hr,rfl,hr0,hb⟩)
    ·have HR4:Hid (R=if readyE t.mkts (accAt t k)=0 then .ok t else .error (readyE t.mkts (accAt t k))):=by
      have:=HR3.out;rw [ht] at this;exact this
     have hst:Str { s with out:=addV s.out n }:=by
      have hao:=add_ok hae;have:=money_true hao.2.2.1;have hr:=HS.out.out;exact⟨HS.out.m1,HS.out.m2,HS.out.srt,HS.out.acc,HS.out.mkt,HS.out.who,HS.out.nx,HS.out.ins,HS.out.res,HS.out.inn,by show rng (addV s.out n);rw [hao.2.2.2];unfold rng at *;omega⟩
     have mf:=move_facts ht hst hks;have hkt:k<t.accs.length:=by have:=congrArg List.length mf.ids;simp at this;rw [this];exact hks
     have TA2':=hide ta2;obtain⟨A4,M4,va4,vm4,ve4,tv4,-,-⟩:=ta2;have hkA:k<A4.length:=by rw [tv4.lenA];exact hkt
     obtain⟨g,cap,rfl,-,-,-,-,c0,c1,c2⟩:=tv4.atA hkA;have t0:W4.cell? ⟨T,0,none⟩=some (.slice (some ⟨g,0,none⟩) A4.length cap):=by rw [tv4.cell];rfl
     have hm4:=(tv4.each _ (List.getElem_mem hkA)).1;have RD:=ready_any T G2 (fun _=>False) t (A4[k]'hkA).id (A4[k]'hkA).bal (A4[k]'hkA).p (A4[k]'hkA).n (A4[k]'hkA).c (A4[k]'hkA).pos W4 ⟨_,_,_,_,_,tv4,rows_none _ _,fun _ h=>h.elim⟩ mf.str (laid_but L3.out bt2 GF0.out) hm4.len (by have:=hm4.few;omega) hm4.row;rw [<- tv4.isAcc hkA] at RD;have EN:Hid (∀e W5,e=.returned (.int .i64 (readyE t.mkts (accAt t k)))->Below W4.heap.size W4 W5->Ends w T F L R e W5):=by
      intro e W5 he hb5;have BT5:But F w W5:=(BT.out.trans bt2 (fun b g=>NW.out b g)).next hb5;by_cases hz:readyE t.mkts (accAt t k)=0
      ·refine .inl ⟨t,?_,by rw [he,hz],?_⟩
       ·have:=HR4.out;rw [if_pos hz] at this;exact this
       ·exact stepped_on NW.out BT.out ⟨G2,TA2'.out.below hb5,nw2,bt2.next hb5⟩
      ·exact .inr ⟨_,by have:=HR4.out;rw [if_neg hz] at this;exact this,he,hz,BT5⟩
     have RD':=hide RD;generalize readyE t.mkts (accAt t k)=rr at *;generalize (A4[k]'hkA)=am at *;obtain⟨i1,i2,i3,i4,i5,i6⟩:=am;dsimp only at c0 c1 c2 RD';have hkz:(k:Int)<(A4.length:Int):=by omega
     clear RD tv4 hm4 mf hst ht MV nw2 bt2 HR4 e33;go_wp2_with fail;refine RD'.out.mono ?_;rintro e W5 ⟨rfl,hb5⟩;have EE:=hide (EN.out _ W5 rfl hb5);clear RD' EN hb5 c0 c1 c2 t0;go_wp2;go_ret;exact EE.out
    ·have EE:Hid (Ends w T F L R (.returned (.int .i64 r)) W4):=.inr ⟨r,by have:=HR3.out;rw [hr] at this;exact this,rfl,hr0,BT.out.trans hb (fun b g=>NW.out b g)⟩;clear MV hr hb;go_wp2;go_ret;exact EE.out
   ·have OUT:Hid (Calls Tryz.prog 116 #[.pointer (some ⟨T,6,none⟩),.int .i64 n] W2.drew fun e w'=>e=.returned (.int .i64 (addE s.out n))/\But F W2 w'):=by
     have hd:Below W2.heap.size W2 W2.drew:=(Below.refl _ W2).drew;have:=out_any T F L s n W2.drew (TA2.out.below hd);rw [if_neg hae] at this;refine this.mono ?_;rintro e w' (⟨t,hR,-⟩ | ⟨r,hR,he,-,hb⟩)
     ·cases hR
     ·cases hR
      exact⟨he,(But.of_below hd).trans hb (fun _ g=>.inl g)⟩
    have HR3:Hid (R=.error (addE s.out n)):=by
     have:=HR2.out;rw [if_neg hae] at this;exact this
    generalize addE s.out n=ae at *;clear HR2;go_wp2_with fail;go_region_held3 (fun w'=>w'.cell? ⟨w.heap.size,3,none⟩=some (.int .i64 n)) (first | (with_reducible assumption) | exact e3) ((go_at_call 116;refine OUT.out.mono ?_;rintro e W3 ⟨rfl,hb3⟩;have e33:W3.cell? ⟨w.heap.size,3,none⟩=some (.int .i64 n):=hb3.cell NB.out e3));have EE:Hid (Ends w T F L R (.returned (.int .i64 ae)) W3):=.inr ⟨ae,HR3.out,rfl,hae,(But.of_below B2.out:But F w W2).trans hb3 (fun _ g=>.inl g)⟩;clear OUT e3 e33 hb3;go_wp2;go_ret;exact EE.out
 ·have EE:Hid (Ends w T F L R (.returned (.int .i64 pe)) W1):=.inr ⟨pe,by have:=HR.out;rw [if_neg (by rw [<- HPE.out];exact hpe),<- HPE.out] at this;exact this,rfl,hpe,.of_below B1.out⟩;clear HR;go_wp2;go_ret;exact EE.out
theorem find_zero {bids asks:List Odr}{id:Int}:findE bids asks id=0↔Right bids asks/\∃o,findIn id bids asks=some o:=by
 unfold findE;split
 ·rename_i h
  cases hf:findIn id bids asks with
  |none=>simp
  |some o=>simpa using bookErr_zero.1 h
 ·rename_i h;exact⟨fun e=>absurd e h,fun e=>absurd (bookErr_zero.2 e.1) h⟩
def RemY (bids asks:List Odr) (id:Int) (Y:World) (B:Nat) (p1:Option Addr) (n1 c1:Nat) (p2:Option Addr) (n2 c2:Nat):Prop :=
 findE bids asks id=0->n1=(without id bids).length/\n2=(without id asks).length/\OV Y p1 c1 (without id bids)/\OV Y p2 c2 (without id asks)/\(∀a,p1=some a->B<=a.block)/\∀a,p2=some a->B<=a.block
theorem remY_on {bids asks:List Odr}{id:Int}{w Y:World}{B C:Nat}{p1:Option Addr}{n1 c1:Nat}{p2:Option Addr}{n2 c2:Nat}{D:Nat->Prop}(h:RemY bids asks id w C p1 n1 c1 p2 n2 c2)(hb:But D w Y)(hC:∀a,C<=a->B<=a/\¬D a):RemY bids asks id Y B p1 n1 c1 p2 n2 c2:=fun he=>by
 obtain⟨h1,h2,o1,o2,z1,z2⟩:=h he;exact⟨h1,h2,ov_but o1 hb (.inr fun x hx=>(hC _ (z1 x hx)).2),ov_but o2 hb (.inr fun x hx=>(hC _ (z2 x hx)).2),fun a ha=>(hC _ (z1 a ha)).1,fun a ha=>(hC _ (z2 a ha)).1⟩
theorem remove_all (p p':Option Addr)(c c':Nat)(bids asks:List Odr)(id:Int)(w:World)(h:OV w p c bids)(h':OV w p' c' asks)(hR:Right bids asks) :
  Calls Tryz.prog 127 #[.agg #[.slice p bids.length c,.slice p' asks.length c'],.int .i64 id] w fun e w' =>
   ∃p1 n1 c1 p2 n2 c2,e=.returned (.tuple #[.agg #[.slice p1 n1 c1,.slice p2 n2 c2],odrV (findO bids asks id),.int .i64 (findE bids asks id)])/\Below w.heap.size w w'/\RemY bids asks id w' w.heap.size p1 n1 c1 p2 n2 c2:=by
 have hfew:=book_few hR;by_cases hm:findE bids asks id=0
 ·obtain⟨-,o,ho⟩:=find_zero.1 hm;refine(remove_ok p p' c c' bids asks id w h h' hR o ho).mono ?_;rintro e w' ⟨p1,c1,p2,c2,rfl,o1,o2,hb,z1,z2⟩;refine⟨p1,_,c1,p2,_,c2,?_,hb,fun _=>⟨rfl,rfl,o1,o2,z1,z2⟩⟩;unfold findO;rw [if_pos (bookErr_zero.2 hR),ho,hm];rfl
 ·refine(remove_bad p p' c c' bids asks id w h.row h'.row (by omega) (by omega) hm).mono ?_;rintro e w' ⟨rfl,hb⟩;refine⟨none,0,0,none,0,0,?_,hb,fun e=>absurd e hm⟩
  have:findO bids asks id=noOdr:=by
   unfold findO;rw [if_pos (bookErr_zero.2 hR)]
   cases hf:findIn id bids asks with
   |none=>rfl
   |some o=>exact absurd (find_zero.2 ⟨hR,o,hf⟩) hm
  rw [this]
theorem cancel_any (T:Nat)(F L:Nat->Prop)(s:Tn)(c:Cm)(w:World)(h:TA w T F L s)(hs:Str s)(hE:s.evs.length<=900000) :
  Calls Tryz.prog 89 #[turnP T,cmV c] w (Ends w T F L (cancelR s c.ac c.n)):=by
 have mixed:Tryz.prog.follows .mixedOrders=true:=by kernel_rfl
 obtain⟨W,hW⟩:∃W,W=w.alloc (cmO c):=⟨_,rfl⟩;have b0:Below w.heap.size w W:=by rw [hW];exact below_alloc w _
 have eB:W.heap[w.heap.size]? = some (cmO c):=by rw [hW];exact heap_alloc_new w _
 have HW:=hide hW;have B0:=hide b0;obtain⟨kind,ac,mkt,n,⟨o1,o2,o3,o4,o5⟩,how,red⟩:=c;dsimp only at eB HW ⊢;obtain⟨R,hR⟩:∃R,R=cancelR s ac n:=⟨_,rfl⟩;rw [<- hR];have R0:Hid (cancelL s ac n 0 (s.mkts.drop 0)=R):=by
  show cancelL s ac n 0 (s.mkts.drop 0)=R;rw [List.drop_zero,hR];rfl
 have TA0:=hide (h.below b0);have HTL:=hide h.lt;obtain⟨A,M,va,vm,ve,tv,hrw,hlt⟩:=h.below b0;have hMs:=tv.lenM;obtain⟨pm,cm,rfl,t1,-⟩:=tv.mrow hs;have hm1:0<M.length:=by rw [hMs];exact hs.m1
 obtain⟨gm,cm',e',hgF,fz,-,-,-,-⟩:=tv.atM hm1;cases e'
 have hm2:M.length<=2:=by rw [hMs];exact hs.m2
 have TV0:=hide tv;have HRW:=hide hrw;have HLT:=hide hlt;have HGF:=hide hgF;have HS:=hide hs;have HE:=hide hE;have EB:=hide eB;have HMS:=hide hMs;have hB:w.heap.size<W.heap.size:=(Array.getElem?_eq_some_iff.1 eB).1;clear hR hs hE hW b0 eB h tv hrw hlt hgF fz hMs hm1;go_enter Tryz.func89,Tryz.ntmps89;go_wp2_with (rw [<- HW.out]);clear HW;generalize hm:M.length=m at t1 hm2 ⊢;have HM:=hide hm;clear hm
 go_loopw [16] (fun i wr=>∃(k:Nat),k<=m/\i=.int .i64 k/\Hid (Below W.heap.size W wr)/\Hid (cancelL s ac n k (s.mkts.drop k)=R)) (fun i _=>m - (intOf i).toNat)
 case atStart=>exact⟨0,Nat.zero_le _,rfl,Below.refl _ _,R0⟩
 case round =>
  clear R0;obtain⟨k,hk,rfl,BW,RR⟩:=hrel;by_cases hlt:k<m
  ·have hltz:(k:Int)<(m:Int):=by omega
   have hkM:k<M.length:=by rw [HM.out];exact hlt
   have hks:k<s.mkts.length:=by rw [<- HMS.out];exact hkM
   have tvr:=TV0.out.below BW.out;obtain⟨gm',cm',e',hgF,fz,m0,m1,m2,m3⟩:=tvr.atM hkM;cases e';obtain⟨o1',o2',-,-⟩:=tvr.eachM _ (List.getElem_mem hkM);have hism:=tvr.isMkt hkM
   have fe1:(mktAt s k).1=mB (M[k]'hkM):=by rw [hism];rfl
   have fe2:(mktAt s k).2.1=mA (M[k]'hkM):=by rw [hism];rfl
   have hRt:=(HS.out.at hks).1;have hstep:R=if findE (mktAt s k).1 (mktAt s k).2.1 n=0/\oac (findO (mktAt s k).1 (mktAt s k).2.1 n)=ac then .ok (remR s k n (findO (mktAt s k).1 (mktAt s k).2.1 n)) else cancelL s ac n (k+1) (s.mkts.drop (k+1)):=by
    have:=RR.out;rw [List.drop_eq_getElem_cons hks] at this;unfold cancelL at this;rw [mktAt_get hks];exact this.symm
   have RM:Hid (∀Y,Below wr.heap.size wr Y->_):=fun Y hY=>remove_all (M[k]'hkM).1.1 (M[k]'hkM).2.1.1 (M[k]'hkM).1.2.1 (M[k]'hkM).2.1.2.1 (mB (M[k]'hkM)) (mA (M[k]'hkM)) n Y (o1'.below hY) (o2'.below hY) (by rw [<- fe1,<- fe2];exact hRt);rw [<- fe1] at RM m0;rw [<- fe2] at RM m1;obtain⟨fo,hfo⟩:∃fo,fo=findO (mktAt s k).1 (mktAt s k).2.1 n:=⟨_,rfl⟩;obtain⟨fe,hfe⟩:∃fe,fe=findE (mktAt s k).1 (mktAt s k).2.1 n:=⟨_,rfl⟩;rw [<- hfo,<- hfe] at hstep RM;obtain⟨y1,y2,y3,y4,y5⟩:=fo;dsimp only [oac] at hstep;generalize hpb:(M[k]'hkM).1.1=pb at *;generalize hcb:(M[k]'hkM).1.2.1=cb at *;generalize hpa:(M[k]'hkM).2.1.1=pa at *;generalize hca:(M[k]'hkM).2.1.2.1=ca at *;generalize mI (M[k]'hkM)=ix at *;generalize mL (M[k]'hkM)=la at *;obtain⟨W1,hW1⟩:∃W1,W1=wr.alloc (.cells #[.slice pb (mktAt s k).1.length cb,.slice pa (mktAt s k).2.1.length ca,.int .i64 ix,.int .i64 la] 96):=⟨_,rfl⟩;have bb1:Below wr.heap.size wr W1:=by rw [hW1];exact below_alloc wr _
   have e6:W1.heap[wr.heap.size]? = some (.cells #[.slice pb (mktAt s k).1.length cb,.slice pa (mktAt s k).2.1.length ca,.int .i64 ix,.int .i64 la] 96 (0,0)):=by rw [hW1];exact heap_alloc_new wr _
   have v0:=(blk_cell e6 0).1;have v1:=(blk_cell e6 1).1;simp only [List.getElem?_toArray,List.getElem?_cons_zero,List.getElem?_cons_succ] at v0 v1;have BW1:=BW.out.trans (bb1.mono BW.out.size);have w3:=(blk_cell (blk_below EB.out BW1) 3).1;simp only [List.getElem?_toArray,List.getElem?_cons_zero,List.getElem?_cons_succ] at w3;have RM1:=hide (RM.out W1 bb1);have HW1:=hide hW1;have BB1:=hide BW1;have HST:=hide hstep;have HFE:=hide hfe;have HFO:=hide hfo;have FE:=hide (And.intro fe1 fe2);clear fe1 fe2 RM hW1 bb1 e6 BW1 tvr hgF fz o1' o2' hism hRt hstep hfe hfo RR hpb hcb hpa hca;go_wp2_with (rw [<- HW1.out]);refine RM1.out.mono ?_;rintro e W2 ⟨p1,n1,c1,p2,n2,c2,rfl,b2,rem⟩;have B2:=hide (BB1.out.trans (b2.mono BB1.out.size));have eB2:=blk_below EB.out B2.out;obtain⟨V,hV⟩:∃V,V=(W2.alloc (.cells #[.slice p1 n1 c1,.slice p2 n2 c2] 94)).alloc (.cells #[.int .i64 y1,.int .i64 y2,.int .i64 y3,.int .i64 y4,.int .i64 y5] 26):=⟨_,rfl⟩;have bv:Below W2.heap.size W2 V:=by rw [hV];exact Ac.below_alloc2 W2 _ _
   have eb:V.heap[W2.heap.size]? = some (.cells #[.slice p1 n1 c1,.slice p2 n2 c2] 94 (0,0)):=by
    rw [hV];exact blk_below (heap_alloc_new W2 _) (Ac.below_alloc _ _)
   have eo:V.heap[W2.heap.size+1]? = some (.cells #[.int .i64 y1,.int .i64 y2,.int .i64 y3,.int .i64 y4,.int .i64 y5] 26 (0,0)):=by
    rw [hV,show W2.heap.size+1=(W2.alloc (.cells #[.slice p1 n1 c1,.slice p2 n2 c2] 94)).heap.size from by simp];exact heap_alloc_new _ _
   have bV:=B2.out.trans (bv.mono B2.out.size);have d1:=(blk_cell (blk_below eB2 bv) 1).1;have g1:=(blk_cell eo 1).1;simp only [List.getElem?_toArray,List.getElem?_cons_zero,List.getElem?_cons_succ] at d1 g1;have BV:=hide bV;have HV:=hide hV;have EBk:=hide eb;have EO:=hide eo;have RY:Hid (RemY (mktAt s k).1 (mktAt s k).2.1 n V W.heap.size p1 n1 c1 p2 n2 c2):=remY_on (D:=fun _=>False) rem (.of_below bv) (fun a ha=>⟨Nat.le_trans BB1.out.size ha,id⟩);clear v0 v1 w3 RM1 HW1 m0 m1 m2 m3 rem b2 eB2 hV bv eb eo bV BB1;by_cases hfe:fe=0
   ·by_cases hy:y2=ac
    ·have hRR:R=.ok (remR s k n (y1,y2,y3,y4,y5)):=by
      have:=HST.out;rw [if_pos ⟨hfe,hy⟩] at this;exact this
     have HRR:=hide hRR;have HY:=hide hy;have hyb:(y2 == ac)=true:=by simpa using hy
     obtain⟨hn1,hn2,w1,w2,z1,z2⟩:=RY.out (by rw [<- HFE.out];exact hfe);subst hfe;clear HST hRR hy RY;have tvV:=TV0.out.below BV.out;have offF:∀{p:Option Addr} (l:List Odr),(∀a,p=some a->W.heap.size<=a.block)->Off F p l:=fun l hp=>.inr fun x hx f=>by have:=hp x hx;have:=HTL.out _ f;omega
     have offL:∀{p:Option Addr} (l:List Odr),(∀a,p=some a->W.heap.size<=a.block)->Off L p l:=fun l hp=>.inr fun x hx f=>by have:=hp x hx;have:=HLT.out _ f;omega
     obtain⟨gm',cm',e',hgF,fz,m0,m1,-,-⟩:=tvV.atM hkM;cases e'
     have t1':V.cell? ⟨T,1,none⟩=some (.slice (some ⟨gm,0,none⟩) m cm):=by rw [<- HM.out,tvV.cell];rfl
     have f0:=fz (k*4);have f1:=fz (k*4+1);have x0:=(blk_cell EBk.out 0).1;have x1:=(blk_cell EBk.out 1).1;simp only [List.getElem?_toArray,List.getElem?_cons_zero,List.getElem?_cons_succ] at x0 x1;have PB:=tvV.putBook hkM w1 w2 (offF _ z1) (offF _ z2);rw [<- hn1,<- hn2] at PB;have BVw:Below w.heap.size w V:=B0.out.trans (BV.out.mono B0.out.size);have BZ:But F w (((V.setCell ⟨gm,k*4,none⟩ (.slice p1 n1 c1)).setCell ⟨gm,k*4+1,none⟩ (.slice p2 n2 c2)).drew):=But.drew (((But.of_below BVw).setCell (p:=⟨gm,k*4,none⟩) (.inl hgF) _).setCell (p:=⟨gm,k*4+1,none⟩) (.inl hgF) _);have BYZ:But F V (((V.setCell ⟨gm,k*4,none⟩ (.slice p1 n1 c1)).setCell ⟨gm,k*4+1,none⟩ (.slice p2 n2 c2)).drew):=But.drew (((But.refl F V).setCell (p:=⟨gm,k*4,none⟩) (.inl hgF) _).setCell (p:=⟨gm,k*4+1,none⟩) (.inl hgF) _);have NF:¬F (W2.heap.size+1):=fun f=>by have:=HTL.out _ f;have:=B2.out.size;have:=B0.out.size;omega
     have eZ:=blk_but EO.out BYZ NF;have tZ:=PB.below (Below.refl _ _).drew;have rZ:=HRW.out.setM k (m:=((p1,c1,without n (mktAt s k).1),(p2,c2,without n (mktAt s k).2.1),mI (M[k]'hkM),mL (M[k]'hkM))) (offL _ z1) (offL _ z2);obtain⟨Z,hZ⟩:∃Z,Z=((V.setCell ⟨gm,k*4,none⟩ (.slice p1 n1 c1)).setCell ⟨gm,k*4+1,none⟩ (.slice p2 n2 c2)).drew:=⟨_,rfl⟩;rw [<- hZ] at BZ BYZ eZ tZ;have GN:=hide (gone_any T F _ A _ va _ ve k y5 (y1,y2,y3,y4,y5) Z tZ (by have:=HE.out;show s.evs.length<=_;omega));have s0:=(blk_cell eZ 0).1;have s1:=(blk_cell eZ 1).1;have s2:=(blk_cell eZ 2).1;have s3:=(blk_cell eZ 3).1;have s4:=(blk_cell eZ 4).1;simp only [List.getElem?_toArray,List.getElem?_cons_zero,List.getElem?_cons_succ] at s0 s1 s2 s3 s4;have HZ:=hide hZ;have BZh:=hide BZ;have RZ:=hide rZ;have LZ:Hid (∀b,L b->b<Z.heap.size):=fun b hb=>Nat.lt_of_lt_of_le (HLT.out b hb) (Nat.le_trans BV.out.size BYZ.size);clear hn1 hn2 w1 w2 z1 z2 tvV offF offL hgF fz PB BVw BZ BYZ NF eZ tZ rZ hZ t1;go_wp2_with (rw [<- HV.out]);clear HV;go_region;rw [<- HZ.out];clear HZ t1' m0 m1 f0 f1 x0 x1;go_wp2_with fail;refine GN.out.mono ?_;rintro e V3 ⟨rfl,g,cap,tv3,hg,b3⟩;have EE:Hid (Ends w T F L R (.returned (.int .i64 0)) V3):=by
      refine .inl ⟨_,HRR.out,rfl,_,⟨_,_,_,_,_,tv3,RZ.out,fun b hb=>Nat.lt_of_lt_of_le (LZ.out b hb) b3.size⟩,?_,BZh.out.trans b3 (fun b f=>.inl f)⟩;rintro b (hb | rfl)
      ·exact .inl hb
      ·exact hg.imp id (Nat.le_trans BZh.out.size)
     clear tv3 hg b3 GN s0 s1 s2 s3 s4;go_wp2;go_ret;exact EE.out
    ·have hyb:(y2 == ac)=false:=by simpa using hy
     subst hfe;go_wp2_with (rw [<- HV.out]);clear HV;go_wp2;go_roundw
     case rel =>
      refine⟨k+1,hlt,by go_num,BV.out,?_⟩;have:=HST.out;rw [if_neg (fun h=>hy h.2)] at this;exact this.symm
     case measure=>simp [intOf];omega
   ·go_wp2_with (rw [<- HV.out]);clear HV;go_wp2;go_roundw
    case rel =>
     refine⟨k+1,hlt,by go_num,BV.out,?_⟩;have:=HST.out;rw [if_neg (fun h=>hfe h.1)] at this;exact this.symm
    case measure=>simp [intOf];omega
  ·have hkm:k=m:=by omega
   have hR5:R=.error 5:=by
    have:=RR.out;rw [List.drop_eq_nil_of_le (by rw [<- HMS.out,HM.out];omega)] at this;exact this.symm
   have EE:Hid (Ends w T F L R (.returned (.int .i64 5)) wr):=.inr ⟨5,hR5,rfl,by decide,.of_below (B0.out.trans (BW.out.mono B0.out.size))⟩;clear hkm hR5 RR t1;go_wp2;go_ret;exact EE.out
end Go.Proofs.YthdjfhnhjiageaaGreatDoor.Vn
