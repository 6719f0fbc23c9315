import Derived.Test.YthdjfhnhjiageaaGreatDoorG23
set_option maxHeartbeats 8000000
set_option maxRecDepth 100000
namespace Go.Proofs.YthdjfhnhjiageaaGreatDoor.Vn
open Go.RowKit Num Fix AcP FuP Bk Rm Ac Go.Sort Go.Maps Mix RkP
abbrev cmO (c:Cm):Obj:=.cells #[.int .i64 c.kind,.int .i64 c.ac,.int .i64 c.mkt,.int .i64 c.n,.int .i64 c.o.1,.int .i64 c.o.2.1,.int .i64 c.o.2.2.1,.int .i64 c.o.2.2.2.1,.int .i64 c.o.2.2.2.2,.int .i64 c.how,.bool c.red] 28
theorem hasMarket_ta (T:Nat)(F L:Nat->Prop)(s:Tn)(mk:Int)(w:World)(h:TA w T F L s) :
  Calls Tryz.prog 128 #[turnP T,.int .i64 mk] w fun e w'=>e=.returned (.bool (hasM s mk))/\w'=w:=by
 obtain⟨A,M,va,vm,ve,h,-,-⟩:=h;exact hasMarket_any T F s A M va vm ve mk w h
theorem index_any (T:Nat)(F L:Nat->Prop)(s:Tn)(c:Cm)(w:World)(h:TA w T F L s) :
  Calls Tryz.prog 90 #[turnP T,cmV c] w (Ends w T F L (indexR s c.mkt c.n)):=by
 obtain⟨W,hW⟩:∃W,W=w.alloc (cmO c):=⟨_,rfl⟩;have b0:Below w.heap.size w W:=by rw [hW];exact below_alloc w _
 have HM:=hide (hasMarket_ta T F L s c.mkt W (h.below b0));have a2:W.cell? ⟨w.heap.size,2,none⟩=some (.int .i64 c.mkt):=by rw [hW];exact new_cell w _ _ 2 _ rfl
 have a3:W.cell? ⟨w.heap.size,3,none⟩=some (.int .i64 c.n):=by rw [hW];exact new_cell w _ _ 3 _ rfl
 have HW:=hide hW;have B0:=hide b0;obtain⟨kind,ac,mkt,n,⟨o1,o2,o3,o4,o5⟩,how,red⟩:=c;dsimp only at *;obtain⟨R,hR⟩:∃R,R=indexR s mkt n:=⟨_,rfl⟩;rw [<- hR];unfold indexR at hR;have TW:=hide (h.below b0);cases hm:hasM s mkt
 focus
  rw [hm] at HM;have EE:Hid (Ends w T F L R (.returned (.int .i64 5)) W):=.inr ⟨5,by rw [hR,if_neg (by simp [hm])],rfl,by decide,.of_below B0.out⟩;clear hR hm h b0 hW TW
 rotate_left;focus
  rw [hm] at HM;rw [if_pos hm] at hR;have hmm:=hasM_iff.1 hm;by_cases h1:n<1
  ·have EE:Hid (Ends w T F L R (.returned (.int .i64 3)) W):=.inr ⟨3,by rw [hR,if_pos (.inl h1)],rfl,by decide,.of_below B0.out⟩;clear hR hm h b0 hW TW hmm;go_enter Tryz.func90,Tryz.ntmps90;go_wp2_with (first | rw [<- HW.out] | (go_at_call 128;refine HM.out.mono ?_;rintro e w' ⟨rfl,rfl⟩));go_ret;exact EE.out
  by_cases h2:10000<n
  ·have EE:Hid (Ends w T F L R (.returned (.int .i64 3)) W):=.inr ⟨3,by rw [hR,if_pos (.inr h2)],rfl,by decide,.of_below B0.out⟩;clear hR hm h b0 hW TW hmm;go_enter Tryz.func90,Tryz.ntmps90;go_wp2_with (first | rw [<- HW.out] | (go_at_call 128;refine HM.out.mono ?_;rintro e w' ⟨rfl,rfl⟩));go_ret;exact EE.out
  rw [if_neg (by omega)] at hR;obtain⟨A,M,va,vm,ve,tv,hrw,hlt⟩:=TW.out;obtain⟨k,hk⟩:∃k:Nat,mkt=k:=⟨mkt.toNat,by omega⟩;subst hk;have hkM:k<M.length:=by rw [tv.lenM];omega
  obtain⟨gm,cm,rfl,hgF,fz,m0,m1,m2,m3⟩:=tv.atM hkM;have t1:W.cell? ⟨T,1,none⟩=some (.slice (some ⟨gm,0,none⟩) M.length cm):=by rw [tv.cell];rfl
  have f2:=fz (k*4+2);have hkz:(k:Int)<(M.length:Int):=by omega
  have EE:Hid (Ends w T F L R (.returned (.int .i64 0)) (W.setCell ⟨gm,k*4+2,none⟩ (.int .i64 n)).drew):=by
   refine .inl ⟨_,hR,rfl,F,⟨_,_,_,_,_,(tv.putIdx hkM n).below (Below.refl _ _).drew,hrw.setM k (show Off L (M[k]'hkM).1.1 (mB (M[k]'hkM)) from (hrw.m _ (List.getElem_mem hkM)).1) (show Off L (M[k]'hkM).2.1.1 (mA (M[k]'hkM)) from (hrw.m _ (List.getElem_mem hkM)).2),fun b hb=>by have:=hlt b hb;simpa [World.setCell] using this⟩,newer_refl _ _,?_⟩;exact((But.of_below B0.out).setCell (p:=⟨gm,k*4+2,none⟩) (.inl hgF) _).drew
  clear hrw hlt hR hm h b0 hW TW hmm tv fz m0 m1 m3 hgF
 rotate_left;all_goals
  go_enter Tryz.func90,Tryz.ntmps90;go_wp2_with (first | rw [<- HW.out] | (go_at_call 128;refine HM.out.mono ?_;rintro e w' ⟨rfl,rfl⟩))
 ·go_ret;exact EE.out
 ·go_region;go_wp2;go_ret;exact EE.out
theorem cover_any (T:Nat)(F L:Nat->Prop)(s:Tn)(i:Nat)(w:World)(h:TA w T F L s)(hi:i<s.accs.length)(hm:money (accAt s i).2.1=true)(hn:rng s.ins)(hE:s.evs.length<=1000000) :
  Calls Tryz.prog 179 #[turnP T,.int .i64 (i:Nat)] w (Ends w T F L (coverR s i)):=by
 obtain⟨A,M,va,vm,ve,tv,hrw,hlt⟩:=h;have hkA:i<A.length:=by rw [tv.lenA];exact hi
 obtain⟨g,cap,rfl,hF,hcap,hmax,fz,c0,c1,c2⟩:=tv.atA hkA;have t0:w.cell? ⟨T,0,none⟩=some (.slice (some ⟨g,0,none⟩) A.length cap):=by rw [tv.cell];rfl
 have t2:w.cell? ⟨T,2,none⟩=some (.int .i64 s.ins):=by rw [tv.cell];rfl
 have q2:w.frozen? ⟨T,2,none⟩=false:=tv.frozen 2;obtain⟨R,hR⟩:∃R,R=coverR s i:=⟨_,rfl⟩;rw [<- hR];unfold coverR at hR;have hisa:=tv.isAcc hkA;have hm':=money_true hm;rw [hisa] at hR hm';dsimp only at hR hm';generalize (A[i]'hkA).bal=b at *;have hz:(i:Int)<(A.length:Int):=by omega
 by_cases h0:-b<=0
 ·rw [if_pos h0] at hR;have EE:Hid (Ends w T F L R (.returned (.int .i64 0)) w):=.inl ⟨s,hR,rfl,F,⟨_,_,_,_,_,tv,hrw,hlt⟩,newer_refl _ _,.refl _ _⟩;obtain⟨hb1,hb2⟩:=hm';clear hrw hlt hR tv hF hcap hmax fz c0 c2 hisa hm hn hE hi hkA;go_enter Tryz.func179,Tryz.ntmps179;go_wp2;go_ret;exact EE.out
 ·rw [if_neg h0] at hR;obtain⟨m,hmn⟩:∃m,m=min (-b) s.ins:=⟨_,rfl⟩;rw [<- hmn] at hR;have tv2:=tv.setIns (s.ins - m);have MV:=hide (move_any T F L { s with ins:=s.ins - m } i m (w.setCell ⟨T,2,none⟩ (.int .i64 (s.ins - m))) ⟨_,_,_,_,_,tv2,hrw,fun b hb=>by have:=hlt b hb;simpa [World.setCell] using this⟩ hi hE);rw [<- hR] at MV;have BB:Hid (But F w (w.setCell ⟨T,2,none⟩ (.int .i64 (s.ins - m)))):=(But.refl F w).setCell (p:=⟨T,2,none⟩) (.inl tv.own) _;have HMN:=hide hmn;generalize s.ins=v at *;obtain⟨hb1,hb2⟩:=hm';obtain⟨hn1,hn2⟩:=hn;have hmb:0<=m/\m<=v:=by omega
  obtain⟨hmb1,hmb2⟩:=hmb;have hmin:min (-b) v=m:=hmn.symm;clear hrw hlt hR tv tv2 hF hcap hmax fz c0 c2 hisa hm hE hi hkA hmn;go_enter Tryz.func179,Tryz.ntmps179;go_wp2_with fail;refine MV.out.mono ?_;rintro e w1 hE;have EE:=hide (ends_on (newer_refl w F) BB.out hE);rcases hE with⟨t,hR3,rfl,-⟩ | ⟨r,hR3,rfl,hr0,-⟩
  ·go_wp2;go_ret;exact EE.out
  ·go_wp2;go_ret;exact EE.out
theorem TV.posn {w:World}{T:Nat}{F:Nat->Prop}{s:Tn}{A:List Am}{M:List Mkt}{va vm ve:Value}(h:TV w T F s A M va vm ve)(hs:Str s){mk:Nat}(hmk:mk<s.mkts.length){k:Nat}(hk:k<A.length) :
  ∃b off,(A[k]'hk).p=some ⟨b,off,none⟩/\mk<(A[k]'hk).n/\w.cell? ⟨b,off+mk,none⟩=some (.int .i64 (posAt (accAt s k) mk))/\-1000<=posAt (accAt s k) mk/\posAt (accAt s k) mk<=1000:=by
 have hk':k<s.accs.length:=by rw [<- h.lenA];exact hk
 have ha:=accErr_ok (hs.accOk hk');have hisa:=h.isAcc hk;have hm:=(h.each _ (List.getElem_mem hk)).1;rw [hisa] at ha ⊢;dsimp only at ha ⊢;have hlen:mk<(A[k]'hk).pos.length:=by have:=ha.2.2.1;omega
 have hb:=betw_true (all_get ha.2.2.2.2 hlen);rcases hm.row with e | ⟨b,off,e,hc⟩
 ·rw [e] at hlen;simp at hlen
 ·exact⟨b,off,e,by rw [<- hm.len];exact hlen,hc mk hlen,hb.1,hb.2⟩
theorem sg_bd {sg x:Int}(hsg:sg=1\/sg = -1)(h1:-1000<=x)(h2:x<=1000):-1000<=sg*x/\sg*x<=1000:=by
 rcases hsg with e | e<;>(rw [e];omega)
theorem mostOf_any (T:Nat)(F L:Nat->Prop)(s:Tn)(mk:Nat)(sg:Int)(w:World)(h:TA w T F L s)(hs:Str s)(hmk:mk<s.mkts.length)(hsg:sg=1\/sg = -1) :
  Calls Tryz.prog 224 #[turnP T,.int .i64 (mk:Nat),.int .i64 sg] w fun e w'=>e=.returned (.int .i64 (mostOf mk sg s:Nat))/\Below w.heap.size w w':=by
 have mixed:Tryz.prog.follows .mixedOrders=true:=by kernel_rfl
 obtain⟨A,M,va,vm,ve,tv,-,-⟩:=h;have hA:=tv.lenA;have hfew:=hs.few;obtain⟨p,c,rfl,t0,-⟩:=tv.place hs 0;obtain⟨R,hR⟩:∃R,R=mostOf mk sg s:=⟨_,rfl⟩;rw [<- hR];have R0:Hid (mostL mk sg s 0 (s.accs.drop 0) 0=R):=by
  show mostL mk sg s 0 (s.accs.drop 0) 0=R;rw [hR,List.drop_zero];rfl
 have TV0:=hide tv;have HS:=hide hs;have HM:=hide hmk;have HG:=hide hsg;obtain⟨n,hn⟩:∃n,n=A.length:=⟨_,rfl⟩;rw [<- hn] at t0;have HN:=hide hn;have HA:=hide hA;have hn8:n<=8:=by omega
 clear hR tv hs hmk hsg hn hA hfew;go_enter Tryz.func224,Tryz.ntmps224;go_wp2
 go_loopw [7,16] (fun b i wr=>∃(k best:Nat),k<=n/\b=.int .i64 best/\i=.int .i64 k/\Hid (Below w.heap.size w wr)/\Hid (mostL mk sg s k (s.accs.drop k) best=R)/\(k=0\/best<n)/\(k=0->best=0)) (fun _ i _=>n - (intOf i).toNat)
 case atStart=>exact⟨0,0,Nat.zero_le _,rfl,rfl,Below.refl _ _,R0,.inl rfl,fun _=>rfl⟩
 case round =>
  clear R0;obtain⟨k,best,hk,rfl,rfl,BW,RR,hbst,hb0⟩:=hrel;by_cases hlt:k<n
  ·have hltz:(k:Int)<(n:Int):=by omega
   have hkA:k<A.length:=by rw [<- HN.out];exact hlt
   have hbn:best<n:=by
    rcases hbst with e | e
    ·rw [hb0 e];omega
    ·exact e
   have hbA:best<A.length:=by rw [<- HN.out];exact hbn
   have hbz:(best:Int)<(n:Int):=by omega
   have tvr:=TV0.out.below BW.out;obtain⟨b1,off1,e1,l1,c1,x1,x2⟩:=tvr.posn HS.out HM.out hkA;obtain⟨b2,off2,e2,l2,c2,y1,y2⟩:=tvr.posn HS.out HM.out hbA;obtain⟨g,cap,eg,-,-,-,-,k0,k1,k2⟩:=tvr.atA hkA;obtain⟨g',cap',eg',-,-,-,-,m0,m1,m2⟩:=tvr.atA hbA;cases eg;cases eg';rw [e1] at k2;rw [e2] at m2;have u0:wr.cell? ⟨T,0,none⟩=some (.slice (some ⟨g,0,none⟩) n c):=(BW.out.cell (World.block_lt_of_cell? _ _ t0)).trans t0
   have hstep:R=mostL mk sg s (k+1) (s.accs.drop (k+1)) (if sg*posAt (accAt s best) mk<sg*posAt (accAt s k) mk then k else best):=by
    have hks:k<s.accs.length:=by rw [<- HA.out];exact hkA
    have:=RR.out;rw [List.drop_eq_getElem_cons hks] at this;unfold mostL at this;rw [accAt_get hks];exact this.symm
   have gx:=sg_bd HG.out x1 x2;have gy:=sg_bd HG.out y1 y2;generalize posAt (accAt s k) mk=px at *;generalize posAt (accAt s best) mk=py at *;obtain⟨u,hu⟩:∃u,sg*px=u:=⟨_,rfl⟩;obtain⟨v,hv⟩:∃v,sg*py=v:=⟨_,rfl⟩;rw [hu] at gx hstep;rw [hv] at gy hstep;have wu:IntKind.i64.wrap u=u:=IntWalk.i64_in u ⟨by omega,by omega⟩;have wv:IntKind.i64.wrap v=v:=IntWalk.i64_in v ⟨by omega,by omega⟩;have HST:=hide hstep;generalize (A[k]'hkA).id=i1 at *;generalize (A[k]'hkA).bal=i2 at *;generalize (A[k]'hkA).n=n1 at *;generalize (A[k]'hkA).c=n2 at *;generalize (A[best]'hbA).n=n3 at *;generalize (A[best]'hbA).c=n4 at *;have l1z:(mk:Int)<(n1:Int):=by omega
   have l2z:(mk:Int)<(n3:Int):=by omega
   have cc0:=cell_old k0 (accO i1 i2 (some ⟨b1,off1,none⟩) n1 n2);obtain⟨W,hW⟩:∃W,W=wr.alloc (accO i1 i2 (some ⟨b1,off1,none⟩) n1 n2):=⟨_,rfl⟩;have v0:W.cell? ⟨T,0,none⟩=some (.slice (some ⟨g,0,none⟩) n c):=by rw [hW];exact cell_old u0 _
   have v1:W.cell? ⟨wr.heap.size,2,none⟩=some (.slice (some ⟨b1,off1,none⟩) n1 n2):=by rw [hW];exact new_cell wr _ _ 2 _ rfl
   have v2:W.cell? ⟨b1,off1+mk,none⟩=some (.int .i64 px):=by rw [hW];exact cell_old c1 _
   have v3:W.cell? ⟨b2,off2+mk,none⟩=some (.int .i64 py):=by rw [hW];exact cell_old c2 _
   have v4:W.cell? ⟨g,best*3+2,none⟩=some (.slice (some ⟨b2,off2,none⟩) n3 n4):=by rw [hW];exact cell_old m2 _
   have BWW:Hid (Below w.heap.size w W):=by rw [hW];exact BW.out.alloc BW.out.size _
   have HW:=hide hW;clear hW tvr e1 e2 hstep cc0 c1 c2 RR m0 m1;by_cases huv:v<u
   ·go_wp2_with (rw [<- HW.out]);go_quiet (fail);go_wp2;go_roundw
    case rel =>
     refine⟨k+1,k,hlt,rfl,by go_num,BWW.out.trans ⟨rfl,rfl,rfl,Nat.le_refl _,fun _ _=>rfl⟩,?_,.inr hlt,fun e=>by omega⟩;have:=HST.out;rw [if_pos huv] at this;exact this.symm
    case measure=>simp [intOf];omega
   ·go_wp2_with (rw [<- HW.out]);go_quiet (fail);go_wp2;go_roundw
    case rel =>
     refine⟨k+1,best,hlt,rfl,by go_num,BWW.out.trans ⟨rfl,rfl,rfl,Nat.le_refl _,fun _ _=>rfl⟩,?_,.inr hbn,fun e=>by omega⟩;have:=HST.out;rw [if_neg (by omega)] at this;exact this.symm
    case measure=>simp [intOf];omega
  ·have hkn:k=n:=by omega
   have ER:Hid (best=R):=by
    have:=RR.out;rw [List.drop_eq_nil_of_le (by rw [<- HA.out,<- HN.out,hkn];exact Nat.le_refl _)] at this;exact this
   subst hkn;clear RR;go_wp2;go_ret;exact⟨by rw [<- ER.out];rfl,BW.out⟩
end Go.Proofs.YthdjfhnhjiageaaGreatDoor.Vn
