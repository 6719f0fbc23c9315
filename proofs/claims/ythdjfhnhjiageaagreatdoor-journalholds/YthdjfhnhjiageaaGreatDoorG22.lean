import Derived.Test.YthdjfhnhjiageaaGreatDoorG21
set_option maxHeartbeats 8000000
set_option maxRecDepth 100000
namespace Go.Proofs.YthdjfhnhjiageaaGreatDoor.Vn
open Go.RowKit Num Fix AcP FuP Bk Rm Ac Go.Sort Go.Maps Mix
def FOk (s:Tn) (L:List Fil):Prop:=∀f,f∈L->hasA s.accs f.2.2.1=true/\hasA s.accs f.2.2.2.1=true/\(0<=f.2.2.2.2.2.1/\f.2.2.2.2.2.1<=10000)/\-1000000<=f.2.2.2.2.1*f.2.2.2.2.2.2/\f.2.2.2.2.1*f.2.2.2.2.2.2<=1000000
structure FInvK (w:World) (T:Nat) (F K:Nat->Prop) (mk:Nat) (free:Bool) (L:List Fil) (R:Res) (k:Nat) (wr:World) (s:Tn) (G:Nat->Prop):Prop where
 ta:TA wr T G K s
 nw:Newer w F G
 bt:But F w wr
 st:Str s
 hm:mk<s.mkts.length
 ok:FOk s L
 ev:s.evs.length+(L.length - k)<=1000000
 all:fillsR mk free (L.drop k) s=R
theorem fee_fact (y1 y2 ma ta sd pr qt:Int)(W:World):Calls Tryz.prog 124 #[.int .i64 qt,.int .i64 pr] W fun e w'=>e=.returned (.tuple #[.int .i64 (feeOf false (y1,y2,ma,ta,sd,pr,qt)).1,.int .i64 (feeOf false (y1,y2,ma,ta,sd,pr,qt)).2])/\Below W.heap.size W w':=by
 refine(fee_any qt pr W).mono ?_;rintro e w' ⟨he,k,rfl⟩;exact⟨he,⟨rfl,rfl,rfl,Nat.le_refl _,fun _ _=>rfl⟩⟩
theorem free_fact (y1 y2 ma ta sd pr qt:Int)(W:World):Calls Tryz.prog 210 #[.int .i64 qt,.int .i64 pr] W fun e w'=>e=.returned (.tuple #[.int .i64 (feeOf true (y1,y2,ma,ta,sd,pr,qt)).1,.int .i64 (feeOf true (y1,y2,ma,ta,sd,pr,qt)).2])/\Below W.heap.size W w':=by
 refine(noFee_any qt pr W).mono ?_;rintro e w' ⟨he,rfl⟩;exact⟨he,Below.refl _ _⟩
theorem fill_fee (T:Nat)(F K:Nat->Prop)(s:Tn)(mk:Nat)(p:Option Addr)(n c:Nat)(L:List Fil)(w:World)(h:TA w T F K s)(hs:Str s)(hmk:mk<s.mkts.length)(hok:FOk s L)(hev:s.evs.length+L.length<=1000000)(hl:L.length=n)(hrow:FRow w p L)(hoff:Off F p L) :
  Calls Tryz.prog 123 #[turnP T,.int .i64 (mk:Nat),.slice p n c,.func (.func 124) #[] #[]] w (Ends w T F K (fillsR mk false L s)):=by
 have eg:∀args w,(callFunc 124 args).run Tryz.prog w=.ok (.enter 124 args) w:=enters_of Tryz.func124 (by kernel_rfl) rfl;obtain⟨R,hR⟩:∃R,R=fillsR mk false L s:=⟨_,rfl⟩;rw [<- hR];have I0:FInvK w T F K mk false L R 0 w s F:=⟨h,newer_refl _ _,.refl _ _,hs,hmk,hok,by omega,by rw [List.drop_zero];exact hR.symm⟩;have hnb:n<=1000000:=by omega
 have FR:=hide hrow;have OF:=hide hoff;have HL:=hide hl;have I0':=hide I0;clear h hs hmk hok hev hR I0 hrow hoff hl;go_enter Tryz.func123,Tryz.ntmps123;go_wp2
 go_loopw [15] (fun i wr=>∃(k:Nat) (s:Tn) (G:Nat->Prop),k<=n/\i=.int .i64 k/\Hid (FInvK w T F K mk false L R k wr s G)) (fun i _=>n - (intOf i).toNat)
 case atStart=>exact⟨0,s,F,Nat.zero_le _,rfl,I0'⟩
 case round =>
  clear I0';obtain⟨k,s,G,hk,rfl,I⟩:=hrel;by_cases hlt:k<n
  ·have hltz:(k:Int)<(n:Int):=by omega
   have hkL:k<L.length:=by rw [HL.out];exact hlt
   have hall:=I.out.all;rw [List.drop_eq_getElem_cons hkL] at hall;obtain⟨f1,f2,f3,f4,f5⟩:=I.out.ok _ (List.getElem_mem hkL);rcases frow_but FR.out I.out.bt OF.out with e | ⟨b,off,e,hc⟩
   ·rw [e] at hkL;simp at hkL
   cases e
   have hcc:∀i,i<7->wr.cell? ⟨b,off+k*7+i,none⟩=(encF (L[k]'hkL))[i]?:=fun i hi=>by
    have:=flat_get (enc:=encF) (z:=7) (fun _=>rfl) L k hkL i hi;have h2:∃u,(encF (L[k]'hkL))[i]? = some u:=by
     have:i<(encF (L[k]'hkL)).length:=hi;exact⟨_,List.getElem?_eq_getElem this⟩
    obtain⟨u,hu⟩:=h2;rw [hu] at this ⊢;rw [Nat.add_assoc];exact hc _ _ this
   generalize hf:(L[k]'hkL)=f at *;obtain⟨y1,y2,ma,ta,sd,pr,qt⟩:=f;have c0:=hcc 0 (by omega);have c1:=hcc 1 (by omega);have c2:=hcc 2 (by omega);have c3:=hcc 3 (by omega);have c4:=hcc 4 (by omega);have c5:=hcc 5 (by omega);have c6:=hcc 6 (by omega);simp only [encF,List.getElem?_cons_zero,List.getElem?_cons_succ,Nat.add_zero] at c0 c1 c2 c3 c4 c5 c6;dsimp only at f1 f2 f3 f4 f5;have HC:=hide hc;have HA:=hide hall;have H1:=hide f1;have H2:=hide f2;have H3:=hide f3;have H4:=hide f4;have H5:=hide f5;have b0:=(Below.refl wr.heap.size wr).alloc (Nat.le_refl _) (.cells #[.int .i64 y1,.int .i64 y2,.int .i64 ma,.int .i64 ta,.int .i64 sd,.int .i64 pr,.int .i64 qt] 62);obtain⟨W,hW⟩:∃W,W=wr.alloc (.cells #[.int .i64 y1,.int .i64 y2,.int .i64 ma,.int .i64 ta,.int .i64 sd,.int .i64 pr,.int .i64 qt] 62):=⟨_,rfl⟩;have e1:∀i v,[Value.int .i64 y1,.int .i64 y2,.int .i64 ma,.int .i64 ta,.int .i64 sd,.int .i64 pr,.int .i64 qt][i]? = some v->W.cell? ⟨wr.heap.size,i,none⟩=some v:=fun i v hv=>by rw [hW];exact new_cell wr _ _ i v (by simpa using hv)
   have a0:=e1 0 (.int .i64 y1) rfl;have a1:=e1 1 (.int .i64 y2) rfl;have a2:=e1 2 (.int .i64 ma) rfl;have a3:=e1 3 (.int .i64 ta) rfl;have a4:=e1 4 (.int .i64 sd) rfl;have a5:=e1 5 (.int .i64 pr) rfl;have a6:=e1 6 (.int .i64 qt) rfl;rw [<- hW] at b0;have hBW:wr.heap.size<W.heap.size:=by rw [hW];simp
   have hB:¬G wr.heap.size:=fun g=>by have:=I.out.ta.lt _ g;omega
   have B0:=hide b0;have HW:=hide hW;have HF:=hide hf;obtain⟨fv,hfv⟩:∃fv,fv=(feeOf false (y1,y2,ma,ta,sd,pr,qt)).1:=⟨_,rfl⟩;obtain⟨fe,hfe'⟩:∃fe,fe=(feeOf false (y1,y2,ma,ta,sd,pr,qt)).2:=⟨_,rfl⟩;have FB:Hid (0<=fv/\fv<=1000000000000000):=by
    have x1:=(feeOf_is false (y1,y2,ma,ta,sd,pr,qt)).2;have x2:=fee_le false (y1,y2,ma,ta,sd,pr,qt);rw [<- hfv] at x1 x2;exact⟨x1,by omega⟩
   have FD:Hid (feeOf false (y1,y2,ma,ta,sd,pr,qt)=(fv,fe)):=by rw [hfv,hfe'];rfl
   have FE:Hid (Calls Tryz.prog 124 #[.int .i64 qt,.int .i64 pr] W fun e w'=>e=.returned (.tuple #[.int .i64 fv,.int .i64 fe])/\Below W.heap.size W w'):=by
    rw [hfv,hfe'];exact fee_fact y1 y2 ma ta sd pr qt W
   clear hfv hfe' hcc hc hall f1 f2 f3 f4 f5 e1 hW b0 hf;go_wp2_with (rw [<- HW.out]);refine FE.out.mono ?_;rintro e W1 ⟨rfl,b1⟩;have a0:=(b1.cell (World.block_lt_of_cell? _ _ a0)).trans a0;have a1:=(b1.cell (World.block_lt_of_cell? _ _ a1)).trans a1;have a2:=(b1.cell (World.block_lt_of_cell? _ _ a2)).trans a2;have a3:=(b1.cell (World.block_lt_of_cell? _ _ a3)).trans a3;have a4:=(b1.cell (World.block_lt_of_cell? _ _ a4)).trans a4;have a5:=(b1.cell (World.block_lt_of_cell? _ _ a5)).trans a5;have a6:=(b1.cell (World.block_lt_of_cell? _ _ a6)).trans a6;have B1:=hide (B0.out.trans (b1.mono (Nat.le_of_lt hBW)));have hB1:wr.heap.size<W1.heap.size:=Nat.lt_of_lt_of_le hBW b1.size;have BW1:Hid (But F w W1):=I.out.bt.next B1.out;have HA1:Hid (R=if fe=0 then (match tradeR s mk (y1,y2,ma,ta,sd,pr,qt) fv with | .ok t=>fillsR mk false (L.drop (k+1)) ((t.setL mk pr).tell (evFilled mk (y1,y2,ma,ta,sd,pr,qt))) | .error e=>.error e) else .error fe):=by
    have:=HA.out;unfold fillsR at this;rw [FD.out] at this;rw [Int.toNat_natCast] at this;exact this.symm
   clear b1 c0 c1 c2 c3 c4 c5 c6 HA FE B0;by_cases hfe:fe=0
   ·have HA2:Hid (R=match tradeR s mk (y1,y2,ma,ta,sd,pr,qt) fv with | .ok t=>fillsR mk false (L.drop (k+1)) ((t.setL mk pr).tell (evFilled mk (y1,y2,ma,ta,sd,pr,qt))) | .error e=>.error e):=by
     have:=HA1.out;rw [if_pos hfe] at this;exact this
    clear HA1;have T1:=hide (trade_any T G K s mk (y1,y2,ma,ta,sd,pr,qt) fv W1 (I.out.ta.below B1.out) I.out.st H1.out H2.out FB.out.1 FB.out.2 H4.out H5.out);subst hfe;go_wp2_with fail;refine T1.out.mono ?_;rintro e W2 (⟨u,hu,rfl,G1,tA1,nG1,bG1⟩ | ⟨r,hr,rfl,hr0,hb⟩)
    ·have K1:=hide (trade_facts hu I.out.st H1.out H2.out FB.out.1);have hR2:R=fillsR mk false (L.drop (k+1)) ((u.setL mk pr).tell (evFilled mk (y1,y2,ma,ta,sd,pr,qt))):=by
      have:=HA2.out;rw [hu] at this;exact this
     have HR2:=hide hR2;have z0:=bG1.cell hB a0;have z1:=bG1.cell hB a1;have z2:=bG1.cell hB a2;have z3:=bG1.cell hB a3;have z4:=bG1.cell hB a4;have z5:=bG1.cell hB a5;have z6:=bG1.cell hB a6;have hBG1:¬G1 wr.heap.size:=newer_not nG1 hB1 hB;have N1:Hid (Newer w F G1):=fun b hb=>by
      rcases nG1 b hb with g | g
      ·exact I.out.nw b g
      ·exact .inr (Nat.le_trans I.out.bt.size (Nat.le_trans B1.out.size g))
     have BW2:Hid (But F w W2):=BW1.out.trans bG1 (fun b g=>(I.out.nw b g));have hB2:wr.heap.size<W2.heap.size:=Nat.lt_of_lt_of_le hB1 bG1.size;obtain⟨A,M,va,vm,ve,tv,hrw,hlt⟩:=tA1;have HRW:=hide hrw;have HLT:=hide hlt;clear hrw hlt;have hmM:mk<M.length:=by rw [tv.lenM,K1.out.kin.len];exact I.out.hm
     obtain⟨gm,cm,rfl,hgF,fz,-,-,-,m3⟩:=tv.atM hmM;have t1:W2.cell? ⟨T,1,none⟩=some (.slice (some ⟨gm,0,none⟩) M.length cm):=by rw [tv.cell];rfl
     have fz3:=fz (mk*4+3);have TL:=hide (tv.putLast hmM pr);have hmz:(mk:Int)<(M.length:Int):=by omega
     have hgB:¬wr.heap.size=gm:=fun e=>hBG1 (by rw [e];exact hgF);have hgT:¬T=gm:=fun e=>own_type tv.rowM tv.turn (by decide) gm rfl e.symm;have EV:Hid (u.evs.length<=1000000):=by
      show u.evs.length<=1000000;rw [K1.out.evs];have:=I.out.ev;omega
     have BW3:Hid (But F w ((W2.setCell ⟨gm,mk*4+3,none⟩ (.int .i64 pr)).drew)):=(BW2.out.setCell (p:=⟨gm,mk*4+3,none⟩) (N1.out gm hgF) _).drew;clear tv bG1 nG1 hR2 hu T1 HA2 a0 a1 a2 a3 a4 a5 a6 fz hgF;go_wp2_with fail;go_region;obtain⟨W3,hW3⟩:∃W3,W3=(W2.setCell ⟨gm,mk*4+3,none⟩ (.int .i64 pr)).drew:=⟨_,rfl⟩;rw [<- hW3] at BW3 ⊢;have y0:W3.cell? ⟨wr.heap.size,0,none⟩=some (.int .i64 y1):=by rw [hW3];exact(cell_set_far W2 _ _ hgB).trans z0
     have y1':W3.cell? ⟨wr.heap.size,1,none⟩=some (.int .i64 y2):=by rw [hW3];exact(cell_set_far W2 _ _ hgB).trans z1
     have y2':W3.cell? ⟨wr.heap.size,2,none⟩=some (.int .i64 ma):=by rw [hW3];exact(cell_set_far W2 _ _ hgB).trans z2
     have y3:W3.cell? ⟨wr.heap.size,3,none⟩=some (.int .i64 ta):=by rw [hW3];exact(cell_set_far W2 _ _ hgB).trans z3
     have y4:W3.cell? ⟨wr.heap.size,4,none⟩=some (.int .i64 sd):=by rw [hW3];exact(cell_set_far W2 _ _ hgB).trans z4
     have y5:W3.cell? ⟨wr.heap.size,5,none⟩=some (.int .i64 pr):=by rw [hW3];exact(cell_set_far W2 _ _ hgB).trans z5
     have y6:W3.cell? ⟨wr.heap.size,6,none⟩=some (.int .i64 qt):=by rw [hW3];exact(cell_set_far W2 _ _ hgB).trans z6
     have TL3:TV W3 T G1 (u.setL mk pr) A (M.set mk ((M[mk]'hmM).1,(M[mk]'hmM).2.1,mI (M[mk]'hmM),pr)) va (.slice (some ⟨gm,0,none⟩) M.length cm) ve:=by rw [hW3];exact TL.out.below (Below.refl _ _).drew
     have TE:=hide (tell_any T G1 (u.setL mk pr) A _ va _ ve (evFilled mk (y1,y2,ma,ta,sd,pr,qt)) W3 TL3 EV.out);have SZ3:Hid (w.heap.size<=W3.heap.size):=BW3.out.size;have SZ23:Hid (W2.heap.size<=W3.heap.size):=by rw [hW3];show W2.heap.size<=_;simp [World.setCell]
     clear hW3 TL TL3 z0 z1 z2 z3 z4 z5 z6 t1 fz3 m3;go_wp2_with fail;refine TE.out.mono ?_;rintro e W4 ⟨rfl,g',cap',tv4,hg4,bt4⟩;have IN:Hid (FInvK w T F K mk false L R (k+1) W4 ((u.setL mk pr).tell (evFilled mk (y1,y2,ma,ta,sd,pr,qt))) (fun b=>G1 b\/b=g')):=by
      refine⟨⟨_,_,_,_,_,tv4,HRW.out.setM mk (show Off K (M[mk]'hmM).1.1 (mB (M[mk]'hmM)) from (HRW.out.m _ (List.getElem_mem hmM)).1) (show Off K (M[mk]'hmM).2.1.1 (mA (M[mk]'hmM)) from (HRW.out.m _ (List.getElem_mem hmM)).2),fun b hb=>Nat.lt_of_lt_of_le (HLT.out b hb) (Nat.le_trans SZ23.out bt4.size)⟩,fun b hb=>?_,BW3.out.trans bt4 N1.out,?_,?_,?_,?_,HR2.out.symm⟩
      ·rcases hb with hb | rfl
       ·exact N1.out b hb
       ·rcases hg4 with g | g
        ·exact N1.out _ g
        ·exact .inr (Nat.le_trans SZ3.out g)
      ·exact(K1.out.str.setL (by rw [K1.out.kin.len];exact I.out.hm) H3.out).tell _
      ·show mk<(u.mkts.set mk _).length;rw [List.length_set,K1.out.kin.len];exact I.out.hm
      ·intro f' hf';have:=I.out.ok f' hf';show hasA u.accs _=true/\hasA u.accs _=true/\_;rw [has_ids K1.out.kin.ids,has_ids K1.out.kin.ids];exact this
      ·have:=I.out.ev;show (u.evs++[_]).length+_<=_;rw [List.length_append,K1.out.evs,List.length_singleton];have:=HL.out;omega
     clear tv4 hg4 bt4 TE HR2 y0 y1' y2' y3 y4 y5 y6;go_wp2;go_roundw
     case rel=>exact⟨k+1,_,_,hlt,by go_num,IN⟩
     case measure=>simp [intOf];omega
    ·have EE:Hid (Ends w T F K R (.returned (.int .i64 r)) W2):=.inr ⟨r,by have:=HA2.out;rw [hr] at this;exact this,rfl,hr0,BW1.out.trans hb (fun b g=>(I.out.nw b g))⟩;clear T1 hr hb a0 a1 a2 a3 a4 a5 a6 HA2;go_wp2;go_ret;exact EE.out
   ·have EE:Hid (Ends w T F K R (.returned (.int .i64 fe)) W1):=.inr ⟨fe,by have:=HA1.out;rw [if_neg hfe] at this;exact this,rfl,hfe,BW1.out⟩;clear a0 a1 a2 a3 a4 a5 a6 HA1;go_wp2;go_ret;exact EE.out
  ·have hkn:k=n:=by omega
   have EE:Hid (Ends w T F K R (.returned (.int .i64 0)) wr):=by
    have hd:L.drop k=[]:=List.drop_eq_nil_of_le (by rw [HL.out,hkn];exact Nat.le_refl _);have:=I.out.all;rw [hd] at this;exact .inl ⟨s,this.symm,rfl,G,I.out.ta,I.out.nw,I.out.bt⟩
   subst hkn;go_wp2;go_ret;exact EE.out
theorem fill_free (T:Nat)(F K:Nat->Prop)(s:Tn)(mk:Nat)(p:Option Addr)(n c:Nat)(L:List Fil)(w:World)(h:TA w T F K s)(hs:Str s)(hmk:mk<s.mkts.length)(hok:FOk s L)(hev:s.evs.length+L.length<=1000000)(hl:L.length=n)(hrow:FRow w p L)(hoff:Off F p L) :
  Calls Tryz.prog 123 #[turnP T,.int .i64 (mk:Nat),.slice p n c,.func (.func 210) #[] #[]] w (Ends w T F K (fillsR mk true L s)):=by
 have eg:∀args w,(callFunc 210 args).run Tryz.prog w=.ok (.enter 210 args) w:=enters_of Tryz.func210 (by kernel_rfl) rfl;obtain⟨R,hR⟩:∃R,R=fillsR mk true L s:=⟨_,rfl⟩;rw [<- hR];have I0:FInvK w T F K mk true L R 0 w s F:=⟨h,newer_refl _ _,.refl _ _,hs,hmk,hok,by omega,by rw [List.drop_zero];exact hR.symm⟩;have hnb:n<=1000000:=by omega
 have FR:=hide hrow;have OF:=hide hoff;have HL:=hide hl;have I0':=hide I0;clear h hs hmk hok hev hR I0 hrow hoff hl;go_enter Tryz.func123,Tryz.ntmps123;go_wp2
 go_loopw [15] (fun i wr=>∃(k:Nat) (s:Tn) (G:Nat->Prop),k<=n/\i=.int .i64 k/\Hid (FInvK w T F K mk true L R k wr s G)) (fun i _=>n - (intOf i).toNat)
 case atStart=>exact⟨0,s,F,Nat.zero_le _,rfl,I0'⟩
 case round =>
  clear I0';obtain⟨k,s,G,hk,rfl,I⟩:=hrel;by_cases hlt:k<n
  ·have hltz:(k:Int)<(n:Int):=by omega
   have hkL:k<L.length:=by rw [HL.out];exact hlt
   have hall:=I.out.all;rw [List.drop_eq_getElem_cons hkL] at hall;obtain⟨f1,f2,f3,f4,f5⟩:=I.out.ok _ (List.getElem_mem hkL);rcases frow_but FR.out I.out.bt OF.out with e | ⟨b,off,e,hc⟩
   ·rw [e] at hkL;simp at hkL
   cases e
   have hcc:∀i,i<7->wr.cell? ⟨b,off+k*7+i,none⟩=(encF (L[k]'hkL))[i]?:=fun i hi=>by
    have:=flat_get (enc:=encF) (z:=7) (fun _=>rfl) L k hkL i hi;have h2:∃u,(encF (L[k]'hkL))[i]? = some u:=by
     have:i<(encF (L[k]'hkL)).length:=hi;exact⟨_,List.getElem?_eq_getElem this⟩
    obtain⟨u,hu⟩:=h2;rw [hu] at this ⊢;rw [Nat.add_assoc];exact hc _ _ this
   generalize hf:(L[k]'hkL)=f at *;obtain⟨y1,y2,ma,ta,sd,pr,qt⟩:=f;have c0:=hcc 0 (by omega);have c1:=hcc 1 (by omega);have c2:=hcc 2 (by omega);have c3:=hcc 3 (by omega);have c4:=hcc 4 (by omega);have c5:=hcc 5 (by omega);have c6:=hcc 6 (by omega);simp only [encF,List.getElem?_cons_zero,List.getElem?_cons_succ,Nat.add_zero] at c0 c1 c2 c3 c4 c5 c6;dsimp only at f1 f2 f3 f4 f5;have HC:=hide hc;have HA:=hide hall;have H1:=hide f1;have H2:=hide f2;have H3:=hide f3;have H4:=hide f4;have H5:=hide f5;have b0:=(Below.refl wr.heap.size wr).alloc (Nat.le_refl _) (.cells #[.int .i64 y1,.int .i64 y2,.int .i64 ma,.int .i64 ta,.int .i64 sd,.int .i64 pr,.int .i64 qt] 62);obtain⟨W,hW⟩:∃W,W=wr.alloc (.cells #[.int .i64 y1,.int .i64 y2,.int .i64 ma,.int .i64 ta,.int .i64 sd,.int .i64 pr,.int .i64 qt] 62):=⟨_,rfl⟩;have e1:∀i v,[Value.int .i64 y1,.int .i64 y2,.int .i64 ma,.int .i64 ta,.int .i64 sd,.int .i64 pr,.int .i64 qt][i]? = some v->W.cell? ⟨wr.heap.size,i,none⟩=some v:=fun i v hv=>by rw [hW];exact new_cell wr _ _ i v (by simpa using hv)
   have a0:=e1 0 (.int .i64 y1) rfl;have a1:=e1 1 (.int .i64 y2) rfl;have a2:=e1 2 (.int .i64 ma) rfl;have a3:=e1 3 (.int .i64 ta) rfl;have a4:=e1 4 (.int .i64 sd) rfl;have a5:=e1 5 (.int .i64 pr) rfl;have a6:=e1 6 (.int .i64 qt) rfl;rw [<- hW] at b0;have hBW:wr.heap.size<W.heap.size:=by rw [hW];simp
   have hB:¬G wr.heap.size:=fun g=>by have:=I.out.ta.lt _ g;omega
   have B0:=hide b0;have HW:=hide hW;have HF:=hide hf;obtain⟨fv,hfv⟩:∃fv,fv=(feeOf true (y1,y2,ma,ta,sd,pr,qt)).1:=⟨_,rfl⟩;obtain⟨fe,hfe'⟩:∃fe,fe=(feeOf true (y1,y2,ma,ta,sd,pr,qt)).2:=⟨_,rfl⟩;have FB:Hid (0<=fv/\fv<=1000000000000000):=by
    have x1:=(feeOf_is true (y1,y2,ma,ta,sd,pr,qt)).2;have x2:=fee_le true (y1,y2,ma,ta,sd,pr,qt);rw [<- hfv] at x1 x2;exact⟨x1,by omega⟩
   have FD:Hid (feeOf true (y1,y2,ma,ta,sd,pr,qt)=(fv,fe)):=by rw [hfv,hfe'];rfl
   have FE:Hid (Calls Tryz.prog 210 #[.int .i64 qt,.int .i64 pr] W fun e w'=>e=.returned (.tuple #[.int .i64 fv,.int .i64 fe])/\Below W.heap.size W w'):=by
    rw [hfv,hfe'];exact free_fact y1 y2 ma ta sd pr qt W
   clear hfv hfe' hcc hc hall f1 f2 f3 f4 f5 e1 hW b0 hf;go_wp2_with (rw [<- HW.out]);refine FE.out.mono ?_;rintro e W1 ⟨rfl,b1⟩;have a0:=(b1.cell (World.block_lt_of_cell? _ _ a0)).trans a0;have a1:=(b1.cell (World.block_lt_of_cell? _ _ a1)).trans a1;have a2:=(b1.cell (World.block_lt_of_cell? _ _ a2)).trans a2;have a3:=(b1.cell (World.block_lt_of_cell? _ _ a3)).trans a3;have a4:=(b1.cell (World.block_lt_of_cell? _ _ a4)).trans a4;have a5:=(b1.cell (World.block_lt_of_cell? _ _ a5)).trans a5;have a6:=(b1.cell (World.block_lt_of_cell? _ _ a6)).trans a6;have B1:=hide (B0.out.trans (b1.mono (Nat.le_of_lt hBW)));have hB1:wr.heap.size<W1.heap.size:=Nat.lt_of_lt_of_le hBW b1.size;have BW1:Hid (But F w W1):=I.out.bt.next B1.out;have HA1:Hid (R=if fe=0 then (match tradeR s mk (y1,y2,ma,ta,sd,pr,qt) fv with | .ok t=>fillsR mk true (L.drop (k+1)) ((t.setL mk pr).tell (evFilled mk (y1,y2,ma,ta,sd,pr,qt))) | .error e=>.error e) else .error fe):=by
    have:=HA.out;unfold fillsR at this;rw [FD.out] at this;rw [Int.toNat_natCast] at this;exact this.symm
   clear b1 c0 c1 c2 c3 c4 c5 c6 HA FE B0;by_cases hfe:fe=0
   ·have HA2:Hid (R=match tradeR s mk (y1,y2,ma,ta,sd,pr,qt) fv with | .ok t=>fillsR mk true (L.drop (k+1)) ((t.setL mk pr).tell (evFilled mk (y1,y2,ma,ta,sd,pr,qt))) | .error e=>.error e):=by
     have:=HA1.out;rw [if_pos hfe] at this;exact this
    clear HA1;have T1:=hide (trade_any T G K s mk (y1,y2,ma,ta,sd,pr,qt) fv W1 (I.out.ta.below B1.out) I.out.st H1.out H2.out FB.out.1 FB.out.2 H4.out H5.out);subst hfe;go_wp2_with fail;refine T1.out.mono ?_;rintro e W2 (⟨u,hu,rfl,G1,tA1,nG1,bG1⟩ | ⟨r,hr,rfl,hr0,hb⟩)
    ·have K1:=hide (trade_facts hu I.out.st H1.out H2.out FB.out.1);have hR2:R=fillsR mk true (L.drop (k+1)) ((u.setL mk pr).tell (evFilled mk (y1,y2,ma,ta,sd,pr,qt))):=by
      have:=HA2.out;rw [hu] at this;exact this
     have HR2:=hide hR2;have z0:=bG1.cell hB a0;have z1:=bG1.cell hB a1;have z2:=bG1.cell hB a2;have z3:=bG1.cell hB a3;have z4:=bG1.cell hB a4;have z5:=bG1.cell hB a5;have z6:=bG1.cell hB a6;have hBG1:¬G1 wr.heap.size:=newer_not nG1 hB1 hB;have N1:Hid (Newer w F G1):=fun b hb=>by
      rcases nG1 b hb with g | g
      ·exact I.out.nw b g
      ·exact .inr (Nat.le_trans I.out.bt.size (Nat.le_trans B1.out.size g))
     have BW2:Hid (But F w W2):=BW1.out.trans bG1 (fun b g=>(I.out.nw b g));have hB2:wr.heap.size<W2.heap.size:=Nat.lt_of_lt_of_le hB1 bG1.size;obtain⟨A,M,va,vm,ve,tv,hrw,hlt⟩:=tA1;have HRW:=hide hrw;have HLT:=hide hlt;clear hrw hlt;have hmM:mk<M.length:=by rw [tv.lenM,K1.out.kin.len];exact I.out.hm
     obtain⟨gm,cm,rfl,hgF,fz,-,-,-,m3⟩:=tv.atM hmM;have t1:W2.cell? ⟨T,1,none⟩=some (.slice (some ⟨gm,0,none⟩) M.length cm):=by rw [tv.cell];rfl
     have fz3:=fz (mk*4+3);have TL:=hide (tv.putLast hmM pr);have hmz:(mk:Int)<(M.length:Int):=by omega
     have hgB:¬wr.heap.size=gm:=fun e=>hBG1 (by rw [e];exact hgF);have hgT:¬T=gm:=fun e=>own_type tv.rowM tv.turn (by decide) gm rfl e.symm;have EV:Hid (u.evs.length<=1000000):=by
      show u.evs.length<=1000000;rw [K1.out.evs];have:=I.out.ev;omega
     have BW3:Hid (But F w ((W2.setCell ⟨gm,mk*4+3,none⟩ (.int .i64 pr)).drew)):=(BW2.out.setCell (p:=⟨gm,mk*4+3,none⟩) (N1.out gm hgF) _).drew;clear tv bG1 nG1 hR2 hu T1 HA2 a0 a1 a2 a3 a4 a5 a6 fz hgF;go_wp2_with fail;go_region;obtain⟨W3,hW3⟩:∃W3,W3=(W2.setCell ⟨gm,mk*4+3,none⟩ (.int .i64 pr)).drew:=⟨_,rfl⟩;rw [<- hW3] at BW3 ⊢;have y0:W3.cell? ⟨wr.heap.size,0,none⟩=some (.int .i64 y1):=by rw [hW3];exact(cell_set_far W2 _ _ hgB).trans z0
     have y1':W3.cell? ⟨wr.heap.size,1,none⟩=some (.int .i64 y2):=by rw [hW3];exact(cell_set_far W2 _ _ hgB).trans z1
     have y2':W3.cell? ⟨wr.heap.size,2,none⟩=some (.int .i64 ma):=by rw [hW3];exact(cell_set_far W2 _ _ hgB).trans z2
     have y3:W3.cell? ⟨wr.heap.size,3,none⟩=some (.int .i64 ta):=by rw [hW3];exact(cell_set_far W2 _ _ hgB).trans z3
     have y4:W3.cell? ⟨wr.heap.size,4,none⟩=some (.int .i64 sd):=by rw [hW3];exact(cell_set_far W2 _ _ hgB).trans z4
     have y5:W3.cell? ⟨wr.heap.size,5,none⟩=some (.int .i64 pr):=by rw [hW3];exact(cell_set_far W2 _ _ hgB).trans z5
     have y6:W3.cell? ⟨wr.heap.size,6,none⟩=some (.int .i64 qt):=by rw [hW3];exact(cell_set_far W2 _ _ hgB).trans z6
     have TL3:TV W3 T G1 (u.setL mk pr) A (M.set mk ((M[mk]'hmM).1,(M[mk]'hmM).2.1,mI (M[mk]'hmM),pr)) va (.slice (some ⟨gm,0,none⟩) M.length cm) ve:=by rw [hW3];exact TL.out.below (Below.refl _ _).drew
     have TE:=hide (tell_any T G1 (u.setL mk pr) A _ va _ ve (evFilled mk (y1,y2,ma,ta,sd,pr,qt)) W3 TL3 EV.out);have SZ3:Hid (w.heap.size<=W3.heap.size):=BW3.out.size;have SZ23:Hid (W2.heap.size<=W3.heap.size):=by rw [hW3];show W2.heap.size<=_;simp [World.setCell]
     clear hW3 TL TL3 z0 z1 z2 z3 z4 z5 z6 t1 fz3 m3;go_wp2_with fail;refine TE.out.mono ?_;rintro e W4 ⟨rfl,g',cap',tv4,hg4,bt4⟩;have IN:Hid (FInvK w T F K mk true L R (k+1) W4 ((u.setL mk pr).tell (evFilled mk (y1,y2,ma,ta,sd,pr,qt))) (fun b=>G1 b\/b=g')):=by
      refine⟨⟨_,_,_,_,_,tv4,HRW.out.setM mk (show Off K (M[mk]'hmM).1.1 (mB (M[mk]'hmM)) from (HRW.out.m _ (List.getElem_mem hmM)).1) (show Off K (M[mk]'hmM).2.1.1 (mA (M[mk]'hmM)) from (HRW.out.m _ (List.getElem_mem hmM)).2),fun b hb=>Nat.lt_of_lt_of_le (HLT.out b hb) (Nat.le_trans SZ23.out bt4.size)⟩,fun b hb=>?_,BW3.out.trans bt4 N1.out,?_,?_,?_,?_,HR2.out.symm⟩
      ·rcases hb with hb | rfl
       ·exact N1.out b hb
       ·rcases hg4 with g | g
        ·exact N1.out _ g
        ·exact .inr (Nat.le_trans SZ3.out g)
      ·exact(K1.out.str.setL (by rw [K1.out.kin.len];exact I.out.hm) H3.out).tell _
      ·show mk<(u.mkts.set mk _).length;rw [List.length_set,K1.out.kin.len];exact I.out.hm
      ·intro f' hf';have:=I.out.ok f' hf';show hasA u.accs _=true/\hasA u.accs _=true/\_;rw [has_ids K1.out.kin.ids,has_ids K1.out.kin.ids];exact this
      ·have:=I.out.ev;show (u.evs++[_]).length+_<=_;rw [List.length_append,K1.out.evs,List.length_singleton];have:=HL.out;omega
     clear tv4 hg4 bt4 TE HR2 y0 y1' y2' y3 y4 y5 y6;go_wp2;go_roundw
     case rel=>exact⟨k+1,_,_,hlt,by go_num,IN⟩
     case measure=>simp [intOf];omega
    ·have EE:Hid (Ends w T F K R (.returned (.int .i64 r)) W2):=.inr ⟨r,by have:=HA2.out;rw [hr] at this;exact this,rfl,hr0,BW1.out.trans hb (fun b g=>(I.out.nw b g))⟩;clear T1 hr hb a0 a1 a2 a3 a4 a5 a6 HA2;go_wp2;go_ret;exact EE.out
   ·have EE:Hid (Ends w T F K R (.returned (.int .i64 fe)) W1):=.inr ⟨fe,by have:=HA1.out;rw [if_neg hfe] at this;exact this,rfl,hfe,BW1.out⟩;clear a0 a1 a2 a3 a4 a5 a6 HA1;go_wp2;go_ret;exact EE.out
  ·have hkn:k=n:=by omega
   have EE:Hid (Ends w T F K R (.returned (.int .i64 0)) wr):=by
    have hd:L.drop k=[]:=List.drop_eq_nil_of_le (by rw [HL.out,hkn];exact Nat.le_refl _);have:=I.out.all;rw [hd] at this;exact .inl ⟨s,this.symm,rfl,G,I.out.ta,I.out.nw,I.out.bt⟩
   subst hkn;go_wp2;go_ret;exact EE.out
open RkP
theorem marksL_is:∀(M:List Mkt)(L:List Int),marksFrom L M=marksL L (M.map mpOf)
 |[],L=>rfl
 |m::M,L=>by
  unfold marksFrom;rw [List.map_cons];unfold marksL;have e:mMark m=markR (mpOf m).1 (mpOf m).2.1 (mpOf m).2.2.1 (mpOf m).2.2.2:=rfl;rw [e,marksL_is M]
theorem marksP_is (M:List Mkt):marksR M=marksP (M.map mpOf):=by
 unfold marksR marksP;rw [List.length_map,marksL_is]
theorem book_few {b a:List Odr}(h:Right b a):b.length<=40/\a.length<=40:=by
 have:=h.few;omega
theorem TV.mrow {w:World}{T:Nat}{F:Nat->Prop}{s:Tn}{A:List Am}{M:List Mkt}{va vm ve:Value}(h:TV w T F s A M va vm ve)(hs:Str s):∃p c,vm=.slice p M.length c/\w.cell? ⟨T,1,none⟩=some (.slice p M.length c)/\MRow w p M:=by
 have hr:=h.rowM;have hok:∀m,m∈M->mOk w m:=fun m hm=>by
  obtain⟨o1,o2,-,-⟩:=h.eachM m hm;have hmem:mpOf m∈s.mkts:=by rw [<- h.mkts];exact List.mem_map_of_mem hm
  have hR:=bookErr_zero.1 (marketErr_ok (hs.mkt _ hmem)).1;have:=book_few hR;have e1:(mpOf m).1=mB m:=rfl;have e2:(mpOf m).2.1=mA m:=rfl;rw [e1,e2] at this;exact⟨o1.row,o2.row,by omega,by omega⟩
 have hok':∀j,j<M.length->mOk w M[j]!:=fun j hj=>by rw [getElem!_pos M j hj];exact hok _ (List.getElem_mem hj)
 rcases hr.2 with⟨rfl,e⟩ | ⟨g,cap,cur,rfl,hb,hg,hn,hm,hsz,ht⟩
 ·exact⟨none,0,by rw [e],by rw [h.cell,e];rfl,.inl (List.eq_nil_of_length_eq_zero e),hok'⟩
 ·refine⟨_,_,rfl,by rw [h.cell];rfl,.inr ⟨g,0,rfl,fun j hj i v hv=>?_⟩,hok'⟩;have hi:i<4:=(List.getElem?_eq_some_iff.1 hv).1;rw [getElem!_pos M j hj] at hv;rw [Nat.zero_add,hr.cellAt (j*4+i) (by omega),flat_get mCells_len M j hj i hi];exact hv
theorem ready_any (T:Nat)(F L:Nat->Prop)(s:Tn)(id bal:Int)(p:Option Addr)(n c:Nat)(pos:List Int)(w:World)(h:TA w T F L s)(hs:Str s)(hL:Rk.Laid w)(hl:pos.length=n)(hn:n<=140737488351232)(hr:Row w p pos) :
  Calls Tryz.prog 119 #[turnP T,accV id bal p n c] w fun e w'=>e=.returned (.int .i64 (readyE s.mkts (id,bal,pos)))/\Below w.heap.size w w':=by
 obtain⟨A,M,va,vm,ve,h,-,-⟩:=h;obtain⟨W,hW⟩:∃W,W=w.alloc (accO id bal p n c):=⟨_,rfl⟩;have b0:Below w.heap.size w W:=by rw [hW];exact below_alloc w _
 obtain⟨pm,cm,rfl,t1,hm⟩:=(h.below b0).mrow hs;have MK:=marks_any pm M.length cm M W rfl hm;rw [marksP_is,h.mkts] at MK;have a0:W.cell? ⟨w.heap.size,0,none⟩=some (.int .i64 id):=by rw [hW];exact new_cell w _ _ 0 _ rfl
 have a1:W.cell? ⟨w.heap.size,1,none⟩=some (.int .i64 bal):=by rw [hW];exact new_cell w _ _ 1 _ rfl
 have a2:W.cell? ⟨w.heap.size,2,none⟩=some (.slice p n c):=by rw [hW];exact new_cell w _ _ 2 _ rfl
 have SO:Hid (∀X v,Below W.heap.size W X->X.ownsRow W.heap.size 3 1 v (marksP s.mkts).1.length ((marksP s.mkts).1.map (Value.int .i64))->Calls Tryz.prog 133 #[accV id bal p n c,v] X fun e w'=>e=.returned (.tuple #[.bool (soundR id bal pos (marksP s.mkts).1).1,.bool (soundR id bal pos (marksP s.mkts).1).2.1,.int .i64 (soundR id bal pos (marksP s.mkts).1).2.2])/\Below X.heap.size X w'):=by
  intro X v hb ho;obtain⟨px,cx,rfl,h1,-,hrow,-⟩:=own_am ho;exact Rk.sound_any id bal p px n c _ cx pos _ X hl h1 hn ((hL.next b0).next hb) (row_below (row_below hr b0) hb) hrow
 have hW2:=hide hW;have B0:=hide b0;have MK':=hide MK;obtain⟨r,hr'⟩:∃r,r=readyE s.mkts (id,bal,pos):=⟨_,rfl⟩;rw [<- hr'];unfold readyE at hr';dsimp only at hr';generalize marksP s.mkts=P at *;obtain⟨mks,me⟩:=P;dsimp only at SO hr' MK';generalize soundR id bal pos mks=S at *;obtain⟨sb,sg,se⟩:=S;dsimp only at SO hr';have HR:=hide hr';clear h hs hL hl hn hr hm b0 hr' hW MK;go_enter Tryz.func119,Tryz.ntmps119;go_wp2_with (rw [<- hW2.out]);refine MK'.out.mono ?_;rintro e X ⟨v,rfl,ho,hb⟩;have B1:=hide (B0.out.trans (hb.mono B0.out.size));have d0:=(hb.cell (World.block_lt_of_cell? _ _ a0)).trans a0;have d1:=(hb.cell (World.block_lt_of_cell? _ _ a1)).trans a1;have d2:=(hb.cell (World.block_lt_of_cell? _ _ a2)).trans a2;have SX:=hide (SO.out X v hb ho);clear a0 a1 a2 hb ho SO MK';by_cases hme:me=0
 ·have HR1:Hid (r=if se=0 then (if sb=true then 0 else 8) else se):=by
   have:=HR.out;rw [if_pos hme] at this;exact this
  subst hme;clear HR;go_wp2_with fail;refine SX.out.mono ?_;rintro e Y ⟨rfl,hb⟩;have B2:=hide (B1.out.trans (hb.mono B1.out.size));clear hb SX d0 d1 d2;by_cases hse:se=0
  ·have HR2:Hid (r=if sb=true then 0 else 8):=by
    have:=HR1.out;rw [if_pos hse] at this;exact this
   subst hse;clear HR1;cases sb
   ·have HR3:Hid (r=8):=HR2.out;clear HR2;go_wp2;go_ret;exact⟨by rw [HR3.out];rfl,B2.out⟩
   ·have HR3:Hid (r=0):=HR2.out;clear HR2;go_wp2;go_ret;exact⟨by rw [HR3.out];rfl,B2.out⟩
  ·have HR2:Hid (r=se):=by
    have:=HR1.out;rw [if_neg hse] at this;exact this
   clear HR1;go_wp2;go_ret;exact⟨by rw [HR2.out];rfl,B2.out⟩
 ·have HR1:Hid (r=me):=by
   have:=HR.out;rw [if_neg hme] at this;exact this
  clear HR SX d0 d1 d2;go_wp2;go_ret;exact⟨by rw [HR1.out];rfl,B1.out⟩
end Go.Proofs.YthdjfhnhjiageaaGreatDoor.Vn
