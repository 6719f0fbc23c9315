import Derived.Test.YthdjfhnhjiageaaGreatDoorG20
set_option maxHeartbeats 8000000
set_option maxRecDepth 100000
namespace Go.Proofs.YthdjfhnhjiageaaGreatDoor.Vn
open Go.RowKit Num Fix AcP FuP Bk Rm Ac Go.Sort Go.Maps Mix
def Ends (w:World) (T:Nat) (F L:Nat->Prop) (R:Res) (e:Ending) (w':World):Prop :=
 (∃t,R=.ok t/\e=.returned (.int .i64 0)/\Stepped w T F L t w')\/∃r,R=.error r/\e=.returned (.int .i64 r)/\¬r=0/\But F w w'
theorem stepped_on {w w1 w2:World}{T:Nat}{F G L:Nat->Prop}{s:Tn}(h1:Newer w F G)(b1:But F w w1)(h2:Stepped w1 T G L s w2):Stepped w T F L s w2:=by
 obtain⟨H,ta,nw,bt⟩:=h2;refine⟨H,ta,fun b hb=>?_,b1.trans bt h1⟩;rcases nw b hb with g | g
 ·exact h1 b g
 ·exact .inr (Nat.le_trans b1.size g)
theorem ends_on {w w1 w2:World}{T:Nat}{F G L:Nat->Prop}{R:Res}{e:Ending}(h1:Newer w F G)(b1:But F w w1)(h2:Ends w1 T G L R e w2):Ends w T F L R e w2:=by
 rcases h2 with⟨t,hR,he,hs⟩ | ⟨r,hR,he,hr,hb⟩
 ·exact .inl ⟨t,hR,he,stepped_on h1 b1 hs⟩
 ·exact .inr ⟨r,hR,he,hr,b1.trans hb h1⟩
theorem newer_refl (w:World)(F:Nat->Prop):Newer w F F:=fun _ h=>.inl h
theorem TA.below {w w':World}{T:Nat}{F L:Nat->Prop}{s:Tn}(h:TA w T F L s)(hb:Below w.heap.size w w'):TA w' T F L s:=by
 obtain⟨A,M,va,vm,ve,h,hrw,hlt⟩:=h;exact⟨A,M,va,vm,ve,h.below hb,hrw,fun b hb'=>Nat.lt_of_lt_of_le (hlt b hb') hb.size⟩
theorem TA.lt {w:World}{T:Nat}{F L:Nat->Prop}{s:Tn}(h:TA w T F L s):∀b,F b->b<w.heap.size:=by
 obtain⟨A,M,va,vm,ve,h,-,-⟩:=h;exact h.lt
theorem TA.own {w:World}{T:Nat}{F L:Nat->Prop}{s:Tn}(h:TA w T F L s):F T:=by
 obtain⟨A,M,va,vm,ve,h,-,-⟩:=h;exact h.own
theorem newer_not {w:World}{F G:Nat->Prop}(h:Newer w F G){b:Nat}(hb:b<w.heap.size)(hF:¬F b):¬G b:=fun g=>by
 rcases h b g with f | f
 ·exact hF f
 ·omega
theorem move_any (T:Nat)(F L:Nat->Prop)(s:Tn)(k:Nat)(n:Int)(w:World)(h:TA w T F L s)(hk:k<s.accs.length)(hE:s.evs.length<=1000000) :
  Calls Tryz.prog 117 #[turnP T,.int .i64 (k:Nat),.int .i64 n] w (Ends w T F L (moveR s k n)):=by
 cases hm:moveR s k n with
 |ok t =>
  refine(move_ok T F L s t k n w h hk hE hm).mono ?_;rintro e w' ⟨he,hs⟩;exact .inl ⟨t,rfl,he,hs⟩
 |error r =>
  refine(move_bad T F L s k n r w h hk hm).mono ?_;rintro e w' ⟨he,hr,hb⟩;exact .inr ⟨r,rfl,he,hr,.of_below hb⟩
theorem tradeOf_any (T:Nat)(F L:Nat->Prop)(s:Tn)(id mk q pr fee:Int)(w:World)(h:TA w T F L s)(hs:Str s)(hid:hasA s.accs id=true)(f1:-9223372036854775808<=fee)(f2:fee<=9223372036854775807) :
  Calls Tryz.prog 200 #[turnP T,.int .i64 id,.int .i64 mk,.int .i64 q,.int .i64 pr,.int .i64 fee] w (Ends w T F L (tradeOfR s id mk q pr fee)):=by
 cases hm:tradeOfR s id mk q pr fee with
 |ok t =>
  refine(tradeOf_ok T F L s t id mk q pr fee w h hs hid hm).mono ?_;rintro e w' ⟨he,hs⟩;exact .inl ⟨t,rfl,he,hs⟩
 |error r =>
  refine(tradeOf_bad T F L s id mk q pr fee r w h hs hid f1 f2 hm).mono ?_;rintro e w' ⟨he,hr,hb⟩;exact .inr ⟨r,rfl,he,hr,.of_below hb⟩
theorem ins_any (T:Nat)(F L:Nat->Prop)(s:Tn)(n:Int)(w:World)(h:TA w T F L s) :
  Calls Tryz.prog 116 #[.pointer (some ⟨T,2,none⟩),.int .i64 n] w (Ends w T F L (insR s n)):=by
 obtain⟨A,M,va,vm,ve,h,hrw,hlt⟩:=h;have c2:w.cell? ⟨T,2,none⟩=some (.int .i64 s.ins):=by rw [h.cell];rfl
 unfold insR;by_cases he:addE s.ins n=0
 ·rw [if_pos he];refine(grow_ok ⟨T,2,none⟩ s.ins n w c2 (h.frozen 2) he).mono ?_;rintro e w' ⟨rfl,o,rfl⟩;have b1:=(Below.refl w.heap.size w).alloc (Nat.le_refl _) o;exact .inl ⟨_,rfl,rfl,F,⟨_,_,_,_,_,(h.below b1).setIns _,hrw,fun b hb=>Nat.lt_of_lt_of_le (hlt b hb) (by simp [World.setCell])⟩,newer_refl _ _,(But.of_below b1).setCell (p:=⟨T,2,none⟩) (.inl h.own) _⟩
 ·rw [if_neg he];refine(grow_bad ⟨T,2,none⟩ s.ins n w c2 he).mono ?_;rintro e w' ⟨rfl,hb⟩;exact .inr ⟨_,rfl,rfl,he,.of_below hb⟩
theorem trade_any (T:Nat)(F L:Nat->Prop)(s:Tn)(mk:Int)(f:Fil)(fee:Int)(w:World)(h:TA w T F L s)(hs:Str s)(h1:hasA s.accs f.2.2.1=true)(h2:hasA s.accs f.2.2.2.1=true)(f1:0<=fee)(f2:fee<=1000000000000000)
  (q1:-1000000<=f.2.2.2.2.1*f.2.2.2.2.2.2) (q2:f.2.2.2.2.1*f.2.2.2.2.2.2<=1000000) :
  Calls Tryz.prog 164 #[turnP T,.int .i64 mk,filV f,.int .i64 fee] w (Ends w T F L (tradeR s mk f fee)):=by
 obtain⟨y1,y2,ma,ta,sd,pr,qt⟩:=f;dsimp only at h1 h2 q1 q2;obtain⟨R,hR⟩:∃R,R=tradeR s mk (y1,y2,ma,ta,sd,pr,qt) fee:=⟨_,rfl⟩;rw [<- hR];unfold tradeR at hR;dsimp only at hR;have b0:=(Below.refl w.heap.size w).alloc (Nat.le_refl _) (.cells #[.int .i64 y1,.int .i64 y2,.int .i64 ma,.int .i64 ta,.int .i64 sd,.int .i64 pr,.int .i64 qt] 62);obtain⟨W,hW⟩:∃W,W=w.alloc (.cells #[.int .i64 y1,.int .i64 y2,.int .i64 ma,.int .i64 ta,.int .i64 sd,.int .i64 pr,.int .i64 qt] 62):=⟨_,rfl⟩;have e1:∀i v,[Value.int .i64 y1,.int .i64 y2,.int .i64 ma,.int .i64 ta,.int .i64 sd,.int .i64 pr,.int .i64 qt][i]? = some v->W.cell? ⟨w.heap.size,i,none⟩=some v:=fun i v hv=>by rw [hW];exact new_cell w _ _ i v (by simpa using hv)
 have a2:=e1 2 (.int .i64 ma) rfl;have a3:=e1 3 (.int .i64 ta) rfl;have a4:=e1 4 (.int .i64 sd) rfl;have a5:=e1 5 (.int .i64 pr) rfl;have a6:=e1 6 (.int .i64 qt) rfl;rw [<- hW] at b0;have hB:¬F w.heap.size:=fun f=>by have:=h.lt _ f;omega
 have hBW:w.heap.size<W.heap.size:=by rw [hW];simp
 obtain⟨q,hq⟩:∃q,q=sd*qt:=⟨_,rfl⟩;rw [<- hq] at q1 q2 hR;have HR:=hide hR;clear hR;have hw64:sd*qt=q:=hq.symm;have T1:=hide (tradeOf_any T F L s ta mk q pr fee W (h.below b0) hs h2 (by omega) (by omega));have HW:=hide hW;have B0:=hide b0;have HS:=hide hs;have H1:=hide h1;have H2:=hide h2;clear hq e1 hW b0 h hs h1 h2;go_enter Tryz.func164,Tryz.ntmps164;go_wp2_with (rw [<- HW.out]);refine T1.out.mono ?_;rintro e W1 (⟨u,hu,rfl,G,tA,nG,bG⟩ | ⟨r,hr,rfl,hr0,hb⟩)
 ·have S1:=hide (tradeOf_facts hu HS.out H2.out);have c2:=bG.cell hB a2;have c5:=bG.cell hB a5;have hB1:¬G w.heap.size:=newer_not nG hBW hB;have T2:=hide (tradeOf_any T G L u ma mk (-q) pr 0 W1 tA S1.out.str (by rw [has_ids S1.out.kin.ids];exact H1.out) (by omega) (by omega));have N1:Hid (Newer w F G):=fun b hb=>(nG b hb).imp id (Nat.le_trans B0.out.size);have BG:Hid (But F w W1):=(But.of_below B0.out).trans bG (fun _ f=>.inl f);have HR1:Hid (R=match tradeOfR u ma mk (-q) pr 0 with | .ok u=>insR u fee | .error e=>.error e):=by
   have:=HR.out;rw [hu] at this;exact this
  have hsz1:w.heap.size<W1.heap.size:=Nat.lt_of_lt_of_le hBW bG.size;have hn:-9223372036854775808<=-q:=by omega
  clear tA nG bG a2 a3 a4 a5 a6 hu T1 HR S1;go_wp2_with fail;refine T2.out.mono ?_;rintro e W2 (⟨v,hv,rfl,G2,tA2,nG2,bG2⟩ | ⟨r,hr,rfl,hr0,hb⟩)
  ·have hR2:R=insR v fee:=by
    have:=HR1.out;rw [hv] at this;exact this
   have N2:Hid (Newer w F G2):=fun b hb=>by
    rcases nG2 b hb with g | g
    ·exact N1.out b g
    ·exact .inr (by omega)
   have BG2:Hid (But F w W2):=BG.out.trans bG2 N1.out;have T3:=hide (ins_any T G2 L v fee W2 tA2);rw [<- hR2] at T3;clear tA2 nG2 bG2 hv hR2 HR1 T2 c2 c5;go_wp2_with fail;refine T3.out.mono ?_;rintro e W3 hE;have EE:=hide (ends_on N2.out BG2.out hE);clear T3;rcases hE with⟨t,hR3,rfl,-⟩ | ⟨r,hR3,rfl,hr0,-⟩
   ·go_wp2;go_ret;exact EE.out
   ·go_wp2;go_ret;exact EE.out
  ·have EE:Hid (Ends w T F L R (.returned (.int .i64 r)) W2):=.inr ⟨r,by have:=HR1.out;rw [hr] at this;exact this,rfl,hr0,BG.out.trans hb N1.out⟩;clear T2 hr hb;go_wp2;go_ret;exact EE.out
 ·have EE:Hid (Ends w T F L R (.returned (.int .i64 r)) W1):=.inr ⟨r,by have:=HR.out;rw [hr] at this;exact this,rfl,hr0,(But.of_below B0.out).trans hb (fun _ f=>.inl f)⟩;clear T1 hr hb;go_wp2;go_ret;exact EE.out
theorem TA.less {w:World}{T:Nat}{F L K:Nat->Prop}{s:Tn}(h:TA w T F L s)(hK:∀b,K b->L b):TA w T F K s:=by
 obtain⟨A,M,va,vm,ve,h,hrw,hlt⟩:=h;exact⟨A,M,va,vm,ve,h,⟨fun x hx=>off_mono (hrw.a x hx) hK,fun x hx=>⟨off_mono (hrw.m x hx).1 hK,off_mono (hrw.m x hx).2 hK⟩⟩,fun b hb=>hlt b (hK b hb)⟩
theorem TA.more {w W:World}{T:Nat}{F L:Nat->Prop}{s:Tn}(h:TA w T F L s)(hb:Below w.heap.size w W){B:Nat}(h1:w.heap.size<=B)(h2:B<W.heap.size):TA W T F (fun b=>L b\/b=B) s:=by
 obtain⟨A,M,va,vm,ve,h,hrw,hlt⟩:=h;refine⟨A,M,va,vm,ve,h.below hb,⟨fun x hx=>off_row (h.each x hx).1.row (hrw.a x hx) (.inr h1),fun x hx=>⟨off_orow (h.eachM x hx).1.row (hrw.m x hx).1 (.inr h1),off_orow (h.eachM x hx).2.1.row (hrw.m x hx).2 (.inr h1)⟩⟩,?_⟩;rintro b (hb' | rfl)
 ·exact Nat.lt_of_lt_of_le (hlt b hb') hb.size
 ·exact h2
theorem TV.isMkt {w:World}{T:Nat}{F:Nat->Prop}{s:Tn}{A:List Am}{M:List Mkt}{va vm ve:Value}(h:TV w T F s A M va vm ve){k:Nat}(hk:k<M.length):mktAt s k=mpOf (M[k]'hk):=by
 have hk':k<s.mkts.length:=by rw [<- h.lenM];exact hk
 have:s.mkts[k]=(M.map mpOf)[k]'(by simpa using hk):=by simp [h.mkts]
 rw [mktAt_get hk',this];simp
theorem TV.atM {w:World}{T:Nat}{F:Nat->Prop}{s:Tn}{A:List Am}{M:List Mkt}{va vm ve:Value}(h:TV w T F s A M va vm ve){k:Nat}(hk:k<M.length) :
  ∃g cap,vm=.slice (some ⟨g,0,none⟩) M.length cap/\F g/\(∀j,w.frozen? ⟨g,j,none⟩=false) /\
   w.cell? ⟨g,k*4,none⟩=some (.slice (M[k]'hk).1.1 (mB (M[k]'hk)).length (M[k]'hk).1.2.1)/\w.cell? ⟨g,k*4+1,none⟩=some (.slice (M[k]'hk).2.1.1 (mA (M[k]'hk)).length (M[k]'hk).2.1.2.1) /\
   w.cell? ⟨g,k*4+2,none⟩=some (.int .i64 (mI (M[k]'hk)))/\w.cell? ⟨g,k*4+3,none⟩=some (.int .i64 (mL (M[k]'hk))):=by
 have hr:=h.rowM;rcases hr.2 with⟨rfl,e⟩ | ⟨g,cap,cur,rfl,hb,hg,hn,hm,hs,ht⟩
 ·omega
 ·have hc:∀i,i<4->w.cell? ⟨g,k*4+i,none⟩=(mCells (M[k]'hk))[i]?:=fun i hi=>by
   rw [hr.cellAt (k*4+i) (by omega),flat_get mCells_len M k hk i hi]
  exact⟨g,cap,rfl,h.fM g rfl,fun j=>hr.frozenAt j,hc 0 (by omega),hc 1 (by omega),hc 2 (by omega),hc 3 (by omega)⟩
theorem TV.putM {w w':World}{T:Nat}{F:Nat->Prop}{s:Tn}{A:List Am}{M:List Mkt}{va vm ve:Value}(h:TV w T F s A M va vm ve){k:Nat}{m:Mkt}(h1:OV w m.1.1 m.1.2.1 (mB m))(h2:OV w m.2.1.1 m.2.1.2.1 (mA m))(h3:Off F m.1.1 (mB m))(h4:Off F m.2.1.1 (mA m)){g:Nat}(hg:vm.ownBlock=some g)
  (hb:But (fun b=>b=g) w w') (ho:w'.ownsRow 0 96 4 vm M.length (flatM (M.set k m))):TV w' T F (s.setM k (mpOf m)) A (M.set k m) va vm ve:=by
 have nT:=own_type h.rowM h.turn (by decide) g hg;have nA:=own_types h.rowA h.rowM (by decide);have nE:=own_types h.rowE h.rowM (by decide);have hF:=h.fM g hg;have hsub:∀b,b=g->F b:=fun b e=>by rw [e];exact hF
 refine⟨h.accs,?_,h.own,fun b hF=>Nat.lt_of_lt_of_le (h.lt b hF) hb.size,?_,own_but h.rowA hb (fun k hk e=>nA k hk g hg e),by simpa using ho,own_but h.rowE hb (fun k hk e=>nE k hk g hg e),h.fA,h.fM,h.fE,fun x hx=>?_,fun x hx=>?_⟩
 ·rw [List.map_set,h.mkts];rfl
 ·rw [hb.block T (h.lt T h.own) (fun e=>nT e.symm)];exact h.turn
 ·exact⟨aok_but (h.each x hx).1 hb (off_mono (h.each x hx).2 hsub),(h.each x hx).2⟩
 ·rcases List.mem_or_eq_of_mem_set hx with hx | rfl
  ·obtain⟨o1,o2,r1,r2⟩:=h.eachM x hx;exact⟨ov_but o1 hb (off_mono r1 hsub),ov_but o2 hb (off_mono r2 hsub),r1,r2⟩
  ·exact⟨ov_but h1 hb (off_mono h3 hsub),ov_but h2 hb (off_mono h4 hsub),h3,h4⟩
theorem TV.putLast {w:World}{T:Nat}{F:Nat->Prop}{s:Tn}{A:List Am}{M:List Mkt}{va ve:Value}{g cap:Nat}(h:TV w T F s A M va (.slice (some ⟨g,0,none⟩) M.length cap) ve){k:Nat}(hk:k<M.length)(n:Int) :
  TV (w.setCell ⟨g,k*4+3,none⟩ (.int .i64 n)) T F (s.setL k n) A (M.set k ((M[k]'hk).1,(M[k]'hk).2.1,mI (M[k]'hk),n)) va (.slice (some ⟨g,0,none⟩) M.length cap) ve:=by
 have hst:=(h.rowM.stored (k*4+3) (.int .i64 n)).1;rw [flat_set mCells_len M k hk 3 ((M[k]'hk).1,(M[k]'hk).2.1,mI (M[k]'hk),n) (.int .i64 n) (by omega) rfl] at hst;obtain⟨o1,o2,r1,r2⟩:=h.eachM _ (List.getElem_mem hk);have:=h.putM (m:=((M[k]'hk).1,(M[k]'hk).2.1,mI (M[k]'hk),n)) o1 o2 r1 r2 (g:=g) rfl (but_one w ⟨g,k*4+3,none⟩ _) hst;unfold Tn.setL;rw [h.isMkt hk];exact this
theorem TV.putIdx {w:World}{T:Nat}{F:Nat->Prop}{s:Tn}{A:List Am}{M:List Mkt}{va ve:Value}{g cap:Nat}(h:TV w T F s A M va (.slice (some ⟨g,0,none⟩) M.length cap) ve){k:Nat}(hk:k<M.length)(n:Int) :
  TV (w.setCell ⟨g,k*4+2,none⟩ (.int .i64 n)) T F (s.setI k n) A (M.set k ((M[k]'hk).1,(M[k]'hk).2.1,n,mL (M[k]'hk))) va (.slice (some ⟨g,0,none⟩) M.length cap) ve:=by
 have hst:=(h.rowM.stored (k*4+2) (.int .i64 n)).1;rw [flat_set mCells_len M k hk 2 ((M[k]'hk).1,(M[k]'hk).2.1,n,mL (M[k]'hk)) (.int .i64 n) (by omega) rfl] at hst;obtain⟨o1,o2,r1,r2⟩:=h.eachM _ (List.getElem_mem hk);have:=h.putM (m:=((M[k]'hk).1,(M[k]'hk).2.1,n,mL (M[k]'hk))) o1 o2 r1 r2 (g:=g) rfl (but_one w ⟨g,k*4+2,none⟩ _) hst;unfold Tn.setI;rw [h.isMkt hk];exact this
theorem TV.putBook {w:World}{T:Nat}{F:Nat->Prop}{s:Tn}{A:List Am}{M:List Mkt}{va ve:Value}{g cap:Nat}(h:TV w T F s A M va (.slice (some ⟨g,0,none⟩) M.length cap) ve){k:Nat}(hk:k<M.length){p p':Option Addr}{c c':Nat}{b a:List Odr}(h1:OV w p c b)(h2:OV w p' c' a)(h3:Off F p b)(h4:Off F p' a) :
  TV ((w.setCell ⟨g,k*4,none⟩ (.slice p b.length c)).setCell ⟨g,k*4+1,none⟩ (.slice p' a.length c')) T F (s.setB k b a) A (M.set k ((p,c,b),(p',c',a),mI (M[k]'hk),mL (M[k]'hk))) va (.slice (some ⟨g,0,none⟩) M.length cap) ve:=by
 have s1:=(h.rowM.stored (k*4+0) (.slice p b.length c)).1;rw [flat_set mCells_len M k hk 0 ((p,c,b),(M[k]'hk).2.1,mI (M[k]'hk),mL (M[k]'hk)) (.slice p b.length c) (by omega) rfl] at s1;have hk1:k<(M.set k ((p,c,b),(M[k]'hk).2.1,mI (M[k]'hk),mL (M[k]'hk))).length:=by simpa using hk
 have s2:=(s1.stored (k*4+1) (.slice p' a.length c')).1;rw [flat_set mCells_len _ k hk1 1 ((p,c,b),(p',c',a),mI (M[k]'hk),mL (M[k]'hk)) (.slice p' a.length c') (by omega) (by simp [mCells])] at s2;simp only [List.set_set,Nat.add_zero] at s2;have:=h.putM (m:=((p,c,b),(p',c',a),mI (M[k]'hk),mL (M[k]'hk))) h1 h2 h3 h4 (g:=g) rfl ((but_one w ⟨g,k*4,none⟩ _).setCell (p:=⟨g,k*4+1,none⟩) (.inl rfl) _) s2;unfold Tn.setB;rw [h.isMkt hk];exact this
def FRow (w:World) (p:Option Addr) (L:List Fil):Prop:=L=[]\/∃b off,p=some ⟨b,off,none⟩/\∀j u,(L.flatMap encF)[j]? = some u->w.cell? ⟨b,off+j,none⟩=some u
theorem frow_but {F:Nat->Prop}{w w':World}{p:Option Addr}{L:List Fil}(h:FRow w p L)(hb:But F w w')(hp:Off F p L):FRow w' p L:=by
 rcases h with h | ⟨b,off,rfl,hc⟩
 ·exact .inl h
 ·rcases hp with hp | hp
  ·exact .inl hp
  ·exact .inr ⟨b,off,rfl,fun j u hu=>hb.cell (p:=⟨b,off+j,none⟩) (hp ⟨b,off,none⟩ rfl) (hc j u hu)⟩
theorem own_frow {w:World}{B:Nat}{v:Value}{L:List Fil}(h:w.ownsRow B 62 7 v L.length (flatF L)):∃p c,v=.slice p L.length c/\FRow w p L/\∀x,p=some x->B<=x.block:=by
 have h':=h;rcases h.2 with⟨rfl,e⟩ | ⟨g,cap,cur,rfl,hb,hg,hn,hm,hs,ht⟩
 ·exact⟨none,0,by rw [e],.inl (List.eq_nil_of_length_eq_zero e),fun x hx=>by cases hx⟩
 ·refine⟨_,_,rfl,.inr ⟨g,0,rfl,fun j u hu=>?_⟩,fun x hx=>by cases hx;exact hb⟩;have hj:j<L.length*7:=by
   have:=(List.getElem?_eq_some_iff.1 hu).1;rw [flat_len (z:=7) (fun _=>rfl)] at this;exact this
  rw [Nat.zero_add,h'.cellAt j hj];exact hu
theorem fee_le (free:Bool)(f:Fil):(feeOf free f).1<=1000000:=by
 unfold feeOf;split
 ·decide
 ·unfold feeR;split
  ·rename_i h;have h1:=betw_true h.1;have h2:=betw_true h.2;have h3:(f.2.2.2.2.2.2*f.2.2.2.2.2.1).natAbs<=1000*10000:=by rw [Int.natAbs_mul];exact Nat.mul_le_mul (by omega) (by omega)
   dsimp only;unfold divUp;rw [if_pos rfl];omega
  ·decide
end Go.Proofs.YthdjfhnhjiageaaGreatDoor.Vn
