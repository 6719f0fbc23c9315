import Derived.Test.YthdjfhnhjiageaaGreatDoorG34
set_option maxHeartbeats 8000000
set_option maxRecDepth 100000
namespace Go.Proofs.YthdjfhnhjiageaaGreatDoor.Ac
open Go.RowKit Num Fix AcP FuP CopyK
theorem settle_own (p:Option Addr)(n c:Nat)(L:List Am)(mk mark rate:Int)(w:World)(hl:L.length=n)(hn:n<=8)(h:AL w p L) :
  Calls Tryz.prog 130 #[.slice p n c,.int .i64 mk,.int .i64 mark,.int .i64 rate] w fun e w'=>Below w.heap.size w w'/\(((settleR (L.map Am.acc) mk mark rate).2.2=0/\∃D:List Am,e=.returned (.tuple #[.slice (some ⟨w.heap.size,0,none⟩) n n,.int .i64 (settleR (L.map Am.acc) mk mark rate).2.1,.int .i64 0])/\D.length=n/\D.map Am.acc=(settleR (L.map Am.acc) mk mark rate).1/\w'.heap[w.heap.size]? = some (.cells (flatA D).toArray 89 (0,0))/\∀a,a∈D->AOk w' a/\∃x,a.p=some x/\w.heap.size<x.block)\/(¬(settleR (L.map Am.acc) mk mark rate).2.2=0/\e=.returned (.tuple #[.slice none 0 0,.int .i64 0,.int .i64 (settleR (L.map Am.acc) mk mark rate).2.2]))):=by
 obtain⟨cs,MK,hcs⟩:=make_accs n (by omega);have CS:=hide hcs;have HL:=hide hl;have H:=hide h;have h8:¬(8:Int)<(n:Int):=by omega
 have HSZ:Hid ((Tryz.prog.info? 89).map (·.size)=some 3):=by show _=_;kernel_rfl
 have HG:=hide (heap_alloc_new w (.cells cs 89));have B1:=hide (below_alloc w (.cells cs 89));have HPOS:Hid (0<n->∃ad,p=some ad/\∀j v,(flatA L)[j]? = some v->(w.alloc (.cells cs 89)).cell? (ad.add j)=some v):=fun h0=>by
  rcases h.row with h1 | ⟨b,off,rfl,hc⟩
  ·rw [h1] at hl;simp at hl;omega
  ·refine⟨_,rfl,fun j v hv=>?_⟩;rw [show (⟨b,off,none⟩:Addr).add j = ⟨b,off+j,none⟩ from by simp [Addr.add]];exact cell_alloc (hc j v hv) _
 have HF:Hid ((flatA L).length=n*3):=by show _=_;rw [flatA_len,hl]
 have HO:=hide (flatA_one L);clear hcs hl h;obtain⟨FL,hFL⟩:∃F,F=flatA L:=⟨_,rfl⟩;rw [<- hFL] at HPOS HF HO;have HFL:=hide hFL;clear hFL;obtain⟨E,hE⟩:∃E,E=settleR (L.map Am.acc) mk mark rate:=⟨_,rfl⟩;rw [<- hE];have HE:=hide hE;clear hE;go_enter Tryz.func130,Tryz.ntmps130;go_wp2_with (refine wpList_copy_all rfl (.tmp 23) (.tmp 24) 48 48 rfl 89 3 Tryz.underlying48 HSZ.out w.heap.size n n c p rfl rfl cs 89 HG.out CS.out FL HF.out HPOS.out HO.out w.heap.size w B1.out (Nat.le_refl _) ?_;intro w2 HG2 B2 hsz;clear hsz)
 go_loopw [12,28] (fun t i wr=>∃(k:Nat) (s:Int) (D:List Am),k<=n/\i=.int .i64 k/\t=.int .i64 s/\-800000<=s/\s<=800000/\Hid (SInv mk mark rate L D k s w wr)) (fun _ i _=>n - (intOf i).toNat)
 case atStart=>exact⟨0,0,[],Nat.zero_le _,rfl,rfl,by omega,by omega,SInv.start (by rw [<- HFL.out];exact HG2.out) B2.out⟩
 case round =>
  obtain⟨k,s,D,hk,rfl,rfl,hs1,hs2,I⟩:=hrel;by_cases hlt:k<n
  ·have hltz:(k:Int)<(n:Int):=by omega
   have hkL:k<L.length:=by rw [HL.out];exact hlt
   obtain⟨b,off,rfl,hc⟩:∃b off,p=some ⟨b,off,none⟩/\∀j u,(flatA L)[j]? = some u->w.cell? ⟨b,off+j,none⟩=some u:=by
    rcases H.out.row with e | e
    ·rw [e] at hkL;simp at hkL
    ·exact e
   obtain⟨f0,f1,f2⟩:=al_cells hc hkL;have up:=fun (x:Addr) (v:Value) (hx:w.cell? x=some v)=>(I.out.below.cell (World.block_lt_of_cell? _ _ hx)).trans hx;have g0:=up _ _ f0;have g1:=up _ _ f1;have g2:=up _ _ f2;have AK:=hide ((H.out.each _ (List.getElem_mem hkL)).below I.out.below);have ERR:=I.out.err;rw [drop_at hkL,List.map_cons] at ERR;obtain⟨a,ha⟩:∃a,a=L[k]:=⟨_,rfl⟩;rw [<- ha] at g0 g1 g2 AK ERR;have HA:=hide ha;clear up f0 f1 f2 hc ha;have PA:=hide (fun W hW=>pays_any a.id a.bal a.p a.n a.c a.pos mk mark rate W AK.out.len (by have:=AK.out.few;omega) (row_below AK.out.row hW));have PE:Hid (payA mk mark rate a.acc=paysR a.id a.bal a.pos mk mark rate):=rfl;have PB:=pays_bd (id:=a.id) (bal:=a.bal) (pos:=a.pos) (mk:=mk) (mark:=mark) (rate:=rate);obtain⟨P,hP⟩:∃P,P=paysR a.id a.bal a.pos mk mark rate:=⟨_,rfl⟩;rw [<- hP] at PA PE PB;clear hP;obtain⟨pd,r⟩:=P;dsimp only at PB PA;obtain⟨pb1,pb2⟩:=PB;by_cases hr:r=0
   ·subst hr;have PF:=pay_facts (mk:=mk) (mark:=mark) (rate:=rate) (a:=a.acc) (by rw [PE.out]);have hpl:a.pos.length=a.n:=AK.out.len;have hm1:1<=a.n:=by have:=PF.2.2.1;have:=PF.2.2.2.1;have e:a.acc.2.2.length=a.n:=hpl;omega
    have hm2:a.n<=2:=by have:=PF.2.2.2.2;have e:a.acc.2.2.length=a.n:=hpl;omega
    have AD:=hide (add_two PF.1 ⟨pb1,pb2⟩);have AW:Hid (AOk w a):=by rw [HA.out];exact H.out.each _ (List.getElem_mem hkL)
    have CL:=hide (fun W hW=>Own.clone_any a.p a.n a.c a.pos W hpl (by omega) (row_below AW.out.row hW));have DK:Hid (L.drop k=a::L.drop (k+1)):=by rw [HA.out];exact drop_at hkL
    have DL:=hide I.out.len;have sz:w.heap.size<wr.heap.size:=by
     have:=I.out.heap;exact(Array.getElem?_eq_some_iff.1 this).1
    have n1:¬w.heap.size=wr.heap.size:=by omega
    have n2:¬wr.heap.size=w.heap.size:=by omega
    clear hpl PF;rw [show a.acc.2.1=a.bal from rfl] at AD;obtain⟨id,hid⟩:∃x,x=a.id:=⟨_,rfl⟩;obtain⟨bal,hbal⟩:∃x,x=a.bal:=⟨_,rfl⟩;obtain⟨q,hq⟩:∃x,x=a.p:=⟨_,rfl⟩;obtain⟨m,hm⟩:∃x,x=a.n:=⟨_,rfl⟩;obtain⟨d,hd⟩:∃x,x=a.c:=⟨_,rfl⟩;rw [<- hid,<- hbal,<- hq,<- hm,<- hd] at PA;rw [<- hid] at g0;rw [<- hbal] at g1 AD;rw [<- hq,<- hm,<- hd] at g2 CL;rw [<- hm] at hm1 hm2;have HN:=hide (And.intro hid (And.intro hbal (And.intro hq (And.intro hm hd))));clear hid hbal hq hm hd;go_wp2_with fail;refine(PA.out _ (below_alloc _ _)).mono ?_;rintro e W1 ⟨rfl,hb1⟩;have B1:=hide ((below_alloc wr (.cells #[.int .i64 id,.int .i64 bal,.slice q m d] 89)).trans (hb1.mono (by simp)));have x1:W1.cell? ⟨wr.heap.size,1,none⟩=some (.int .i64 bal):=(hb1.cell (by simp)).trans (new_cell wr _ _ 1 _ rfl);have x2:W1.cell? ⟨wr.heap.size,2,none⟩=some (.slice q m d):=(hb1.cell (by simp)).trans (new_cell wr _ _ 2 _ rfl);have x2':=fun o=>cell_alloc x2 o;have G1:Hid (W1.heap[w.heap.size]? = some (.cells (flatA (D++a::L.drop (k+1))).toArray 89 (0,0))):=by
     show _=_;rw [B1.out.block _ sz,<- DK.out];exact I.out.heap
    have y1:∀o,(W1.alloc o).cell? ⟨w.heap.size,k*3+1,none⟩=some (.int .i64 bal):=fun o=>by
     have e:=(out_cell G1.out (k*3+1)).1;rw [(mid_cells DL.out).1,<- HN.out.2.1] at e;exact cell_alloc e o
    have y2:∀o j,(W1.alloc o).frozen? ⟨w.heap.size,j,none⟩=false:=fun o j=>by
     have e:=(below_alloc W1 o).block w.heap.size (Array.getElem?_eq_some_iff.1 G1.out).1;rw [G1.out] at e;exact(out_cell e j).2
    clear hb1;cases hmo:money (bal - pd)
    ·rw [hmo] at AD;have EN:Hid (E=([],0,7)):=by
      have h1:setE mk mark rate (L.map Am.acc)=7:=by
       rw [ERR,setE_full (by rw [PE.out]) (by rw [PE.out];show money (a.bal - pd)=false;rw [<- HN.out.2.1];exact hmo)]
      rw [HE.out,settle_err (by simp;have:=HL.out;omega) (by rw [h1];decide),h1];rfl
     clear ERR hmo;go_wp2_with fail;refine(add_any _ 2 2 [bal,-pd] _ rfl (by decide) (.inr ⟨_,_,rfl,?_⟩)).mono ?_
     ·intro i hi;rw [World.cell?_alloc_at _ _ _ _ (by simp)];match i,hi with
      |0,_=>rfl
      |1,_=>rfl
     rintro e w' ⟨rfl,rfl⟩;rw [AD.out];go_wp2;go_ret3;refine⟨?_,.inr ⟨?_,?_⟩⟩;rotate_left
     ·rw [EN.out];decide
     ·rw [EN.out];rfl
     ·exact below_set ((I.out.below.trans (B1.out.mono I.out.below.size)).alloc (by have:=I.out.below.size;have:=B1.out.size;omega) _) (Nat.le_refl _) _ _
    ·rw [hmo] at AD;have HM:=hide hmo;clear hmo ERR;go_wp2_with fail;refine(add_any _ 2 2 [bal,-pd] _ rfl (by decide) (.inr ⟨_,_,rfl,?_⟩)).mono ?_
     ·intro i hi;rw [World.cell?_alloc_at _ _ _ _ (by simp)];match i,hi with
      |0,_=>rfl
      |1,_=>rfl
     rintro e w' ⟨rfl,rfl⟩;rw [AD.out];go_wp2_with fail;obtain⟨W2,hW2⟩:∃W2,W2=(W1.alloc (.cells #[.int .i64 bal,.int .i64 (-pd)] 3)).setCell ⟨w.heap.size,k*3+1,none⟩ (.int .i64 (bal - pd)):=⟨_,rfl⟩;rw [<- hW2];have BW1:=hide ((I.out.below.trans (B1.out.mono I.out.below.size)).alloc (by have:=I.out.below.size;have:=B1.out.size;omega) (.cells #[.int .i64 bal,.int .i64 (-pd)] 3));have BW2:Hid (Below w.heap.size w W2):=by rw [hW2];exact below_set BW1.out (Nat.le_refl _) _ _
     have G2:Hid (W2.heap[w.heap.size]? = some (.cells (flatA (D++{ a with bal:=bal - pd }::L.drop (k+1))).toArray 89 (0,0))):=by
      show _=_;have e:=(below_alloc W1 (.cells #[.int .i64 bal,.int .i64 (-pd)] 3)).block w.heap.size (Array.getElem?_eq_some_iff.1 G1.out).1;rw [G1.out] at e;rw [hW2,out_set e,<- DL.out,flatA_set1]
     have D2:Hid (∀y,y∈D->AOk W2 y):=fun y hy=>by
      rw [hW2];exact aok_set (((I.out.each y hy).1.below B1.out).below (below_alloc W1 _)) (I.out.each y hy).2 _ _
     have SZ2:Hid (w.heap.size<W2.heap.size):=(Array.getElem?_eq_some_iff.1 G2.out).1;clear hW2 x1 x2 x2' y1 y2;refine(CL.out _ BW2.out).mono ?_;rintro e W3 ⟨v,rfl,own,hb3⟩;obtain⟨g',cap,rfl,hg1,hg2⟩:=own_slice own (by omega);have OR:=hide (own_row own);have B3:=hide hb3;have G3:Hid (W3.heap[w.heap.size]? = some (.cells (flatA (D++{ a with bal:=bal - pd }::L.drop (k+1))).toArray 89 (0,0))):=by
      show _=_;rw [hb3.block _ SZ2.out];exact G2.out
     have y1:W3.cell? ⟨w.heap.size,k*3+2,none⟩=some (.slice q m d):=by
      have e:=(out_cell G3.out (k*3+2)).1;rw [(mid_cells DL.out).2] at e;rw [e,HN.out.2.2.1,HN.out.2.2.2.1,HN.out.2.2.2.2]
     have y2:W3.frozen? ⟨w.heap.size,k*3+2,none⟩=false:=(out_cell G3.out (k*3+2)).2;have hgg:w.heap.size<g':=by have:=SZ2.out;omega
     clear own hb3 hg1 hg2;go_wp2;go_roundw
     case rel =>
      have AN:AOk W3 ⟨a.id,a.bal - pd,some ⟨g',0,none⟩,a.n,cap,a.pos⟩:=⟨AK.out.len,AK.out.few,(fun h=>by simp at h),OR.out⟩
      have IN:=I.out.next (wn:=W3.setCell ⟨w.heap.size,k*3+2,none⟩ (.slice (some ⟨g',0,none⟩) m cap)) hkL a HA.out pd PE.out (by rw [<- HN.out.2.1];exact HM.out) ⟨g',0,none⟩ cap hgg
       (aok_set AN ⟨_,rfl,hgg⟩ _ _)
       (by rw [out_set G3.out,<- DL.out,flatA_set2,HN.out.2.1,HN.out.2.2.2.1]) (below_set (BW2.out.trans (B3.out.mono (Nat.le_of_lt SZ2.out))) (Nat.le_refl _) _ _)
       (fun y hy=>aok_set ((D2.out y hy).below B3.out) (I.out.each y hy).2 _ _)
      have bd:=IN.bd (by omega);exact⟨k+1,s+pd,_,by omega,by go_num,rfl,bd.1,bd.2,IN⟩
     case measure=>simp [intOf];omega
   ·have EN:Hid (E=([],0,r)):=by
     have h1:setE mk mark rate (L.map Am.acc)=r:=by rw [ERR,setE_pay (by rw [PE.out];exact hr),PE.out]
     rw [HE.out,settle_err (by simp;have:=HL.out;omega) (by rw [h1];exact hr),h1];rfl
    clear ERR;generalize a.id=id at g0 g1 g2 PA;generalize a.bal=bal at g0 g1 g2 PA;generalize a.p=q at g0 g1 g2 PA;generalize a.n=m at g0 g1 g2 PA;generalize a.c=d at g0 g1 g2 PA;go_wp2_with fail;refine(PA.out _ (below_alloc _ _)).mono ?_;rintro e W1 ⟨rfl,hb1⟩;have BW:=hide (I.out.below.trans ((below_alloc wr _).trans (hb1.mono (by simp))  |>.mono I.out.below.size));clear hb1;go_wp2;go_ret3;refine⟨BW.out,.inr ⟨?_,?_⟩⟩
    ·rw [EN.out];exact hr
    ·rw [EN.out];rfl
  ·have hkn:k=n:=by omega
   subst hkn;have EN:Hid (E=((L.map Am.acc).map (setA mk mark rate),s,0)):=by
    have h1:setE mk mark rate (L.map Am.acc)=0:=by rw [I.out.err,List.drop_eq_nil_of_le (by have:=HL.out;omega)];rfl
    rw [HE.out,settle_ok (by simp;have:=HL.out;omega) h1,I.out.sum,List.take_of_length_le (by have:=HL.out;omega)];rfl
   go_wp2;go_ret3;have hD:D.length=k:=I.out.len;have hh:=I.out.heap;rw [List.drop_eq_nil_of_le (by have:=HL.out;omega),List.append_nil] at hh;refine⟨I.out.below,.inl ⟨by rw [EN.out],D,by rw [EN.out];rfl,hD,?_,hh,I.out.each⟩⟩;rw [EN.out,I.out.acc,List.take_of_length_le (by have:=HL.out;omega),List.map_map];rfl
end Go.Proofs.YthdjfhnhjiageaaGreatDoor.Ac
namespace Go.Proofs.YthdjfhnhjiageaaGreatDoor.Vn
open Go.RowKit Num Fix AcP FuP Bk Rm Ac Go.Sort Go.Maps Mix RkP
theorem res_any (T:Nat)(F L:Nat->Prop)(s:Tn)(n:Int)(w:World)(h:TA w T F L s) :
  Calls Tryz.prog 116 #[.pointer (some ⟨T,3,none⟩),.int .i64 n] w (Ends w T F L (if addE s.res n=0 then .ok { s with res:=addV s.res n } else .error (addE s.res n))):=by
 obtain⟨A,M,va,vm,ve,h,hrw,hlt⟩:=h;have c2:w.cell? ⟨T,3,none⟩=some (.int .i64 s.res):=by rw [h.cell];rfl
 by_cases he:addE s.res n=0
 ·rw [if_pos he];refine(grow_ok ⟨T,3,none⟩ s.res n w c2 (h.frozen 3) he).mono ?_;rintro e w' ⟨rfl,o,rfl⟩;have b1:=(Below.refl w.heap.size w).alloc (Nat.le_refl _) o;exact .inl ⟨_,rfl,rfl,F,⟨_,_,_,_,_,(h.below b1).setRes _,hrw,fun b hb=>Nat.lt_of_lt_of_le (hlt b hb) (by simp [World.setCell])⟩,newer_refl _ _,(But.of_below b1).setCell (p:=⟨T,3,none⟩) (.inl h.own) _⟩
 ·rw [if_neg he];refine(grow_bad ⟨T,3,none⟩ s.res n w c2 he).mono ?_;rintro e w' ⟨rfl,hb⟩;exact .inr ⟨_,rfl,rfl,he,.of_below hb⟩
theorem TV.setAccs {w:World}{T:Nat}{F:Nat->Prop}{s:Tn}{A A':List Am}{M:List Mkt}{va vm ve:Value}{g cap:Nat}(h:TV w T F s A M va vm ve)
  (ho:w.ownsRow 0 89 3 (.slice (some ⟨g,0,none⟩) A'.length cap) A'.length (A'.flatMap encA)) (hlt:g<w.heap.size)
  (hM:∀m,m∈M->Off (fun b=>F b\/b=g) m.1.1 (mB m)/\Off (fun b=>F b\/b=g) m.2.1.1 (mA m))
  (hA:∀a,a∈A'->AOk w a/\Off (fun b=>F b\/b=g) a.p a.pos) :
  TV (w.setCell ⟨T,0,none⟩ (.slice (some ⟨g,0,none⟩) A'.length cap)) T (fun b=>F b\/b=g) { s with accs:=A'.map Am.acc } A' M (.slice (some ⟨g,0,none⟩) A'.length cap) vm ve:=by
 have nM:=own_type h.rowM h.turn (by decide);have nE:=own_type h.rowE h.turn (by decide);have hgT:¬g=T:=own_type ho h.turn (by decide) g rfl;have b2:=but_one w ⟨T,0,none⟩ (.slice (some ⟨g,0,none⟩) A'.length cap);have hsub:∀b,b=T->F b\/b=g:=fun b e=>by rw [e];exact .inl h.own
 refine⟨rfl,h.mkts,.inl h.own,fun b hF=>?_,heap_set h.turn 0 _,own_but ho b2 (fun k hk=>by simp [Value.ownBlock] at hk;subst hk;exact hgT),own_but h.rowM b2 nM,own_but h.rowE b2 nE,fun k hk=>.inr (by simpa [Value.ownBlock] using hk.symm),fun k hk=>.inl (h.fM k hk),fun k hk=>.inl (h.fE k hk),fun a ha=>⟨aok_but (hA a ha).1 b2 (off_mono (hA a ha).2 hsub),(hA a ha).2⟩,fun m hm=>?_⟩
 ·refine Nat.lt_of_lt_of_le ?_ b2.size;rcases hF with f | f
  ·exact h.lt b f
  ·rw [f];exact hlt
 ·obtain⟨o1,o2,-,-⟩:=h.eachM m hm;obtain⟨r1,r2⟩:=hM m hm;exact⟨ov_but o1 b2 (off_mono r1 hsub),ov_but o2 b2 (off_mono r2 hsub),r1,r2⟩
def FInv (w:World) (T:Nat) (F:Nat->Prop) (s:Tn) (A:List Am) (M:List Mkt) (va vm:Value) (S:List Acc) (E0:List Ev) (k:Nat) (wr:World):Prop :=
 ∃G ve E,TV wr T G { s with evs:=E } A M va vm ve/\Newer w F G/\But F w wr/\E++paidEv (s.accs.drop k) (S.drop k)=E0/\E.length<=s.evs.length+k
theorem TV.al {w:World}{T:Nat}{F:Nat->Prop}{s:Tn}{A:List Am}{M:List Mkt}{va vm ve:Value}(h:TV w T F s A M va vm ve):∃p c,va=.slice p A.length c/\AL w p A:=by
 obtain⟨p,c,rfl,hr,-,-,-⟩:=own_arow h.rowA;refine⟨p,c,rfl,?_,fun a ha=>(h.each a ha).1⟩;rw [flatA_is];exact hr
theorem flat_cells {w:World}{g:Nat}{D:List Am}(h:w.heap[g]? = some (.cells (flatA D).toArray 89 (0,0))){k:Nat}(hk:k<D.length) :
  w.cell? ⟨g,k*3,none⟩=some (.int .i64 (D[k]'hk).id)/\w.cell? ⟨g,k*3+1,none⟩=some (.int .i64 (D[k]'hk).bal)/\w.cell? ⟨g,k*3+2,none⟩=some (.slice (D[k]'hk).p (D[k]'hk).n (D[k]'hk).c):=by
 have e:=fun i hi=>((out_cell h (k*3+i)).1).trans (flatA_get D k hk i hi);exact⟨e 0 (by decide),e 1 (by decide),e 2 (by decide)⟩
theorem flat_own {w:World}{g:Nat}{D:List Am}(h:w.heap[g]? = some (.cells (flatA D).toArray 89 (0,0)))(hn:D.length<=8):w.ownsRow 0 89 3 (.slice (some ⟨g,0,none⟩) D.length D.length) D.length (D.flatMap encA):=by
 rw [<- flatA_is];refine⟨flatA_len D,.inr ⟨g,D.length,_,rfl,Nat.zero_le _,h,Nat.le_refl _,Nat.le_trans hn (by decide),by simp [flatA_len],?_⟩⟩;rw [List.toList_toArray,<- flatA_len D,List.take_length]
theorem off_newer {F G:Nat->Prop}{w:World}{p:Option Addr}{l:List Int}(h:Row w p l)(hF:Off F p l)(hn:Newer w F G):Off G p l:=by
 rcases h with h | ⟨b,off,rfl,hc⟩
 ·exact .inl h
 ·rcases hF with hF | hF
  ·exact .inl hF
  ·by_cases hl:l=[]
   ·exact .inl hl
   ·refine .inr fun x hx g=>?_
    cases hx
    rcases hn _ g with f | f
    ·exact hF _ rfl f
    ·have:=World.block_lt_of_cell? _ _ (hc 0 (List.length_pos_iff.2 hl));simp only at this f;omega
theorem off_both {α:Type}{F G:Nat->Prop}{g:Nat}{p:Option Addr}{l:List α}(h:Off G p l)(h':Off (fun b=>F b\/b=g) p l):Off (fun b=>G b\/b=g) p l:=by
 rcases h with h | h
 ·exact .inl h
 ·rcases h' with h' | h'
  ·exact .inl h'
  ·refine .inr fun x hx e=>?_;rcases e with e | e
   ·exact h x hx e
   ·exact h' x hx (.inr e)
theorem settle_money {l:List Acc}{mk mv n:Int}(h:(settleP l mk mv n).2.2=0):∀a,a∈(settleP l mk mv n).1->money a.2.1=true:=by
 unfold settleP at h ⊢;split at h<;>rename_i h8
 ·cases h
 ·rw [if_neg h8];split at h<;>rename_i h0
  ·rw [if_pos h0];intro a ha;obtain⟨b,hb,rfl⟩:=List.mem_map.1 ha;exact(setE_zero h0 b hb).2
  ·exact absurd h h0
theorem settle_same (L:List Acc)(mk mark rate:Int):settleR L mk mark rate=settleP L mk mark rate:=rfl
theorem fund_any (T:Nat)(F L:Nat->Prop)(s:Tn)(c:Cm)(w:World)(h:TA w T F L s)(hs:Str s)(hE:s.evs.length<=900000) :
  Calls Tryz.prog 91 #[turnP T,cmV c] w (Ends w T F L (fundR s c.mkt c.n)):=by
 have mixed:Tryz.prog.follows .mixedOrders=true:=by kernel_rfl
 obtain⟨W,hW⟩:∃W,W=w.alloc (cmO c):=⟨_,rfl⟩;have b0:Below w.heap.size w W:=by rw [hW];exact below_alloc w _
 have eB:W.heap[w.heap.size]? = some (cmO c):=by rw [hW];exact heap_alloc_new w _
 have HM:=hide (hasMarket_ta T F L s c.mkt W (h.below b0));have a2:W.cell? ⟨w.heap.size,2,none⟩=some (.int .i64 c.mkt):=by rw [hW];exact new_cell w _ _ 2 _ rfl
 have a3:W.cell? ⟨w.heap.size,3,none⟩=some (.int .i64 c.n):=by rw [hW];exact new_cell w _ _ 3 _ rfl
 have HW:=hide hW;have B0:=hide b0;obtain⟨kind,ac,mkt,n,⟨o1,o2,o3,o4,o5⟩,how,red⟩:=c;dsimp only at *;obtain⟨R,hR⟩:∃R,R=fundR s mkt n:=⟨_,rfl⟩;rw [<- hR];unfold fundR at hR;have TW:=hide (h.below b0);have NFB:Hid (∀b,w.heap.size<=b->¬F b):=fun b hb f=>by have:=h.lt _ f;omega
 have HS:=hide hs;have HE:=hide hE;have EB:=hide eB;cases hm:hasM s mkt
 ·rw [hm] at HM;have EE:Hid (Ends w T F L R (.returned (.int .i64 5)) W):=.inr ⟨5,by rw [hR,if_neg (by simp [hm])],rfl,by decide,.of_below B0.out⟩;clear hR hm h b0 hW TW hs hE eB;go_enter Tryz.func91,Tryz.ntmps91;go_wp2_with (first | rw [<- HW.out] | (go_at_call 128;refine HM.out.mono ?_;rintro e w' ⟨rfl,rfl⟩));go_ret;exact EE.out
 ·rw [hm] at HM;rw [if_pos hm] at hR;have hmm:=hasM_iff.1 hm;obtain⟨A,M,va,vm,ve,tv,hrw,hlt⟩:=TW.out;obtain⟨k,hk⟩:∃k:Nat,mkt=k:=⟨mkt.toNat,by omega⟩;subst hk;have hkM:k<M.length:=by rw [tv.lenM];omega
  obtain⟨gm,cm,rfl,hgF,fz,m0,m1,m2,m3⟩:=tv.atM hkM;have t1:W.cell? ⟨T,1,none⟩=some (.slice (some ⟨gm,0,none⟩) M.length cm):=by rw [tv.cell];rfl
  have hkz:(k:Int)<(M.length:Int):=by omega
  obtain⟨ov1,ov2,-,-⟩:=tv.eachM _ (List.getElem_mem hkM);have hism:=tv.isMkt hkM;have hfm:fundMark s (k:Nat)=markR (mB (M[k]'hkM)) (mA (M[k]'hkM)) (mI (M[k]'hkM)) (mL (M[k]'hkM)):=by
   unfold fundMark;rw [Int.toNat_natCast,hism];rfl
  have hRt:=(hs.at (k:=k) (by omega)).1;have hfew:(mB (M[k]'hkM)).length<=140737488351232/\(mA (M[k]'hkM)).length<=140737488351232:=by
   have:=book_few hRt;rw [hism] at this;exact⟨Nat.le_trans this.1 (by decide),Nat.le_trans this.2 (by decide)⟩
  have MK:Hid (∀Y,Below W.heap.size W Y->_):=fun Y hY=>mark_any (M[k]'hkM).1.1 (M[k]'hkM).2.1.1 (M[k]'hkM).1.2.1 (M[k]'hkM).2.1.2.1 (mB (M[k]'hkM)) (mA (M[k]'hkM)) (mI (M[k]'hkM)) (mL (M[k]'hkM)) Y (ov1.below hY).row (ov2.below hY).row hfew.1 hfew.2;rw [<- hfm] at MK;clear hfm;generalize (M[k]'hkM).1.1=pb at *;generalize (M[k]'hkM).1.2.1=cb at *;generalize (M[k]'hkM).2.1.1=pa at *;generalize (M[k]'hkM).2.1.2.1=ca at *;generalize mI (M[k]'hkM)=ix at *;generalize mL (M[k]'hkM)=la at *;generalize (mB (M[k]'hkM)).length=lb at *;generalize (mA (M[k]'hkM)).length=laa at *;obtain⟨FM,hFM⟩:∃FM,FM=fundMark s (k:Nat):=⟨_,rfl⟩;rw [<- hFM] at MK hR;clear hFM;obtain⟨mv,me⟩:=FM;dsimp only at MK hR;have HR:=hide hR;have TV0:=hide tv;have HRW:=hide hrw;have HLT:=hide hlt;clear hR hm h b0 hW TW hs hE eB tv hrw hlt ov1 ov2 hism hRt hfew hmm fz hgF;have x0:∀Y,Below W.heap.size W Y->Y.cell? ⟨T,1,none⟩=some (.slice (some ⟨gm,0,none⟩) M.length cm):=fun Y hY=>(hY.cell (World.block_lt_of_cell? _ _ t1)).trans t1;have x1:∀Y,Below W.heap.size W Y->Y.cell? ⟨gm,k*4,none⟩=some (.slice pb lb cb):=fun Y hY=>(hY.cell (World.block_lt_of_cell? _ _ m0)).trans m0;have x2:∀Y,Below W.heap.size W Y->Y.cell? ⟨gm,k*4+1,none⟩=some (.slice pa laa ca):=fun Y hY=>(hY.cell (World.block_lt_of_cell? _ _ m1)).trans m1;have x3:∀Y,Below W.heap.size W Y->Y.cell? ⟨gm,k*4+2,none⟩=some (.int .i64 ix):=fun Y hY=>(hY.cell (World.block_lt_of_cell? _ _ m2)).trans m2;have x4:∀Y,Below W.heap.size W Y->Y.cell? ⟨gm,k*4+3,none⟩=some (.int .i64 la):=fun Y hY=>(hY.cell (World.block_lt_of_cell? _ _ m3)).trans m3;have x5:∀Y,Below W.heap.size W Y->Y.cell? ⟨w.heap.size,2,none⟩=some (.int .i64 (k:Nat)):=fun Y hY=>(hY.cell (World.block_lt_of_cell? _ _ a2)).trans a2;have XD:Hid (Below W.heap.size W W.drew):=(Below.refl _ W).drew;clear t1 m0 m1 m2 m3;go_enter Tryz.func91,Tryz.ntmps91;go_wp2_with (first | rw [<- HW.out] | (go_at_call 128;refine HM.out.mono ?_;rintro e W ⟨rfl,rfl⟩));clear HW HM a2;go_region_held3 (fun w'=>Below W.heap.size W w') (first | (with_reducible assumption) | (with_reducible exact XD.out)) ((go_at_call 129;refine(MK.out _ ?_).mono ?_;assumption;rintro e w1 ⟨rfl,hb1⟩;have hb1':Below W.heap.size W w1:=Below.trans (by assumption) (hb1.mono (Below.size (by assumption)))));have B1:=hide (B0.out.trans (hb1'.mono B0.out.size));have TV1:=hide (TV0.out.below hb1');have HLT1:Hid (∀b,L b->b<w1.heap.size):=fun b hb=>Nat.lt_of_lt_of_le (HLT.out b hb) hb1'.size;have E1:=hide (blk_below EB.out hb1');clear x0 x1 x2 x3 x4 x5 XD MK hb1 hb1' TV0 HLT EB a3 B0;by_cases hme:me=0
  ·have HR1:Hid (R=if (settleP s.accs (k:Nat) mv n).2.2=0 then (if addE s.res (settleP s.accs (k:Nat) mv n).2.1=0 then .ok { s with accs:=(settleP s.accs (k:Nat) mv n).1,evs:=s.evs++paidEv s.accs (settleP s.accs (k:Nat) mv n).1,res:=addV s.res (settleP s.accs (k:Nat) mv n).2.1 } else .error (addE s.res (settleP s.accs (k:Nat) mv n).2.1)) else .error (settleP s.accs (k:Nat) mv n).2.2):=by
    have:=HR.out;rw [if_pos hme] at this;exact this
   subst hme;clear HR;obtain⟨p,cc,rfl,hal⟩:=TV1.out.al;have hA8:A.length<=8:=by rw [TV1.out.lenA];exact HS.out.few
   have ST:Hid (∀Y,Below w1.heap.size w1 Y->Calls Tryz.prog 130 #[.slice p A.length cc,.int .i64 (k:Nat),.int .i64 mv,.int .i64 n] Y fun e w'=>∃g le r,e=.returned (.tuple #[le,.int .i64 (settleP s.accs (k:Nat) mv n).2.1,.int .i64 r])/\r=(settleP s.accs (k:Nat) mv n).2.2/\w1.heap.size<=g/\Below w1.heap.size w1 w'/\(r=0->le=.slice (some ⟨g,0,none⟩) A.length A.length/\∃D:List Am,D.length=A.length/\D.map Am.acc=(settleP s.accs (k:Nat) mv n).1/\w'.heap[g]? = some (.cells (flatA D).toArray 89 (0,0))/\∀a,a∈D->AOk w' a/\∃x,a.p=some x/\g<x.block)):=fun Y hY=>by
    refine(settle_own p A.length cc A (k:Nat) mv n Y rfl hA8 (hal.below hY)).mono ?_;rintro e w' ⟨hb,h⟩;rw [TV1.out.accs,settle_same] at h;have hb':=hY.trans (hb.mono hY.size);rcases h with⟨h0,D,rfl,h1,h2,h3,h4⟩ | ⟨h0,rfl⟩
    ·exact⟨Y.heap.size,_,0,rfl,h0.symm,hY.size,hb',fun _=>⟨rfl,D,h1,h2,h3,h4⟩⟩
    ·refine⟨Y.heap.size,.slice none 0 0,_,?_,rfl,hY.size,hb',fun e=>absurd e h0⟩;have:(settleP s.accs (k:Nat) mv n).2.1=0:=by
      unfold settleP at h0 ⊢;split at h0<;>rename_i h8
      ·rw [if_pos h8]
      ·rw [if_neg h8];split at h0<;>rename_i h9
       ·exact absurd rfl h0
       ·rw [if_neg h9]
     rw [this]
   have t0:w1.cell? ⟨T,0,none⟩=some (.slice p A.length cc):=by rw [TV1.out.cell];rfl
   have r0:∀Y,Below w1.heap.size w1 Y->Y.cell? ⟨T,0,none⟩=some (.slice p A.length cc):=fun Y hY=>(hY.cell (World.block_lt_of_cell? _ _ t0)).trans t0;have r2:∀Y,Below w1.heap.size w1 Y->Y.cell? ⟨w.heap.size,2,none⟩=some (.int .i64 (k:Nat)):=fun Y hY=>(blk_cell (blk_below E1.out hY) 2).1;have r3:∀Y,Below w1.heap.size w1 Y->Y.cell? ⟨w.heap.size,3,none⟩=some (.int .i64 n):=fun Y hY=>(blk_cell (blk_below E1.out hY) 3).1;have XD:Hid (Below w1.heap.size w1 w1.drew):=(Below.refl _ w1).drew;obtain⟨left,hleft⟩:∃left,left=(settleP s.accs (k:Nat) mv n).2.1:=⟨_,rfl⟩;obtain⟨se,hse⟩:∃se,se=(settleP s.accs (k:Nat) mv n).2.2:=⟨_,rfl⟩;obtain⟨S,hS⟩:∃S,S=(settleP s.accs (k:Nat) mv n).1:=⟨_,rfl⟩;rw [<- hleft,<- hse,<- hS] at HR1 ST;have HSE:=hide hse;have HSS:=hide hS;clear hleft hse hS hal t0;go_wp2_with fail;go_region_held3 (fun w'=>Below w1.heap.size w1 w') (first | (with_reducible assumption) | (with_reducible exact XD.out)) ((go_at_call 130;refine(ST.out _ ?_).mono ?_;assumption;rintro e w2 ⟨g,le,r,rfl,hr,hg,hb2',hD⟩;have HRR:=hide hr;have HGG:=hide hg;have HDD:=hide hD;clear hr hg hD));have B2:=hide (B1.out.trans (hb2'.mono B1.out.size));have TV2:=hide (TV1.out.below hb2');have HLT2:Hid (∀b,L b->b<w2.heap.size):=fun b hb=>Nat.lt_of_lt_of_le (HLT1.out b hb) hb2'.size;clear r0 r2 r3 XD ST hb2' E1;by_cases hr0:r=0
   ·obtain⟨rfl,D,hDl,hDa,hDh,hDe⟩:=HDD.out hr0;have hse0:se=0:=by rw [<- HRR.out];exact hr0
    have HR2:Hid (R=if addE s.res left=0 then .ok { s with accs:=S,evs:=s.evs++paidEv s.accs S,res:=addV s.res left } else .error (addE s.res left)):=by
     have:=HR1.out;rw [if_pos hse0] at this;exact this
    have hmS:∀a,a∈S->money a.2.1=true:=by
     rw [HSS.out];exact settle_money (by rw [<- HSE.out];exact hse0)
    have HMS:=hide hmS;have HDA:=hide hDa;have HDL:=hide hDl;have HDE:=hide hDe;have NFg:Hid (¬F g):=fun f=>by have:=TV1.out.lt _ f;have:=HGG.out;omega
    have HDH:=hide hDh;have R0:Hid (FInv w2 T F s A M (.slice p A.length cc) (.slice (some ⟨gm,0,none⟩) M.length cm) S (s.evs++paidEv s.accs S) 0 w2):=⟨F,ve,s.evs,TV2.out,newer_refl _ _,But.refl F w2,rfl,Nat.le_refl _⟩;obtain⟨m,hm⟩:∃m,m=A.length:=⟨_,rfl⟩;have HM:=hide hm;rw [<- hm] at hA8;subst hr0;clear hmS hDa hDl hDe hDh HR1 hm HSS HSE HRR HDD hse0;rw [<- HM.out];go_wp2_with fail
    go_loopw [53] (fun i wr=>∃(j:Nat),j<=m/\i=.int .i64 j/\Hid (FInv w2 T F s A M (.slice p A.length cc) (.slice (some ⟨gm,0,none⟩) M.length cm) S (s.evs++paidEv s.accs S) j wr)) (fun i _=>m - (intOf i).toNat)
    case atStart=>exact⟨0,Nat.zero_le _,rfl,R0⟩
    case round =>
     clear R0;obtain⟨j,hj,rfl,I⟩:=hrel;by_cases hlt:j<m
     ·have hltz:(j:Int)<(m:Int):=by omega
      have hjA:j<A.length:=by rw [<- HM.out];exact hlt
      have hjD:j<D.length:=by rw [HDL.out];exact hjA
      obtain⟨G,ve',E,tv,nw,bt,hEE,hEl⟩:=I.out;have hg':=blk_but HDH.out bt NFg.out;obtain⟨d0,d1,d2⟩:=flat_cells hg' hjD;obtain⟨ga,ca',e',-,-,-,-,-,k1,-⟩:=tv.atA hjA;cases e'
      have t0:wr.cell? ⟨T,0,none⟩=some (.slice (some ⟨ga,0,none⟩) m cc):=by rw [HM.out,tv.cell];rfl
      have hstep:paidEv (s.accs.drop j) (S.drop j)=if (D[j]'hjD).bal - (A[j]'hjA).bal=0 then paidEv (s.accs.drop (j+1)) (S.drop (j+1)) else evMoved (D[j]'hjD).id ((D[j]'hjD).bal - (A[j]'hjA).bal)::paidEv (s.accs.drop (j+1)) (S.drop (j+1)):=by
       rw [<- TV1.out.accs,<- HDA.out];simp only [<- List.map_drop];rw [List.drop_eq_getElem_cons hjA,List.drop_eq_getElem_cons hjD,List.map_cons,List.map_cons,paidEv];rfl
      have bA:=money_true (accErr_ok (HS.out.acc _ (by rw [<- TV1.out.accs];exact List.mem_map_of_mem (List.getElem_mem hjA)):accErr (A[j]'hjA).id (A[j]'hjA).bal (A[j]'hjA).pos s.mkts.length=0)).2.2.2.1;have bD:=money_true (HMS.out (D[j]'hjD).acc (by rw [<- HDA.out];exact List.mem_map_of_mem (List.getElem_mem hjD)));change -1000000000000<=(D[j]'hjD).bal/\(D[j]'hjD).bal<=1000000000000 at bD;generalize (D[j]'hjD).id=di at *;generalize (D[j]'hjD).bal=db at *;generalize (D[j]'hjD).p=dp at *;generalize (D[j]'hjD).n=dn at *;generalize (D[j]'hjD).c=dc at *;generalize (A[j]'hjA).bal=ab at *;obtain⟨bA1,bA2⟩:=bA;obtain⟨bD1,bD2⟩:=bD;have bb1:-9223372036854775808<=db - ab:=by omega
      have bb2:db - ab<=9223372036854775807:=by omega
      obtain⟨W1,hW1⟩:∃W1,W1=wr.alloc (.cells #[.int .i64 di,.int .i64 db,.slice dp dn dc] 89):=⟨_,rfl⟩;have bw1:Below wr.heap.size wr W1:=by rw [hW1];exact below_alloc wr _
      have e9:W1.heap[wr.heap.size]? = some (.cells #[.int .i64 di,.int .i64 db,.slice dp dn dc] 89 (0,0)):=by rw [hW1];exact heap_alloc_new wr _
      obtain⟨V1,hV1⟩:∃V1,V1=W1.drew:=⟨_,rfl⟩;have bv1:Below W1.heap.size W1 V1:=by rw [hV1];exact(Below.refl _ W1).drew
      have tv1:=(tv.below bw1).below bv1;have MV:=hide (moved_any T G { s with evs:=E } A M _ _ ve' di (db - ab) V1 tv1 (by have:=HE.out;show E.length<=_;omega));have v0:=(blk_cell e9 0).1;have v1:=(blk_cell e9 1).1;simp only [List.getElem?_toArray,List.getElem?_cons_zero,List.getElem?_cons_succ] at v0 v1;have v0':=(bv1.cell (World.block_lt_of_cell? _ _ v0)).trans v0;have HV1:=hide hV1;have u0:=(bw1.cell (World.block_lt_of_cell? _ _ t0)).trans t0;have u1:=(bw1.cell (World.block_lt_of_cell? _ _ k1)).trans k1;have bt1:But F w2 V1:=(bt.trans (But.of_below (F:=F) bw1) (fun _ f=>.inl f)).trans (But.of_below (F:=F) bv1) (fun _ f=>.inl f);have TVR:=hide tv1;have NW:=hide nw;have BT:=hide bt1;have HEE:=hide hEE;have HEL:=hide hEl;have HST:=hide hstep;have HW1:=hide hW1;clear tv nw bt hEE hEl hg' hstep bw1 e9 tv1 t0 k1 bt1 hW1 hV1 bv1 I;by_cases hne:db - ab=0
      ·have HN:=hide hne;go_wp2_with (rw [<- HW1.out]);go_region;rw [<- HV1.out];clear HW1 HV1 v0 v1 u0 u1 d0 d1 d2;go_wp2;go_roundw
       case rel =>
        refine⟨j+1,hlt,by go_num,G,ve',E,TVR.out,NW.out,BT.out,?_,by have:=HEL.out;omega⟩;have:=HEE.out;rw [HST.out,if_pos HN.out] at this;exact this
       case measure=>simp [intOf];omega
      ·have HN:=hide hne;go_wp2_with (rw [<- HW1.out]);go_region;rw [<- HV1.out];clear HW1 HV1 v0 v1 u0 u1 d0 d1 d2;go_wp2_with fail;refine MV.out.mono ?_;rintro e V ⟨rfl,g',cap',tv',hg',b'⟩;have I':Hid (FInv w2 T F s A M (.slice (some ⟨ga,0,none⟩) A.length cc) (.slice (some ⟨gm,0,none⟩) M.length cm) S (s.evs++paidEv s.accs S) (j+1) V):=by
        refine⟨_,_,E++[evMoved di (db - ab)],tv',?_,BT.out.trans b' (fun b g=>NW.out b g),?_,by rw [List.length_append];have:=HEL.out;simp;omega⟩
        ·rintro b (hb | rfl)
         ·exact NW.out b hb
         ·rcases hg' with h | h
          ·exact NW.out _ h
          ·exact .inr (Nat.le_trans BT.out.size h)
        ·have:=HEE.out;rw [HST.out,if_neg HN.out] at this;rw [List.append_assoc];exact this
       clear tv' hg' b' MV TVR;go_wp2;go_roundw
       case rel=>exact⟨j+1,hlt,by go_num,I'⟩
       case measure=>simp [intOf];omega
     ·have hjm:j=m:=by omega
      subst hjm;obtain⟨G,ve',E,tv,nw,bt,hEE,-⟩:=I.out;have hE0:E=s.evs++paidEv s.accs S:=by
       rw [List.drop_eq_nil_of_le (by have:=TV1.out.lenA;have:=HM.out;omega)] at hEE;have:paidEv [] (S.drop j)=[]:=by simp [paidEv]
       rw [this,List.append_nil] at hEE;exact hEE
      subst hE0;have hg':=blk_but HDH.out bt NFg.out;have hlen:D.length=j:=by rw [HDL.out,<- HM.out]
      have hM:∀mm,mm∈M->Off (fun b=>G b\/b=g) mm.1.1 (mB mm)/\Off (fun b=>G b\/b=g) mm.2.1.1 (mA mm):=fun mm hmm=>by
       obtain⟨o1,o2,r1,r2⟩:=TV1.out.eachM mm hmm;obtain⟨-,-,q1,q2⟩:=tv.eachM mm hmm;exact⟨off_both q1 (off_orow o1.row r1 (.inr HGG.out)),off_both q2 (off_orow o2.row r2 (.inr HGG.out))⟩
      have hDD:∀a,a∈D->AOk wr a/\Off (fun b=>G b\/b=g) a.p a.pos:=fun a ha=>by
       obtain⟨ok,x,hx,hgx⟩:=HDE.out a ha;have offF:Off F a.p a.pos:=.inr fun y hy f=>by rw [hx] at hy;cases hy;have:=TV1.out.lt _ f;have:=HGG.out;omega
       refine⟨aok_but ok bt offF,off_both (F:=fun _=>False) (off_newer ok.row offF nw) (.inr fun y hy e=>?_)⟩;rw [hx] at hy;cases hy
       rcases e with e | e
       ·exact e
       ·omega
      have tvZ:=tv.setAccs (A':=D) (flat_own hg' (by rw [hlen];exact hA8)) (Array.getElem?_eq_some_iff.1 hg').1 hM hDD;rw [hlen,HDA.out] at tvZ;have c0:wr.cell? ⟨T,0,none⟩=some (.slice p A.length cc):=by rw [tv.cell];rfl
      have q0:=tv.frozen 0;obtain⟨Z,hZ⟩:∃Z,Z=wr.setCell ⟨T,0,none⟩ (.slice (some ⟨g,0,none⟩) j j):=⟨_,rfl⟩;have BZ:But F w Z:=by
       rw [hZ];exact((But.of_below B2.out:But F w w2).trans bt (fun _ f=>.inl f)).setCell (p:=⟨T,0,none⟩) (.inl TV1.out.own) _
      have szZ:w2.heap.size<=Z.heap.size:=by
       rw [hZ];have:=bt.size;simpa [World.setCell] using this
      rw [<- hZ] at tvZ;have TZ:TA Z T (fun b=>G b\/b=g) L { s with accs:=S,evs:=s.evs++paidEv s.accs S }:=by
       refine⟨_,_,_,_,_,tvZ,⟨fun a ha=>?_,HRW.out.m⟩,fun b hb=>Nat.lt_of_lt_of_le (HLT2.out b hb) szZ⟩;obtain⟨-,x,hx,hgx⟩:=HDE.out a ha;exact .inr fun y hy f=>by rw [hx] at hy;cases hy;have:=HLT1.out _ f;have:=HGG.out;omega
      have RS:Hid (Calls Tryz.prog 116 #[.pointer (some ⟨T,3,none⟩),.int .i64 left] Z (Ends Z T (fun b=>G b\/b=g) L R)):=by
       rw [HR2.out];exact res_any T _ L _ left Z TZ
      have NZ:Hid (Newer w F (fun b=>G b\/b=g)):=by
       rintro b (hb | rfl)
       ·exact(nw b hb).imp id (Nat.le_trans B2.out.size)
       ·exact .inr (Nat.le_trans B1.out.size HGG.out)
      have BZH:=hide BZ;have HZ:=hide hZ;clear tv nw bt hEE hg' hM hDD tvZ TZ BZ szZ hZ I;go_wp2_with (rw [<- HZ.out]);refine RS.out.mono ?_;rintro e V hE;have EE:=hide (ends_on NZ.out BZH.out hE);rcases hE with⟨t,h1,rfl,-⟩ | ⟨r,h1,rfl,h2,-⟩
      ·go_wp2;go_ret;exact EE.out
      ·go_wp2;go_ret;exact EE.out
   ·have EE:Hid (Ends w T F L R (.returned (.int .i64 r)) w2):=by
     refine .inr ⟨r,?_,rfl,hr0,.of_below B2.out⟩;have:=HR1.out;rw [if_neg (by rw [<- HRR.out];exact hr0)] at this;rw [HRR.out];exact this
    clear HR1 HDD;go_wp2;go_ret;exact EE.out
  ·have EE:Hid (Ends w T F L R (.returned (.int .i64 me)) w1):=by
    refine .inr ⟨me,?_,rfl,hme,.of_below B1.out⟩;have:=HR.out;rw [if_neg hme] at this;exact this
   clear HR;go_wp2;go_ret;exact EE.out
end Go.Proofs.YthdjfhnhjiageaaGreatDoor.Vn
