import Derived.Test.YthdjfhnhjiageaaGreatDoorG37
import Derived.Test.YthdjfhnhjiageaaGreatDoorG36
set_option maxHeartbeats 8000000
set_option maxRecDepth 100000
namespace Go.Proofs.YthdjfhnhjiageaaGreatDoor.Vn
open Go.RowKit Num Fix AcP FuP Bk Rm Ac Go.Sort Go.Maps Mix RkP
theorem drop_len (id:Int)(k:Nat):∀(l:List Odr)(s t:Tn),dropL id k l s=.ok t->t.evs.length<=s.evs.length+l.length
 |[],s,t,h=>by cases h;simp
 |o::l,s,t,h=>by
  unfold dropL at h;split at h
  ·split at h
   ·have:=drop_len id k l _ t h;have e:(remR s k (oid o) o).evs.length=s.evs.length+1:=by simp [remR,Tn.tell,Tn.setB,Tn.setM]
    rw [e] at this;simp only [List.length_cons];omega
   ·cases h
  ·have:=drop_len id k l s t h;simp only [List.length_cons];omega
theorem tradeOf_evs {s t:Tn}{id mk q p fee:Int}(h:tradeOfR s id mk q p fee=.ok t):t.evs=s.evs:=by
 unfold tradeOfR at h;split at h
 ·cases h;rfl
 ·cases h
theorem trade_evs {s t:Tn}{mk:Int}{f:Fil}{fee:Int}(h:tradeR s mk f fee=.ok t):t.evs=s.evs:=by
 unfold tradeR at h;split at h
 ·rename_i u hu;split at h
  ·rename_i v hv;unfold insR at h;split at h
   ·cases h
    exact(tradeOf_evs hv).trans (tradeOf_evs hu)
   ·cases h
  ·cases h
 ·cases h
theorem fills_len (mk:Int)(free:Bool):∀(l:List Fil)(s t:Tn),fillsR mk free l s=.ok t->t.evs.length=s.evs.length+l.length
 |[],s,t,h=>by cases h;simp
 |f::l,s,t,h=>by
  unfold fillsR at h;split at h
  ·split at h
   ·rename_i u hu;have:=fills_len mk free l _ t h;have e:((u.setL mk.toNat f.2.2.2.2.2.1).tell (evFilled mk f)).evs.length=s.evs.length+1:=by
     rw [<- trade_evs hu];simp [Tn.tell,Tn.setL,Tn.setM]
    rw [this,e,List.length_cons];omega
   ·cases h
  ·cases h
theorem others_len (k:Nat)(id sd pr:Int):∀(n:Nat)(q:Int)(s t:Tn),othersR k id sd pr n q s=.ok t->t.evs.length<=s.evs.length+n
 |0,q,s,t,h=>by cases h;simp
 |n+1,q,s,t,h=>by
  unfold othersR at h;split at h
  ·split at h
   ·rename_i u hu;have:=others_len k id sd pr n _ _ t h;have e:u.evs.length=s.evs.length:=by rw [trade_evs hu]
    simp only [Tn.tell,List.length_append,List.length_cons,List.length_nil] at this;omega
   ·cases h
  ·cases h;omega
theorem closeIn_len {s t:Tn}{i k:Nat}{marks:List Int}(h:closeInR s i k marks=.ok t)(hs:Str s)(hk:k<s.mkts.length):t.evs.length<=s.evs.length+1040:=by
 unfold closeInR at h;split at h
 ·generalize closeO (accAt s i) k (bankR (accAt s i).1 (accAt s i).2.1 (accAt s i).2.2 marks k).1=o at h;unfold closeInO at h;split at h
  ·rename_i ht;have ho:=(takeErr_zero.1 ht).2;split at h
   ·rename_i u hu;have h1:=fills_len _ _ _ _ _ hu;have h2:=others_len _ _ _ _ _ _ _ _ h;have hr:=(hs.at hk).1.few;have h3:=takes_few o (if osd o=1 then (mktAt s k).2.1 else (mktAt s k).1) (oqt o);have hT:(takeT (mktAt s k).1 (mktAt s k).2.1 o).2.1=(takes o (oqt o) (if osd o=1 then (mktAt s k).2.1 else (mktAt s k).1)).2.1:=rfl;have h4:(takeT (mktAt s k).1 (mktAt s k).2.1 o).2.1.length<=40:=by
     rw [hT];refine Nat.le_trans h3 ?_;split<;>omega
    have h5:=take_fills (hs.at hk).1 ho;have h6:=(okOrder_pq ho).2.2.2;have h7:=sumQ_pos _ (fun f hf=>by obtain⟨x,-,-,-,-,-,r,-⟩:=h5.1 f hf;exact r);have h8:=h5.2.1;have e:(s.setB k (takeB (mktAt s k).1 (mktAt s k).2.1 o) (takeA (mktAt s k).1 (mktAt s k).2.1 o)).evs.length=s.evs.length:=rfl;have h9:(takeT (mktAt s k).1 (mktAt s k).2.1 o).2.2.1.toNat<=1000:=by omega
    omega
   ·cases h
  ·cases h
 ·cases h
theorem cover_len {s t:Tn}{i:Nat}(h:coverR s i=.ok t):t.evs.length<=s.evs.length+1:=by
 unfold coverR at h;split at h
 ·cases h;omega
 ·unfold moveR at h;split at h
  ·cases h
   simp [Tn.tell,Tn.setA]
  ·cases h
def CInv (w:World) (T:Nat) (F L:Nat->Prop) (s:Tn) (N:Nat) (f:Tn->Res) (R:Res) (wr:World):Prop :=
 ∃G t,TA wr T G L t/\Newer w F G/\But F w wr/\Str t/\Sums t/\t.accs.map (·.1)=s.accs.map (·.1)/\t.mkts.length=s.mkts.length/\t.evs.length<=N/\f t=R
def thenR (r:Res) (f:Tn->Res):Res:=match r with | .ok t=>f t | .error e=>.error e
theorem dropM_step {id:Int}{m k:Nat}(hk:k<m)(t:Tn):dropM id (m - k) k t=thenR (dropL id k ((mktAt t k).1++(mktAt t k).2.1) t) (dropM id (m - (k+1)) (k+1)):=by
 rw [show m - k=m - (k+1)+1 by omega,dropM]
 cases dropL id k ((mktAt t k).1++(mktAt t k).2.1) t<;>rfl
theorem closeM_step {i:Nat}{marks:List Int}{m k:Nat}(hk:k<m)(t:Tn):closeM i marks (m - k) k t=if posAt (accAt t i) k=0 then closeM i marks (m - (k+1)) (k+1) t else thenR (closeInR t i k marks) (closeM i marks (m - (k+1)) (k+1)):=by
 rw [show m - k=m - (k+1)+1 by omega,closeM]
 cases closeInR t i k marks<;>rfl
theorem closeAll_is (s:Tn)(i:Nat)(marks:List Int):closeAllR s i marks=thenR (dropM (accAt s i).1 s.mkts.length 0 s) (fun t=>thenR (closeM i marks t.mkts.length 0 t) (fun u=>coverR u i)):=by
 unfold closeAllR
 cases hd:dropM (accAt s i).1 s.mkts.length 0 s with
 |error e=>rfl
 |ok t =>
  dsimp only [thenR]
  cases closeM i marks t.mkts.length 0 t<;>rfl
def restA (ID:Int) (i m:Nat) (marks:List Int) (k:Nat) (t:Tn):Res:=thenR (dropM ID (m - k) k t) (fun t=>thenR (closeM i marks m 0 t) (fun u=>coverR u i))
def restB (i m:Nat) (marks:List Int) (k:Nat) (t:Tn):Res:=thenR (closeM i marks (m - k) k t) (fun u=>coverR u i)
theorem restA_step {ID:Int}{i m k:Nat}{marks:List Int}(hk:k<m)(t:Tn):restA ID i m marks k t=thenR (dropL ID k ((mktAt t k).1++(mktAt t k).2.1) t) (restA ID i m marks (k+1)):=by
 unfold restA;rw [dropM_step hk]
 cases dropL ID k ((mktAt t k).1++(mktAt t k).2.1) t<;>rfl
theorem restA_end {ID:Int}{i m k:Nat}{marks:List Int}(hk:m<=k)(t:Tn):restA ID i m marks k t=restB i m marks 0 t:=by
 unfold restA restB;rw [show m - k=0 by omega];rfl
theorem restB_step {i m k:Nat}{marks:List Int}(hk:k<m)(t:Tn):restB i m marks k t=if posAt (accAt t i) k=0 then restB i m marks (k+1) t else thenR (closeInR t i k marks) (restB i m marks (k+1)):=by
 unfold restB;rw [closeM_step hk];split
 ·rfl
 ·cases closeInR t i k marks<;>rfl
theorem restB_end {i m k:Nat}{marks:List Int}(hk:m<=k)(t:Tn):restB i m marks k t=coverR t i:=by
 unfold restB;rw [show m - k=0 by omega];rfl
theorem closeAll_any (T:Nat)(F L:Nat->Prop)(s:Tn)(i:Nat)(pm:Option Addr)(n2 c2:Nat)(marks:List Int)(w:World)(h:TA w T F L s)(hs:Str s)(hS:Sums s)(hi:i<s.accs.length)(hmr:Row w pm marks)(hml:marks.length=n2)(hmo:Off F pm marks)(hE:s.evs.length<=700000) :
  Calls Tryz.prog 134 #[turnP T,.int .i64 (i:Nat),.slice pm n2 c2] w (Ends w T F L (closeAllR s i marks)):=by
 have mixed:Tryz.prog.follows .mixedOrders=true:=by kernel_rfl
 obtain⟨R,hR⟩:∃R,R=closeAllR s i marks:=⟨_,rfl⟩;rw [<- hR];obtain⟨m,hm⟩:∃m,m=s.mkts.length:=⟨_,rfl⟩;obtain⟨ID,hID⟩:∃ID,ID=(accAt s i).1:=⟨_,rfl⟩
 have I0:Hid (CInv w T F L s 700000 (restA ID i m marks 0) R w):=by
  refine⟨F,s,h,newer_refl _ _,But.refl F w,hs,hS,rfl,rfl,hE,?_⟩;rw [hR,closeAll_is];unfold restA;rw [hID,hm,Nat.sub_zero]
  cases hd:dropM (accAt s i).1 s.mkts.length 0 s with
  |error e=>rfl
  |ok u =>
   dsimp only [thenR];rw [(dropM_facts _ _ 0 s u hd hs hS (by omega)).1.len]
 obtain⟨A,M,va,vm,ve,tv,-,-⟩:=h;have hm1:0<M.length:=by rw [tv.lenM];exact hs.m1
 have hmM:M.length=m:=by rw [tv.lenM,hm]
 obtain⟨gm,cm,rfl,-,-,-,-,-,-⟩:=tv.atM hm1;have t1:w.cell? ⟨T,1,none⟩=some (.slice (some ⟨gm,0,none⟩) m cm):=by rw [<- hmM,tv.cell];rfl
 have hm2:m<=2:=by rw [hm];exact hs.m2
 have HM:=hide hm;have HID:=hide hID;have HI:=hide hi;have HMR:=hide hmr;have HML:=hide hml;have HMO:=hide hmo;clear hR hm hID hs hS hi hmr hml hmo hE tv hm1 hmM;go_enter Tryz.func134,Tryz.ntmps134;go_wp2
 go_loopw [17] (fun j wr=>∃(k:Nat),k<=m/\j=.int .i64 k/\Hid (CInv w T F L s (700000+80*k) (restA ID i m marks k) R wr)) (fun j _=>m - (intOf j).toNat)
 case atStart=>exact⟨0,Nat.zero_le _,rfl,I0⟩
 case round =>
  clear I0 t1;obtain⟨k,hk,rfl,I⟩:=hrel;by_cases hlt:k<m
  ·have hltz:(k:Int)<(m:Int):=by omega
   obtain⟨G,t,ta,nw,bt,st,su,ids,ml,ev,hf⟩:=I.out;have hla:t.accs.length=s.accs.length:=by simpa using congrArg List.length ids
   have hkt:k<t.mkts.length:=by rw [ml,<- HM.out];exact hlt
   have hit:i<t.accs.length:=by rw [hla];exact HI.out
   have hid:(accAt t i).1=ID:=by rw [HID.out];exact ids_at ids i
   have DR:=drop_any T G L t i k wr ta st su hit hkt (by omega);rw [hid] at DR;have DRH:=hide DR;have hf':R=thenR (dropL ID k ((mktAt t k).1++(mktAt t k).2.1) t) (restA ID i m marks (k+1)):=hf.symm.trans (restA_step hlt t);have HF:=hide hf';have NW:=hide nw;have BT:=hide bt;have ST:=hide st;have SU:=hide su;have IDS:=hide ids;have ML:=hide ml;have EV:=hide ev;have HKT:=hide hkt;clear DR hf hf' ta nw bt st su ids ml ev hla hit hid hkt I;go_wp2_with fail;refine DRH.out.mono ?_;rintro e V (⟨u,hu,rfl,G1,ta1,nw1,bt1⟩ | ⟨r,hr,rfl,hr0,hb⟩)
   ·have I':Hid (CInv w T F L s (700000+80*(k+1)) (restA ID i m marks (k+1)) R V):=by
     obtain⟨SF,-⟩:=drop_facts ID k _ t u hu ST.out SU.out HKT.out;have hl:=drop_len ID k _ t u hu;have hfw:=book_few (ST.out.at HKT.out).1;rw [List.length_append] at hl;refine⟨G1,u,ta1,?_,BT.out.trans bt1 (fun b g=>NW.out b g),SF.str,SF.sums,SF.ids.trans IDS.out,SF.len.trans ML.out,by have:=EV.out;omega,?_⟩
     ·intro b hb;rcases nw1 b hb with g | g
      ·exact NW.out b g
      ·exact .inr (Nat.le_trans BT.out.size g)
     ·have:=HF.out;rw [hu] at this;exact this.symm
    clear ta1 nw1 bt1 hu HF DRH;go_wp2;go_roundw
    case rel=>exact⟨k+1,hlt,by go_num,I'⟩
    case measure=>simp [intOf];omega
   ·have EE:Hid (Ends w T F L R (.returned (.int .i64 r)) V):=by
     refine .inr ⟨r,?_,rfl,hr0,BT.out.trans hb (fun b g=>NW.out b g)⟩;have:=HF.out;rw [hr] at this;exact this
    clear HF DRH hr hb;go_wp2;go_ret;exact EE.out
  ·have I1:Hid (CInv w T F L s 702000 (restB i m marks 0) R wr):=by
    obtain⟨G,t,ta,nw,bt,st,su,ids,ml,ev,hf⟩:=I.out;rw [restA_end (by omega)] at hf;exact⟨G,t,ta,nw,bt,st,su,ids,ml,by omega,hf⟩
   have hm1:0<m:=by
    obtain⟨G,t,ta,nw,bt,st,su,ids,ml,ev,hf⟩:=I.out;rw [HM.out,<- ml];exact st.m1
   obtain⟨gm1,cm1,t1⟩:∃gm1 cm1,wr.cell? ⟨T,1,none⟩=some (.slice (some ⟨gm1,0,none⟩) m cm1):=by
    obtain⟨G,t,⟨A1,M1,va1,vm1,ve1,tv1,-,-⟩,nw,bt,st,su,ids,ml,ev,hf⟩:=I.out;have e1:M1.length=m:=by rw [tv1.lenM,ml,HM.out]
    obtain⟨gm1,cm1,rfl,-,-,-,-,-,-⟩:=tv1.atM (k:=0) (by rw [e1];exact hm1);exact⟨gm1,cm1,by rw [<- e1,tv1.cell];rfl⟩
   clear I;obtain⟨X,hX⟩:∃X,X=wr:=⟨_,rfl⟩;subst hX;go_wp2
   go_loopw [34] (fun j wr=>∃(k:Nat),k<=m/\j=.int .i64 k/\Hid (CInv w T F L s (702000+1040*k) (restB i m marks k) R wr)) (fun j _=>m - (intOf j).toNat)
   case atStart=>exact⟨0,Nat.zero_le _,rfl,I1⟩
   case round =>
    clear I1 t1 hlt hk;obtain⟨k,hk,rfl,I⟩:=hrel;by_cases hlt:k<m;focus
     have hltz:(k:Int)<(m:Int):=by omega
    rotate_left;rotate_left;all_goals
     obtain⟨G,t,ta,nw,bt,st,su,ids,ml,ev,hf⟩:=I.out;have hla:t.accs.length=s.accs.length:=by simpa using congrArg List.length ids
    ·have hkt:k<t.mkts.length:=by rw [ml,<- HM.out];exact hlt
     have hit:i<t.accs.length:=by rw [hla];exact HI.out
     have CI:=hide (closeIn_any T G L t i k pm n2 c2 marks wr ta st su hit hkt (row_but HMR.out bt HMO.out) HML.out (by omega));have hf':=hf.symm.trans (restB_step hlt t);have TAH:=hide ta;obtain⟨A1,M1,va1,vm1,ve1,tv,-,-⟩:=ta;have hiA:i<A1.length:=by rw [tv.lenA];exact hit
     obtain⟨ga,ca,rfl,-,-,-,-,-,-,k2⟩:=tv.atA hiA;have t0:wr.cell? ⟨T,0,none⟩=some (.slice (some ⟨ga,0,none⟩) A1.length ca):=by rw [tv.cell];rfl
     obtain⟨pb,po,pe,pl,pc,-,-⟩:=tv.posn st hkt hiA;rw [pe] at k2;have hiz:(i:Int)<(A1.length:Int):=by omega
     have hkn:(k:Int)<((A1[i]'hiA).n:Int):=by omega
     generalize (A1[i]'hiA).n=an at *;generalize (A1[i]'hiA).c=ac at *;obtain⟨px,hpx⟩:∃px,px=posAt (accAt t i) k:=⟨_,rfl⟩;rw [<- hpx] at pc hf';have HF:=hide hf';have NW:=hide nw;have BT:=hide bt;have ST:=hide st;have SU:=hide su;have IDS:=hide ids;have ML:=hide ml;have EV:=hide ev;have HKT:=hide hkt;have HIT:=hide hit;clear hf hf' nw bt st su ids ml ev hla hit hkt I pe pl hpx tv;by_cases hp0:px=0
     ·have I':Hid (CInv w T F L s (702000+1040*(k+1)) (restB i m marks (k+1)) R wr):=by
       refine⟨G,t,TAH.out,NW.out,BT.out,ST.out,SU.out,IDS.out,ML.out,by have:=EV.out;omega,?_⟩;have:=HF.out;rw [if_pos hp0] at this;exact this.symm
      subst hp0;go_wp2;go_roundw
      case rel=>exact⟨k+1,hlt,by go_num,I'⟩
      case measure=>simp [intOf];omega
     ·have HF2:Hid (R=thenR (closeInR t i k marks) (restB i m marks (k+1))):=by
       have:=HF.out;rw [if_neg hp0] at this;exact this
      clear HF;go_wp2_with fail;refine CI.out.mono ?_;rintro e V (⟨u,hu,rfl,G1,ta1,nw1,bt1⟩ | ⟨r,hr,rfl,hr0,hb⟩)
      ·have I':Hid (CInv w T F L s (702000+1040*(k+1)) (restB i m marks (k+1)) R V):=by
        obtain⟨SF,-,-⟩:=closeIn_facts hu ST.out SU.out HIT.out HKT.out;have hl:=closeIn_len hu ST.out HKT.out;refine⟨G1,u,ta1,?_,BT.out.trans bt1 (fun b g=>NW.out b g),SF.str,SF.sums,SF.ids.trans IDS.out,SF.len.trans ML.out,by have:=EV.out;omega,?_⟩
        ·intro b hb;rcases nw1 b hb with g | g
         ·exact NW.out b g
         ·exact .inr (Nat.le_trans BT.out.size g)
        ·have:=HF2.out;rw [hu] at this;exact this.symm
       clear ta1 nw1 bt1 hu HF2 CI;go_wp2;go_roundw
       case rel=>exact⟨k+1,hlt,by go_num,I'⟩
       case measure=>simp [intOf];omega
      ·have EE:Hid (Ends w T F L R (.returned (.int .i64 r)) V):=by
        refine .inr ⟨r,?_,rfl,hr0,BT.out.trans hb (fun b g=>NW.out b g)⟩;have:=HF2.out;rw [hr] at this;exact this
       clear HF2 CI hr hb;go_wp2;go_ret;exact EE.out
    ·have hit:i<t.accs.length:=by rw [hla];exact HI.out
     rw [restB_end (by omega)] at hf;have CV:=cover_any T G L t i wr ta hit (accErr_ok (st.accOk hit)).2.2.2.1 st.ins (by omega);rw [hf] at CV;have CVH:=hide CV;have NW:=hide nw;have BT:=hide bt;clear CV hf ta nw bt st su ids ml ev hla hit I;go_wp2_with fail;refine CVH.out.mono ?_;rintro e V hE;have EE:=hide (ends_on NW.out BT.out hE);rcases hE with⟨t',h1,rfl,-⟩ | ⟨r,h1,rfl,h2,-⟩
     ·go_wp2;go_ret;exact EE.out
     ·go_wp2;go_ret;exact EE.out
theorem dropM_len (id:Int):∀(n k:Nat)(s t:Tn),dropM id n k s=.ok t->Str s->Sums s->k+n=s.mkts.length->t.evs.length<=s.evs.length+80*n
 |0,k,s,t,h,_,_,_=>by cases h;simp
 |n+1,k,s,t,h,hs,hS,hk=>by
  unfold dropM at h;split at h
  ·rename_i u hu;obtain⟨F,-⟩:=drop_facts id k _ s u hu hs hS (by omega);have h1:=drop_len id k _ s u hu;have h2:=dropM_len id n (k+1) u t h F.str F.sums (by rw [F.len];omega);have h3:=book_few (hs.at (k:=k) (by omega)).1;rw [List.length_append] at h1;omega
  ·cases h
theorem closeM_len (i:Nat)(marks:List Int):∀(n k:Nat)(s t:Tn),closeM i marks n k s=.ok t->Str s->Sums s->i<s.accs.length->k+n=s.mkts.length->t.evs.length<=s.evs.length+1040*n
 |0,k,s,t,h,_,_,_,_=>by cases h;simp
 |n+1,k,s,t,h,hs,hS,hi,hk=>by
  unfold closeM at h;split at h
  ·have:=closeM_len i marks n (k+1) s t h hs hS hi (by omega);omega
  ·split at h
   ·rename_i u hu;obtain⟨F,-,-⟩:=closeIn_facts hu hs hS hi (by omega);have h1:=closeIn_len hu hs (by omega);have h2:=closeM_len i marks n (k+1) u t h F.str F.sums (by rw [F.lenA];exact hi) (by rw [F.len];omega);omega
   ·cases h
theorem closeAll_len {s t:Tn}{i:Nat}{marks:List Int}(h:closeAllR s i marks=.ok t)(hs:Str s)(hS:Sums s)(hi:i<s.accs.length):t.evs.length<=s.evs.length+3000:=by
 unfold closeAllR at h;split at h
 ·rename_i u hu;obtain⟨D,d⟩:=dropM_facts _ _ _ s u hu hs hS (by omega);have h1:=dropM_len _ _ _ s u hu hs hS (by omega);have m2:=hs.m2;have ml:=D.len;split at h
  ·rename_i v hv;have h2:=closeM_len i marks _ 0 u v hv D.str D.sums (by rw [d];exact hi) (by omega);have h3:=cover_len h;rw [ml] at h2;omega
  ·cases h
 ·cases h
def restS (marks:List Int) (N k:Nat) (t:Tn):Res:=sweepL marks (N - k) k t
theorem restS_step {marks:List Int}{N k:Nat}(hk:k<N)(t:Tn):restS marks N k t=if (soundR (accAt t k).1 (accAt t k).2.1 (accAt t k).2.2 marks).2.2=0 then (if (soundR (accAt t k).1 (accAt t k).2.1 (accAt t k).2.2 marks).2.1=true then restS marks N (k+1) t else thenR (closeAllR t k marks) (restS marks N (k+1))) else .error (soundR (accAt t k).1 (accAt t k).2.1 (accAt t k).2.2 marks).2.2:=by
 unfold restS;rw [show N - k=N - (k+1)+1 by omega,sweepL]
 cases closeAllR t k marks<;>rfl
theorem restS_end {marks:List Int}{N k:Nat}(hk:N<=k)(t:Tn):restS marks N k t=.ok t:=by
 unfold restS;rw [show N - k=0 by omega];rfl
theorem sweep_any (T:Nat)(F L:Nat->Prop)(s:Tn)(w:World)(h:TA w T F L s)(hs:Str s)(hS:Sums s)(hL:Rk.Laid w)(hF0:¬F 8)(hE:s.evs.length<=600000) :
  Calls Tryz.prog 92 #[turnP T] w (Ends w T F L (sweepR s)):=by
 have mixed:Tryz.prog.follows .mixedOrders=true:=by kernel_rfl
 obtain⟨R,hR⟩:∃R,R=sweepR s:=⟨_,rfl⟩;rw [<- hR];unfold sweepR at hR;have TA0:=hide h;obtain⟨A,M,va,vm,ve,tv,-,-⟩:=h;obtain⟨pm,cm,rfl,t1,hm⟩:=tv.mrow hs;have MK:=marks_any pm M.length cm M w rfl hm;rw [marksP_is,tv.mkts] at MK;have MKH:=hide MK;have HA:Hid (A.length=s.accs.length):=tv.lenA;generalize marksP s.mkts=P at *;obtain⟨mks,me⟩:=P;dsimp only at MKH hR;have HR:=hide hR;have HS:=hide hs;have HSu:=hide hS;have HL:=hide hL;have HF0:=hide hF0;have HE:=hide hE;clear hR hs hS hL hF0 hE hm MK tv;go_enter Tryz.func92,Tryz.ntmps92;go_wp2_with fail;refine MKH.out.mono ?_;rintro e X ⟨v,rfl,ho,hb⟩;obtain⟨px,cx,rfl,h1,-,hrow,hge⟩:=own_am ho;have BX:=hide hb;have HRW:=hide hrow;have HGE:=hide hge;have TAX:=hide (TA0.out.below hb);have LX:=hide (HL.out.next hb);clear MKH t1 hb ho hrow hge h1;by_cases hme:me=0
 ·have HR1:Hid (R=sweepL mks s.accs.length 0 s):=by
   have:=HR.out;rw [if_pos hme] at this;exact this
  subst hme;clear HR;obtain⟨N,hN⟩:∃N,N=s.accs.length:=⟨_,rfl⟩;have I0:Hid (CInv X T F L s 600000 (restS mks N 0) R X):=by
   refine⟨F,s,TAX.out,newer_refl _ _,But.refl F X,HS.out,HSu.out,rfl,rfl,HE.out,?_⟩;rw [HR1.out,hN];rfl
  have HN:=hide hN;obtain⟨pa,ca,t0⟩:∃pa ca,X.cell? ⟨T,0,none⟩=some (.slice pa N ca):=by
   obtain⟨A1,M1,va1,vm1,ve1,tv1,-,-⟩:=TAX.out;obtain⟨pa,ca,rfl,t0,-⟩:=tv1.place HS.out 0;exact⟨pa,ca,by rw [hN,<- tv1.lenA];exact t0⟩
  have hN8:N<=8:=by rw [hN];exact HS.out.few
  have HMO:Hid (Off F px mks):=.inr fun x hx f=>by
   have:=HGE.out x hx;have:=TA0.out.lt _ f;omega
  generalize hnm:mks.length=nm at *;have HNM:=hide hnm;clear hN hnm;go_wp2
  go_loopw [27] (fun j wr=>∃(k:Nat),k<=N/\j=.int .i64 k/\Hid (CInv X T F L s (600000+3000*k) (restS mks N k) R wr)) (fun j _=>N - (intOf j).toNat)
  case atStart=>exact⟨0,Nat.zero_le _,rfl,I0⟩
  case round =>
   clear I0 t0;obtain⟨k,hk,rfl,I⟩:=hrel;by_cases hlt:k<N
   ·have hltz:(k:Int)<(N:Int):=by omega
    obtain⟨G,t,ta,nw,bt,st,su,ids,ml,ev,hf⟩:=I.out;have hla:t.accs.length=s.accs.length:=by simpa using congrArg List.length ids
    have hkt:k<t.accs.length:=by rw [hla,<- HN.out];exact hlt
    have hf':=hf.symm.trans (restS_step hlt t);have lw:=laid_but LX.out bt HF0.out;have rw1:=row_but HRW.out bt HMO.out;have TAH:=hide ta;have og:Off G px mks:=off_newer HRW.out HMO.out nw;obtain⟨A1,M1,va1,vm1,ve1,tv,-,-⟩:=ta;have hkA:k<A1.length:=by rw [tv.lenA];exact hkt
    obtain⟨ga,cga,rfl,-,-,-,-,k0,k1,k2⟩:=tv.atA hkA;have t0:wr.cell? ⟨T,0,none⟩=some (.slice (some ⟨ga,0,none⟩) A1.length cga):=by rw [tv.cell];rfl
    have hmem:=(tv.each _ (List.getElem_mem hkA)).1;have hisa:=tv.isAcc hkA;rw [hisa] at hf';have hkz:(k:Int)<(A1.length:Int):=by omega
    generalize (A1[k]'hkA)=a at *;obtain⟨aid,bal,ap,an,ac,pos⟩:=a;dsimp only at k0 k1 k2 hmem hisa hf';have SO:Hid (∀Y,Below wr.heap.size wr Y->Calls Tryz.prog 133 #[accV aid bal ap an ac,.slice px nm cx] Y fun e w'=>e=.returned (.tuple #[.bool (soundR aid bal pos mks).1,.bool (soundR aid bal pos mks).2.1,.int .i64 (soundR aid bal pos mks).2.2])/\Below Y.heap.size Y w'):=fun Y hY=>Rk.sound_any aid bal ap px an ac nm cx pos mks Y hmem.len HNM.out (by have:=hmem.few;dsimp only at this;omega) (lw.next hY) (row_below hmem.row hY) (row_below rw1 hY);generalize soundR aid bal pos mks=S at *;obtain⟨sb,sg,se⟩:=S;dsimp only at SO hf';have HF:=hide hf';have NW:=hide nw;have BT:=hide bt;have ST:=hide st;have SU:=hide su;have IDS:=hide ids;have ML:=hide ml;have EV:=hide ev;have HKT:=hide hkt;have OG:=hide og;have RW1:=hide rw1;clear hf hf' nw bt st su ids ml ev hla hkt I og rw1 lw hmem hisa tv;go_wp2_with fail;refine(SO.out _ (Below.refl _ _)).mono ?_;rintro e V ⟨rfl,hbv⟩;have TAV:=hide (TAH.out.below hbv);have BTV:Hid (But F X V):=BT.out.trans (But.of_below (F:=F) hbv) (fun _ f=>.inl f);have RWV:=hide (row_below RW1.out hbv);clear k0 k1 k2 t0 SO hbv TAH BT RW1;by_cases hse:se=0
    ·subst hse
     cases sg
     ·have HF2:Hid (R=thenR (closeAllR t k mks) (restS mks N (k+1))):=HF.out;have CA:=hide (closeAll_any T G L t k px nm cx mks V TAV.out ST.out SU.out HKT.out RWV.out HNM.out OG.out (by have:=EV.out;omega));clear HF;go_wp2_with fail;refine CA.out.mono ?_;rintro e U (⟨u,hu,rfl,G1,ta1,nw1,bt1⟩ | ⟨r,hr,rfl,hr0,hb⟩)
      ·have I':Hid (CInv X T F L s (600000+3000*(k+1)) (restS mks N (k+1)) R U):=by
        obtain⟨SF,-,-⟩:=closeAll_facts hu ST.out SU.out HKT.out;have hl:=closeAll_len hu ST.out SU.out HKT.out;refine⟨G1,u,ta1,?_,BTV.out.trans bt1 (fun b g=>NW.out b g),SF.str,SF.sums,SF.ids.trans IDS.out,SF.len.trans ML.out,by have:=EV.out;omega,?_⟩
        ·intro b hb;rcases nw1 b hb with g | g
         ·exact NW.out b g
         ·exact .inr (Nat.le_trans BTV.out.size g)
        ·have:=HF2.out;rw [hu] at this;exact this.symm
       clear ta1 nw1 bt1 hu HF2 CA;go_wp2;go_roundw
       case rel=>exact⟨k+1,hlt,by go_num,I'⟩
       case measure=>simp [intOf];omega
      ·have EE:Hid (Ends w T F L R (.returned (.int .i64 r)) U):=by
        refine .inr ⟨r,?_,rfl,hr0,((But.of_below BX.out:But F w X).trans BTV.out (fun _ f=>.inl f)).trans hb (fun b g=>(NW.out b g).imp id (Nat.le_trans BX.out.size))⟩;have:=HF2.out;rw [hr] at this;exact this
       clear HF2 CA hr hb;go_wp2;go_ret;exact EE.out
     ·have I':Hid (CInv X T F L s (600000+3000*(k+1)) (restS mks N (k+1)) R V):=⟨G,t,TAV.out,NW.out,BTV.out,ST.out,SU.out,IDS.out,ML.out,by have:=EV.out;omega,HF.out.symm⟩;clear HF;go_wp2;go_roundw
      case rel=>exact⟨k+1,hlt,by go_num,I'⟩
      case measure=>simp [intOf];omega
    ·have EE:Hid (Ends w T F L R (.returned (.int .i64 se)) V):=by
      refine .inr ⟨se,?_,rfl,hse,(But.of_below BX.out:But F w X).trans BTV.out (fun _ f=>.inl f)⟩;have:=HF.out;rw [if_neg hse] at this;exact this
     clear HF;go_wp2;go_ret;exact EE.out
   ·have EE:Hid (Ends w T F L R (.returned (.int .i64 0)) wr):=by
     obtain⟨G,t,ta,nw,bt,st,su,ids,ml,ev,hf⟩:=I.out;rw [restS_end (by omega)] at hf;exact .inl ⟨t,hf.symm,rfl,G,ta,fun b g=>(nw b g).imp id (Nat.le_trans BX.out.size),(But.of_below BX.out:But F w X).trans bt (fun _ f=>.inl f)⟩
    clear I;go_wp2;go_ret;exact EE.out
 ·have EE:Hid (Ends w T F L R (.returned (.int .i64 me)) X):=by
   refine .inr ⟨me,?_,rfl,hme,.of_below BX.out⟩;have:=HR.out;rw [if_neg hme] at this;exact this
  clear HR;go_wp2;go_ret;exact EE.out
theorem do_any (T:Nat)(F L:Nat->Prop)(s:Tn)(c:Cm)(w:World)(h:TA w T F L s)(hs:Str s)(hS:Sums s)(hL:Rk.Laid w)(hF0:¬F 8)(hE:s.evs.length<=600000) :
  Calls Tryz.prog 66 #[turnP T,cmV c] w (Ends w T F L (turnR s c)):=by
 obtain⟨W,hW⟩:∃W,W=w.alloc (cmO c):=⟨_,rfl⟩;have b0:Below w.heap.size w W:=by rw [hW];exact below_alloc w _
 have eB:W.heap[w.heap.size]? = some (cmO c):=by rw [hW];exact heap_alloc_new w _
 have C1:=hide (deposit_any T F L s c W (h.below b0) hs (by omega));have C2:=hide (withdraw_any T F L s c W (h.below b0) hs (hL.next b0) hF0 (by omega));have C3:=hide (place_any T F L s c W (h.below b0) hs hS (hL.next b0) hF0 (by omega));have C4:=hide (cancel_any T F L s c W (h.below b0) hs (by omega));have C5:=hide (index_any T F L s c W (h.below b0));have C6:=hide (fund_any T F L s c W (h.below b0) hs (by omega));have C7:=hide (sweep_any T F L s W (h.below b0) hs hS (hL.next b0) hF0 hE);have HW:=hide hW;have B0:=hide b0;obtain⟨R,hR⟩:∃R,R=turnR s c:=⟨_,rfl⟩;rw [<- hR];unfold turnR at hR;obtain⟨kind,ac,mkt,n,⟨o1,o2,o3,o4,o5⟩,how,red⟩:=c;dsimp only at eB HW hR C1 C2 C4 C5 C6 ⊢;have HR:=hide hR;have a:∀i v,_->W.cell? ⟨w.heap.size,i,none⟩=some v:=fun i v hv=>((blk_cell (by exact eB) i).1).trans hv;have a0:=a 0 (.int .i64 kind) rfl;have a1:=a 1 (.int .i64 ac) rfl;have a2:=a 2 (.int .i64 mkt) rfl;have a3:=a 3 (.int .i64 n) rfl;have a4:=a 4 (.int .i64 o1) rfl;have a5:=a 5 (.int .i64 o2) rfl;have a6:=a 6 (.int .i64 o3) rfl;have a7:=a 7 (.int .i64 o4) rfl;have a8:=a 8 (.int .i64 o5) rfl;have a9:=a 9 (.int .i64 how) rfl;have a10:=a 10 (.bool red) rfl;clear a hR hs hS hL hF0 hE hW b0 eB h;go_enter Tryz.func66,Tryz.ntmps66;by_cases k1:kind=1
 ·have CR:Hid (∀e V,Ends W T F L R e V->Ends w T F L R e V):=fun e V hE=>ends_on (newer_refl _ _) (But.of_below B0.out) hE;have CC:Hid (Calls Tryz.prog 86 #[turnP T,cmV ⟨1,ac,mkt,n,(o1,o2,o3,o4,o5),how,red⟩] W (Ends W T F L R)):=by
   have:=HR.out;subst k1;simp (decide:=true) only [if_true,if_false] at this;rw [this];exact C1.out
  subst k1;clear HR C1 C2 C3 C4 C5 C6 C7;go_wp2_with (rw [<- HW.out]);refine CC.out.mono ?_;rintro e V hE;have EE:=hide (CR.out _ _ hE);rcases hE with⟨t,-,rfl,-⟩ | ⟨r,-,rfl,-,-⟩
  ·go_wp2;go_ret;exact EE.out
  ·go_wp2;go_ret;exact EE.out
 by_cases k2:kind=2
 ·have CR:Hid (∀e V,Ends W T F L R e V->Ends w T F L R e V):=fun e V hE=>ends_on (newer_refl _ _) (But.of_below B0.out) hE;have CC:Hid (Calls Tryz.prog 87 #[turnP T,cmV ⟨2,ac,mkt,n,(o1,o2,o3,o4,o5),how,red⟩] W (Ends W T F L R)):=by
   have:=HR.out;subst k2;simp (decide:=true) only [if_true,if_false] at this;rw [this];exact C2.out
  subst k2;clear HR C1 C2 C3 C4 C5 C6 C7;go_wp2_with (rw [<- HW.out]);refine CC.out.mono ?_;rintro e V hE;have EE:=hide (CR.out _ _ hE);rcases hE with⟨t,-,rfl,-⟩ | ⟨r,-,rfl,-,-⟩
  ·go_wp2;go_ret;exact EE.out
  ·go_wp2;go_ret;exact EE.out
 by_cases k3:kind=3
 ·have CR:Hid (∀e V,Ends W T F L R e V->Ends w T F L R e V):=fun e V hE=>ends_on (newer_refl _ _) (But.of_below B0.out) hE;have CC:Hid (Calls Tryz.prog 88 #[turnP T,cmV ⟨3,ac,mkt,n,(o1,o2,o3,o4,o5),how,red⟩] W (Ends W T F L R)):=by
   have:=HR.out;subst k3;simp (decide:=true) only [if_true,if_false] at this;rw [this];exact C3.out
  subst k3;clear HR C1 C2 C3 C4 C5 C6 C7;go_wp2_with (rw [<- HW.out]);refine CC.out.mono ?_;rintro e V hE;have EE:=hide (CR.out _ _ hE);rcases hE with⟨t,-,rfl,-⟩ | ⟨r,-,rfl,-,-⟩
  ·go_wp2;go_ret;exact EE.out
  ·go_wp2;go_ret;exact EE.out
 by_cases k4:kind=4
 ·have CR:Hid (∀e V,Ends W T F L R e V->Ends w T F L R e V):=fun e V hE=>ends_on (newer_refl _ _) (But.of_below B0.out) hE;have CC:Hid (Calls Tryz.prog 89 #[turnP T,cmV ⟨4,ac,mkt,n,(o1,o2,o3,o4,o5),how,red⟩] W (Ends W T F L R)):=by
   have:=HR.out;subst k4;simp (decide:=true) only [if_true,if_false] at this;rw [this];exact C4.out
  subst k4;clear HR C1 C2 C3 C4 C5 C6 C7;go_wp2_with (rw [<- HW.out]);refine CC.out.mono ?_;rintro e V hE;have EE:=hide (CR.out _ _ hE);rcases hE with⟨t,-,rfl,-⟩ | ⟨r,-,rfl,-,-⟩
  ·go_wp2;go_ret;exact EE.out
  ·go_wp2;go_ret;exact EE.out
 by_cases k5:kind=5
 ·have CR:Hid (∀e V,Ends W T F L R e V->Ends w T F L R e V):=fun e V hE=>ends_on (newer_refl _ _) (But.of_below B0.out) hE;have CC:Hid (Calls Tryz.prog 90 #[turnP T,cmV ⟨5,ac,mkt,n,(o1,o2,o3,o4,o5),how,red⟩] W (Ends W T F L R)):=by
   have:=HR.out;subst k5;simp (decide:=true) only [if_true,if_false] at this;rw [this];exact C5.out
  subst k5;clear HR C1 C2 C3 C4 C5 C6 C7;go_wp2_with (rw [<- HW.out]);refine CC.out.mono ?_;rintro e V hE;have EE:=hide (CR.out _ _ hE);rcases hE with⟨t,-,rfl,-⟩ | ⟨r,-,rfl,-,-⟩
  ·go_wp2;go_ret;exact EE.out
  ·go_wp2;go_ret;exact EE.out
 by_cases k6:kind=6
 ·have CR:Hid (∀e V,Ends W T F L R e V->Ends w T F L R e V):=fun e V hE=>ends_on (newer_refl _ _) (But.of_below B0.out) hE;have CC:Hid (Calls Tryz.prog 91 #[turnP T,cmV ⟨6,ac,mkt,n,(o1,o2,o3,o4,o5),how,red⟩] W (Ends W T F L R)):=by
   have:=HR.out;subst k6;simp (decide:=true) only [if_true,if_false] at this;rw [this];exact C6.out
  subst k6;clear HR C1 C2 C3 C4 C5 C6 C7;go_wp2_with (rw [<- HW.out]);refine CC.out.mono ?_;rintro e V hE;have EE:=hide (CR.out _ _ hE);rcases hE with⟨t,-,rfl,-⟩ | ⟨r,-,rfl,-,-⟩
  ·go_wp2;go_ret;exact EE.out
  ·go_wp2;go_ret;exact EE.out
 by_cases k7:kind=7
 ·have CR:Hid (∀e V,Ends W T F L R e V->Ends w T F L R e V):=fun e V hE=>ends_on (newer_refl _ _) (But.of_below B0.out) hE;have CC:Hid (Calls Tryz.prog 92 #[turnP T] W (Ends W T F L R)):=by
   have:=HR.out;subst k7;simp (decide:=true) only [if_true,if_false] at this;rw [this];exact C7.out
  subst k7;clear HR C1 C2 C3 C4 C5 C6 C7;go_wp2_with (rw [<- HW.out]);refine CC.out.mono ?_;rintro e V hE;have EE:=hide (CR.out _ _ hE);rcases hE with⟨t,-,rfl,-⟩ | ⟨r,-,rfl,-,-⟩
  ·go_wp2;go_ret;exact EE.out
  ·go_wp2;go_ret;exact EE.out
 have EE:Hid (Ends w T F L R (.returned (.int .i64 4)) W):=by
  refine .inr ⟨4,?_,rfl,by decide,.of_below B0.out⟩;have:=HR.out;rw [if_neg k1,if_neg k2,if_neg k3,if_neg k4,if_neg k5,if_neg k6,if_neg k7] at this;exact this
 clear HR C1 C2 C3 C4 C5 C6 C7;go_wp2_with (rw [<- HW.out]);go_ret;exact EE.out
end Go.Proofs.YthdjfhnhjiageaaGreatDoor.Vn
