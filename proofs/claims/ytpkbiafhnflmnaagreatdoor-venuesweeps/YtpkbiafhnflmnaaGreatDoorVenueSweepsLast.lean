/-
  VenueSweeps is true of every venue: where nobody lacks what they want to go on a Sweep does nothing; else the first one who does has no position behind it, and no order, and, while there is Insurance, lacks nothing; no money comes in, or goes out. The table of tiers reads as the program's text lays it (the card ties it).
-/
import Derived.Test.YtpkbiafhnflmnaaGreatDoorS19
import Derived.Test.YtpkbiafhnflmnaaGreatDoorS47
import Derived.Test.YtpkbiafhnflmnaaGreatDoorRows
import Derived.Test.YtpkbiafhnflmnaaGreatDoorCards
import Derived.Test.YtpkbiafhnflmnaaGreatDoorTie
import Derived.Test.YtpkbiafhnflmnaaGreatDoorS48
import Derived.Outline
import Derived.ProofKit
import Derived.OpenShut
import Derived.ChangeOld
import Derived.Below
import Derived.SizedLaws
import Derived.Lay
import Derived.MakeChecks
import Derived.SevenTiedAt
namespace Go.Proofs.YtpkbiafhnflmnaaGreatDoor.Vn
open Go.Proofs.YtpkbiafhnflmnaaGreatDoor.Num Go.Proofs.YtpkbiafhnflmnaaGreatDoor.AcP Go.Proofs.YtpkbiafhnflmnaaGreatDoor.FuP Go.Proofs.YtpkbiafhnflmnaaGreatDoor.RkP Go.Proofs.YtpkbiafhnflmnaaGreatDoor.Bk Go.Proofs.YtpkbiafhnflmnaaGreatDoor.Rm
/-- an account without positions and orders, that lacks nothing while there is insurance. -/
structure Cln (s:Tn) (id:Int):Prop where
 pos:∀ k,posOf s.accs k id=0
 bal:0<=balOf s.accs id \/ s.ins=0
 ord:∀ k o,o ∈ (mktAt s k).1 ++ (mktAt s k).2.1->¬ oac o=id
/-- an account that is as it was. -/
def Sm (s t:Tn) (id:Int):Prop:=(∀ k,posOf t.accs k id=posOf s.accs k id) /\ balOf t.accs id=balOf s.accs id
theorem Sm.refl (s:Tn) (id:Int):Sm s s id:=⟨fun _=>rfl,rfl⟩
theorem Sm.trans {s t u:Tn} {id:Int} (h:Sm s t id) (k:Sm t u id):Sm s u id:=⟨fun j=>(k.1 j).trans (h.1 j),k.2.trans h.2⟩
theorem Sm.accs {s t:Tn} {id:Int} (h:t.accs=s.accs):Sm s t id:=⟨fun _=>by rw [h],by rw [h]⟩
theorem Cln.on {s t:Tn} {id:Int} (h:Cln s id) (F:SFact s t) (m:Sm s t id):Cln t id:=by
 refine ⟨fun k=>(m.1 k).trans (h.pos k),?_,fun k o ho=>?_⟩
 ·rw [m.2]
  rcases h.bal with b | b
  ·exact .inl b
  ·have h1:=F.ins
   have h2:=F.str.ins.1
   exact .inr (by omega)
 ·obtain ⟨p,hp,e⟩:=F.sub k o ho
  rw [e]; exact h.ord k p hp
theorem sum_zero:∀ (l:List Int),(∀ x,x ∈ l->x=0)->l.sum=0
 |[],_=>rfl
 |x :: l,h=>by
  rw [List.sum_cons,h x (by simp),sum_zero l (fun y hy=>h y (by simp [hy]))]
  rfl
theorem ffact_sm {s t:Tn} {mk:Nat} {free:Bool} {F:List Fil} {id:Int} (h:FFact s t mk free F) (hF:∀ f,f ∈ F->¬ f.2.2.1=id /\ ¬ f.2.2.2.1=id):Sm s t id:=by
 refine ⟨fun k=>?_,?_⟩
 ·rw [h.posn]
  have:(F.map (filPos id)).sum=0:=sum_zero _ (fun x hx=>by
   obtain ⟨f,hf,rfl⟩:=List.mem_map.1 hx; obtain ⟨n1,n2⟩:=hF f hf; unfold filPos; rw [if_neg n1,if_neg n2]
   rfl)
  rw [this]
  split <;> omega
 ·obtain ⟨L,e,b,-⟩:=h.led
  have hL:L=F.map (evFilled mk):=by
   have:=e.symm.trans h.evs; exact List.append_cancel_left this
  rw [b,hL]
  have:sumBalE free id (F.map (evFilled mk))=0:=by
   unfold sumBalE
   refine sum_zero _ (fun x hx=>?_)
   rw [List.map_map] at hx; obtain ⟨f,hf,rfl⟩:=List.mem_map.1 hx; obtain ⟨n1,n2⟩:=hF f hf
   show evBal free id (evFilled mk f)=0
   unfold evBal
   rw [if_neg (show ¬ (3:Int)=5 by decide),if_pos (.inl rfl)]
   unfold filBal; simp only [n1,n2,if_false]
   omega
  rw [this]
  omega
theorem others_sm (k:Nat) (id sd pr c:Int) (hsd:sd=1 \/ sd = -1) (hc:¬ c=id):∀ (n:Nat) (q:Int) (s t:Tn),othersR k id sd pr n q s=.ok t->0<=q->Str s->Sums s->hasA s.accs id=true->posOf s.accs k id = -sd * q->posOf s.accs k c=0->Sm s t c
 |0,q,s,t,h,_,_,_,_,_,_=>by cases h; exact .refl _ _
 |n + 1,q,s,t,h,hq,hs,hS,hid,hp,hz=>by
  unfold othersR at h
  by_cases hq0:0 < q
  case neg =>
   rw [if_neg hq0] at h; cases h; exact .refl _ _
  obtain ⟨m1,m2⟩:=most_pos hs hS hid hp hsd hq0; rw [if_pos hq0] at h; have hma:=has_at m1; have hmp:=posOf_at hs.srt m1 k; generalize (accAt s (mostOf k sd s)).1=mid at h hma hmp; rw [<- hmp] at h m2; generalize hx:min q (sd * posOf s.accs k mid)=x at h
  have hx1:1<=x /\ x<=q:=by omega
  have hne:¬ mid=id:=by
   intro e
   rw [e,hp] at m2
   rcases hsd with rfl | rfl <;> omega
  have hnc:¬ mid=c:=by
   intro e
   rw [e,hz] at m2
   omega
  split at h
  ·rename_i u hu
   have A:=trade_facts hu hs hma hid (Int.le_refl 0); rw [Int.toNat_natCast] at A; have F:=tell_fact2 A hS (evClosed k mid (0,0,mid,id,sd,pr,x)) (.inr ⟨mid,rfl⟩)
   have hp2:posOf (u.tell (evClosed k mid (0,0,mid,id,sd,pr,x))).accs k id = -sd * (q - x):=by
    show posOf u.accs k id=_
    rw [A.onep,if_pos rfl,hp]; unfold filPos; dsimp only; rw [if_pos rfl,if_neg hne,Int.mul_sub,Int.neg_mul,Int.neg_mul]
    omega
   have hsm:Sm s (u.tell (evClosed k mid (0,0,mid,id,sd,pr,x))) c:=by
    refine ⟨fun j=>?_,?_⟩
    ·show posOf u.accs j c=_
     rw [A.onep]
     have:filPos c (0,0,mid,id,sd,pr,x)=0:=by
      unfold filPos; dsimp only
      rw [if_neg (fun e=>hc e.symm),if_neg hnc]
      rfl
     rw [this]
     split <;> omega
    ·show balOf u.accs c=_
     rw [A.one]; dsimp only
     rw [if_neg hnc,if_neg (fun e=>hc e.symm)]
     omega
   exact hsm.trans (others_sm k id sd pr c hsd hc n (q - x) _ t h (by omega) F.str F.sums (by rw [has_ids F.ids]; exact hid) hp2 (by rw [hsm.1 k]; exact hz))
  ·cases h
theorem closeIn_clean {s t:Tn} {i k:Nat} {marks:List Int} {c:Int} (h:closeInR s i k marks=.ok t) (hs:Str s) (hS:Sums s) (hi:i < s.accs.length) (hk:k < s.mkts.length) (hne:¬ c=(accAt s i).1) (hc:Cln s c):Cln t c:=by
 refine hc.on (closeIn_facts h hs hS hi hk).1 ?_
 unfold closeInR at h
 split at h
 ·obtain ⟨c1,c2,c3⟩:=closeO_is (accAt s i) k (bankR (accAt s i).1 (accAt s i).2.1 (accAt s i).2.2 marks k).1
  generalize closeO (accAt s i) k (bankR (accAt s i).1 (accAt s i).2.1 (accAt s i).2.2 marks k).1=o at h c1 c2 c3; unfold closeInO at h
  split at h
  ·rename_i ht
   have ho:=(takeErr_zero.1 ht).2
   have hid:hasA s.accs (oac o)=true:=by rw [c1]; exact has_at hi
   have hp:posOf s.accs k (oac o) = -(osd o) * oqt o:=by rw [c1,posOf_at hs.srt hi]; exact c3
   split at h
   ·rename_i u hu
    obtain ⟨G,g1,g2,g3⟩:=taken_pre hs hS hk ho hid hp hu; obtain ⟨f1,f2,f3,-⟩:=take_fills (hs.at hk).1 ho; have T:=take_fact hs hS hk ho
    have F:=fills_facts k true _ _ u hu T.str (by rw [T.len]; exact hk) (fun f hf=>by
     obtain ⟨x,hx,e1,e2,e3,e4,e5,e6⟩:=f1 f hf
     refine ⟨?_,?_,by omega,by omega⟩
     ·rw [e1]; exact ((hs.at hk).2.2.2 x hx).1
     ·rw [e2]; exact hid)
    have m1:Sm (s.setB k (takeB (mktAt s k).1 (mktAt s k).2.1 o) (takeA (mktAt s k).1 (mktAt s k).2.1 o)) u c:=ffact_sm F (fun f hf=>by
     obtain ⟨x,hx,e1,e2,e3,e4,e5,e6⟩:=f1 f hf
     refine ⟨by rw [e1]; exact hc.ord k x hx,?_⟩
     rw [e2,c1]
     exact fun e=>hne e.symm)
    have m2:Sm s u c:=(Sm.accs rfl).trans m1
    exact m2.trans (others_sm k (oac o) (osd o) (opr o) c c2 (by rw [c1]; exact hne) _ _ u t h g1 G.str G.sums (by rw [has_ids G.ids]; exact hid) g2 (by rw [m2.1 k]; exact hc.pos k))
   ·cases h
  ·cases h
 ·cases h
theorem closeM_clean (i:Nat) (marks:List Int) (c:Int):∀ (n k:Nat) (s t:Tn),closeM i marks n k s=.ok t->Str s->Sums s->i < s.accs.length->k + n=s.mkts.length->¬ c=(accAt s i).1->Cln s c->Cln t c
 |0,k,s,t,h,_,_,_,_,_,hc=>by cases h; exact hc
 |n + 1,k,s,t,h,hs,hS,hi,hk,hne,hc=>by
  unfold closeM at h
  split at h
  ·exact closeM_clean i marks c n (k + 1) s t h hs hS hi (by omega) hne hc
  ·split at h
   ·rename_i u hu
    have F:=(closeIn_facts hu hs hS hi (by omega)).1
    exact closeM_clean i marks c n (k + 1) u t h F.str F.sums (by rw [F.lenA]; exact hi) (by rw [F.len]; omega) (by rw [ids_at F.ids]; exact hne) (closeIn_clean hu hs hS hi (by omega) hne hc)
   ·cases h
/-- no order of theirs is left. -/
theorem drop_gone (id:Int) (k:Nat):∀ (l:List Odr) (s t:Tn),dropL id k l s=.ok t->k < s.mkts.length ->
  (∀ x,x ∈ (mktAt t k).1 ++ (mktAt t k).2.1->x ∈ (mktAt s k).1 ++ (mktAt s k).2.1 /\ ¬ (x ∈ l /\ oac x=id)) /\ (∀ j,¬ j=k->mktAt t j=mktAt s j) /\ t.mkts.length=s.mkts.length
 |[],s,t,h,_=>by cases h; exact ⟨fun x hx=>⟨hx,fun h=>by cases h.1⟩,fun _ _=>rfl,rfl⟩
 |o :: l,s,t,h,hk=>by
  unfold dropL at h
  split at h
  ·split at h
   ·have hl:(remR s k (oid o) o).mkts.length=s.mkts.length:=by simp [remR,Tn.setB,Tn.setM,Tn.tell]
    obtain ⟨h1,h2,h3⟩:=drop_gone id k l _ t h (by rw [hl]; exact hk)
    have hm:∀ j,mktAt (remR s k (oid o) o) j=if j=k then (without (oid o) (mktAt s k).1,without (oid o) (mktAt s k).2.1,(mktAt s k).2.2.1,(mktAt s k).2.2.2) else mktAt s j:=fun j=>mktAt_set hk _ j
    refine ⟨fun x hx=>?_,fun j hj=>?_,h3.trans hl⟩
    ·obtain ⟨g1,g2⟩:=h1 x hx
     rw [hm,if_pos rfl] at g1
     have g3:x ∈ (mktAt s k).1 ++ (mktAt s k).2.1 /\ oid x ≠ oid o:=by
      rcases List.mem_append.1 g1 with g | g
      ·exact ⟨List.mem_append.2 (.inl (mem_without.1 g).1),(mem_without.1 g).2⟩
      ·exact ⟨List.mem_append.2 (.inr (mem_without.1 g).1),(mem_without.1 g).2⟩
     refine ⟨g3.1,fun ⟨m,e⟩=>?_⟩
     rcases List.mem_cons.1 m with rfl | m
     ·exact g3.2 rfl
     ·exact g2 ⟨m,e⟩
    ·rw [h2 j hj,hm,if_neg hj]
   ·cases h
  ·rename_i hne
   obtain ⟨h1,h2,h3⟩:=drop_gone id k l s t h hk
   refine ⟨fun x hx=>⟨(h1 x hx).1,fun ⟨m,e⟩=>?_⟩,h2,h3⟩
   rcases List.mem_cons.1 m with rfl | m
   ·exact hne e
   ·exact (h1 x hx).2 ⟨m,e⟩
theorem dropM_gone (id:Int):∀ (n k:Nat) (s t:Tn),dropM id n k s=.ok t->k + n=s.mkts.length ->
  (∀ j,(j < k \/ k + n<=j)->mktAt t j=mktAt s j) /\ (∀ j,k<=j->j < k + n->∀ x,x ∈ (mktAt t j).1 ++ (mktAt t j).2.1->¬ oac x=id)
 |0,k,s,t,h,_=>by cases h; exact ⟨fun _ _=>rfl,fun j h1 h2=>by omega⟩
 |n + 1,k,s,t,h,hk=>by
  unfold dropM at h
  split at h
  ·rename_i u hu
   obtain ⟨h1,h2,h3⟩:=drop_gone id k _ s u hu (by omega)
   obtain ⟨g1,g2⟩:=dropM_gone id n (k + 1) u t h (by rw [h3]; omega)
   refine ⟨fun j hj=>?_,fun j hj1 hj2=>?_⟩
   ·rw [g1 j (by omega),h2 j (by omega)]
   ·by_cases e:j=k
    ·subst e
     rw [g1 j (by omega)]
     intro x hx e
     obtain ⟨q1,q2⟩:=h1 x hx; exact q2 ⟨q1,e⟩
    ·exact g2 j (by omega) (by omega)
  ·cases h
theorem mkt_far {s:Tn} {k:Nat} (h:s.mkts.length<=k):mktAt s k=noMp:=by
 unfold mktAt
 rw [List.getD_eq_getElem?_getD,List.getElem?_eq_none h]
 rfl
theorem pos_far {s:Tn} (hs:Str s) {i:Nat} (hi:i < s.accs.length) {k:Nat} (h:s.mkts.length<=k):posAt (accAt s i) k=0:=by
 have:=acc_len (hs.accOk hi); unfold posAt
 rw [List.getD_eq_getElem?_getD,List.getElem?_eq_none (by omega)]
 rfl
theorem closeAll_clean {s t:Tn} {i:Nat} {marks:List Int} (h:closeAllR s i marks=.ok t) (hs:Str s) (hS:Sums s) (hi:i < s.accs.length) :
  Cln t (accAt s i).1 /\ ∀ c,¬ c=(accAt s i).1->Cln s c->Cln t c:=by
 obtain ⟨F,f1,f2⟩:=closeAll_facts h hs hS hi
 have hit:i < t.accs.length:=by rw [F.lenA]; exact hi
 have ei:(accAt t i).1=(accAt s i).1:=ids_at F.ids i; unfold closeAllR at h
 split at h
 ·rename_i u hu
  obtain ⟨D,d⟩:=dropM_facts _ _ _ s u hu hs hS (by omega)
  obtain ⟨-,d2⟩:=dropM_gone _ _ _ s u hu (by omega)
  split at h
  ·rename_i v hv
   have hiu:i < u.accs.length:=by rw [d]; exact hi
   obtain ⟨C,-⟩:=closeM_facts i marks _ 0 u v hv D.str D.sums hiu (by omega)
   have hiv:i < v.accs.length:=by rw [C.lenA]; exact hiu
   obtain ⟨G,-,-,g3,g4⟩:=cover_facts h C.str C.sums hiv; have CG:=C.trans G; have eu:(accAt u i).1=(accAt s i).1:=ids_at D.ids i; have ev:(accAt v i).1=(accAt s i).1:=(ids_at C.ids i).trans eu
   refine ⟨⟨fun k=>?_,?_,fun k o ho=>?_⟩,fun c hne hc=>?_⟩
   ·rw [<- ei,posOf_at F.str.srt hit]
    by_cases hk:k < s.mkts.length
    ·exact f1 k hk
    ·exact pos_far F.str hit (by rw [F.len]; omega)
   ·rw [<- ei]
    unfold balOf; rw [accOf_at F.str.srt hit]; exact f2
   ·obtain ⟨p,hp,e⟩:=CG.sub k o ho
    rw [e]
    by_cases hk:k < s.mkts.length
    ·exact d2 k (by omega) (by omega) p hp
    ·rw [mkt_far (by rw [D.len]; omega)] at hp
     cases hp
   ·have c1:Cln u c:=hc.on D (Sm.accs d)
    have c2:=closeM_clean i marks c _ 0 u v hv D.str D.sums hiu (by omega) (by rw [eu]; exact hne) c1
    refine c2.on G ⟨fun k=>?_,?_⟩
    ·unfold posOf; rw [g4 c (by rw [ev]; exact hne)]
    ·unfold balOf; rw [g4 c (by rw [ev]; exact hne)]
  ·cases h
 ·cases h
theorem ids_ne {s:Tn} (hs:Srt s.accs) {i j:Nat} (hi:i < s.accs.length) (hj:j < s.accs.length) (h:¬ i=j):¬ (accAt s i).1=(accAt s j).1:=by
 rw [accAt_get hi,accAt_get hj]
 rcases Nat.lt_or_gt_of_ne h with g | g
 ·have:=List.pairwise_iff_getElem.1 hs i j hi hj g
  omega
 ·have:=List.pairwise_iff_getElem.1 hs j i hj hi g
  omega
theorem sweepL_clean (marks:List Int) (c:Int):∀ (n i:Nat) (s t:Tn),sweepL marks n i s=.ok t->Str s->Sums s->i + n=s.accs.length->(∀ j,i<=j->j < s.accs.length->¬ c=(accAt s j).1)->Cln s c->Cln t c
 |0,_,s,t,h,_,_,_,_,hc=>by cases h; exact hc
 |n + 1,i,s,t,h,hs,hS,hi,hn,hc=>by
  unfold sweepL at h
  split at h
  ·split at h
   ·exact sweepL_clean marks c n (i + 1) s t h hs hS (by omega) (fun j h1 h2=>hn j (by omega) h2) hc
   ·split at h
    ·rename_i u hu
     obtain ⟨F,-,-⟩:=closeAll_facts hu hs hS (by omega)
     exact sweepL_clean marks c n (i + 1) u t h F.str F.sums (by rw [F.lenA]; omega) (fun j h1 h2=>by rw [ids_at F.ids]; exact hn j (by omega) (by rw [<- F.lenA]; exact h2)) ((closeAll_clean hu hs hS (by omega)).2 c (hn i (Nat.le_refl _) (by omega)) hc)
    ·cases h
  ·cases h
abbrev sndE (s:Tn) (marks:List Int) (j:Nat):Int:=(soundR (accAt s j).1 (accAt s j).2.1 (accAt s j).2.2 marks).2.2
abbrev snd2 (s:Tn) (marks:List Int) (j:Nat):Bool:=(soundR (accAt s j).1 (accAt s j).2.1 (accAt s j).2.2 marks).2.1
/-- the first one who lacks something is clean behind it; where nobody does nothing is done. -/
theorem sweepL_first (marks:List Int):∀ (n i:Nat) (s t:Tn),sweepL marks n i s=.ok t->Str s->Sums s->i + n=s.accs.length ->
  (∀ j,i<=j->j < s.accs.length->(∀ l,i<=l->l < j->snd2 s marks l=true)->sndE s marks j=0 /\ (snd2 s marks j=false->Cln t (accAt s j).1)) /\
  ((∀ j,i<=j->j < s.accs.length->snd2 s marks j=true)->t=s)
 |0,i,s,t,h,_,_,hi=>by cases h; exact ⟨fun j h1 h2=>by omega,fun _=>rfl⟩
 |n + 1,i,s,t,h,hs,hS,hi=>by
  unfold sweepL at h
  split at h
  ·rename_i he
   split at h
   ·rename_i hg
    obtain ⟨r1,r2⟩:=sweepL_first marks n (i + 1) s t h hs hS (by omega)
    refine ⟨fun j h1 h2 hl=>?_,fun ha=>r2 (fun j h1 h2=>ha j (by omega) h2)⟩
    by_cases e:j=i
    ·subst e
     exact ⟨he,fun hf=>by rw [show snd2 s marks j=true from hg] at hf; cases hf⟩
    ·exact r1 j (by omega) h2 (fun l q1 q2=>hl l (by omega) q2)
   ·rename_i hg
    split at h
    ·rename_i u hu
     obtain ⟨F,-,-⟩:=closeAll_facts hu hs hS (by omega)
     refine ⟨fun j h1 h2 hl=>?_,fun ha=>absurd (ha i (Nat.le_refl _) (by omega)) hg⟩
     by_cases e:j=i
     ·subst e
      refine ⟨he,fun _=>?_⟩
      refine sweepL_clean marks _ n (j + 1) u t h F.str F.sums (by rw [F.lenA]; omega) (fun l q1 q2=>?_) (closeAll_clean hu hs hS h2).1
      rw [ids_at F.ids]
      exact ids_ne hs.srt h2 (by rw [<- F.lenA]; exact q2) (by omega)
     ·exact absurd (hl i (Nat.le_refl _) (by omega)) hg
    ·cases h
  ·cases h
theorem mark_le {fb fa idx last:Int} (h:betw 1 idx 10000=true) (h1:0<=fb /\ fb<=10000) (h2:0<=fa /\ fa<=10000) (h3:betw 0 last 10000=true):0<=markOf fb fa idx last /\ markOf fb fa idx last<=10000:=by
 have g1:=betw_true h; have g3:=betw_true h3
 have g2:idx.tdiv 20=idx / 20:=Int.tdiv_eq_ediv_of_nonneg (by omega)
 have g4:(fb + fa).tdiv 2=(fb + fa) / 2:=Int.tdiv_eq_ediv_of_nonneg (by omega)
 unfold markOf middleR halfR lastR; rw [g2,g4]
 split <;> split <;> omega
theorem marksL_ok:∀ (ms:List Mp) (L:List Int),(∀ m,m ∈ ms->marketErr m.1 m.2.1 m.2.2.1 m.2.2.2=0)->(∀ x,x ∈ L->betw 0 x 10000=true)->(marksL L ms).2=0 /\ (marksL L ms).1.length=L.length + ms.length /\ ∀ x,x ∈ (marksL L ms).1->betw 0 x 10000=true
 |[],L,_,hL=>⟨rfl,rfl,hL⟩
 |m :: r,L,h,hL=>by
  have hm:=h m (by simp)
  obtain ⟨hb,h1,h2⟩:=marketErr_ok hm; have hR:=bookErr_zero.1 hb
  have e:markR m.1 m.2.1 m.2.2.1 m.2.2.2=(markOf (firstPrice m.1) (firstPrice m.2.1) m.2.2.1 m.2.2.2,0):=by
   unfold markR; rw [if_pos hm]
  have hr:=mark_le h1 (first_bd hR.b) (first_bd hR.a) h2; unfold marksL
  rw [if_pos (by rw [e]),e]
  obtain ⟨i1,i2,i3⟩:=marksL_ok r (L ++ [markOf (firstPrice m.1) (firstPrice m.2.1) m.2.2.1 m.2.2.2]) (fun x hx=>h x (by simp [hx])) (fun x hx=>by
   rcases List.mem_append.1 hx with hx | hx
   ·exact hL x hx
   ·simp at hx
    subst hx; exact betw_mk hr)
  refine ⟨i1,?_,i3⟩
  rw [i2]; simp
  omega
theorem Str.marks {s:Tn} (hs:Str s):(marksP s.mkts).2=0 /\ (marksP s.mkts).1.length=s.mkts.length /\ ∀ x,x ∈ (marksP s.mkts).1->betw 0 x 10000=true:=by
 unfold marksP; rw [if_pos ⟨hs.m1,hs.m2⟩]
 have:=marksL_ok s.mkts [] hs.mkt (fun _ h=>by cases h)
 simpa using this
abbrev sweepC:Cm:=⟨7,0,0,0,(0,0,0,0,0),0,false⟩
structure SwF (s T:Tn) (marks:List Int):Prop where
 lenA:T.accs.length=s.accs.length
 inn:T.inn=s.inn
 out:T.out=s.out
 ins:T.ins<=s.ins
 res:T.res=s.res
 str:Str T
 ids:∀ j,(accAt T j).1=(accAt s j).1
 err:∀ j,j < s.accs.length->(∀ l,l < j->snd2 s marks l=true)->sndE s marks j=0
 cln:∀ j,j < s.accs.length->(∀ l,l < j->snd2 s marks l=true)->snd2 s marks j=false->(T.mkts.any fun m=>(m.1 ++ m.2.1).any fun x=>x.2.1 == (accAt s j).1)=false /\ ((accAt T j).2.2.any fun x=>x != 0)=false /\ (0<=(accAt T j).2.1 \/ T.ins=0)
 all:(∀ j,j < s.accs.length->snd2 s marks j=true)->T.evs=[] /\ s.accs=T.accs /\ s.mkts=T.mkts /\ s.ins=T.ins /\ s.res=T.res /\ s.next=T.next /\ s.inn=T.inn /\ s.out=T.out
theorem sweep_swf {s:Tn} (h:checkE s=0) (hr:rejectedL (doR s sweepC).1.evs=false):(marksP s.mkts).2=0 /\ SwF s (doR s sweepC).1 (marksP s.mkts).1:=by
 obtain ⟨hs,hS⟩:=checkE_zero.1 h; have ht:=do_ok h hr; generalize (doR s sweepC).1=T at ht ⊢
 have hw:sweepR { s with evs:=[] } = .ok T:=ht
 have F:=sweep_facts hw (str_evs hs []) (sums_evs hS []); have hw2:=hw; unfold sweepR at hw2
 split at hw2
 ·rename_i hm
  have hm:(marksP s.mkts).2=0:=hm
  obtain ⟨r1,r2⟩:=sweepL_first (marksP s.mkts).1 s.accs.length 0 { s with evs:=[] } T hw2 (str_evs hs []) (sums_evs hS []) (by simp)
  have hlen:T.accs.length=s.accs.length:=by
   have:=congrArg List.length F.ids
   simpa using this
  refine ⟨hm,hlen,F.inn,F.out,F.ins,F.res,F.str,fun j=>ids_at F.ids j,?_,?_,?_⟩
  ·intro j hj hl
   exact (r1 j (Nat.zero_le _) hj (fun l _ hl2=>hl l hl2)).1
  ·intro j hj hl hf
   have C:=(r1 j (Nat.zero_le _) hj (fun l _ hl2=>hl l hl2)).2 hf
   have e1:(accAt { s with evs:=[] } j).1=(accAt T j).1:=(ids_at F.ids j).symm
   have hjT:j < T.accs.length:=by rw [hlen]; exact hj
   have hof:accOf T.accs (accAt { s with evs:=[] } j).1=accAt T j:=by rw [e1]; exact accOf_at F.str.srt hjT
   refine ⟨?_,?_,?_⟩
   ·rw [List.any_eq_false]
    intro m hm2
    obtain ⟨k,hk,e⟩:=List.getElem_of_mem hm2
    have hmk:mktAt T k=m:=by
     unfold mktAt
     rw [List.getD_eq_getElem?_getD,List.getElem?_eq_getElem hk,<- e]
     rfl
    simp only [List.any_eq_true,not_exists,not_and]
    intro o ho hoe
    have:=C.ord k o (by rw [hmk]; exact ho)
    have hoe:o.2.1=(accAt s j).1:=by simpa using hoe
    exact this hoe
   ·rw [List.any_eq_false]
    intro x hx
    obtain ⟨k,hk,e⟩:=List.getElem_of_mem hx; have hp:=C.pos k; unfold posOf at hp; rw [hof] at hp; unfold posAt at hp
    rw [List.getD_eq_getElem?_getD,List.getElem?_eq_getElem hk,e] at hp
    simp at hp; simp [hp]
   ·have:=C.bal
    unfold balOf at this; rw [hof] at this; exact this
  ·intro ha
   have e:=r2 (fun j _ hj=>ha j hj)
   rw [e]; exact ⟨rfl,rfl,rfl,rfl,rfl,rfl,rfl,rfl⟩
 ·cases hw2
open Go.RowKit Go.Proofs.YtpkbiafhnflmnaaGreatDoor.Fix Go.Proofs.YtpkbiafhnflmnaaGreatDoor.Ac Go.Sort Go.Maps Go.Proofs.YtpkbiafhnflmnaaGreatDoor.Mix
abbrev odrV (x:Odr):Value:=.agg #[.int .i64 x.1,.int .i64 x.2.1,.int .i64 x.2.2.1,.int .i64 x.2.2.2.1,.int .i64 x.2.2.2.2]
abbrev mktV (m:Mkt):Value:=.agg #[.slice m.1.1 (mB m).length m.1.2.1,.slice m.2.1.1 (mA m).length m.2.1.2.1,.int .i64 (mI m),.int .i64 (mL m)]
theorem orow_at {w:World} {b off:Nat} {xs:List Odr} (hc:∀ j,j < xs.length->∀ i v,(enc xs[j]!)[i]? = some v->w.cell? ⟨b,off + j * 5 + i,none⟩ = some v) {j:Nat} (hj:j < xs.length) :
  w.cell? ⟨b,off + j * 5,none⟩ = some (.int .i64 (xs[j]'hj).1) /\ w.cell? ⟨b,off + j * 5 + 1,none⟩ = some (.int .i64 (xs[j]'hj).2.1) /\ w.cell? ⟨b,off + j * 5 + 2,none⟩ = some (.int .i64 (xs[j]'hj).2.2.1) /\ w.cell? ⟨b,off + j * 5 + 3,none⟩ = some (.int .i64 (xs[j]'hj).2.2.2.1) /\ w.cell? ⟨b,off + j * 5 + 4,none⟩ = some (.int .i64 (xs[j]'hj).2.2.2.2):=by
 have:=orow_cells hc hj; rw [getElem!_pos xs j hj] at this; exact this
theorem row_at {w:World} {b off:Nat} {xs:List Int} (hc:∀ i,i < xs.length->w.cell? ⟨b,off + i,none⟩ = some (.int .i64 (xs.getD i 0))) {j:Nat} (hj:j < xs.length):w.cell? ⟨b,off + j,none⟩ = some (.int .i64 (xs[j]'hj)):=by
 rw [hc j hj,List.getD_eq_getElem?_getD,List.getElem?_eq_getElem hj]
 rfl
set_option maxRecDepth 100000 in
theorem mktIdx_none (p:Option Addr) (c:Nat) (f:Value) (w:World) :
  Calls Tryz.prog 66 #[.slice p 0 c,f] w fun e w'=>e=.returned (.int .i64 (-1)) /\ w'=w:=by
 go_enter Tryz.func66,Tryz.ntmps66
 go_wp2
 refine wp_loop_rounds 1 ?_
 rw [rounds_succ]
 go_wp2
 go_ret
 exact ⟨rfl,rfl⟩
set_option maxHeartbeats 2000000 in
set_option maxRecDepth 100000 in
theorem sweeps_ints_some (b off c:Nat) (A:List Int) (P:Int->Bool)   (w:World) (hn:A.length<=140737488351232)
  (hc:∀ i,i < A.length->w.cell? ⟨b,off + i,none⟩ = some (.int .i64 (A.getD i 0))) (hb:b < w.heap.size)
  (hq:∀ W,Below w.heap.size w W->∀ k (hk:k < A.length),Calls Tryz.prog 29 #[Value.int .i64 (A[k]'hk)  ] W fun e w'=>e=.returned (.bool (P (A[k]'hk))) /\ Below W.heap.size W w') :
  Calls Tryz.prog 68 #[.slice (some ⟨b,off,none⟩) A.length c,.func (.func 29) #[] #[]] w fun e w'=>e=.returned (.int .i64 (idxP P A 0)) /\ Below w.heap.size w w':=by
 have eg:∀ args w,(callFunc 29 args).run Tryz.prog w=.ok (.enter 29 args) w:=enters_of Tryz.func29 (by kernel_rfl) rfl
 generalize hr:idxP P A 0=r; have R0:Hid (idxP P (A.drop 0) 0=r):=hr; clear hr; have HC:=hide hc; have HQ:=hide hq; clear hc hq; generalize hxn:A.length=n at hn ⊢; have N:=hide hxn; clear hxn
 go_enter Tryz.func68,Tryz.ntmps68
 go_wp2
 go_loopw [8] (fun i wr=>∃ k:Nat,k<=n /\ i=.int .i64 k /\ Hid (Below w.heap.size w wr) /\ Hid (idxP P (A.drop k) k=r)) (fun i _=>n - (intOf i).toNat)
 case atStart=>exact ⟨0,Nat.zero_le _,rfl,Below.refl _ _,R0⟩
 case round =>
  obtain ⟨k,hk,rfl,BW,R⟩:=hrel
  by_cases hlt:k < n
  ·have hltz:(k:Int) < (n:Int):=by omega
   have hkx:k < A.length:=by rw [N.out]; exact hlt
   have c0:=row_at (w:=wr) (b:=b) (off:=off) (fun j hj=>(BW.out.cell hb).trans (HC.out j hj)) hkx
   have hcall:=HQ.out wr BW.out k hkx; have HH:=hide (idxP_at P hkx); generalize hpk:P (A[k]'hkx)=pk at hcall HH; generalize A[k]'hkx=z0 at c0 hcall
   cases hh:pk with
   |true =>
    rw [hh] at hcall HH
    go_wp2_with (go_at_fn 29; refine hcall.mono ?_; rintro e w' ⟨rfl,hb'⟩)
    go_ret
    refine ⟨?_,BW.out.trans (hb'.mono BW.out.size)⟩
    rw [<- R.out,HH.out,if_pos trivial]
    rfl
   |false =>
    rw [hh] at hcall HH
    go_wp2_with (go_at_fn 29; refine hcall.mono ?_; rintro e w' ⟨rfl,hb'⟩)
    go_roundw
    case rel =>
     refine ⟨k + 1,by omega,by go_num,BW.out.trans (hb'.mono BW.out.size),?_⟩
     show idxP P (A.drop (k + 1)) (k + 1)=r
     rw [<- R.out,HH.out]; simp
    case measure=>simp [intOf]; omega
  ·have hk':k=n:=by omega
   subst hk'
   go_wp2
   go_ret
   refine ⟨?_,BW.out⟩
   rw [<- R.out,<- N.out,List.drop_length]
   rfl
theorem sweeps_ints (p:Option Addr) (c:Nat) (A:List Int) (P:Int->Bool)   (w:World) (hn:A.length<=140737488351232) (h:Row w p A)
  (hq:∀ W,Below w.heap.size w W->∀ k (hk:k < A.length),Calls Tryz.prog 29 #[Value.int .i64 (A[k]'hk)  ] W fun e w'=>e=.returned (.bool (P (A[k]'hk))) /\ Below W.heap.size W w') :
  Calls Tryz.prog 68 #[.slice p A.length c,.func (.func 29) #[] #[]] w fun e w'=>e=.returned (.int .i64 (idxP P A 0)) /\ Below w.heap.size w w':=by
 by_cases hx:A=[]
 ·subst hx
  refine (Ac.indexFunc_none p c _ w).mono ?_
  rintro e w' ⟨rfl,rfl⟩
  exact ⟨rfl,Below.refl _ _⟩
 ·rcases h with h | ⟨b,off,rfl,hc⟩
  ·exact absurd h hx
  ·exact sweeps_ints_some b off c A P   w hn hc (World.block_lt_of_cell? w _ (row_at hc (List.length_pos_iff.2 hx))) hq
set_option maxHeartbeats 2000000 in
set_option maxRecDepth 100000 in
theorem sweeps_odrs_some (b off c:Nat) (A:List Odr) (P:Odr->Bool) (B:Nat) (w:World) (hn:A.length<=140737488351232)
  (hc:∀ j,j < A.length->∀ i v,(enc A[j]!)[i]? = some v->w.cell? ⟨b,off + j * 5 + i,none⟩ = some v) (hb:b < w.heap.size)
  (hq:∀ W,Below w.heap.size w W->∀ k (hk:k < A.length),Calls Tryz.prog 27 #[odrV (A[k]'hk) ,.pointer (some ⟨B,0,none⟩)] W fun e w'=>e=.returned (.bool (P (A[k]'hk))) /\ Below W.heap.size W w') :
  Calls Tryz.prog 56 #[.slice (some ⟨b,off,none⟩) A.length c,.func (.func 27) #[] #[.pointer (some ⟨B,0,none⟩)]] w fun e w'=>e=.returned (.int .i64 (idxP P A 0)) /\ Below w.heap.size w w':=by
 have eg:∀ args w,(callFunc 27 args).run Tryz.prog w=.ok (.enter 27 args) w:=enters_of Tryz.func27 (by kernel_rfl) rfl
 generalize hr:idxP P A 0=r; have R0:Hid (idxP P (A.drop 0) 0=r):=hr; clear hr; have HC:=hide hc; have HQ:=hide hq; clear hc hq; generalize hxn:A.length=n at hn ⊢; have N:=hide hxn; clear hxn
 go_enter Tryz.func56,Tryz.ntmps56
 go_wp2
 go_loopw [8] (fun i wr=>∃ k:Nat,k<=n /\ i=.int .i64 k /\ Hid (Below w.heap.size w wr) /\ Hid (idxP P (A.drop k) k=r)) (fun i _=>n - (intOf i).toNat)
 case atStart=>exact ⟨0,Nat.zero_le _,rfl,Below.refl _ _,R0⟩
 case round =>
  obtain ⟨k,hk,rfl,BW,R⟩:=hrel
  by_cases hlt:k < n
  ·have hltz:(k:Int) < (n:Int):=by omega
   have hkx:k < A.length:=by rw [N.out]; exact hlt
   obtain ⟨c0,c1,c2,c3,c4⟩:=orow_at (w:=wr) (b:=b) (off:=off) (fun j hj i v hv=>(BW.out.cell hb).trans (HC.out j hj i v hv)) hkx
   have hcall:=HQ.out wr BW.out k hkx; have HH:=hide (idxP_at P hkx); dsimp only [odrV] at hcall; generalize hpk:P (A[k]'hkx)=pk at hcall HH; generalize (A[k]'hkx).1=z0 at c0 hcall; generalize (A[k]'hkx).2.1=z1 at c1 hcall; generalize (A[k]'hkx).2.2.1=z2 at c2 hcall; generalize (A[k]'hkx).2.2.2.1=z3 at c3 hcall; generalize (A[k]'hkx).2.2.2.2=z4 at c4 hcall
   cases hh:pk with
   |true =>
    rw [hh] at hcall HH
    go_wp2_with (go_at_fn 27; refine hcall.mono ?_; rintro e w' ⟨rfl,hb'⟩)
    go_ret
    refine ⟨?_,BW.out.trans (hb'.mono BW.out.size)⟩
    rw [<- R.out,HH.out,if_pos trivial]
    rfl
   |false =>
    rw [hh] at hcall HH
    go_wp2_with (go_at_fn 27; refine hcall.mono ?_; rintro e w' ⟨rfl,hb'⟩)
    go_roundw
    case rel =>
     refine ⟨k + 1,by omega,by go_num,BW.out.trans (hb'.mono BW.out.size),?_⟩
     show idxP P (A.drop (k + 1)) (k + 1)=r
     rw [<- R.out,HH.out]; simp
    case measure=>simp [intOf]; omega
  ·have hk':k=n:=by omega
   subst hk'
   go_wp2
   go_ret
   refine ⟨?_,BW.out⟩
   rw [<- R.out,<- N.out,List.drop_length]
   rfl
theorem sweeps_odrs (p:Option Addr) (c:Nat) (A:List Odr) (P:Odr->Bool) (B:Nat) (w:World) (hn:A.length<=140737488351232) (h:ORow w p A)
  (hq:∀ W,Below w.heap.size w W->∀ k (hk:k < A.length),Calls Tryz.prog 27 #[odrV (A[k]'hk) ,.pointer (some ⟨B,0,none⟩)] W fun e w'=>e=.returned (.bool (P (A[k]'hk))) /\ Below W.heap.size W w') :
  Calls Tryz.prog 56 #[.slice p A.length c,.func (.func 27) #[] #[.pointer (some ⟨B,0,none⟩)]] w fun e w'=>e=.returned (.int .i64 (idxP P A 0)) /\ Below w.heap.size w w':=by
 by_cases hx:A=[]
 ·subst hx
  refine (Bk.indexFunc_none p c _ w).mono ?_
  rintro e w' ⟨rfl,rfl⟩
  exact ⟨rfl,Below.refl _ _⟩
 ·rcases h with h | ⟨b,off,rfl,hc⟩
  ·exact absurd h hx
  ·exact sweeps_odrs_some b off c A P B w hn hc (World.block_lt_of_cell? w _ (orow_at hc (List.length_pos_iff.2 hx)).1) hq
set_option maxHeartbeats 2000000 in
set_option maxRecDepth 100000 in
theorem sweeps_mkts_some (b off c:Nat) (A:List Mkt) (P:Mkt->Bool) (B:Nat) (w:World) (hn:A.length<=140737488351232)
  (hc:∀ j u,(flatM A)[j]? = some u->w.cell? ⟨b,off + j,none⟩ = some u) (hb:b < w.heap.size)
  (hq:∀ W,Below w.heap.size w W->∀ k (hk:k < A.length),Calls Tryz.prog 24 #[mktV (A[k]'hk) ,.pointer (some ⟨B,0,none⟩)] W fun e w'=>e=.returned (.bool (P (A[k]'hk))) /\ Below W.heap.size W w') :
  Calls Tryz.prog 66 #[.slice (some ⟨b,off,none⟩) A.length c,.func (.func 24) #[] #[.pointer (some ⟨B,0,none⟩)]] w fun e w'=>e=.returned (.int .i64 (idxP P A 0)) /\ Below w.heap.size w w':=by
 have eg:∀ args w,(callFunc 24 args).run Tryz.prog w=.ok (.enter 24 args) w:=enters_of Tryz.func24 (by kernel_rfl) rfl
 generalize hr:idxP P A 0=r; have R0:Hid (idxP P (A.drop 0) 0=r):=hr; clear hr; have HC:=hide hc; have HQ:=hide hq; clear hc hq; generalize hxn:A.length=n at hn ⊢; have N:=hide hxn; clear hxn
 go_enter Tryz.func66,Tryz.ntmps66
 go_wp2
 go_loopw [8] (fun i wr=>∃ k:Nat,k<=n /\ i=.int .i64 k /\ Hid (Below w.heap.size w wr) /\ Hid (idxP P (A.drop k) k=r)) (fun i _=>n - (intOf i).toNat)
 case atStart=>exact ⟨0,Nat.zero_le _,rfl,Below.refl _ _,R0⟩
 case round =>
  obtain ⟨k,hk,rfl,BW,R⟩:=hrel
  by_cases hlt:k < n
  ·have hltz:(k:Int) < (n:Int):=by omega
   have hkx:k < A.length:=by rw [N.out]; exact hlt
   obtain ⟨c0,c1,c2,c3⟩:=mrow_cells (w:=wr) (b:=b) (off:=off) (fun j u hu=>(BW.out.cell hb).trans (HC.out j u hu)) hkx
   have hcall:=HQ.out wr BW.out k hkx; have HH:=hide (idxP_at P hkx); dsimp only [mktV] at hcall; generalize hpk:P (A[k]'hkx)=pk at hcall HH; generalize (A[k]'hkx).1.1=z0 at c0 hcall; generalize (mB (A[k]'hkx)).length=z1 at c0 hcall; generalize (A[k]'hkx).1.2.1=z2 at c0 hcall; generalize (A[k]'hkx).2.1.1=z3 at c1 hcall; generalize (mA (A[k]'hkx)).length=z4 at c1 hcall; generalize (A[k]'hkx).2.1.2.1=z5 at c1 hcall; generalize mI (A[k]'hkx)=z6 at c2 hcall; generalize mL (A[k]'hkx)=z7 at c3 hcall
   cases hh:pk with
   |true =>
    rw [hh] at hcall HH
    go_wp2_with (go_at_fn 24; refine hcall.mono ?_; rintro e w' ⟨rfl,hb'⟩)
    go_ret
    refine ⟨?_,BW.out.trans (hb'.mono BW.out.size)⟩
    rw [<- R.out,HH.out,if_pos trivial]
    rfl
   |false =>
    rw [hh] at hcall HH
    go_wp2_with (go_at_fn 24; refine hcall.mono ?_; rintro e w' ⟨rfl,hb'⟩)
    go_roundw
    case rel =>
     refine ⟨k + 1,by omega,by go_num,BW.out.trans (hb'.mono BW.out.size),?_⟩
     show idxP P (A.drop (k + 1)) (k + 1)=r
     rw [<- R.out,HH.out]; simp
    case measure=>simp [intOf]; omega
  ·have hk':k=n:=by omega
   subst hk'
   go_wp2
   go_ret
   refine ⟨?_,BW.out⟩
   rw [<- R.out,<- N.out,List.drop_length]
   rfl
theorem sweeps_mkts (p:Option Addr) (c:Nat) (A:List Mkt) (P:Mkt->Bool) (B:Nat) (w:World) (hn:A.length<=140737488351232) (h:MRow w p A)
  (hq:∀ W,Below w.heap.size w W->∀ k (hk:k < A.length),Calls Tryz.prog 24 #[mktV (A[k]'hk) ,.pointer (some ⟨B,0,none⟩)] W fun e w'=>e=.returned (.bool (P (A[k]'hk))) /\ Below W.heap.size W w') :
  Calls Tryz.prog 66 #[.slice p A.length c,.func (.func 24) #[] #[.pointer (some ⟨B,0,none⟩)]] w fun e w'=>e=.returned (.int .i64 (idxP P A 0)) /\ Below w.heap.size w w':=by
 by_cases hx:A=[]
 ·subst hx
  refine (mktIdx_none p c _ w).mono ?_
  rintro e w' ⟨rfl,rfl⟩
  exact ⟨rfl,Below.refl _ _⟩
 ·rcases h with h | ⟨b,off,rfl,hc⟩
  ·exact absurd h hx
  ·exact sweeps_mkts_some b off c A P B w hn hc (World.block_lt_of_cell? w _ (mrow_cells hc (List.length_pos_iff.2 hx)).1) hq
open Go.RowKit Go.Proofs.YtpkbiafhnflmnaaGreatDoor.Fix Go.Proofs.YtpkbiafhnflmnaaGreatDoor.Ac Go.Sort Go.Maps Go.Proofs.YtpkbiafhnflmnaaGreatDoor.Mix
theorem mrow_rm {w:World} {p:Option Addr} {M:List Mkt} (h:MRow w p M) (hm:∀ m,m ∈ M->MOk w m):Rm.MRow w p M:=by
 refine ⟨?_,fun j hj=>?_⟩
 ·rcases h with h | ⟨b,off,rfl,hc⟩
  ·exact .inl h
  ·refine .inr ⟨b,off,rfl,fun j hj i v hv=>?_⟩
   rw [getElem!_pos M j hj] at hv
   have hi:i < 4:=(List.getElem?_eq_some_iff.1 hv).1
   have:=hc (j * 4 + i) v (by rw [show flatM M=M.flatMap mCells from rfl,flat_get mCells_len M j hj i hi]; exact hv)
   rw [<- Nat.add_assoc] at this; exact this
 ·rw [getElem!_pos M j hj]
  have:=hm _ (List.getElem_mem hj); exact ⟨this.b,this.a,this.nb,this.na⟩
theorem sweeps2_any (x:Int) (w:World):Calls Tryz.prog 29 #[.int .i64 x] w fun e w'=>e=.returned (.bool (x != 0)) /\ w'=w:=by
 go_enter Tryz.func29,Tryz.ntmps29
 go_wp2
 go_ret
 exact ⟨rfl,rfl⟩
theorem sweeps_some (p:Option Addr) (c:Nat) (L:List Int) (w:World) (hn:L.length<=140737488351232) (h:Row w p L) :
  Calls Tryz.prog 28 #[.slice p L.length c,fnV 29] w fun e w'=>e=.returned (.bool (L.any fun x=>x != 0)) /\ Below w.heap.size w w':=by
 have hcon:=sweeps_ints p c L (fun x=>x != 0) w hn h (fun W _ k hk=>(sweeps2_any _ W).mono (fun e w' ⟨h1,h2⟩=>⟨h1,by rw [h2]; exact Below.refl _ _⟩))
 rw [<- idxP_any]
 generalize idxP (fun x:Int=>x != 0) L 0=r at hcon ⊢
 generalize L.length=n at hcon ⊢; clear h
 go_enter Tryz.func28,Tryz.ntmps28
 go_wp2_with (go_at_call 68; refine hcon.mono ?_; rintro e w' ⟨rfl,hb'⟩)
 go_ret
 exact ⟨rfl,hb'⟩
theorem sweeps11_any (x:Odr) (id:Int) (B:Nat) (w:World) (k0:w.cell? ⟨B,0,none⟩ = some (.int .i64 id)):Calls Tryz.prog 27 #[odrV x,.pointer (some ⟨B,0,none⟩)] w fun e w'=>e=.returned (.bool (x.2.1 == id)) /\ Below w.heap.size w w':=by
 have k0:=fun o=>cell_old k0 o
 go_enter Tryz.func27,Tryz.ntmps27
 go_wp2
 go_ret
 exact ⟨rfl,Ac.below_alloc _ _⟩
theorem sweeps_odr (p:Option Addr) (c:Nat) (L:List Odr) (id:Int) (B:Nat) (w:World) (hn:L.length<=140737488351232) (h:ORow w p L) (k0:w.cell? ⟨B,0,none⟩ = some (.int .i64 id)) :
  Calls Tryz.prog 25 #[.slice p L.length c,.func (.func 27) #[] #[.pointer (some ⟨B,0,none⟩)]] w fun e w'=>e=.returned (.bool (L.any fun x=>x.2.1 == id)) /\ Below w.heap.size w w':=by
 have hcon:=sweeps_odrs p c L (fun x=>x.2.1 == id) B w hn h (fun W hW k hk=>sweeps11_any _ id B W ((hW.cell (World.block_lt_of_cell? _ _ k0)).trans k0))
 rw [<- idxP_any]
 generalize idxP (fun x:Odr=>x.2.1 == id) L 0=r at hcon ⊢
 generalize L.length=n at hcon ⊢; clear h k0
 go_enter Tryz.func25,Tryz.ntmps25
 go_wp2_with (go_at_call 56; refine hcon.mono ?_; rintro e w' ⟨rfl,hb'⟩)
 go_ret
 exact ⟨rfl,hb'⟩
set_option maxHeartbeats 1000000 in
theorem sweeps1_any (m:Mkt) (id:Int) (B:Nat) (w:World) (h1:OV w m.1.1 m.1.2.1 (mB m)) (h2:OV w m.2.1.1 m.2.1.2.1 (mA m)) (n1:(mB m).length<=1000) (n2:(mA m).length<=1000) (k0:w.cell? ⟨B,0,none⟩ = some (.int .i64 id)) :
  Calls Tryz.prog 24 #[mktV m,.pointer (some ⟨B,0,none⟩)] w fun e w'=>e=.returned (.bool ((mB m ++ mA m).any fun x=>x.2.1 == id)) /\ Below w.heap.size w w':=by
 have CC:Hid (∀ X g,Below w.heap.size w X->g < X.heap.size->X.cell? ⟨g,0,none⟩ = some (.slice m.1.1 (mB m).length m.1.2.1)->X.cell? ⟨g,1,none⟩ = some (.slice m.2.1.1 (mA m).length m.2.1.2.1)->Calls Tryz.prog 26 #[.slice (some ⟨g,0,none⟩) 2 2] X fun e w'=>∃ v,e=.returned v /\ w'.ownsRow X.heap.size 27 5 v (mB m ++ mA m).length (flat (mB m ++ mA m)) /\ Below X.heap.size X w'):=fun X g hX hg c0 c1=>by
  have hj:joined [(m.1.1,m.1.2.1,mB m),(m.2.1.1,m.2.1.2.1,mA m)]=mB m ++ mA m:=by simp [joined]
  have:=concat_any g 2 [(m.1.1,m.1.2.1,mB m),(m.2.1.1,m.2.1.2.1,mA m)] X (fun j hj=>by
   have hj2:j < 2:=hj
   match j,hj2 with
   |0,_=>exact c0
   |1,_=>exact c1) (fun j hj=>by
   have hj2:j < 2:=hj
   match j,hj2 with
   |0,_=>exact h1.below hX
   |1,_=>exact h2.below hX) hg (by simp) (by rw [hj,List.length_append]; omega)
  rw [hj] at this; exact this
 have QQ:Hid (∀ X B' v,Below w.heap.size w X->X.ownsRow B' 27 5 v (mB m ++ mA m).length (flat (mB m ++ mA m))->Calls Tryz.prog 25 #[v,.func (.func 27) #[] #[.pointer (some ⟨B,0,none⟩)]] X fun e w'=>e=.returned (.bool ((mB m ++ mA m).any fun x=>x.2.1 == id)) /\ Below X.heap.size X w'):=fun X B' v hX ho=>by
  obtain ⟨p,c,rfl,hov,-⟩:=own_ov ho
  exact sweeps_odr p c _ id B X (by rw [List.length_append]; omega) hov.row ((hX.cell (World.block_lt_of_cell? _ _ k0)).trans k0)
 generalize ((mB m ++ mA m).any fun x=>x.2.1 == id)=r at QQ ⊢
 dsimp only [mktV]; generalize (mB m).length=a1 at CC ⊢; generalize (mA m).length=a2 at CC ⊢; generalize m.1.1=a3 at CC ⊢; generalize m.1.2.1=a4 at CC ⊢; generalize m.2.1.1=a5 at CC ⊢; generalize m.2.1.2.1=a6 at CC ⊢; generalize mI m=a7; generalize mL m=a8; clear h1 h2 n1 n2 k0; obtain ⟨W,hW⟩:∃ W,W=(w.alloc (.cells #[.slice a3 a1 a4,.slice a5 a2 a6,.int .i64 a7,.int .i64 a8] 52)).alloc (.cells #[.slice a3 a1 a4,.slice a5 a2 a6] 48):=⟨_,rfl⟩
 have hsz:(w.alloc (.cells #[.slice a3 a1 a4,.slice a5 a2 a6,.int .i64 a7,.int .i64 a8] 52)).heap.size=w.heap.size + 1:=by simp
 have n0:W.cell? ⟨w.heap.size + 1,0,none⟩ = some (.slice a3 a1 a4):=by rw [hW,<- hsz]; exact new_cell _ _ _ 0 _ rfl
 have n1:W.cell? ⟨w.heap.size + 1,1,none⟩ = some (.slice a5 a2 a6):=by rw [hW,<- hsz]; exact new_cell _ _ _ 1 _ rfl
 have BW:Hid (Below w.heap.size w W):=by rw [hW]; exact Ac.below_alloc2 _ _ _
 have CW:=hide (CC.out W _ BW.out (World.block_lt_of_cell? _ _ n0) n0 n1); have HW:=hide hW; clear CC n0 n1 hsz hW
 go_enter Tryz.func24,Tryz.ntmps24
 go_wp2_with fail
 rw [<- HW.out]
 refine CW.out.mono ?_
 rintro e X ⟨v,rfl,ho,hbX⟩
 have BX:=hide (BW.out.trans (hbX.mono BW.out.size)); have Q:=hide (QQ.out X _ v BX.out ho); clear hbX ho QQ CW HW
 go_wp2_with fail
 refine Q.out.mono ?_
 rintro e Y ⟨rfl,hbY⟩
 go_wp2
 go_ret
 exact ⟨rfl,BX.out.trans (hbY.mono BX.out.size)⟩
/-- has an account an order in one of these? -/
theorem sweeps_has (p:Option Addr) (c:Nat) (M:List Mkt) (id:Int) (B:Nat) (w:World) (hn:M.length<=140737488351232) (h:MRow w p M) (hm:∀ m,m ∈ M->OV w m.1.1 m.1.2.1 (mB m) /\ OV w m.2.1.1 m.2.1.2.1 (mA m)) (hl:∀ m,m ∈ M->(mB m).length<=1000 /\ (mA m).length<=1000) (k0:w.cell? ⟨B,0,none⟩ = some (.int .i64 id)) :
  Calls Tryz.prog 23 #[.slice p M.length c,.func (.func 24) #[] #[.pointer (some ⟨B,0,none⟩)]] w fun e w'=>e=.returned (.bool (M.any fun m=>(mB m ++ mA m).any fun x=>x.2.1 == id)) /\ Below w.heap.size w w':=by
 have hcon:=sweeps_mkts p c M (fun m=>(mB m ++ mA m).any fun x=>x.2.1 == id) B w hn h (fun W hW k hk=>sweeps1_any _ id B W ((hm _ (List.getElem_mem hk)).1.below hW) ((hm _ (List.getElem_mem hk)).2.below hW) (hl _ (List.getElem_mem hk)).1 (hl _ (List.getElem_mem hk)).2 ((hW.cell (World.block_lt_of_cell? _ _ k0)).trans k0))
 rw [<- idxP_any]
 generalize idxP (fun m:Mkt=>(mB m ++ mA m).any fun x=>x.2.1 == id) M 0=r at hcon ⊢
 generalize M.length=n at hcon ⊢; clear h k0
 go_enter Tryz.func23,Tryz.ntmps23
 go_wp2_with (go_at_call 66; refine hcon.mono ?_; rintro e w' ⟨rfl,hb'⟩)
 go_ret
 exact ⟨rfl,hb'⟩
open Go.RowKit Go.Proofs.YtpkbiafhnflmnaaGreatDoor.Fix Go.Proofs.YtpkbiafhnflmnaaGreatDoor.Ac Go.Sort Go.Maps Go.Proofs.YtpkbiafhnflmnaaGreatDoor.Mix
set_option maxHeartbeats 8000000 in
set_option maxRecDepth 100000 in
theorem law_sweeps (v:Value) (s:Tn) (w:World) (h:VIn w v s) (hL:Rk.Laid w) :
  Calls Tryz.prog 5 #[v] w fun e w'=>e=.returned (.bool true) /\ Below w.heap.size w w':=by
 obtain ⟨p,n1,cc,p',n2,cc',hv⟩:=vnew_is h; subst hv; obtain ⟨W,hW⟩:∃ W,W=w.alloc (.cells #[.slice p n1 cc,.slice p' n2 cc',.int .i64 s.ins,.int .i64 s.res,.int .i64 s.next,.int .i64 s.inn,.int .i64 s.out] 25):=⟨_,rfl⟩
 have b0:Below w.heap.size w W:=by rw [hW]; exact Ac.below_alloc _ _
 have E0:Hid (W.heap[w.heap.size]? = some (venO (.slice p n1 cc) (.slice p' n2 cc') s)):=by
  show W.heap[w.heap.size]? = _
  rw [hW]; exact heap_alloc_new w _
 have MK:Hid (Calls Tryz.prog 18 #[.slice p' n2 cc'] W fun e w'=>∃ v,e=.returned (.tuple #[v,.int .i64 (marksP s.mkts).2]) /\ w'.ownsRow W.heap.size 3 1 v (marksP s.mkts).1.length ((marksP s.mkts).1.map (Value.int .i64)) /\ Below W.heap.size W w'):=by
  obtain ⟨q9,q9',g9,g9',A,M,e,-,-,vr,-⟩:=h.below b0; simp only [Value.agg.injEq,Array.mk.injEq,List.cons.injEq,Value.slice.injEq,and_true] at e; obtain ⟨⟨rfl,rfl,rfl⟩,⟨rfl,rfl,rfl⟩⟩:=e; have:=marks_any p' M.length cc' M W rfl (mrow_rm vr.rowM vr.eachM); rw [marksP_is,vr.mkts] at this; exact this
 have DO:Hid (∀ X,Below W.heap.size W X->Calls Tryz.prog 11 #[venV (.slice p n1 cc) (.slice p' n2 cc') s,.agg #[.int .i64 7,.int .i64 0,.int .i64 0,.int .i64 0,.int .i64 0,.int .i64 0,.int .i64 0,.int .i64 0,.int .i64 0,.int .i64 0,.bool false]] X (DoPost s sweepC X)):=fun X hX =>
  venue_do _ s sweepC X ((h.below b0).below hX) ((hL.next b0).next hX)
 have VI:=hide h; have LD:=hide hL; have HW:=hide hW; have BW:=hide b0; clear hW b0 h hL; obtain ⟨a0,a1,a2,a3,a4,a5,a6⟩:=ven_cells E0.out
 go_enter Tryz.func5,Tryz.ntmps5
 go_wp2_with (rw [<- HW.out])
 refine MK.out.mono ?_
 rintro e X0 ⟨mv,rfl,ho0,hb0⟩
 have B0:=hide (BW.out.trans (hb0.mono BW.out.size)); have DX:=hide (DO.out X0 hb0); have OW0:=hide ho0; have G0:=hide (blk_below E0.out hb0); clear DO MK hb0 ho0 HW E0 a0 a1 a2 a3 a4 a5 a6; obtain ⟨a0,a1,a2,a3,a4,a5,a6⟩:=ven_cells G0.out
 go_wp2_with fail
 refine DX.out.mono ?_
 rintro e X ⟨v',ev,rfl,hbX,hvX,heX⟩
 obtain ⟨q,m1,dd,q',m2,dd',rfl⟩:=vnew_is hvX; obtain ⟨X1,hX1⟩:∃ X1,X1=X.alloc (.cells #[.slice q m1 dd,.slice q' m2 dd',.int .i64 (doR s sweepC).1.ins,.int .i64 (doR s sweepC).1.res,.int .i64 (doR s sweepC).1.next,.int .i64 (doR s sweepC).1.inn,.int .i64 (doR s sweepC).1.out] 25):=⟨_,rfl⟩
 have hb1:Below X.heap.size X X1:=by rw [hX1]; exact Ac.below_alloc _ _
 have BX1:=hide ((B0.out.trans (hbX.mono B0.out.size)).trans (hb1.mono (Nat.le_trans B0.out.size hbX.size))); have F0:=hide (blk_below (blk_below G0.out hbX) hb1)
 have F1:Hid (X1.heap[X.heap.size]? = some (venO (.slice q m1 dd) (.slice q' m2 dd') (doR s sweepC).1)):=by show X1.heap[X.heap.size]? = _; rw [hX1]; exact heap_alloc_new X _
 have VX:=hide ((hvX.below hb1).mono (Nat.zero_le _)); have EX:=hide ((heX.below hb1).mono (Nat.zero_le _)); have OW1:=hide (own_under (own_under OW0.out hbX) hb1); have OP:=hide (opened_any X1 (LD.out.next BX1.out)); have HX1:=hide hX1
 obtain ⟨pe,ce,rfl⟩:∃ p c',ev=.slice p (doR s sweepC).1.evs.length c':=by obtain ⟨q,c',e,-⟩:=heX; exact ⟨q,c',e⟩
 have LX:=hide (LD.out.next BX1.out); clear hX1 hb1 hvX heX hbX DX G0 OW0 B0 a0 a1 a2 a3 a4 a5 a6
 by_cases hce:checkE s=0
 ·obtain ⟨z1,z2,-⟩:=do_cases sweepC hce
  have SW:=hide (sweep_swf hce); have hm0:(marksP s.mkts).2=0:=(checkE_zero.1 hce).1.marks.1; obtain ⟨hs8,hsm⟩:s.accs.length<=8 /\ s.mkts.length<=2:=⟨(checkE_zero.1 hce).1.few,(checkE_zero.1 hce).1.m2⟩; have STR:=hide (checkE_zero.1 hce).1; rw [z1,hm0]; obtain ⟨T,hT⟩:∃ T,T=(doR s sweepC).1:=⟨_,rfl⟩; rw [<- hT] at HX1 F1 VX EX z2 SW ⊢; obtain ⟨mks,hmks⟩:∃ mks,mks=(marksP s.mkts).1:=⟨_,rfl⟩; rw [<- hmks] at OW1 SW; clear hT z1 hmks hm0
  go_wp2_with (rw [<- HX1.out])
  refine OP.out.mono ?_
  rintro e Y ⟨rfl,hbY⟩
  have BY:=hide (BX1.out.trans (hbY.mono BX1.out.size)); have LY:=hide (LX.out.next hbY); have Y0:=hide (blk_below F0.out hbY); have Y1:=hide (blk_below F1.out hbY); have VY:=hide (VX.out.below hbY); have EY:=hide (EX.out.below hbY); have VS:=hide (VI.out.below BY.out); have OY:=hide (own_under OW1.out hbY); have RJ:=hide (rejected_any _ _ Y EY.out); clear OP HX1 hbY F0 F1 VX EX VI BX1 LX OW1; obtain ⟨a0,a1,a2,a3,a4,a5,a6⟩:=ven_cells Y0.out; obtain ⟨b0,b1,b2,b3,b4,b5,b6⟩:=ven_cells Y1.out
  go_wp2_with fail
  refine RJ.out.mono ?_
  rintro e Z' ⟨rfl,hZ'⟩
  rw [hZ']; clear hZ' RJ; cases hrj:rejectedL T.evs
  ·have F:=(SW.out hrj).2
   obtain ⟨px,cx,rfl,hml,-,hmrow,-⟩:=own_am OY.out; have MR:=hide hmrow; have ML:=hide hml
   have SAME:=hide (fun (ha:∀ j,j < s.accs.length->snd2 s mks j=true) W (hW:Below Y.heap.size Y W)=>by
    obtain ⟨-,y1,y2,y3,y4,y5,y6,y7⟩:=F.all ha
    exact venue_same _ _ s T W (VS.out.below hW) (VY.out.below hW) y1 y2 y3 y4 y5 y6 y7 (by omega) (by omega))
   have NOEV:=hide (fun (ha:∀ j,j < s.accs.length->snd2 s mks j=true)=>(F.all ha).1)
   obtain ⟨q9,q9',g9,g9',A,M,e,-,-,vr,-⟩:=VS.out; simp only [Value.agg.injEq,Array.mk.injEq,List.cons.injEq,Value.slice.injEq,and_true] at e; obtain ⟨⟨rfl,rfl,rfl⟩,⟨rfl,rfl,rfl⟩⟩:=e; obtain ⟨r9,r9',f9,f9',A',M',e,-,-,vr',ov',-⟩:=VY.out; simp only [Value.agg.injEq,Array.mk.injEq,List.cons.injEq,Value.slice.injEq,and_true] at e; obtain ⟨⟨rfl,rfl,rfl⟩,⟨rfl,rfl,rfl⟩⟩:=e; obtain ⟨hl1,-⟩:=few_vin vr; obtain ⟨hl2,hl3⟩:=few_vin vr'
   have hlen:A'.length=A.length:=by rw [hl1,hl2]; exact F.lenA
   obtain ⟨n,hn⟩:∃ n,n=A.length:=⟨_,rfl⟩; rw [hlen] at b0; rw [<- hn] at a0 b0 hlen
   have hn8:n<=8:=by omega
   have e1:T.inn=s.inn:=F.inn; have e2:T.out=s.out:=F.out
   have e3:¬ s.ins < T.ins:=by have:=F.ins; omega
   have e4:T.res=s.res:=F.res; have EE:=hide (And.intro e1 (And.intro e2 e4)); rw [e1] at b5; rw [e2] at b6; rw [e4] at b3
   have SO:Hid (∀ W,Below Y.heap.size Y W->∀ k (hk:k < A.length),Calls Tryz.prog 22 #[accV (A[k]'hk).id (A[k]'hk).bal (A[k]'hk).p (A[k]'hk).n (A[k]'hk).c,.slice px mks.length cx] W fun e w'=>e=.returned (.tuple #[.bool (soundR (accAt s k).1 (accAt s k).2.1 (accAt s k).2.2 mks).1,.bool (snd2 s mks k),.int .i64 (sndE s mks k)]) /\ Below W.heap.size W w'):=fun W hW k hk=>by
    have hak:(A[k]'hk).acc=accAt s k:=by
     unfold accAt
     rw [<- vr.accs,List.getD_eq_getElem?_getD,List.getElem?_map,List.getElem?_eq_getElem hk]
     rfl
    have ha:=(vr.eachA _ (List.getElem_mem hk)).below hW
    have:=Rk.sound_any (A[k]'hk).id (A[k]'hk).bal (A[k]'hk).p px (A[k]'hk).n (A[k]'hk).c mks.length cx (A[k]'hk).pos mks W ha.len rfl (by have:=ha.few; omega) (LY.out.next hW) ha.row (row_below MR.out hW)
    have e1:(A[k]'hk).id=(accAt s k).1:=congrArg (·.1) hak
    have e2:(A[k]'hk).bal=(accAt s k).2.1:=congrArg (·.2.1) hak
    have e3:(A[k]'hk).pos=(accAt s k).2.2:=congrArg (·.2.2) hak
    rw [e3] at this; rw [<- e1,<- e2]; unfold snd2 sndE; rw [<- e1,<- e2]; exact this
   have HAS:Hid (∀ W,Below Y.heap.size Y W->∀ k,k < s.accs.length->(∀ l,l < k->snd2 s mks l=true)->snd2 s mks k=false->∀ B,W.cell? ⟨B,0,none⟩ = some (.int .i64 (accAt s k).1) ->
     Calls Tryz.prog 23 #[.slice q' M'.length dd',.func (.func 24) #[] #[.pointer (some ⟨B,0,none⟩)]] W fun e w'=>e=.returned (.bool false) /\ Below W.heap.size W w'):=fun W hW k hk h1 h2 B kB=>by
    have hc:=(F.cln k hk h1 h2).1; rw [<- vr'.mkts,List.any_map] at hc; have hf:=few_of vr'.accs vr'.mkts F.str
    have:=sweeps_has q' dd' M' (accAt s k).1 B W vr'.nm (mrow_below vr'.rowM hW) (fun m hm=>⟨(ov' m hm).1.below hW,(ov' m hm).2.below hW⟩) (fun m hm=>by have:=hf.2.2.2 m hm; omega) kB
    rw [show (M'.any fun m=>(mB m ++ mA m).any fun x=>x.2.1 == (accAt s k).1)=false from hc] at this
    exact this
   have POS:Hid (∀ W,Below Y.heap.size Y W->∀ k (hk:k < A'.length),k < s.accs.length->(∀ l,l < k->snd2 s mks l=true)->snd2 s mks k=false ->
     Calls Tryz.prog 28 #[.slice (A'[k]'hk).p (A'[k]'hk).n (A'[k]'hk).c,fnV 29] W fun e w'=>e=.returned (.bool false) /\ Below W.heap.size W w'):=fun W hW k hk hk2 h1 h2=>by
    have hak:(A'[k]'hk).acc=accAt T k:=by
     unfold accAt
     rw [<- vr'.accs,List.getD_eq_getElem?_getD,List.getElem?_map,List.getElem?_eq_getElem hk]
     rfl
    have e3:(A'[k]'hk).pos=(accAt T k).2.2:=congrArg (·.2.2) hak
    have hc:=(F.cln k hk2 h1 h2).2.1; rw [<- e3] at hc; have ha:=(vr'.eachA _ (List.getElem_mem hk)).below hW
    have:=sweeps_some (A'[k]'hk).p (A'[k]'hk).c (A'[k]'hk).pos W (by rw [ha.len]; have:=ha.few; omega) ha.row
    rw [hc,ha.len] at this; exact this
   have BAL:Hid (∀ k (hk:k < A'.length),k < s.accs.length->(∀ l,l < k->snd2 s mks l=true)->snd2 s mks k=false->0<=(A'[k]'hk).bal \/ T.ins=0):=fun k hk hk2 h1 h2=>by
    have hak:(A'[k]'hk).acc=accAt T k:=by
     unfold accAt
     rw [<- vr'.accs,List.getD_eq_getElem?_getD,List.getElem?_map,List.getElem?_eq_getElem hk]
     rfl
    have e2:(A'[k]'hk).bal=(accAt T k).2.1:=congrArg (·.2.1) hak
    rw [e2]; exact (F.cln k hk2 h1 h2).2.2
   have IDS:Hid (∀ k (hk:k < A.length) (hk':k < A'.length),(A'[k]'hk').id=(A[k]'hk).id /\ (A[k]'hk).id=(accAt s k).1):=fun k hk hk'=>by
    have hak:(A'[k]'hk').acc=accAt T k:=by
     unfold accAt
     rw [<- vr'.accs,List.getD_eq_getElem?_getD,List.getElem?_map,List.getElem?_eq_getElem hk']
     rfl
    have hak2:(A[k]'hk).acc=accAt s k:=by
     unfold accAt
     rw [<- vr.accs,List.getD_eq_getElem?_getD,List.getElem?_map,List.getElem?_eq_getElem hk]
     rfl
    have:=F.ids k; rw [<- hak,<- hak2] at this
    exact ⟨this,congrArg (·.1) hak2⟩
   have ERR:=hide F.err; have HA:=hide vr.rowA; have HA':=hide vr'.rowA; have HN:=hide hn; have HLN:=hide hlen; have HLS:Hid (n=s.accs.length):=hn.trans hl1; clear VS VY EY Y0 Y1 LD SW F vr vr' ov' hl1 hl2 hl3 hmrow hml OY e1 e2 e4 hrj hn hlen LY hs8 hsm STR hce z2 ML MR
   go_wp2_with fail
   go_loopw [81] (fun i wr=>∃ (k:Nat),k<=n /\ i=.int .i64 k /\ Hid (Below Y.heap.size Y wr) /\ Hid (∀ j,j < k->snd2 s mks j=true)) (fun i _=>n - (intOf i).toNat)
   case atStart=>exact ⟨0,Nat.zero_le _,rfl,Below.refl _ _,fun j hj=>by omega⟩
   case round =>
    obtain ⟨k,hk,rfl,J,HS⟩:=hrel
    by_cases hlt:k < n
    ·have hltz:(k:Int) < (n:Int):=by omega
     have hkA:k < A.length:=by rw [<- HN.out]; exact hlt
     have hkA':k < A'.length:=by rw [HLN.out]; exact hlt
     have hks:k < s.accs.length:=by rw [<- HLS.out]; exact hlt
     obtain ⟨b,off,rfl,hc⟩:∃ b off,p=some ⟨b,off,none⟩ /\ ∀ j u,(A.flatMap encA)[j]? = some u->wr.cell? ⟨b,off + j,none⟩ = some u:=by
      rcases arow_below HA.out J.out with e | e
      ·rw [e] at hkA; simp at hkA
      ·exact e
     obtain ⟨c0,c1,c2⟩:=arow_cells hc hkA; obtain ⟨id1,id2⟩:=IDS.out k hkA hkA'; have SK:=SO.out (wr.alloc (.cells #[.int .i64 (A[k]'hkA).id,.int .i64 (A[k]'hkA).bal,.slice (A[k]'hkA).p (A[k]'hkA).n (A[k]'hkA).c] 40)) (J.out.trans ((Ac.below_alloc _ _).mono J.out.size)) k hkA; rw [ERR.out k hks HS.out] at SK; have SK:=hide SK
     have HX:=hide (fun W hW hf=>HAS.out W hW k hks HS.out hf)
     have PX:=hide (fun W hW hf=>POS.out W hW k hkA' hks HS.out hf)
     have BX:=hide (fun hf=>BAL.out k hkA' hks HS.out hf)
     have HNX:Hid (snd2 s mks k=true->∀ j,j < k + 1->snd2 s mks j=true):=fun ht j hj=>by
      rcases Nat.lt_succ_iff_lt_or_eq.1 hj with hj | rfl
      ·exact HS.out j hj
      ·exact ht
     obtain ⟨b',off',rfl,hc'⟩:∃ b off,q=some ⟨b,off,none⟩ /\ ∀ j u,(A'.flatMap encA)[j]? = some u->Y.cell? ⟨b,off + j,none⟩ = some u:=by
      rcases HA'.out with e | e
      ·rw [e] at hkA'; simp at hkA'
      ·exact e
     obtain ⟨x0,x1,x2⟩:=arow_cells hc' hkA'; rw [id1] at x0; rw [<- id2] at HX; clear hc hc' id1 id2 SO HAS POS BAL IDS ERR HA; generalize (A[k]'hkA).id=z1 at *; generalize (A[k]'hkA).bal=z2 at *; generalize (A[k]'hkA).p=z3 at *; generalize (A[k]'hkA).n=z4 at *; generalize (A[k]'hkA).c=z5 at *; generalize (A'[k]'hkA').bal=y2 at *; generalize (A'[k]'hkA').p=y3 at *; generalize (A'[k]'hkA').n=y4 at *; generalize (A'[k]'hkA').c=y5 at *; generalize (soundR (accAt s k).1 (accAt s k).2.1 (accAt s k).2.2 mks).1=sb at *; generalize snd2 s mks k=sg at *
     go_wp2_with fail
     refine SK.out.mono ?_
     rintro e S ⟨rfl,hbS⟩
     have hnew:=heap_alloc_new wr (.cells #[.int .i64 z1,.int .i64 z2,.slice z3 z4 z5] 40); have hnS:=blk_below hnew hbS; have JS:=hide ((J.out.trans ((Ac.below_alloc _ _).mono J.out.size)).trans (hbS.mono (Nat.le_trans J.out.size (Ac.below_alloc _ _).size))); have k0:=(blk_cell hnS 0).1
     simp only [List.getElem?_toArray,List.getElem?_cons_zero] at k0
     have s0:=(JS.out.cell (World.block_lt_of_cell? _ _ b0)).trans b0; have s1:=(JS.out.cell (World.block_lt_of_cell? _ _ b1)).trans b1; have s2:=(JS.out.cell (World.block_lt_of_cell? _ _ b2)).trans b2; have x0:=(JS.out.cell (World.block_lt_of_cell? _ _ x0)).trans x0; have x1:=(JS.out.cell (World.block_lt_of_cell? _ _ x1)).trans x1; have x2:=(JS.out.cell (World.block_lt_of_cell? _ _ x2)).trans x2; obtain ⟨V,hV⟩:∃ V,V=S.alloc (.cells #[.int .i64 z1,.int .i64 y2,.slice y3 y4 y5] 40):=⟨_,rfl⟩
     have hbV:Below S.heap.size S V:=by rw [hV]; exact Ac.below_alloc _ _
     have JV:=hide (JS.out.trans (hbV.mono JS.out.size)); have v0:=(hbV.cell (World.block_lt_of_cell? _ _ k0)).trans k0; have v1:=(hbV.cell (World.block_lt_of_cell? _ _ s1)).trans s1; have v2:=(hbV.cell (World.block_lt_of_cell? _ _ s2)).trans s2
     have hnV:V.heap[S.heap.size]? = some (.cells #[.int .i64 z1,.int .i64 y2,.slice y3 y4 y5] 40):=by rw [hV]; exact heap_alloc_new S _
     have y0:=(blk_cell hnV 0).1; have y1:=(blk_cell hnV 1).1; have y22:=(blk_cell hnV 2).1
     simp only [List.getElem?_toArray,List.getElem?_cons_zero,List.getElem?_cons_succ] at y0 y1 y22
     have HV:=hide hV; clear hV hbV hnew hnS hnV hbS SK c0 c1 c2 s1 s2; cases sg
     ·have HV1:=hide (HX.out V JV.out rfl _ v0)
      have PX1:=hide (fun W hW=>PX.out W hW rfl)
      have BX1:=hide (BX.out rfl); clear HX PX BX HNX
      go_wp2_with (rw [<- HV.out])
      refine HV1.out.mono ?_
      rintro e U ⟨rfl,hbU⟩
      have JU:=hide (JV.out.trans (hbU.mono JV.out.size)); have u1:=(hbU.cell (World.block_lt_of_cell? _ _ y1)).trans y1; have u22:=(hbU.cell (World.block_lt_of_cell? _ _ y22)).trans y22; have u2:=(hbU.cell (World.block_lt_of_cell? _ _ v2)).trans v2; have PU:=hide (PX1.out U JU.out); clear hbU HV1 v0 v1 v2 y0 y1 y22 HV
      go_wp2_with fail
      refine PU.out.mono ?_
      rintro e R ⟨rfl,hbR⟩
      have r1:=(hbR.cell (World.block_lt_of_cell? _ _ u1)).trans u1; have r2:=(hbR.cell (World.block_lt_of_cell? _ _ u2)).trans u2; have JR:=hide (JU.out.trans (hbR.mono JU.out.size)); clear u1 u22 u2 hbR PU
      by_cases hz:0<=y2
      ·go_wp2
       go_ret
       exact ⟨rfl,BY.out.trans (JR.out.mono BY.out.size)⟩
      ·have hi:T.ins=0:=BX1.out.resolve_left hz
       rw [hi] at r2
       go_wp2
       go_ret
       exact ⟨rfl,BY.out.trans (JR.out.mono BY.out.size)⟩
     ·have HNX1:=hide (HNX.out rfl)
      clear HX PX BX HNX
      go_wp2_with (rw [<- HV.out])
      go_roundw
      case rel=>exact ⟨k + 1,by omega,by go_num,JV,HNX1⟩
      case measure=>simp [intOf]; omega
    ·obtain rfl:k=n:=by omega
     have hall:∀ j,j < s.accs.length->snd2 s mks j=true:=fun j hj=>HS.out j (by rw [HLS.out]; exact hj)
     have SM:=hide (SAME.out hall wr J.out); have hnoev:=NOEV.out hall; rw [hnoev]; dsimp only [venV] at SM; rw [EE.out.1,EE.out.2.1,EE.out.2.2,HLN.out,<- HN.out] at SM; have A0:=(J.out.cell (World.block_lt_of_cell? _ _ a0)).trans a0; have A1:=(J.out.cell (World.block_lt_of_cell? _ _ a1)).trans a1; have A2:=(J.out.cell (World.block_lt_of_cell? _ _ a2)).trans a2; have A3:=(J.out.cell (World.block_lt_of_cell? _ _ a3)).trans a3; have A4:=(J.out.cell (World.block_lt_of_cell? _ _ a4)).trans a4; have A5:=(J.out.cell (World.block_lt_of_cell? _ _ a5)).trans a5; have A6:=(J.out.cell (World.block_lt_of_cell? _ _ a6)).trans a6; have B0:=(J.out.cell (World.block_lt_of_cell? _ _ b0)).trans b0; have B1:=(J.out.cell (World.block_lt_of_cell? _ _ b1)).trans b1; have B2:=(J.out.cell (World.block_lt_of_cell? _ _ b2)).trans b2; have B3:=(J.out.cell (World.block_lt_of_cell? _ _ b3)).trans b3; have B4:=(J.out.cell (World.block_lt_of_cell? _ _ b4)).trans b4; have B5:=(J.out.cell (World.block_lt_of_cell? _ _ b5)).trans b5; have B6:=(J.out.cell (World.block_lt_of_cell? _ _ b6)).trans b6
     go_wp2_with fail
     refine SM.out.mono ?_
     rintro e R ⟨rfl,hbR⟩
     go_wp2
     go_ret
     exact ⟨rfl,BY.out.trans ((J.out.trans (hbR.mono J.out.size)).mono BY.out.size)⟩
  ·have OP2:=hide (opened_any Y LY.out)
   go_wp2_with fail
   refine OP2.out.mono ?_
   rintro e Z9 ⟨rfl,hb9⟩
   go_wp2
   go_ret
   exact ⟨rfl,BY.out.trans (hb9.mono BY.out.size)⟩
 ·have HR:(doR s sweepC).2=checkE s:=by rw [do_bad sweepC hce]
  rw [HR]; obtain ⟨r,hr⟩:∃ r,r=checkE s:=⟨_,rfl⟩; rw [<- hr] at hce ⊢; obtain ⟨T,hT⟩:∃ T,T=(doR s sweepC).1:=⟨_,rfl⟩; rw [<- hT] at HX1 ⊢; obtain ⟨me,hme⟩:∃ me,me=(marksP s.mkts).2:=⟨_,rfl⟩; rw [<- hme]; clear hT hr HR F0 F1 VX EX VI hme OW1
  go_wp2_with (rw [<- HX1.out])
  refine OP.out.mono ?_
  rintro e Y ⟨rfl,hbY⟩
  have BY:=hide (BX1.out.trans (hbY.mono BX1.out.size)); have LY:=hide (LX.out.next hbY); clear OP HX1 hbY LX BX1
  by_cases hm0:me=0
  ·subst hm0
   have OP2:=hide (opened_any Y LY.out)
   go_wp2_with fail
   refine OP2.out.mono ?_
   rintro e Z9 ⟨rfl,hb9⟩
   go_wp2
   go_ret
   exact ⟨rfl,BY.out.trans (hb9.mono BY.out.size)⟩
  ·have OP2:=hide (opened_any Y LY.out)
   go_wp2_with fail
   refine OP2.out.mono ?_
   rintro e Z9 ⟨rfl,hb9⟩
   go_wp2
   go_ret
   exact ⟨rfl,BY.out.trans (hb9.mono BY.out.size)⟩
end Go.Proofs.YtpkbiafhnflmnaaGreatDoor.Vn
namespace Go.Proofs.YtpkbiafhnflmnaaGreatDoor.venueSweeps
open Go.ChangeShapes Go.WideShapes Go.ChangeAt Go.RowKit Go.Joins Go.Proofs.YtpkbiafhnflmnaaGreatDoor.Rk Go.Proofs.YtpkbiafhnflmnaaGreatDoor.Vn
set_option linter.unusedVariables false
theorem own:ownKnob Tryz.prog.godebug=none:=by kernel_rfl
theorem laidOut:laidOutB Tryz.prog=true:=by kernel_rfl
set_option maxRecDepth 100000 in
theorem lifted (os:Os) (started:os.Started) (H:Type) (enc:TypeId × Value->H) :
  ReturnsInHanded {} Tryz.checked os 5 .any (fun w args=>(Rows.venueSweepsSpec.pre enc Tryz.prog Tryz.f5 Rows.venueSweepsRow.domain false w args /\ laidMetH Tryz.prog laid1 w) /\ sizedMet enc Tryz.prog Tryz.f5 (OpenSpec.ofChange Rows.venueSweepsSpec) false w args)
   (Rows.venueSweepsSpec.post enc Tryz.prog Tryz.f5 false true false false):=by
 refine returnsInHanded_of_change_and (C:=Tryz.checked) (X:=fun w _=>laidMetH Tryz.prog laid1 w) (fun _ _ _ hh h=>h.of_heap hh) own started (by kernel_rfl) Tryz.func5
  (ChangeSpec.witness_shaped (enc:=enc) (C:=Tryz.checked) (os:=os) (X:=fun w _=>laidMetH Tryz.prog laid1 w) false (World.laidAll Tryz.prog os laid1) #[.agg #[.slice none 0 0,.slice none 0 0,.int .i64 0,.int .i64 0,.int .i64 0,.int .i64 0,.int .i64 0]] 8 (World.laidAll_os _ _ _)
   (World.shaped_of_ZipB (by kernel_rfl) (by kernel_rfl)) (by kernel_rfl) (by kernel_rfl) (by kernel_rfl)
   (by rw [MakeChecks.laidMetH_plain _ _ _ (by kernel_rfl)]; exact laidMet_laidAll _ (by kernel_rfl) (by kernel_rfl))) ?_
 intro W base args ds gs before hval0 hW hcnd hsz0 hX _
 have hval:∀ (j:Nat) t v,Tryz.f5.params[j]? = some t->args[j]? = some v->Value.okWide Tryz.prog W .any base t v:=hval0; have hLd:=of_laid hX; have hW':=hW; obtain ⟨p,q,hA0,hV,rfl,hfz,hnd⟩:=hW
 have hA:DataW.TrodAll enc Tryz.prog W 0 (fun _=>true) true Tryz.f5.params.toList args.toList ds p:=hA0
 have hsz:(DataW.weightsEach Tryz.prog (Tryz.f5.params.toList ++ Rows.venueSweepsSpec.plain.varTypes Tryz.prog) (ds ++ gs)).all (·<=reachBytes)=true:=hsz0
 rw [Tryz.params5] at hA hval hsz; obtain ⟨v0,vs0,d0,ds0,p0,q0,hargs,rfl,rfl,h0,r0⟩:=trodAll_cons hA; obtain ⟨rfl,rfl,rfl⟩:=trodAll_nil r0
 obtain rfl:args = #[v0]:=by cases args; simp_all
 obtain ⟨rfl,rfl⟩:=trodVars_none hV; have k0:=h0
 have lt0:∀ x ∈ p0,x.block < W.heap.size:=by obtain ⟨m,hm⟩:=k0; exact DataW.trod_lt m _ _ _ hm
 have big:∀ {j:Nat} {t:TypeId} {d:DataW H},([25] ++ Rows.venueSweepsSpec.plain.varTypes Tryz.prog)[j]? = some t->([d0] ++ [])[j]? = some d->∀ m,m ∈ d.weights Tryz.prog t->m<=reachBytes:=fun ht hd m hm=>by
  have:=List.all_eq_true.1 hsz m (DataW.weights_mem_each ht hd m hm)
  simpa using this
 obtain ⟨s0,hs0⟩:=venue_read (hval 0 25 v0 rfl rfl) h0 (big (j:=0) rfl rfl); clear hA0 hval0 big
 refine (law_sweeps v0 s0 W hs0 hLd).mono fun e W' ⟨he,bel⟩=>?_
 subst he
 exact ⟨_,rfl,_,_,_,[],_,[],hW',trodAll_mk1 (shut_bool Tryz.underlying4 _),(trodAll_cons_mk (Below.trod laidOut (by kernel_rfl) (of_decide_eq_true (by kernel_rfl)) k0 bel lt0) trodAll_mk0),rfl,bel.frame _,fun h=>by cases h⟩
theorem over:Rows.VenueSweepsSaid :=
 OpenClaim.holds_of_wide 5 Tryz.f5 rfl rfl rfl rfl rfl rfl rfl ⟨rfl,rfl,rfl,rfl,rfl⟩ rfl rfl rfl rfl rfl (by kernel_rfl) Tryz.func5 (by kernel_rfl)
  (of_decide_eq_true (by kernel_rfl)) (by unfold Func.isWrapper; first | (rw [if_pos (by decide +kernel)]; kernel_rfl) | (rw [if_neg (by decide +kernel)]; exact ⟨rfl,rfl⟩))
  (fun os started H enc _=>lifted os started H enc)
theorem card:Rows.VenueSweepsCardSaid :=
 Claim7.holds_tied_plain_at .later [] [.data] true (true, "282d2aec10900769c483711ccf7034c4226bb8f84f208cece23444b1ce27ece2") false
  over (fun _ h=>by cases h) (by kernel_rfl) (fun _ h=>by cases h) venueSweeps_row_tie rfl ⟨rfl,rfl⟩ (by kernel_rfl) rfl
  (fun f fn hf hfn=>by
   obtain rfl : f = 5 := Option.some.inj ((show Tryz.prog.funcNamed "tollbooth/tollboothlaw.VenueSweeps" = some 5 by kernel_rfl).symm.trans hf) |>.symm
   obtain rfl:fn=Tryz.f5:=(Option.some.inj (Tryz.func5.symm.trans hfn)).symm
   exact ⟨by kernel_rfl,fun j t ht=>by
    rw [Tryz.params5] at ht
    rcases j with _ | j
    ·obtain rfl:t=25:=by simpa using ht.symm
     exact (show Tryz.prog.wantsStandIn 25=false by kernel_rfl)
    ·simp at ht⟩)
  (by kernel_rfl)
end Go.Proofs.YtpkbiafhnflmnaaGreatDoor.venueSweeps
namespace Go.Proofs.YtpkbiafhnflmnaaGreatDoor
theorem venueSweeps_holds:Rows.VenueSweepsCardSaid:=venueSweeps.card
#print axioms venueSweeps_holds
end Go.Proofs.YtpkbiafhnflmnaaGreatDoor
