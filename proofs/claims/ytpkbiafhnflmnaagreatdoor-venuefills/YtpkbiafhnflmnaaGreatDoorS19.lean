/-
  Package venue, the mathematics: runs.
-/
import Derived.Test.YtpkbiafhnflmnaaGreatDoorS18
namespace Go.Proofs.YtpkbiafhnflmnaaGreatDoor.Vn
open Go.Proofs.YtpkbiafhnflmnaaGreatDoor.Num Go.Proofs.YtpkbiafhnflmnaaGreatDoor.AcP Go.Proofs.YtpkbiafhnflmnaaGreatDoor.FuP Go.Proofs.YtpkbiafhnflmnaaGreatDoor.RkP Go.Proofs.YtpkbiafhnflmnaaGreatDoor.Bk Go.Proofs.YtpkbiafhnflmnaaGreatDoor.Rm
/-- an account's balance is another one now. -/
structure MFact (s t:Tn) (k:Nat) (n:Int):Prop where
 ids:t.accs.map (·.1)=s.accs.map (·.1)
 mkts:t.mkts=s.mkts
 next:t.next=s.next
 res:t.res=s.res
 inn:t.inn=s.inn
 out:t.out=s.out
 ins:t.ins=s.ins
 str:Str t
 bal:sumBal t.accs=sumBal s.accs + n
 pos:∀ j,sumPos j t.accs=sumPos j s.accs
 led:∀ free,Led free s t
 accs:t.accs=s.accs.set k ((accAt s k).1,(accAt s k).2.1 + n,(accAt s k).2.2)
 evs:t.evs=s.evs ++ [evMoved (accAt s k).1 n]
theorem move_facts {s t:Tn} {k:Nat} {n:Int} (h:moveR s k n=.ok t) (hs:Str s) (hk:k < s.accs.length):MFact s t k n:=by
 unfold moveR at h
 split at h
 ·rename_i he
  cases h; obtain ⟨m1,m2,m3,e⟩:=add_ok he; rw [e]; have hg:=accAt_get hk; obtain ⟨a1,a2,a3,a4,a5⟩:=accErr_ok (hs.accOk hk); have hset:(((s.setA k ((accAt s k).1,(accAt s k).2.1 + n,(accAt s k).2.2)).tell (evMoved (accAt s k).1 n))).accs=s.accs.set k ((accAt s k).1,(accAt s k).2.1 + n,(accAt s k).2.2):=rfl
  refine ⟨ids_set hk (by rw [hg]),rfl,rfl,rfl,rfl,rfl,rfl,(hs.setA (a:=((accAt s k).1,(accAt s k).2.1 + n,(accAt s k).2.2)) hk rfl (accErr_mk a1 a2 a3 m3 a5)).tell _,?_,fun j=>?_,fun free=>⟨[evMoved (accAt s k).1 n],rfl,fun id=>?_,fun j id=>?_⟩,rfl,rfl⟩
  ·unfold sumBal
   rw [hset,sum_set _ _ _ hk,<- hg]; dsimp only
   omega
  ·unfold sumPos
   rw [hset,sum_set _ _ _ hk,<- hg]; unfold posAt; dsimp only
   omega
  ·unfold balOf sumBalE evBal
   rw [hset,accOf_set hs.srt _ hk _ id (by rw [hg])]
   simp only [List.map_cons,List.map_nil,List.sum_cons,List.sum_nil,if_true]
   by_cases e2:id=(accAt s k).1
   ·subst e2
    rw [if_pos rfl,if_pos rfl,accOf_at hs.srt hk]
    show (accAt s k).2.1 + n=_
    omega
   ·rw [if_neg e2,if_neg (fun f=>e2 f.symm)]
    omega
  ·unfold posOf sumPosE evPos
   rw [hset,accOf_set hs.srt _ hk _ id (by rw [hg])]
   simp only [List.map_cons,List.map_nil,List.sum_cons,List.sum_nil]
   have h5:¬ (((evMoved (accAt s k).1 n).1=3 \/ (evMoved (accAt s k).1 n).1=6) /\ (evMoved (accAt s k).1 n).2.2.1=(j:Int)):=fun x=>by rcases x.1 with y | y <;> exact absurd y (by show ¬ (5:Int)=_; decide)
   rw [if_neg h5]
   by_cases e2:id=(accAt s k).1
   ·subst e2
    rw [if_pos rfl,accOf_at hs.srt hk]
    show posAt (accAt s k) j=_
    omega
   ·rw [if_neg e2]
    omega
 ·cases h
theorem cover_facts {s t:Tn} {i:Nat} (h:coverR s i=.ok t) (hs:Str s) (hS:Sums s) (hi:i < s.accs.length):SFact s t /\ (0<=(accAt t i).2.1 \/ t.ins=0) /\ (∀ k,posAt (accAt t i) k=posAt (accAt s i) k) /\ t.mkts=s.mkts /\ (∀ id,¬ id=(accAt s i).1->accOf t.accs id=accOf s.accs id):=by
 unfold coverR at h
 split at h
 ·rename_i h0
  cases h
  exact ⟨.refl hs hS,.inl (by omega),fun _=>rfl,rfl,fun _ _=>rfl⟩
 ·rename_i h0
  have h1:=hs.ins
  have hs2:Str { s with ins:=s.ins - min (-(accAt s i).2.1) s.ins }:=⟨hs.m1,hs.m2,hs.srt,hs.acc,hs.mkt,hs.who,hs.nx,by show rng (s.ins - min (-(accAt s i).2.1) s.ins); unfold rng; omega,hs.res,hs.inn,hs.out⟩
  have A:=move_facts h hs2 hi
  have hacc:accAt t i=((accAt s i).1,(accAt s i).2.1 + min (-(accAt s i).2.1) s.ins,(accAt s i).2.2):=by
   unfold accAt; rw [A.accs]
   simp only [List.getD_eq_getElem?_getD,List.getElem?_set]
   have hi':i < ({ s with ins:=s.ins - min (-(accAt s i).2.1) s.ins }:Tn).accs.length:=hi
   simp only [hi',if_true,Option.getD_some]
   rfl
  have hin:t.ins=s.ins - min (-(accAt s i).2.1) s.ins:=A.ins
  refine ⟨⟨A.ids,by rw [A.mkts],A.next,A.res,A.inn,A.out,by rw [hin]; omega,A.str,⟨?_,fun j=>?_⟩,(Led.none (t:={ s with ins:=s.ins - min (-(accAt s i).2.1) s.ins }) rfl rfl).trans (A.led true),fun k o ho=>⟨o,?_,rfl⟩⟩,?_,fun k=>?_,A.mkts,fun id hid=>?_⟩
  ·have:=hS.bal
   rw [A.bal,A.res,A.inn,A.out,hin]
   show s.ins - min (-(accAt s i).2.1) s.ins + s.res + (sumBal s.accs + min (-(accAt s i).2.1) s.ins)=s.inn - s.out
   omega
  ·rw [A.pos]; exact hS.pos j
  ·have hm:mktAt t k=mktAt s k:=by
    show t.mkts.getD k noMp=s.mkts.getD k noMp
    rw [A.mkts]
   rw [hm] at ho; exact ho
  ·rw [hacc,hin]
   dsimp only
   omega
  ·rw [hacc]; rfl
  ·rw [A.accs]
   have e1:=accOf_set hs2.srt i hi ((accAt s i).1,(accAt s i).2.1 + min (-(accAt s i).2.1) s.ins,(accAt s i).2.2) id (by show (accAt s i).1=(s.accs[i]'hi).1; rw [accAt_get hi])
   rw [if_neg hid] at e1; exact e1
theorem closeAll_facts {s t:Tn} {i:Nat} {marks:List Int} (h:closeAllR s i marks=.ok t) (hs:Str s) (hS:Sums s) (hi:i < s.accs.length):SFact s t /\ (∀ k,k < s.mkts.length->posAt (accAt t i) k=0) /\ (0<=(accAt t i).2.1 \/ t.ins=0):=by
 unfold closeAllR at h
 split at h
 ·rename_i u hu
  obtain ⟨D,d⟩:=dropM_facts _ _ _ s u hu hs hS (by omega)
  split at h
  ·rename_i v hv
   have hiu:i < u.accs.length:=by rw [d]; exact hi
   obtain ⟨C,c⟩:=closeM_facts i marks _ 0 u v hv D.str D.sums hiu (by omega)
   have hiv:i < v.accs.length:=by rw [C.lenA]; exact hiu
   obtain ⟨G,g1,g2,-,-⟩:=cover_facts h C.str C.sums hiv
   exact ⟨(D.trans C).trans G,fun k hk=>by rw [g2]; exact c k (by rw [D.len]; omega) (fun h0=>by omega),g1⟩
  ·cases h
 ·cases h
theorem sweepL_facts (marks:List Int):∀ (n i:Nat) (s t:Tn),sweepL marks n i s=.ok t->Str s->Sums s->i + n=s.accs.length->SFact s t
 |0,_,s,t,h,hs,hS,_=>by cases h; exact .refl hs hS
 |n + 1,i,s,t,h,hs,hS,hi=>by
  unfold sweepL at h
  split at h
  ·split at h
   ·exact sweepL_facts marks n (i + 1) s t h hs hS (by omega)
   ·split at h
    ·rename_i u hu
     obtain ⟨F,-,-⟩:=closeAll_facts hu hs hS (by omega)
     exact F.trans (sweepL_facts marks n (i + 1) u t h F.str F.sums (by rw [F.lenA]; omega))
    ·cases h
  ·cases h
theorem sweep_facts {s t:Tn} (h:sweepR s=.ok t) (hs:Str s) (hS:Sums s):SFact s t:=by
 unfold sweepR at h
 split at h
 ·exact sweepL_facts _ _ 0 s t h hs hS (by omega)
 ·cases h
/-- what each command leaves. -/
structure Keep (s t:Tn):Prop where
 str:Str t
 sums:Sums t
 next:s.next<=t.next /\ t.next<=s.next + 1
 inn:s.inn<=t.inn
 out:s.out<=t.out
 len:t.mkts.length=s.mkts.length
theorem SFact.keep {s t:Tn} (h:SFact s t):Keep s t:=⟨h.str,h.sums,by rw [h.next]; omega,by rw [h.inn]; exact Int.le_refl _,by rw [h.out]; exact Int.le_refl _,h.len⟩
theorem pay_ok {ac n:Int} (h:payE ac n=0):(1<=n /\ n<=1000000000000) /\ 0<=ac /\ ac<=7:=by
 unfold payE at h
 split at h
 ·cases h
 ·split at h
  ·cases h
  ·omega
theorem plc_put (l:List Acc) (a:Acc):plc (putA l a) a.1=plc l a.1:=by
 unfold putA
 induction l with
 |nil=>simp [plc]
 |cons b l ih =>
  by_cases g:b.1 < a.1
  ·have e:plc (b :: l) a.1=plc l a.1 + 1:=by rw [plc,if_pos g]
   rw [e,List.take_succ_cons,List.drop_succ_cons,List.cons_append,plc,if_pos g,ih]
  ·have e:plc (b :: l) a.1=0:=by rw [plc,if_neg g]
   rw [e,List.take_zero,List.drop_zero,List.nil_append,plc,if_neg (by omega)]
theorem put_mem {l:List Acc} {a x:Acc}:x ∈ putA l a ↔ x=a \/ x ∈ l:=by
 unfold putA; rw [List.mem_append,List.mem_cons]
 conv=>rhs; rw [<- List.take_append_drop (plc l a.1) l]
 rw [List.mem_append]
 constructor
 ·rintro (h | h | h)
  ·exact .inr (.inl h)
  ·exact .inl h
  ·exact .inr (.inr h)
 ·rintro (h | h | h)
  ·exact .inr (.inl h)
  ·exact .inl h
  ·exact .inr (.inr h)
theorem put_len (l:List Acc) (a:Acc):(putA l a).length=l.length + 1:=by
 unfold putA; have:=plc_le l a.1; simp
 omega
theorem put_srt:∀ {l:List Acc} {a:Acc},Srt l->hasA l a.1=false->Srt (putA l a)
 |[],a,_,_=>by simp [putA,plc]
 |b :: l,a,hs,hn=>by
  have hs':=List.pairwise_cons.1 hs
  have hn':¬ b.1=a.1 /\ hasA l a.1=false:=by
   unfold hasA at hn ⊢
   simpa using hn
  by_cases g:b.1 < a.1
  ·have e:putA (b :: l) a=b :: putA l a:=by
    unfold putA; rw [plc,if_pos g,List.take_succ_cons,List.drop_succ_cons,List.cons_append]
   rw [e]
   refine List.pairwise_cons.2 ⟨fun x hx=>?_,put_srt hs'.2 hn'.2⟩
   rcases put_mem.1 hx with rfl | hx
   ·exact g
   ·exact hs'.1 x hx
  ·have e:putA (b :: l) a=a :: b :: l:=by
    unfold putA; rw [plc,if_neg g,List.take_zero,List.drop_zero,List.nil_append]
   rw [e]
   refine List.pairwise_cons.2 ⟨fun x hx=>?_,hs⟩
   rcases List.mem_cons.1 hx with rfl | hx
   ·omega
   ·have:=hs'.1 x hx
    omega
theorem put_sum (f:Acc->Int) (l:List Acc) (a:Acc):((putA l a).map f).sum=(l.map f).sum + f a:=by
 unfold putA
 conv=>rhs; rw [<- List.take_append_drop (plc l a.1) l]
 simp only [List.map_append,List.map_cons,List.sum_append,List.sum_cons]
 omega
theorem zeros_all (n:Nat):(List.replicate n (0:Int)).all pos1=true:=by
 rw [List.all_eq_true]
 intro x hx
 rw [(List.mem_replicate.1 hx).2]
 decide
theorem posAt_zero (id bal:Int) (n k:Nat):posAt (id,bal,List.replicate n 0) k=0:=by
 unfold posAt
 simp only [List.getD_eq_getElem?_getD,List.getElem?_replicate]
 split <;> rfl
theorem accOf_put {l:List Acc} {a:Acc} (hn:hasA l a.1=false) (id:Int):accOf (putA l a) id=if id=a.1 then a else accOf l id:=by
 have hno:∀ x,x ∈ l->¬ x.1=a.1:=by
  intro x hx e
  have:hasA l a.1=true:=(has_iff _ _).2 ⟨x,hx,e⟩; rw [hn] at this; cases this
 unfold accOf putA
 rw [List.find?_append,List.find?_cons]
 by_cases e:id=a.1
 ·subst e
  rw [if_pos rfl]
  have:(l.take (plc l a.1)).find? (fun x=>decide (x.1=a.1))=none:=by
   rw [List.find?_eq_none]
   intro x hx
   simpa using hno x (List.mem_of_mem_take hx)
  rw [this]; simp
 ·rw [if_neg e,show decide (a.1=id)=false by simp; omega]
  conv=>rhs; rw [<- List.take_append_drop (plc l a.1) l]
  rw [List.find?_append]
/-- an account is there from now on. -/
theorem open_facts {s:Tn} (hs:Str s) (hS:Sums s) {id:Int} (hid:0<=id /\ id<=7):Str (openR s id) /\ Sums (openR s id) /\ plc s.accs id < (openR s id).accs.length /\ (accAt (openR s id) (plc s.accs id)).1=id /\ (openR s id).mkts=s.mkts /\ (∀ free,Led free s (openR s id)) /\ (∀ j,balOf (openR s id).accs j=balOf s.accs j):=by
 unfold openR
 split
 ·rename_i h
  obtain ⟨h1,h2⟩:=accAt_has hs.srt h
  exact ⟨hs,hS,h1,h2,rfl,fun _=>.refl _ _,fun _=>rfl⟩
 ·rename_i h
  have h:hasA s.accs id=false:=by simpa using h
  have hb:∀ j,balOf (putA s.accs (id,0,List.replicate s.mkts.length 0)) j=balOf s.accs j:=by
   intro j
   unfold balOf; rw [accOf_put h]
   by_cases e:j=id
   ·rw [if_pos e]
    have:accOf s.accs j=(j,0,[]):=by
     unfold accOf
     have:s.accs.find? (fun a=>decide (a.1=j))=none:=by
      rw [List.find?_eq_none]
      intro x hx
      have:hasA s.accs id=true->False:=by rw [h]; intro h; cases h
      simp only [decide_eq_true_eq]
      intro e2
      exact this ((has_iff _ _).2 ⟨x,hx,by rw [e2,e]⟩)
     rw [this]; rfl
    rw [this]
   ·rw [if_neg e]
  have hlen:=put_len s.accs (id,0,List.replicate s.mkts.length 0); have hpl:=plc_le s.accs id
  refine ⟨⟨hs.m1,hs.m2,put_srt hs.srt h,fun a ha=>?_,hs.mkt,fun m hm o ho=>?_,hs.nx,hs.ins,hs.res,hs.inn,hs.out⟩,⟨?_,fun k=>?_⟩,?_,?_,rfl,fun free=>⟨[],by simp,fun j=>?_,fun k j=>?_⟩,hb⟩
  ·rcases put_mem.1 ha with rfl | ha
   ·have:=hs.m1
    have:=hs.m2
    have hm:betw 1 (s.mkts.length:Int) 2=true:=betw_mk (by omega)
    exact accErr_mk (betw_mk hid) hm (by simp) (show money 0=true by decide) (zeros_all _)
   ·exact hs.acc a ha
  ·obtain ⟨h1,h2⟩:=hs.who m hm o ho
   refine ⟨?_,h2⟩
   rw [has_iff] at h1 ⊢; obtain ⟨a,ha,e⟩:=h1; exact ⟨a,put_mem.2 (.inr ha),e⟩
  ·have:=hS.bal
   unfold sumBal at this ⊢
   show s.ins + s.res + ((putA s.accs (id,0,List.replicate s.mkts.length 0)).map fun a=>a.2.1).sum=_
   rw [put_sum]; dsimp only
   omega
  ·have:=hS.pos k
   unfold sumPos at this ⊢
   show ((putA s.accs (id,0,List.replicate s.mkts.length 0)).map fun a=>posAt a k).sum=_
   rw [put_sum,this,posAt_zero]
   omega
  ·show plc s.accs id < (putA s.accs (id,0,List.replicate s.mkts.length 0)).length
   omega
  ·unfold accAt
   show ((putA s.accs (id,0,List.replicate s.mkts.length 0)).getD (plc s.accs id) noAcc).1=id
   unfold putA
   simp only [List.getD_eq_getElem?_getD]
   rw [List.getElem?_append_right (by simp; omega)]
   simp [hpl]
  ·show balOf (putA s.accs (id,0,List.replicate s.mkts.length 0)) j=_
   rw [hb]; simp [sumBalE]
  ·show posOf (putA s.accs (id,0,List.replicate s.mkts.length 0)) k j=_
   unfold posOf; rw [accOf_put h]
   by_cases e:j=id
   ·rw [if_pos e,posAt_zero]
    have:accOf s.accs j=(j,0,[]):=by
     unfold accOf
     have:s.accs.find? (fun a=>decide (a.1=j))=none:=by
      rw [List.find?_eq_none]
      intro x hx
      have:hasA s.accs id=true->False:=by rw [h]; intro h; cases h
      simp only [decide_eq_true_eq]
      intro e2
      exact this ((has_iff _ _).2 ⟨x,hx,by rw [e2,e]⟩)
     rw [this]; rfl
    rw [this]; simp [posAt,sumPosE]
   ·rw [if_neg e]; simp [sumPosE]
theorem deposit_facts {s t:Tn} {ac n:Int} (h:depositR s ac n=.ok t) (hs:Str s) (hS:Sums s):Keep s t /\ (∀ free,Led free s t):=by
 unfold depositR at h
 split at h
 ·rename_i hp
  obtain ⟨p1,p2⟩:=pay_ok hp
  split at h
  ·rename_i he
   obtain ⟨m1,m2,m3,e⟩:=add_ok he; have m3':=money_true m3; have hi:=hs.inn
   generalize hs1:({ s with inn:=addV s.inn n }:Tn)=s1 at h
   have hs2:Str s1:=by
    subst hs1
    exact ⟨hs.m1,hs.m2,hs.srt,hs.acc,hs.mkt,hs.who,hs.nx,hs.ins,hs.res,by show rng (addV s.inn n); rw [e]; unfold rng at *; omega,hs.out⟩
   have hacc:s1.accs=s.accs:=by subst hs1; rfl
   have O1:=open_facts (s:={ s1 with inn:=s.inn }) (id:=ac) ⟨hs2.m1,hs2.m2,hs2.srt,hs2.acc,hs2.mkt,hs2.who,hs2.nx,hs2.ins,hs2.res,hs.inn,hs2.out⟩ (by subst hs1; exact ⟨hS.bal,hS.pos⟩) p2
   obtain ⟨o1,o2,o3,o4,o5,o6,o7⟩:=O1
   have hop:openR s1 ac = { openR { s1 with inn:=s.inn } ac with inn:=s1.inn }:=by
    unfold openR
    split <;> rfl
   have hst:Str (openR s1 ac):=by
    rw [hop]; exact ⟨o1.m1,o1.m2,o1.srt,o1.acc,o1.mkt,o1.who,o1.nx,o1.ins,o1.res,hs2.inn,o1.out⟩
   have hpl:plc s.accs ac < (openR s1 ac).accs.length:=by rw [hop,<- hacc]; exact o3
   have A:=move_facts h hst hpl
   have hin:s1.inn=s.inn + n:=by subst hs1; exact e
   have hopi:(openR s1 ac).inn=s1.inn:=by rw [hop]
   have hres:(openR s1 ac).ins=s.ins /\ (openR s1 ac).res=s.res /\ (openR s1 ac).next=s.next /\ (openR s1 ac).out=s.out /\ (openR s1 ac).mkts=s.mkts:=by
    unfold openR; subst hs1
    split <;> exact ⟨rfl,rfl,rfl,rfl,rfl⟩
   refine ⟨⟨A.str,⟨?_,fun k=>?_⟩,?_,?_,?_,?_⟩,fun free=>?_⟩
   ·have:=o2.bal
    have e1:(openR s1 ac).accs=(openR { s1 with inn:=s.inn } ac).accs:=by rw [hop]
    have hb2:(openR { s1 with inn:=s.inn } ac).ins=s.ins /\ (openR { s1 with inn:=s.inn } ac).res=s.res /\ (openR { s1 with inn:=s.inn } ac).inn=s.inn /\ (openR { s1 with inn:=s.inn } ac).out=s.out:=by
     unfold openR; subst hs1
     split <;> exact ⟨rfl,rfl,rfl,rfl⟩
    rw [hb2.1,hb2.2.1,hb2.2.2.1,hb2.2.2.2] at this; rw [A.bal,A.ins,A.res,A.inn,A.out,hopi,hin,hres.1,hres.2.1,hres.2.2.2.1,e1]
    omega
   ·rw [A.pos]
    have e1:(openR s1 ac).accs=(openR { s1 with inn:=s.inn } ac).accs:=by rw [hop]
    rw [e1]; exact o2.pos k
   ·rw [A.next,hres.2.2.1]; omega
   ·rw [A.inn,hopi,hin]; omega
   ·rw [A.out,hres.2.2.2.1]; exact Int.le_refl _
   ·rw [A.mkts,hres.2.2.2.2]
   ·have L1:Led free s (openR s1 ac):=by
     refine Led.trans (Led.none (t:={ s1 with inn:=s.inn }) ?_ ?_) ((o6 free).then ?_ ?_)
     ·subst hs1; rfl
     ·subst hs1; rfl
     ·rw [hop]
     ·rw [hop]
    exact L1.trans (A.led free)
  ·cases h
 ·cases h
theorem withdraw_facts {s t:Tn} {ac n:Int} (h:withdrawR s ac n=.ok t) (hs:Str s) (hS:Sums s):Keep s t /\ (∀ free,Led free s t):=by
 unfold withdrawR at h
 split at h
 ·rename_i hp
  obtain ⟨p1,p2⟩:=pay_ok hp
  split at h
  ·rename_i hh
   obtain ⟨h1,h2⟩:=accAt_has hs.srt hh
   split at h
   ·rename_i he
    obtain ⟨m1,m2,m3,e⟩:=add_ok he; have m3':=money_true m3; have hi:=hs.out
    split at h
    ·rename_i u hu
     split at h
     ·cases h
      have hs2:Str { s with out:=addV s.out n }:=⟨hs.m1,hs.m2,hs.srt,hs.acc,hs.mkt,hs.who,hs.nx,hs.ins,hs.res,hs.inn,by show rng (addV s.out n); rw [e]; unfold rng at *; omega⟩
      have A:=move_facts hu hs2 h1
      have ho:({ s with out:=addV s.out n }:Tn).out=s.out + n:=e
      refine ⟨⟨A.str,⟨?_,fun k=>?_⟩,?_,?_,?_,?_⟩,fun free=>(Led.none (t:={ s with out:=addV s.out n }) rfl rfl).trans (A.led free)⟩
      ·have:=hS.bal
       rw [A.bal,A.ins,A.res,A.inn,A.out,ho]
       show s.ins + s.res + (sumBal s.accs + -n)=s.inn - (s.out + n)
       omega
      ·rw [A.pos]; exact hS.pos k
      ·rw [A.next]
       show s.next<=s.next /\ s.next<=s.next + 1
       omega
      ·rw [A.inn]; exact Int.le_refl _
      ·rw [A.out,ho]; omega
      ·rw [A.mkts]
     ·cases h
    ·cases h
   ·cases h
  ·cases h
 ·cases h
/-- the orders of a book to which one came. -/
theorem come_orders {b a:List Odr} {o:Odr} {how:Int} (h:comeE b a o how=0):∀ y,y ∈ comeB b a o how ++ comeA b a o how->(oid y=oid o /\ oac y=oac o) \/ ∃ x,x ∈ b ++ a /\ oid y=oid x /\ oac y=oac x:=by
 obtain ⟨hR,hok,-⟩:=come_facts h; have T:=(take_fills hR hok).2.2.2
 intro y hy
 unfold comeB comeA at hy; cases hs:stays how (takeT b a o).2.2.1
 ·rw [hs] at hy
  simp only [Bool.false_eq_true,if_false] at hy; unfold restB restA at hy
  split at hy
  ·rcases List.mem_append.1 hy with hy | hy
   ·rcases mem_laid.1 hy with rfl | hy
    ·exact .inl ⟨rfl,rfl⟩
    ·exact .inr (T y (List.mem_append.2 (.inl hy)))
   ·exact .inr (T y (List.mem_append.2 (.inr hy)))
  ·rcases List.mem_append.1 hy with hy | hy
   ·exact .inr (T y (List.mem_append.2 (.inl hy)))
   ·rcases mem_laid.1 hy with rfl | hy
    ·exact .inl ⟨rfl,rfl⟩
    ·exact .inr (T y (List.mem_append.2 (.inr hy)))
 ·rw [hs] at hy
  simp only [if_true] at hy; exact .inr (T y hy)
theorem order_ok {s:Tn} {c:Cm} (h:orderE s c=0):okOrder (s.next,c.ac,c.o.2.2)=0 /\ (c.red=true->c.how=2) /\ hasA s.accs c.ac=true /\ hasM s c.mkt=true /\ ¬ s.next=100000 /\ (c.red=true->0 < -(osd c.o) * posAt (accAt s (plc s.accs c.ac)) c.mkt.toNat):=by
 unfold orderE at h
 split at h
 ·rename_i g; exact absurd h g
 rename_i g1
 split at h
 ·cases h
 rename_i g2
 split at h
 ·cases h
 rename_i g3
 split at h
 ·cases h
 rename_i g4
 split at h
 ·cases h
 rename_i g5
 refine ⟨Decidable.not_not.1 g1,fun hr=>?_,?_,?_,g4,fun hr=>?_⟩
 ·exact Decidable.not_not.1 fun e=>g2 ⟨hr,e⟩
 ·cases hh:hasA s.accs c.ac
  ·exact absurd (.inl hh) g3
  ·rfl
 ·cases hh:hasM s c.mkt
  ·exact absurd (.inr hh) g3
  ·rfl
 ·exact Int.not_le.1 fun e=>g5 ⟨hr,e⟩
theorem hasM_iff {s:Tn} {mk:Int}:hasM s mk=true ↔ 0<=mk /\ mk < s.mkts.length:=by simp [hasM]
/-- the state when the order has come. -/
theorem came_facts {s:Tn} {mk:Nat} {o:Odr} {how:Int} (hs:Str s) (hS:Sums s) (hk:mk < s.mkts.length) (he:comeE (mktAt s mk).1 (mktAt s mk).2.1 o how=0) (ho:oid o=s.next) (hn:¬ s.next=100000) (hac:hasA s.accs (oac o)=true) :
  Str (cameR s mk o how) /\ Sums (cameR s mk o how) /\ (cameR s mk o how).mkts.length=s.mkts.length:=by
 obtain ⟨h1,h2,h3,h4⟩:=hs.at hk; have hnx:=hs.nx
 have hs1:Str (Tn.tell { s with next:=s.next + 1 } (evAccepted mk (oid o) (oac o))):=by
  refine Str.tell (s:={ s with next:=s.next + 1 }) ⟨hs.m1,hs.m2,hs.srt,hs.acc,hs.mkt,fun m hm x hx=>?_,?_,hs.ins,hs.res,hs.inn,hs.out⟩ _
  ·obtain ⟨w1,w2⟩:=hs.who m hm x hx
   exact ⟨w1,by show oid x < s.next + 1; omega⟩
  ·show 1<=s.next + 1 /\ s.next + 1<=100000
   omega
 unfold cameR; rw [Int.toNat_natCast]
 refine ⟨hs1.setB hk (come_right he) (fun y hy=>?_),⟨hS.bal,hS.pos⟩,by simp [Tn.setB,Tn.setM,Tn.tell]⟩
 show hasA s.accs (oac y)=true /\ oid y < s.next + 1
 rcases come_orders he y hy with ⟨e1,e2⟩ | ⟨x,hx,e1,e2⟩
 ·rw [e1,e2,ho]
  exact ⟨hac,by omega⟩
 ·obtain ⟨w1,w2⟩:=h4 x hx
  rw [e1,e2]
  exact ⟨w1,by omega⟩
theorem orderO_is (s:Tn) (c:Cm):oid (orderO s c)=s.next /\ oac (orderO s c)=c.ac /\ osd (orderO s c)=osd c.o /\ opr (orderO s c)=opr c.o:=⟨rfl,rfl,rfl,rfl⟩
/-- the fills of an order that came. -/
theorem place_fills {s:Tn} {mk:Nat} {o:Odr} {how:Int} (hs:Str s) (hk:mk < s.mkts.length) (he:comeE (mktAt s mk).1 (mktAt s mk).2.1 o how=0) (hac:hasA s.accs (oac o)=true) :
  ∀ f,f ∈ (takeT (mktAt s mk).1 (mktAt s mk).2.1 o).2.1->hasA (cameR s mk o how).accs f.2.2.1=true /\ hasA (cameR s mk o how).accs f.2.2.2.1=true /\ 0<=f.2.2.2.2.2.1 /\ f.2.2.2.2.2.1<=10000:=by
 obtain ⟨hR,hok,-⟩:=come_facts he
 intro f hf
 obtain ⟨x,hx,e1,e2,e3,e4,e5,e6⟩:=(take_fills hR hok).1 f hf
 refine ⟨?_,?_,by omega,by omega⟩
 ·rw [e1]; exact ((hs.at hk).2.2.2 x hx).1
 ·rw [e2]; exact hac
theorem gone_is (s:Tn) (mk:Int) (o:Odr) (n:Int):(goneIf s mk o n).accs=s.accs /\ (goneIf s mk o n).mkts=s.mkts /\ (goneIf s mk o n).ins=s.ins /\ (goneIf s mk o n).res=s.res /\ (goneIf s mk o n).next=s.next /\ (goneIf s mk o n).inn=s.inn /\ (goneIf s mk o n).out=s.out:=by
 unfold goneIf
 split <;> exact ⟨rfl,rfl,rfl,rfl,rfl,rfl,rfl⟩
theorem gone_facts {s:Tn} (hs:Str s) (mk:Int) (o:Odr) (n:Int):Str (goneIf s mk o n) /\ (Sums s->Sums (goneIf s mk o n)) /\ ∀ free,Led free s (goneIf s mk o n):=by
 unfold goneIf
 split
 ·exact ⟨hs.tell _,fun S=>S.tell _,fun free=>.quiet (evGone mk (oid o) (oac o) n) rfl rfl (.inr (.inr rfl))⟩
 ·exact ⟨hs,id,fun free=>.refl _ _⟩
/-- what a Place is, when it is done. -/
structure PFact (s t u:Tn) (mk:Nat) (o:Odr) (how:Int):Prop where
 hk:mk < s.mkts.length
 he:comeE (mktAt s mk).1 (mktAt s mk).2.1 o how=0
 fills:fillsR mk false (takeT (mktAt s mk).1 (mktAt s mk).2.1 o).2.1 (cameR s mk o how)=.ok u
 ff:FFact (cameR s mk o how) u mk false (takeT (mktAt s mk).1 (mktAt s mk).2.1 o).2.1
 is:t=goneIf u mk o (comeL how (takeT (mktAt s mk).1 (mktAt s mk).2.1 o).2.2.1)
theorem place_is {s t:Tn} {mk:Nat} {o:Odr} {how:Int} {red:Bool} (h:placeO s mk o how red=.ok t) (hs:Str s) (hS:Sums s) (hk:mk < s.mkts.length) (ho:oid o=s.next) (hn:¬ s.next=100000) (hac:hasA s.accs (oac o)=true) :
  ∃ u,PFact s t u mk o how /\ (red=false->readyWithE t mk o=0):=by
 unfold placeO at h; rw [Int.toNat_natCast] at h
 split at h
 ·rename_i he
  obtain ⟨c1,c2,c3⟩:=came_facts hs hS hk he ho hn hac
  split at h
  ·rename_i u hu
   have F:=fills_facts mk false _ _ u hu c1 (by rw [c3]; exact hk) (place_fills hs hk he hac)
   split at h
   ·rename_i hr
    cases h
    exact ⟨u,⟨hk,he,hu,F,rfl⟩,fun e=>by rw [hr] at e; cases e⟩
   ·split at h
    ·rename_i hz
     cases h
     exact ⟨u,⟨hk,he,hu,F,rfl⟩,fun _=>hz⟩
    ·cases h
  ·cases h
 ·cases h
theorem PFact.facts {s t u:Tn} {mk:Nat} {o:Odr} {how:Int} (P:PFact s t u mk o how) (hs:Str s) (hS:Sums s) (ho:oid o=s.next) (hn:¬ s.next=100000) (hac:hasA s.accs (oac o)=true):Keep s t /\ Led false s t /\ t.next=s.next + 1 /\ t.res=s.res /\ t.inn=s.inn /\ t.out=s.out /\ t.accs.map (·.1)=s.accs.map (·.1):=by
 obtain ⟨c1,c2,c3⟩:=came_facts hs hS P.hk P.he ho hn hac; obtain ⟨g1,g2,g3,g4,g5,g6,g7⟩:=gone_is u mk o (comeL how (takeT (mktAt s mk).1 (mktAt s mk).2.1 o).2.2.1); obtain ⟨f1,f2,f3⟩:=gone_facts P.ff.str mk o (comeL how (takeT (mktAt s mk).1 (mktAt s mk).2.1 o).2.2.1); have e:=P.is; rw [<- e] at g1 g2 g3 g4 g5 g6 g7 f1 f2 f3
 have hn1:t.next=s.next + 1:=by rw [g5,P.ff.kin.next]; rfl
 have hi:t.inn=s.inn:=by rw [g6,P.ff.kin.inn]; rfl
 have hu:t.out=s.out:=by rw [g7,P.ff.kin.out]; rfl
 refine ⟨⟨f1,f2 (P.ff.sums c2),by omega,by omega,by omega,by rw [g2,P.ff.kin.len,c3]⟩,?_,hn1,by rw [g4,P.ff.kin.res]; rfl,hi,hu,by rw [g1,P.ff.kin.ids]; rfl⟩
 exact (Led.quiet (t:=cameR s mk o how) (evAccepted mk (oid o) (oac o)) rfl rfl (.inr (.inl rfl))).trans (P.ff.led.trans (f3 false))
theorem place_facts {s t:Tn} {c:Cm} (h:placeR s c=.ok t) (hs:Str s) (hS:Sums s):Keep s t /\ Led false s t:=by
 unfold placeR at h
 split at h
 ·rename_i he
  obtain ⟨o1,o2,o3,o4,o5,o6⟩:=order_ok he; obtain ⟨m1,m2⟩:=hasM_iff.1 o4
  obtain ⟨k,hk⟩:∃ k:Nat,c.mkt=k:=⟨c.mkt.toNat,by omega⟩
  rw [hk] at h m2
  obtain ⟨u,P,-⟩:=place_is h hs hS (by omega) rfl o5 o3
  obtain ⟨K,L,-⟩:=P.facts hs hS rfl o5 o3; exact ⟨K,L⟩
 ·cases h
theorem cancelL_facts {s t:Tn} {ac n:Int} (hs:Str s) (hS:Sums s):∀ (l:List Mp) (k:Nat),l=s.mkts.drop k->cancelL s ac n k l=.ok t->SFact s t /\ t.accs=s.accs /\ t.ins=s.ins /\ (∀ free,Led free s t)
 |[],k,_,h=>by cases h
 |m :: l,k,hl,h=>by
  have hk:k < s.mkts.length:=by
   have:=congrArg List.length hl; simp at this
   omega
  rw [List.drop_eq_getElem_cons hk] at hl; simp only [List.cons.injEq] at hl; unfold cancelL at h
  split at h
  ·cases h
   exact ⟨rem_facts hs hS hk n _,rfl,rfl,fun free=>.quiet (evGone k (oid (findO m.1 m.2.1 n)) (oac (findO m.1 m.2.1 n)) (oqt (findO m.1 m.2.1 n))) rfl rfl (.inr (.inr rfl))⟩
  ·exact cancelL_facts hs hS l (k + 1) hl.2 h
theorem index_facts {s t:Tn} {mk n:Int} (h:indexR s mk n=.ok t) (hs:Str s) (hS:Sums s):Keep s t /\ (∀ free,Led free s t) /\ t.accs=s.accs /\ t.ins=s.ins /\ t.res=s.res:=by
 unfold indexR at h
 split at h
 ·rename_i hm
  have hm:=hasM_iff.1 hm
  split at h
  ·cases h
  ·cases h
   rename_i hn
   exact ⟨⟨hs.setI (by omega) (by omega),⟨hS.bal,hS.pos⟩,by show s.next<=s.next /\ s.next<=s.next + 1; omega,Int.le_refl _,Int.le_refl _,by simp [Tn.setI,Tn.setM]⟩,fun free=>.none rfl rfl,rfl,rfl,rfl⟩
 ·cases h
theorem posS_is (k:Nat):∀ (l:List Acc),posS k l=sumPos k l
 |[]=>rfl
 |a :: l=>by unfold posS; rw [posS_is k l]; rfl
theorem balS_is:∀ (l:List Acc),balS l=sumBal l
 |[]=>rfl
 |a :: l=>by unfold balS; rw [balS_is l]; rfl
theorem paid_led (mk mark rate:Int) (free:Bool):∀ (l:List Acc),Srt l->(∀ id,balOf (l.map (FuP.setA mk mark rate)) id=balOf l id + sumBalE free id (paidEv l (l.map (FuP.setA mk mark rate)))) /\ (∀ k id,posOf (l.map (FuP.setA mk mark rate)) k id=posOf l k id + sumPosE k id (paidEv l (l.map (FuP.setA mk mark rate)))) /\ ∀ id,(∀ a,a ∈ l->¬ a.1=id)->sumBalE free id (paidEv l (l.map (FuP.setA mk mark rate)))=0
 |[],_=>⟨fun _=>by simp [paidEv,sumBalE],fun _ _=>by simp [paidEv,sumPosE],fun _ _=>rfl⟩
 |a :: l,hs=>by
  have hs':=List.pairwise_cons.1 hs; obtain ⟨i1,i2,i3⟩:=paid_led mk mark rate free l hs'.2
  have hev:∀ id,sumBalE free id (paidEv (a :: l) ((a :: l).map (FuP.setA mk mark rate)))=(if a.1=id then (FuP.setA mk mark rate a).2.1 - a.2.1 else 0) + sumBalE free id (paidEv l (l.map (FuP.setA mk mark rate))):=by
   intro id
   rw [List.map_cons,paidEv]
   by_cases hz:(FuP.setA mk mark rate a).2.1 - a.2.1=0
   ·rw [if_pos hz,hz]
    split <;> omega
   ·rw [if_neg hz]
    unfold sumBalE; rw [List.map_cons,List.sum_cons]
    congr 1
  have hep:∀ k id,sumPosE k id (paidEv (a :: l) ((a :: l).map (FuP.setA mk mark rate)))=sumPosE k id (paidEv l (l.map (FuP.setA mk mark rate))):=by
   intro k id
   rw [List.map_cons,paidEv]
   by_cases hz:(FuP.setA mk mark rate a).2.1 - a.2.1=0
   ·rw [if_pos hz]
   ·rw [if_neg hz]
    unfold sumPosE; rw [List.map_cons,List.sum_cons]
    have h5:evPos k id (evMoved (FuP.setA mk mark rate a).1 ((FuP.setA mk mark rate a).2.1 - a.2.1))=0:=by
     unfold evPos; rw [if_neg]
     intro x
     rcases x.1 with y | y <;> exact absurd y (by show ¬ (5:Int)=_; decide)
    rw [h5]
    omega
  have hoff:∀ id,a.1=id->∀ b,b ∈ l->¬ b.1=id:=fun id e b hb e2=>by have:=hs'.1 b hb; omega
  have hfa:∀ (f:Acc->Acc) (id:Int),(∀ b,(f b).1=b.1)->accOf ((a :: l).map f) id=if a.1=id then f a else accOf (l.map f) id:=by
   intro f id hf
   unfold accOf
   rw [List.map_cons,List.find?_cons,hf]
   by_cases e:a.1=id
   ·rw [show decide (a.1=id)=true by simpa using e,if_pos e]; rfl
   ·rw [show decide (a.1=id)=false by simpa using e,if_neg e]
  have hf1:∀ b,(FuP.setA mk mark rate b).1=b.1:=fun b=>rfl
  have hid:∀ id,accOf (a :: l) id=if a.1=id then a else accOf l id:=by
   intro id
   have:=hfa (fun b=>b) id (fun _=>rfl)
   simpa using this
  refine ⟨fun id=>?_,fun k id=>?_,fun id hn=>?_⟩
  ·rw [hev]
   unfold balOf; rw [hfa _ id hf1,hid]
   by_cases e:a.1=id
   ·rw [if_pos e,if_pos e,if_pos e,i3 id (hoff id e)]
    omega
   ·rw [if_neg e,if_neg e,if_neg e]
    have:=i1 id; unfold balOf at this
    omega
  ·rw [hep]
   unfold posOf; rw [hfa _ id hf1,hid]
   by_cases e:a.1=id
   ·rw [if_pos e,if_pos e]
    have h0:=i2 k id
    have hnone:∀ f:Acc->Acc,(∀ b,(f b).1=b.1)->accOf (l.map f) id=(id,0,[]):=by
     intro f hf
     unfold accOf
     have:(l.map f).find? (fun x=>decide (x.1=id))=none:=by
      rw [List.find?_eq_none]
      intro x hx
      obtain ⟨b,hb,rfl⟩:=List.mem_map.1 hx; rw [hf]
      simpa using hoff id e b hb
     rw [this]; rfl
    unfold posOf at h0; rw [hnone _ hf1] at h0
    have h1:=hnone (fun b=>b) (fun _=>rfl)
    rw [List.map_id'] at h1; rw [h1] at h0; have:posAt (FuP.setA mk mark rate a) k=posAt a k:=rfl
    omega
   ·rw [if_neg e,if_neg e]
    exact i2 k id
  ·rw [hev,if_neg (hn a (by simp)),i3 id (fun b hb=>hn b (by simp [hb]))]
   omega
theorem fund_facts {s t:Tn} {mk n:Int} (h:fundR s mk n=.ok t) (hs:Str s) (hS:Sums s):Keep s t /\ (∀ free,Led free s t):=by
 unfold fundR at h
 split at h
 ·split at h
  ·split at h
   ·rename_i he
    split at h
    ·rename_i ha
     generalize (fundMark s mk).1=mark at h he ha
     have hz:settleP s.accs mk mark n=(s.accs.map (FuP.setA mk mark n),FuP.setL mk mark n s.accs,0) /\ setE mk mark n s.accs=0:=by
      unfold settleP at he ⊢
      by_cases h8:8 < s.accs.length
      ·rw [if_pos h8] at he; cases he
      ·rw [if_neg h8] at he ⊢
       by_cases h0:setE mk mark n s.accs=0
       ·rw [if_pos h0]; exact ⟨rfl,h0⟩
       ·rw [if_neg h0] at he; exact absurd he h0
     obtain ⟨hz,h0⟩:=hz; rw [hz] at h ha; dsimp only at h ha; obtain ⟨m1,m2,m3,e⟩:=add_ok ha; rw [e] at h; cases h
     have hleft:=left_even h0 (by rw [posS_is]; exact hS.pos _)
     have m3':=money_true m3; have hr:=hs.res; have hall:=setE_zero h0
     have hids:(s.accs.map (FuP.setA mk mark n)).map (·.1)=s.accs.map (·.1):=by rw [List.map_map]; rfl
     have hpos:∀ k,sumPos k (s.accs.map (FuP.setA mk mark n))=sumPos k s.accs:=by
      intro k
      unfold sumPos; rw [List.map_map]
      rfl
     refine ⟨⟨⟨hs.m1,hs.m2,srt_ids hids hs.srt,fun a ha=>?_,hs.mkt,fun m hm o ho=>?_,hs.nx,hs.ins,?_,hs.inn,hs.out⟩,⟨?_,fun k=>?_⟩,?_,Int.le_refl _,Int.le_refl _,rfl⟩,fun free=>?_⟩
     ·obtain ⟨b,hb,rfl⟩:=List.mem_map.1 ha
      obtain ⟨a1,a2,a3,a4,a5⟩:=accErr_ok (hs.acc b hb); exact accErr_mk a1 a2 a3 (hall b hb).2 a5
     ·show hasA (s.accs.map (FuP.setA mk mark n)) (oac o)=true /\ oid o < s.next
      rw [has_ids hids]; exact hs.who m hm o ho
     ·show rng (s.res + FuP.setL mk mark n s.accs)
      unfold rng at *
      omega
     ·have:=hS.bal
      have hb:=no_money (mk:=mk) (mark:=mark) (rate:=n) s.accs; rw [balS_is,balS_is] at hb
      show s.ins + (s.res + FuP.setL mk mark n s.accs) + sumBal (s.accs.map (FuP.setA mk mark n))=s.inn - s.out
      omega
     ·show sumPos k (s.accs.map (FuP.setA mk mark n))=0
      rw [hpos]; exact hS.pos k
     ·show s.next<=s.next /\ s.next<=s.next + 1
      omega
     ·obtain ⟨p1,p2,-⟩:=paid_led mk mark n free s.accs hs.srt
      exact ⟨_,rfl,p1,p2⟩
    ·cases h
   ·cases h
  ·cases h
 ·cases h
/-- whatever is asked, a venue stays one. -/
theorem turn_keeps {s t:Tn} {c:Cm} (h:turnR s c=.ok t) (hs:Str s) (hS:Sums s):Keep s t /\ (∀ free,(c.kind=3->free=false)->(c.kind=7->free=true)->Led free s t):=by
 unfold turnR at h
 split at h
 ·obtain ⟨K,L⟩:=deposit_facts h hs hS
  exact ⟨K,fun free _ _=>L free⟩
 ·split at h
  ·obtain ⟨K,L⟩:=withdraw_facts h hs hS
   exact ⟨K,fun free _ _=>L free⟩
  ·split at h
   ·rename_i h3
    obtain ⟨K,L⟩:=place_facts h hs hS
    exact ⟨K,fun free hf _=>by rw [hf h3]; exact L⟩
   ·split at h
    ·obtain ⟨K,-,-,L⟩:=cancelL_facts hs hS s.mkts 0 (by simp) h
     exact ⟨K.keep,fun free _ _=>L free⟩
    ·split at h
     ·obtain ⟨K,L,-⟩:=index_facts h hs hS
      exact ⟨K,fun free _ _=>L free⟩
     ·split at h
      ·obtain ⟨K,L⟩:=fund_facts h hs hS
       exact ⟨K,fun free _ _=>L free⟩
      ·split at h
       ·rename_i h7
        have K:=sweep_facts h hs hS
        exact ⟨K.keep,fun free _ hf=>by rw [hf h7]; exact K.led⟩
       ·cases h
/-- an event that a step tells: no rejection; a fill is of a market that is there, and its fee can be reckoned. -/
def EvOk (free:Bool) (m:Nat) (e:Ev):Prop :=
 2<=e.1 /\ (e.1=3 \/ e.1=6->0<=e.2.2.1 /\ e.2.2.1 < m /\ (free=false->(feeR e.2.2.2.2.2.2.2.2.2.2.2.2 e.2.2.2.2.2.2.2.2.2.2.2.1).2=0))
def Tld (free:Bool) (m:Nat) (s t:Tn):Prop:=∃ L,t.evs=s.evs ++ L /\ ∀ e,e ∈ L->EvOk free m e
theorem Tld.none {free:Bool} {m:Nat} {s t:Tn} (h:t.evs=s.evs):Tld free m s t:=⟨[],by rw [h]; simp,fun _ h=>by cases h⟩
theorem Tld.refl (free:Bool) (m:Nat) (s:Tn):Tld free m s s:=.none rfl
theorem Tld.trans {free:Bool} {m:Nat} {s t u:Tn} (h:Tld free m s t) (k:Tld free m t u):Tld free m s u:=by
 obtain ⟨L,h1,h2⟩:=h; obtain ⟨K,k1,k2⟩:=k
 refine ⟨L ++ K,by rw [k1,h1,List.append_assoc],fun e he=>?_⟩
 rcases List.mem_append.1 he with he | he
 ·exact h2 e he
 ·exact k2 e he
theorem Tld.one {free:Bool} {m:Nat} {s t:Tn} (e:Ev) (h:t.evs=s.evs ++ [e]) (he:EvOk free m e):Tld free m s t:=⟨[e],h,fun x hx=>by simp at hx; subst hx; exact he⟩
theorem evok_plain {free:Bool} {m:Nat} {e:Ev} (h:e.1=2 \/ e.1=4 \/ e.1=5):EvOk free m e:=by
 refine ⟨by omega,fun h'=>by omega⟩
theorem told_move {free:Bool} {m:Nat} {s t:Tn} {k:Nat} {n:Int} (h:moveR s k n=.ok t):Tld free m s t:=by
 unfold moveR at h
 split at h
 ·cases h
  exact .one (evMoved (accAt s k).1 n) rfl (evok_plain (.inr (.inr rfl)))
 ·cases h
theorem tradeOf_same {s t:Tn} {id mk q p fee:Int} (h:tradeOfR s id mk q p fee=.ok t):t.evs=s.evs:=by
 unfold tradeOfR at h
 split at h
 ·cases h; rfl
 ·cases h
theorem trade_same {s t:Tn} {mk:Int} {f:Fil} {fee:Int} (h:tradeR s mk f fee=.ok t):t.evs=s.evs:=by
 unfold tradeR at h
 split at h
 ·rename_i u hu
  split at h
  ·rename_i v hv
   unfold insR at h
   split at h
   ·cases h
    exact (tradeOf_same hv).trans (tradeOf_same hu)
   ·cases h
  ·cases h
 ·cases h
/-- fills are told one by one. -/
theorem fills_evs (mk:Int) (free:Bool):∀ (l:List Fil) (s t:Tn),fillsR mk free l s=.ok t->t.evs=s.evs ++ l.map (evFilled mk) /\ ∀ f,f ∈ l->(feeOf free f).2=0
 |[],s,t,h=>by cases h; exact ⟨by simp,fun _ h=>by cases h⟩
 |f :: l,s,t,h=>by
  unfold fillsR at h
  split at h
  ·rename_i hf
   split at h
   ·rename_i u hu
    obtain ⟨h1,h2⟩:=fills_evs mk free l _ t h
    refine ⟨?_,fun g hg=>?_⟩
    ·rw [h1,List.map_cons]
     have:((u.setL mk.toNat f.2.2.2.2.2.1).tell (evFilled mk f)).evs=s.evs ++ [evFilled mk f]:=by rw [<- trade_same hu]; rfl
     rw [this,List.append_assoc]
     rfl
    ·rcases List.mem_cons.1 hg with rfl | hg
     ·exact hf
     ·exact h2 g hg
   ·cases h
  ·cases h
theorem told_fills {mk:Int} {free:Bool} {m:Nat} {l:List Fil} {s t:Tn} (h:fillsR mk free l s=.ok t) (h0:0<=mk) (h1:mk < m):Tld free m s t:=by
 obtain ⟨h2,h3⟩:=fills_evs mk free l s t h
 refine ⟨_,h2,fun e he=>?_⟩
 obtain ⟨f,hf,rfl⟩:=List.mem_map.1 he
 refine ⟨(by show (2:Int)<=3; decide),fun _=>⟨h0,h1,fun hfree=>?_⟩⟩
 have:=h3 f hf; unfold feeOf at this; rw [hfree] at this; exact this
theorem told_others (k:Nat) (id sd pr:Int) (m:Nat) (hk:k < m):∀ (n:Nat) (q:Int) (s t:Tn),othersR k id sd pr n q s=.ok t->Tld true m s t
 |0,q,s,t,h=>by cases h; exact .refl _ _ _
 |n + 1,q,s,t,h=>by
  unfold othersR at h
  split at h
  ·split at h
   ·rename_i u hu
    refine Tld.trans (t:=u) (.none (trade_same hu)) (Tld.trans (.one _ rfl ?_) (told_others k id sd pr m hk n _ _ t h))
    exact ⟨(by show (2:Int)<=6; decide),fun _=>⟨by simp,by simpa using hk,fun hf=>by cases hf⟩⟩
   ·cases h
  ·cases h; exact .refl _ _ _
theorem told_drop (free:Bool) (m:Nat) (id:Int) (k:Nat):∀ (l:List Odr) (s t:Tn),dropL id k l s=.ok t->Tld free m s t
 |[],s,t,h=>by cases h; exact .refl _ _ _
 |o :: l,s,t,h=>by
  unfold dropL at h
  split at h
  ·split at h
   ·exact (Tld.one _ rfl (evok_plain (.inr (.inl rfl)))).trans (told_drop free m id k l _ t h)
   ·cases h
  ·exact told_drop free m id k l s t h
theorem told_dropM (free:Bool) (m:Nat) (id:Int):∀ (n k:Nat) (s t:Tn),dropM id n k s=.ok t->Tld free m s t
 |0,k,s,t,h=>by cases h; exact .refl _ _ _
 |n + 1,k,s,t,h=>by
  unfold dropM at h
  split at h
  ·rename_i u hu
   exact (told_drop free m id k _ s u hu).trans (told_dropM free m id n (k + 1) u t h)
  ·cases h
theorem told_closeIn {m:Nat} {s t:Tn} {i k:Nat} {marks:List Int} (h:closeInR s i k marks=.ok t) (hk:k < m):Tld true m s t:=by
 unfold closeInR at h
 split at h
 ·generalize closeO (accAt s i) k (bankR (accAt s i).1 (accAt s i).2.1 (accAt s i).2.2 marks k).1=o at h
  unfold closeInO at h
  split at h
  ·split at h
   ·rename_i u hu
    exact (Tld.trans (.none rfl) (told_fills hu (by simp) (by simpa using hk))).trans (told_others k _ _ _ m hk _ _ _ _ h)
   ·cases h
  ·cases h
 ·cases h
theorem told_closeM (m i:Nat) (marks:List Int):∀ (n k:Nat) (s t:Tn),closeM i marks n k s=.ok t->k + n<=m->Tld true m s t
 |0,k,s,t,h,_=>by cases h; exact .refl _ _ _
 |n + 1,k,s,t,h,hm=>by
  unfold closeM at h
  split at h
  ·exact told_closeM m i marks n (k + 1) s t h (by omega)
  ·split at h
   ·rename_i u hu
    exact (told_closeIn hu (by omega)).trans (told_closeM m i marks n (k + 1) u t h (by omega))
   ·cases h
theorem told_cover {free:Bool} {m:Nat} {s t:Tn} {i:Nat} (h:coverR s i=.ok t):Tld free m s t:=by
 unfold coverR at h
 split at h
 ·cases h; exact .refl _ _ _
 ·exact Tld.trans (t:={ s with ins:=s.ins - min (-(accAt s i).2.1) s.ins }) (.none rfl) (told_move h)
theorem told_closeAll {m:Nat} {s t:Tn} {i:Nat} {marks:List Int} (h:closeAllR s i marks=.ok t) (hs:Str s) (hS:Sums s) (hm:s.mkts.length=m):Tld true m s t:=by
 unfold closeAllR at h
 split at h
 ·rename_i u hu
  split at h
  ·rename_i v hv
   have hl:=(dropM_facts _ _ _ _ _ hu hs hS (by simp)).1.len
   exact (told_dropM _ m _ _ _ _ _ hu).trans ((told_closeM m i marks _ _ _ _ hv (by omega)).trans (told_cover h))
  ·cases h
 ·cases h
theorem told_sweepL (m:Nat) (marks:List Int):∀ (n i:Nat) (s t:Tn),sweepL marks n i s=.ok t->Str s->Sums s->i + n=s.accs.length->s.mkts.length=m->Tld true m s t
 |0,i,s,t,h,_,_,_,_=>by cases h; exact .refl _ _ _
 |n + 1,i,s,t,h,hs,hS,hi,hm=>by
  unfold sweepL at h
  split at h
  ·split at h
   ·exact told_sweepL m marks n (i + 1) s t h hs hS (by omega) hm
   ·split at h
    ·rename_i u hu
     have hf:=(closeAll_facts hu hs hS (by omega)).1
     exact (told_closeAll hu hs hS hm).trans (told_sweepL m marks n (i + 1) u t h hf.str hf.sums (by rw [hf.lenA]; omega) (by rw [hf.len]; exact hm))
    ·cases h
  ·cases h
theorem told_paid (free:Bool) (m:Nat):∀ (a b:List Acc) (e:Ev),e ∈ paidEv a b->EvOk free m e
 |[],_,e,h=>by unfold paidEv at h; cases h
 |_ :: _,[],e,h=>by unfold paidEv at h; cases h
 |a :: l,b :: k,e,h=>by
  unfold paidEv at h
  split at h
  ·exact told_paid free m l k e h
  ·rcases List.mem_cons.1 h with rfl | h
   ·exact evok_plain (.inr (.inr rfl))
   ·exact told_paid free m l k e h
theorem told_gone {free:Bool} {m:Nat} (s:Tn) (mk:Int) (o:Odr) (n:Int):Tld free m s (goneIf s mk o n):=by
 unfold goneIf
 split
 ·exact .one _ rfl (evok_plain (.inr (.inl rfl)))
 ·exact .refl _ _ _
theorem told_place {m:Nat} {s t:Tn} {mk:Int} {o:Odr} {how:Int} {red:Bool} (h:placeO s mk o how red=.ok t) (h0:0<=mk) (h1:mk < m):Tld false m s t:=by
 unfold placeO at h
 split at h
 ·split at h
  ·rename_i u hu
   have h2:Tld false m s u:=(Tld.one (t:=cameR s mk o how) (evAccepted mk (oid o) (oac o)) rfl (evok_plain (.inl rfl))).trans (told_fills hu h0 h1)
   split at h
   ·cases h; exact h2.trans (told_gone _ _ _ _)
   ·split at h
    ·cases h; exact h2.trans (told_gone _ _ _ _)
    ·cases h
  ·cases h
 ·cases h
theorem told_cancel (free:Bool) (m:Nat) (s:Tn) (ac n:Int):∀ (l:List Mp) (k:Nat) (t:Tn),cancelL s ac n k l=.ok t->Tld free m s t
 |[],k,t,h=>by cases h
 |x :: l,k,t,h=>by
  unfold cancelL at h
  split at h
  ·cases h; exact .one _ rfl (evok_plain (.inr (.inl rfl)))
  ·exact told_cancel free m s ac n l (k + 1) t h
theorem turn_told {s t:Tn} {c:Cm} (h:turnR s c=.ok t) (hs:Str s) (hS:Sums s) (free:Bool) (h3:c.kind=3->free=false) (h7:c.kind=7->free=true):Tld free s.mkts.length s t:=by
 unfold turnR at h
 split at h
 ·unfold depositR at h
  split at h
  ·split at h
   ·refine Tld.trans (t:=openR { s with inn:=addV s.inn c.n } c.ac) (.none ?_) (told_move h)
    unfold openR
    split <;> rfl
   ·cases h
  ·cases h
 ·split at h
  ·unfold withdrawR at h
   split at h
   ·split at h
    ·split at h
     ·split at h
      ·rename_i u hu
       split at h
       ·cases h
        exact Tld.trans (t:={ s with out:=addV s.out c.n }) (.none rfl) (told_move hu)
       ·cases h
      ·cases h
     ·cases h
    ·cases h
   ·cases h
  ·split at h
   ·rename_i h3'
    rw [h3 h3']; unfold placeR at h
    split at h
    ·rename_i ho
     have:=hasM_iff.1 (order_ok ho).2.2.2.1; exact told_place h this.1 this.2
    ·cases h
   ·split at h
    ·exact told_cancel _ _ _ _ _ _ _ _ h
    ·split at h
     ·unfold indexR at h
      split at h
      ·split at h
       ·cases h
       ·cases h; exact .none rfl
      ·cases h
     ·split at h
      ·unfold fundR at h
       split at h
       ·split at h
        ·split at h
         ·split at h
          ·cases h
           exact ⟨_,rfl,told_paid _ _ _ _⟩
          ·cases h
         ·cases h
        ·cases h
       ·cases h
      ·split at h
       ·rename_i h7'
        rw [h7 h7']; unfold sweepR at h
        split at h
        ·exact told_sweepL _ _ _ _ _ _ h hs hS (by simp) rfl
        ·cases h
       ·cases h
/-- what is told is no rejection. -/
theorem turn_not_rejected {s t:Tn} {c:Cm} (h:turnR s c=.ok t) (hs:Str s) (hS:Sums s) (he:s.evs=[]):∀ e,e ∈ t.evs->¬ e.1=1:=by
 obtain ⟨L,h1,h2⟩:=turn_told h hs hS (decide (¬ c.kind=3)) (fun h=>by simp [h]) (fun h=>by simp [h])
 rw [he,List.nil_append] at h1
 intro e hm
 rw [h1] at hm; have:=(h2 e hm).1
 omega
theorem str_evs {s:Tn} (h:Str s) (L:List Ev):Str { s with evs:=L }:=⟨h.m1,h.m2,h.srt,h.acc,h.mkt,h.who,h.nx,h.ins,h.res,h.inn,h.out⟩
theorem sums_evs {s:Tn} (h:Sums s) (L:List Ev):Sums { s with evs:=L }:=⟨h.bal,h.pos⟩
/-- what Do answers of a right venue. -/
theorem do_cases {s:Tn} (c:Cm) (h:checkE s=0):(doR s c).2=0 /\ checkE (doR s c).1=0 /\
  ((∃ t,turnR { s with evs:=[] } c=.ok t /\ (doR s c).1=t /\ (∀ e,e ∈ t.evs->¬ e.1=1)) \/ ∃ e,turnR { s with evs:=[] } c=.error e /\ (doR s c).1 = { s with evs:=[evRejected e] }):=by
 obtain ⟨hs,hS⟩:=checkE_zero.1 h; unfold doR; rw [if_pos h]
 cases ht:turnR { s with evs:=[] } c with
 |ok t =>
  have K:=(turn_keeps ht (str_evs hs []) (sums_evs hS [])).1; exact ⟨rfl,checkE_zero.2 ⟨K.str,K.sums⟩,.inl ⟨t,rfl,rfl,turn_not_rejected ht (str_evs hs []) (sums_evs hS []) rfl⟩⟩
 |error e=>exact ⟨rfl,h,.inr ⟨e,rfl,rfl⟩⟩
theorem do_bad {s:Tn} (c:Cm) (h:¬ checkE s=0):doR s c=(noTn,checkE s):=by
 unfold doR; rw [if_neg h]
/-- was a command rejected? -/
def rejectedL (L:List Ev):Bool:=decide (L.length=1) && decide ((L.head?.elim 0 (fun e=>e.1))=1)
theorem rejected_no {L:List Ev} (h:∀ e,e ∈ L->¬ e.1=1):rejectedL L=false:=by
 unfold rejectedL
 cases L with
 |nil=>rfl
 |cons e l =>
  have:=h e (by simp)
  simp [this]
/-- what Do answers, in one: either what the turn did, or what was there. -/
theorem do_ok {s:Tn} {c:Cm} (h:checkE s=0) (hr:rejectedL (doR s c).1.evs=false):turnR { s with evs:=[] } c=.ok (doR s c).1:=by
 obtain ⟨-,-,⟨t,h1,h2,-⟩ | ⟨e,h1,h2⟩⟩:=do_cases c h
 ·rw [h2]; exact h1
 ·rw [h2] at hr
  cases hr
theorem do_rej {s:Tn} {c:Cm} (h:checkE s=0) (hr:rejectedL (doR s c).1.evs=true):∃ e,turnR { s with evs:=[] } c=.error e /\ (doR s c).1 = { s with evs:=[evRejected e] }:=by
 obtain ⟨-,-,⟨t,h1,h2,h3⟩ | ⟨e,h1,h2⟩⟩:=do_cases c h
 ·rw [h2,rejected_no h3] at hr
  cases hr
 ·exact ⟨e,h1,h2⟩
theorem runL_ok:∀ (l:List Cm) (s:Tn) (L:List (List Ev)),checkE s=0->∃ t K,runL l s L=.ok (t,L ++ K) /\ checkE t=0 /\ K.length=l.length /\ (∀ L',runL l s L'=.ok (t,L' ++ K)) /\ (l=[]->t=s)
 |[],s,L,h=>⟨s,[],by simp [runL],h,rfl,fun L'=>by simp [runL],fun _=>rfl⟩
 |c :: l,s,L,h=>by
  obtain ⟨d1,d2,-⟩:=do_cases c h; obtain ⟨t,K,h1,h2,h3,h4,-⟩:=runL_ok l (doR s c).1 (L ++ [(doR s c).1.evs]) d2
  refine ⟨t,(doR s c).1.evs :: K,?_,h2,by simp [h3],fun L'=>?_,fun e=>by cases e⟩
  ·unfold runL
   rw [if_pos d1,h1]; simp
  ·unfold runL
   rw [if_pos d1,h4]; simp
theorem runL_app:∀ (l1 l2:List Cm) (s t u:Tn) (K K2:List (List Ev)),(∀ L,runL l1 s L=.ok (t,L ++ K))->(∀ L,runL l2 t L=.ok (u,L ++ K2))->∀ L,runL (l1 ++ l2) s L=.ok (u,L ++ (K ++ K2))
 |[],l2,s,t,u,K,K2,h,h2,L=>by
  have:=h []; simp only [runL,List.nil_append,Except.ok.injEq,Prod.mk.injEq] at this; obtain ⟨rfl,rfl⟩:=this
  simpa using h2 L
 |c :: l1,l2,s,t,u,K,K2,h,h2,L=>by
  by_cases hd:(doR s c).2=0
  ·have h0:=h []
   unfold runL at h0; rw [if_pos hd] at h0; simp only [List.nil_append] at h0
   have hK:∃ K',K=(doR s c).1.evs :: K' /\ ∀ L,runL l1 (doR s c).1 L=.ok (t,L ++ K'):=by
    have hpre:∀ (l:List Cm) (s:Tn) (L:List (List Ev)) (t:Tn) (J:List (List Ev)),runL l s L=.ok (t,J)->∃ K',J=L ++ K' /\ ∀ L',runL l s L'=.ok (t,L' ++ K'):=by
     intro l
     induction l with
     |nil =>
      intro s L t J hh
      simp only [runL,Except.ok.injEq,Prod.mk.injEq] at hh; obtain ⟨rfl,rfl⟩:=hh
      exact ⟨[],by simp,fun L'=>by simp [runL]⟩
     |cons d l ih =>
      intro s L t J hh
      unfold runL at hh
      split at hh
      ·rename_i hd'
       obtain ⟨K',e1,e2⟩:=ih _ _ _ _ hh
       refine ⟨(doR s d).1.evs :: K',by rw [e1]; simp,fun L'=>?_⟩
       unfold runL; rw [if_pos hd',e2]; simp
      ·cases hh
    obtain ⟨K',e1,e2⟩:=hpre _ _ _ _ _ h0; exact ⟨K',e1,e2⟩
   obtain ⟨K',rfl,hK'⟩:=hK; have:=runL_app l1 l2 (doR s c).1 t u K' K2 hK' h2 (L ++ [(doR s c).1.evs]); rw [List.cons_append]; unfold runL; rw [if_pos hd,this]; simp
  ·have h0:=h []
   unfold runL at h0; rw [if_neg hd] at h0; cases h0
/-- commands in two runs do what they do in one. -/
theorem run_parts {s:Tn} {l:List Cm} {t:Tn} {L:List (List Ev)} (h:runR s l=.ok (t,L)) (k:Nat):∃ y a b,runR s (l.take k)=.ok (y,a) /\ runR y (l.drop k)=.ok (t,b) /\ L=a ++ b:=by
 unfold runR at h
 split at h
 ·rename_i hc
  split at h
  ·cases h
  ·rename_i hl
   obtain ⟨y,a,h1,h2,h3,h4,-⟩:=runL_ok (l.take k) s [] hc; obtain ⟨z,b,g1,g2,g3,g4,-⟩:=runL_ok (l.drop k) y [] h2; have:=runL_app (l.take k) (l.drop k) s y z a b h4 g4 []; rw [List.take_append_drop,h] at this; simp only [List.nil_append,Except.ok.injEq,Prod.mk.injEq] at this; obtain ⟨rfl,rfl⟩:=this
   refine ⟨y,a,b,?_,?_,rfl⟩
   ·unfold runR
    rw [if_pos hc,if_neg (by simp; omega),h1]
    simp
   ·unfold runR
    rw [if_pos h2,if_neg (by simp; omega),g1]
    simp
 ·cases h
end Go.Proofs.YtpkbiafhnflmnaaGreatDoor.Vn
