/-
  Package venue, the mathematics: an order that rests wholly, and is cancelled.
-/
import Derived.Test.YtpkbiafhnflmnaaGreatDoorS19
namespace Go.Proofs.YtpkbiafhnflmnaaGreatDoor.Vn
open Go.Proofs.YtpkbiafhnflmnaaGreatDoor.Num Go.Proofs.YtpkbiafhnflmnaaGreatDoor.AcP Go.Proofs.YtpkbiafhnflmnaaGreatDoor.FuP Go.Proofs.YtpkbiafhnflmnaaGreatDoor.RkP Go.Proofs.YtpkbiafhnflmnaaGreatDoor.Bk Go.Proofs.YtpkbiafhnflmnaaGreatDoor.Rm
theorem takes_nofill (o:Odr):∀ (l:List Odr) (left:Int),(takes o left l).2.1=[]->(takes o left l).1=l
 |[],left,_=>rfl
 |x :: l,left,h=>by
  unfold takes at h ⊢
  split at h
  ·rename_i h1
   rw [if_pos h1]
   split at h
   ·rename_i h2
    rw [if_pos h2]
   ·split at h
    ·cases h
    ·cases h
  ·rename_i h1
   rw [if_neg h1]
theorem take_nofill {b a:List Odr} {o:Odr} (h:(takeT b a o).2.1=[]):takeB b a o=b /\ takeA b a o=a:=by
 have e:(takeT b a o).1=if osd o=1 then a else b:=takes_nofill o (if osd o=1 then a else b) (oqt o) h
 unfold takeB takeA; rw [e]
 split
 ·exact ⟨rfl,rfl⟩
 ·exact ⟨rfl,rfl⟩
/-- the order that a Place of no reduction asks for. -/
abbrev askO (s:Tn) (c:Cm):Odr:=(s.next,c.ac,osd c.o,opr c.o,oqt c.o)
theorem place_post {s t:Tn} {c:Cm} (h:placeR s c=.ok t) (hs:Str s) (hS:Sums s) (hw:c.how=4) :
  ∃ k:Nat,c.mkt=k /\ k < s.mkts.length /\ hasA s.accs c.ac=true /\ mayRest (mktAt s k).1 (mktAt s k).2.1 (askO s c)=0 /\ ¬ s.next=100000 /\
   t=(Tn.tell { s with next:=s.next + 1 } (evAccepted k s.next c.ac)).setB k (restB (mktAt s k).1 (askO s c)) (restA (mktAt s k).2.1 (askO s c)):=by
 unfold placeR at h
 split at h
 ·rename_i he
  obtain ⟨o1,o2,o3,o4,o5,o6⟩:=order_ok he; obtain ⟨m1,m2⟩:=hasM_iff.1 o4
  obtain ⟨k,hk⟩:∃ k:Nat,c.mkt=k:=⟨c.mkt.toNat,by omega⟩
  have hred:c.red=false:=by
   cases hr:c.red
   ·rfl
   ·have:=o2 hr
    omega
  have ho:orderO s c=askO s c:=by
   unfold orderO; rw [hred]
   rfl
  rw [hk,ho] at h
  have hkl:k < s.mkts.length:=by omega
  obtain ⟨u,P,-⟩:=place_is h hs hS hkl rfl o5 o3; obtain ⟨hR,hok,-,-,f4,-,f6⟩:=come_facts P.he; have hF:=f4 hw; obtain ⟨t1,t2⟩:=take_nofill hF; have hsum:=(take_fills hR hok).2.1; rw [hF] at hsum
  have hl:(takeT (mktAt s k).1 (mktAt s k).2.1 (askO s c)).2.2.1=oqt (askO s c):=by
   have:sumQ []=0:=rfl
   omega
  have hq:=(okOrder_pq hok).2.2.1
  have hst:stays c.how (takeT (mktAt s k).1 (mktAt s k).2.1 (askO s c)).2.2.1=false:=by
   unfold stays; rw [hl,hw]; simp
   omega
  have hmay:=f6 hst
  have hro:restO (askO s c) (takeT (mktAt s k).1 (mktAt s k).2.1 (askO s c)).2.2.1=askO s c:=by rw [hl]; rfl
  rw [hro,t1,t2] at hmay
  refine ⟨k,hk,hkl,o3,hmay,o5,?_⟩
  have hu:=P.fills; rw [hF] at hu; cases hu; rw [P.is]
  have hcl:comeL c.how (takeT (mktAt s k).1 (mktAt s k).2.1 (askO s c)).2.2.1=0:=by
   unfold comeL; rw [hst]
   rfl
  rw [hcl]
  have hg:∀ x:Tn,goneIf x (k:Nat) (askO s c) 0=x:=fun x=>by
   unfold goneIf
   rw [if_neg (by omega)]
  rw [hg]; unfold cameR comeB comeA; rw [Int.toNat_natCast,hst,hro,t1,t2]
  rfl
 ·cases h
theorem find_new {b a:List Odr} {o:Odr} (h:mayRest b a o=0):findE (restB b o) (restA a o) (oid o)=0 /\ findO (restB b o) (restA a o) (oid o)=o /\ Right (restB b o) (restA a o):=by
 have hR:Right (restB b o) (restA a o):=rest_right h; have hb:=bookErr_zero.2 hR
 have hmem:o ∈ restB b o ++ restA a o:=by
  unfold restB restA
  split
  ·exact List.mem_append.2 (.inl (mem_laid.2 (.inl rfl)))
  ·exact List.mem_append.2 (.inr (mem_laid.2 (.inl rfl)))
 have hf:findIn (oid o) (restB b o) (restA a o)=some o:=find_unique (by rw [List.map_append]; exact hR.nod) hmem
 unfold findE findO; rw [if_pos hb,if_pos hb,hf]; exact ⟨rfl,rfl,hR⟩
theorem find_old {b a:List Odr} {n:Int} (h:∀ o,o ∈ b ++ a->oid o < n):¬ findE b a n=0:=by
 unfold findE
 split
 ·have:findIn n b a=none:=List.find?_eq_none.2 (fun x hx e=>by
   have:=h x hx; simp only [hasId,decide_eq_true_eq] at e
   omega)
  rw [this]
  show ¬ (5:Int)=0
  decide
 ·assumption
theorem cancel_skip {s:Tn} {ac n:Int}:∀ (l:List Mp) (k:Nat),(∀ m,m ∈ l->¬ (findE m.1 m.2.1 n=0 /\ oac (findO m.1 m.2.1 n)=ac))->cancelL s ac n k l=.error 5
 |[],k,_=>rfl
 |m :: l,k,h=>by
  unfold cancelL
  rw [if_neg (h m (by simp))]
  exact cancel_skip l (k + 1) (fun x hx=>h x (by simp [hx]))
theorem cancel_hits {s:Tn} {ac n:Int}:∀ (l:List Mp) (k j:Nat) (hj:j < l.length),(∀ i (hi:i < l.length),¬ i=j->¬ findE (l[i]).1 (l[i]).2.1 n=0)->findE (l[j]).1 (l[j]).2.1 n=0->oac (findO (l[j]).1 (l[j]).2.1 n)=ac->cancelL s ac n k l=.ok (remR s (k + j) n (findO (l[j]).1 (l[j]).2.1 n))
 |m :: l,k,0,_,_,h1,h2=>by
  unfold cancelL; exact if_pos ⟨h1,h2⟩
 |m :: l,k,j + 1,hj,h0,h1,h2=>by
  unfold cancelL
  rw [if_neg (fun e=>h0 0 (by simp) (by omega) e.1)]
  have:=cancel_hits (s:=s) (ac:=ac) (n:=n) l (k + 1) j (by simpa using hj) (fun i hi hne=>h0 (i + 1) (by simpa using hi) (by omega)) h1 h2
  rw [this,show k + 1 + j=k + (j + 1) by omega]
  rfl
/-- what is cancelled, and by whom. -/
theorem cancel_post {s t:Tn} {c:Cm} (h:placeR s c=.ok t) (hs:Str s) (hS:Sums s) (hw:c.how=4) (he:s.evs=[]) :
  t.evs.length=1 /\ t.next=s.next + 1 /\ (∀ ac,¬ ac=c.ac->cancelR { t with evs:=[] } ac s.next=.error 5) /\
  ∃ k:Nat,cancelR { t with evs:=[] } c.ac s.next=.ok { s with next:=s.next + 1,evs:=[evGone k s.next c.ac (oqt c.o)] }:=by
 obtain ⟨k,hk,hkl,hac,hmay,hn,rfl⟩:=place_post h hs hS hw; obtain ⟨f1,f2,f3⟩:=find_new hmay
 have hset:∀ j,mktAt ({ ((Tn.tell { s with next:=s.next + 1 } (evAccepted k s.next c.ac)).setB k (restB (mktAt s k).1 (askO s c)) (restA (mktAt s k).2.1 (askO s c))) with evs:=[] }:Tn) j=if j=k then (restB (mktAt s k).1 (askO s c),restA (mktAt s k).2.1 (askO s c),(mktAt s k).2.2.1,(mktAt s k).2.2.2) else mktAt s j:=fun j=>by
  show mktAt ((Tn.tell { s with next:=s.next + 1 } (evAccepted k s.next c.ac)).setM k (restB (mktAt s k).1 (askO s c),restA (mktAt s k).2.1 (askO s c),(mktAt s k).2.2.1,(mktAt s k).2.2.2)) j=_
  have hk':k < (Tn.tell { s with next:=s.next + 1 } (evAccepted k s.next c.ac)).mkts.length:=hkl
  rw [mktAt_set hk']
  rfl
 have hold:∀ j,j < s.mkts.length->¬ j=k->¬ findE (mktAt s j).1 (mktAt s j).2.1 s.next=0:=fun j hj _=>find_old (fun o ho=>((hs.at hj).2.2.2 o ho).2)
 have hlen:({ ((Tn.tell { s with next:=s.next + 1 } (evAccepted k s.next c.ac)).setB k (restB (mktAt s k).1 (askO s c)) (restA (mktAt s k).2.1 (askO s c))) with evs:=[] }:Tn).mkts.length=s.mkts.length:=by
  show (s.mkts.set _ _).length=_
  simp
 refine ⟨?_,rfl,fun ac hne=>?_,k,?_⟩
 ·show (s.evs ++ [evAccepted k s.next c.ac]).length=1
  rw [he]
  rfl
 ·refine cancel_skip _ _ (fun m hm=>?_)
  obtain ⟨j,hj,rfl⟩:=List.mem_iff_getElem.1 hm; rw [<- mktAt_get hj,hset]
  rintro ⟨e1,e2⟩
  by_cases ej:j=k
  ·rw [if_pos ej] at e1 e2
   dsimp only at e1 e2; rw [show s.next=oid (askO s c) from rfl,f2] at e2; exact hne e2.symm
  ·rw [if_neg ej] at e1
   exact hold j (by rw [hlen] at hj; exact hj) ej e1
 ·have hj:k < ({ ((Tn.tell { s with next:=s.next + 1 } (evAccepted k s.next c.ac)).setB k (restB (mktAt s k).1 (askO s c)) (restA (mktAt s k).2.1 (askO s c))) with evs:=[] }:Tn).mkts.length:=by rw [hlen]; exact hkl
  have hfnd:findO (mktAt ({ ((Tn.tell { s with next:=s.next + 1 } (evAccepted k s.next c.ac)).setB k (restB (mktAt s k).1 (askO s c)) (restA (mktAt s k).2.1 (askO s c))) with evs:=[] }:Tn) k).1 (mktAt ({ ((Tn.tell { s with next:=s.next + 1 } (evAccepted k s.next c.ac)).setB k (restB (mktAt s k).1 (askO s c)) (restA (mktAt s k).2.1 (askO s c))) with evs:=[] }:Tn) k).2.1 s.next=askO s c:=by
   rw [hset,if_pos rfl]; exact f2
  have:=cancel_hits (s:={ ((Tn.tell { s with next:=s.next + 1 } (evAccepted k s.next c.ac)).setB k (restB (mktAt s k).1 (askO s c)) (restA (mktAt s k).2.1 (askO s c))) with evs:=[] }) (ac:=c.ac) (n:=s.next) _ 0 k hj (fun i hi hne=>by
   rw [<- mktAt_get hi,hset,if_neg hne]
   exact hold i (by rw [hlen] at hi; exact hi) hne) (by rw [<- mktAt_get hj,hset,if_pos rfl]; exact f1) (by rw [<- mktAt_get hj,hfnd])
  rw [<- mktAt_get hj,hfnd,Nat.zero_add] at this
  refine this.trans ?_
  obtain ⟨r1,r2⟩:=rest_without hmay
  have hb:(s.mkts.set k (restB (mktAt s k).1 (askO s c),restA (mktAt s k).2.1 (askO s c),(mktAt s k).2.2.1,(mktAt s k).2.2.2)).set k ((mktAt s k).1,(mktAt s k).2.1,(mktAt s k).2.2.1,(mktAt s k).2.2.2)=s.mkts:=by
   rw [List.set_set]
   have:((mktAt s k).1,(mktAt s k).2.1,(mktAt s k).2.2.1,(mktAt s k).2.2.2)=s.mkts[k]'hkl:=by rw [<- mktAt_get hkl]
   rw [this]; exact List.set_getElem_self _
  have hcs:∃ T:Tn,T=({ ((Tn.tell { s with next:=s.next + 1 } (evAccepted k s.next c.ac)).setB k (restB (mktAt s k).1 (askO s c)) (restA (mktAt s k).2.1 (askO s c))) with evs:=[] }:Tn) /\ T.accs=s.accs /\ T.mkts=s.mkts.set k (restB (mktAt s k).1 (askO s c),restA (mktAt s k).2.1 (askO s c),(mktAt s k).2.2.1,(mktAt s k).2.2.2) /\ T.ins=s.ins /\ T.res=s.res /\ T.next=s.next + 1 /\ T.inn=s.inn /\ T.out=s.out /\ T.evs=[]:=⟨_,rfl,rfl,rfl,rfl,rfl,rfl,rfl,rfl,rfl⟩
  obtain ⟨T,hT,t1,t2,t3,t4,t5,t6,t7,t8⟩:=hcs; have hTk:=hset k; rw [<- hT,if_pos rfl] at hTk; rw [<- hT]; unfold remR Tn.setB Tn.setM Tn.tell; rw [hTk]; dsimp only; have r1':without s.next (restB (mktAt s k).1 (askO s c))=(mktAt s k).1:=r1; have r2':without s.next (restA (mktAt s k).2.1 (askO s c))=(mktAt s k).2.1:=r2; rw [r1',r2',t1,t2,t3,t4,t5,t6,t7,t8,hb]
  rfl
end Go.Proofs.YtpkbiafhnflmnaaGreatDoor.Vn
