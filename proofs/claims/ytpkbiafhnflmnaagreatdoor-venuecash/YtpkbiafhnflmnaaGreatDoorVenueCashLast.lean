/-
  VenueCash is true of every venue and all numbers: who pays in, and takes the same out, has what they had, if they may take it; a deposit is never rejected but for too much. The table of tiers reads as the program's text lays it (the card ties it).
-/
import Derived.Test.YtpkbiafhnflmnaaGreatDoorS19
import Derived.Test.YtpkbiafhnflmnaaGreatDoorS47
import Derived.Test.YtpkbiafhnflmnaaGreatDoorS38
import Derived.Test.YtpkbiafhnflmnaaGreatDoorRows
import Derived.Test.YtpkbiafhnflmnaaGreatDoorCards
import Derived.Test.YtpkbiafhnflmnaaGreatDoorTie
import Derived.Test.YtpkbiafhnflmnaaGreatDoorS48
import Derived.Outline
import Derived.ProofKit
import Derived.OpenShut
import Derived.ChangeOld
import Derived.Below
import Derived.SizedLaws
import Derived.Lay
import Derived.MakeChecks
import Derived.SevenTiedAt
namespace Go.Proofs.YtpkbiafhnflmnaaGreatDoor.Vn
open Go.Proofs.YtpkbiafhnflmnaaGreatDoor.Num Go.Proofs.YtpkbiafhnflmnaaGreatDoor.AcP Go.Proofs.YtpkbiafhnflmnaaGreatDoor.FuP Go.Proofs.YtpkbiafhnflmnaaGreatDoor.RkP Go.Proofs.YtpkbiafhnflmnaaGreatDoor.Bk Go.Proofs.YtpkbiafhnflmnaaGreatDoor.Rm
theorem ids_ne {s:Tn} (hs:Srt s.accs) {i j:Nat} (hi:i < s.accs.length) (hj:j < s.accs.length) (h:¬ i=j):¬ (accAt s i).1=(accAt s j).1:=by
 rw [accAt_get hi,accAt_get hj]
 rcases Nat.lt_or_gt_of_ne h with g | g
 ·have:=List.pairwise_iff_getElem.1 hs i j hi hj g
  omega
 ·have:=List.pairwise_iff_getElem.1 hs j i hj hi g
  omega
theorem addE_two (x n:Int) (h1:money x=true) (h2:money n=true):addE x n=0 \/ addE x n=7:=by
 unfold addE
 rw [addFrom_on h1 (by rw [Int.zero_add]; exact h1),Int.zero_add]
 cases hs:money (x + n)
 ·rw [addFrom_full h2 hs]; exact .inr rfl
 ·rw [addFrom_on h2 hs]; exact .inl rfl
theorem addE_three (x n:Int):addE x n=0 \/ addE x n=3 \/ addE x n=7:=by
 cases hx:money x
 ·unfold addE
  rw [addFrom_range hx]; exact .inr (.inl rfl)
 ·cases hn:money n
  ·unfold addE
   rw [addFrom_on hx (by rw [Int.zero_add]; exact hx),addFrom_range hn]
   exact .inr (.inl rfl)
  ·rcases addE_two x n hx hn with h | h
   ·exact .inl h
   ·exact .inr (.inr h)
theorem pay_three (ac n:Int):payE ac n=0 \/ payE ac n=3 \/ payE ac n=5:=by
 unfold payE
 split
 ·exact .inr (.inl rfl)
 ·split
  ·exact .inr (.inr rfl)
  ·exact .inl rfl
theorem deposit_errs {s:Tn} {ac n e:Int} (h:depositR s ac n=.error e):e=3 \/ e=5 \/ e=7:=by
 unfold depositR at h
 split at h
 ·split at h
  ·unfold moveR at h
   split at h
   ·cases h
   ·rename_i h1
    cases h
    have:=addE_three (accAt (openR { s with inn:=addV s.inn n } ac) (plc s.accs ac)).2.1 n
    omega
  ·rename_i h1
   cases h; have:=addE_three s.inn n
   omega
 ·rename_i h1
  cases h; have:=pay_three ac n
  omega
/-- what a deposit is, when it is done. -/
theorem deposit_is {s t:Tn} {ac n:Int} (h:depositR s ac n=.ok t) (hs:Str s) (hS:Sums s) :
  payE ac n=0 /\ plc s.accs ac < (openR s ac).accs.length /\ t.accs=(openR s ac).accs.set (plc s.accs ac) (ac,(accAt (openR s ac) (plc s.accs ac)).2.1 + n,(accAt (openR s ac) (plc s.accs ac)).2.2) /\ (accAt (openR s ac) (plc s.accs ac)).1=ac /\
   t.inn=s.inn + n /\ t.out=s.out /\ t.ins=s.ins /\ t.res=s.res /\ t.mkts=s.mkts /\ Str (openR s ac):=by
 unfold depositR at h
 split at h
 ·rename_i hp
  obtain ⟨p1,p2⟩:=pay_ok hp
  split at h
  ·rename_i he
   obtain ⟨m1,m2,m3,e⟩:=add_ok he; obtain ⟨o1,o2,o3,o4,o5,o6,o7⟩:=open_facts hs hS p2
   have hop:openR { s with inn:=addV s.inn n } ac = { openR s ac with inn:=addV s.inn n }:=by
    unfold openR; dsimp only
    split <;> rfl
   rw [hop] at h; unfold moveR at h
   split at h
   ·rename_i ha
    obtain ⟨-,-,-,e2⟩:=add_ok ha; cases h
    have hat:accAt ({ openR s ac with inn:=addV s.inn n }:Tn) (plc s.accs ac)=accAt (openR s ac) (plc s.accs ac):=rfl
    have hrest:(openR s ac).ins=s.ins /\ (openR s ac).res=s.res /\ (openR s ac).out=s.out /\ (openR s ac).mkts=s.mkts:=by
     unfold openR
     split <;> exact ⟨rfl,rfl,rfl,rfl⟩
    refine ⟨hp,o3,?_,o4,e,hrest.2.2.1,hrest.1,hrest.2.1,hrest.2.2.2,o1⟩
    rw [hat] at e2
    show (openR s ac).accs.set (plc s.accs ac) ((accAt (openR s ac) (plc s.accs ac)).1,addV (accAt (openR s ac) (plc s.accs ac)).2.1 n,(accAt (openR s ac) (plc s.accs ac)).2.2)=_
    rw [e2,o4]
   ·cases h
  ·cases h
 ·cases h
theorem withdraw_is {s t:Tn} {ac n:Int} (h:withdrawR s ac n=.ok t):hasA s.accs ac=true /\ t.accs=s.accs.set (plc s.accs ac) ((accAt s (plc s.accs ac)).1,(accAt s (plc s.accs ac)).2.1 - n,(accAt s (plc s.accs ac)).2.2) /\ t.inn=s.inn /\ t.out=s.out + n /\ t.ins=s.ins /\ t.res=s.res:=by
 unfold withdrawR at h
 split at h
 ·split at h
  ·rename_i hh
   split at h
   ·rename_i he
    obtain ⟨m1,m2,m3,e⟩:=add_ok he
    split at h
    ·rename_i u hu
     split at h
     ·cases h
      unfold moveR at hu
      split at hu
      ·rename_i ha
       obtain ⟨-,-,-,e2⟩:=add_ok ha; cases hu
       refine ⟨hh,?_,rfl,e,rfl,rfl⟩
       show s.accs.set (plc s.accs ac) ((accAt s (plc s.accs ac)).1,addV (accAt s (plc s.accs ac)).2.1 (-n),(accAt s (plc s.accs ac)).2.2)=_
       have e3:addV (accAt s (plc s.accs ac)).2.1 (-n)=(accAt s (plc s.accs ac)).2.1 + -n:=e2; rw [e3,Int.sub_eq_add_neg]
      ·cases hu
     ·cases h
    ·cases h
   ·cases h
  ·cases h
 ·cases h
theorem open_mem' {s:Tn} {id:Int} {a:Acc} (h:a ∈ (openR s id).accs):a ∈ s.accs \/ (hasA s.accs id=false /\ a=(id,0,List.replicate s.mkts.length 0)):=by
 unfold openR at h
 split at h
 ·exact .inl h
 ·rename_i hn
  rcases put_mem.1 h with e | e
  ·exact .inr ⟨by simpa using hn,e⟩
  ·exact .inl e
theorem open_plc {s:Tn} {id:Int}:plc (openR s id).accs id=plc s.accs id:=by
 unfold openR
 split
 ·rfl
 ·exact plc_put _ _
theorem open_has {s:Tn} {id:Int}:hasA (openR s id).accs id=true:=by
 rw [has_iff]; unfold openR
 split
 ·rename_i h
  exact (has_iff _ _).1 h
 ·exact ⟨_,put_mem.2 (.inl rfl),rfl⟩
/-- who pays in, and takes the same out, has what they had. -/
theorem cash_back {s t u:Tn} {ac n:Int} (h:depositR s ac n=.ok t) (h2:withdrawR { t with evs:=[] } ac n=.ok u) (hs:Str s) (hS:Sums s) :
  u.accs=(openR s ac).accs /\ u.inn=s.inn + n /\ u.out=s.out + n /\ u.ins=s.ins /\ u.res=s.res:=by
 obtain ⟨-,d1,d2,d3,d4,d5,d6,d7,-,dS⟩:=deposit_is h hs hS; obtain ⟨w1,w2,w3,w4,w5,w6⟩:=withdraw_is h2
 have hids:t.accs.map (·.1)=(openR s ac).accs.map (·.1):=by
  rw [d2]
  exact ids_set d1 (by rw [<- accAt_get d1]; exact d3.symm)
 have hp:plc t.accs ac=plc s.accs ac:=by rw [plc_ids hids]; exact open_plc
 refine ⟨?_,w3.trans d4,w4.trans (by show t.out + n=_; rw [d5]),w5.trans d6,w6.trans d7⟩
 have w2':u.accs=t.accs.set (plc t.accs ac) ((accAt t (plc t.accs ac)).1,(accAt t (plc t.accs ac)).2.1 - n,(accAt t (plc t.accs ac)).2.2):=w2
 have hat:accAt t (plc s.accs ac)=(ac,(accAt (openR s ac) (plc s.accs ac)).2.1 + n,(accAt (openR s ac) (plc s.accs ac)).2.2):=by
  unfold accAt at *
  rw [d2,List.getD_eq_getElem?_getD,List.getElem?_set_self d1]
  rfl
 rw [w2',hp,hat,d2,List.set_set]
 have hback:(ac,(accAt (openR s ac) (plc s.accs ac)).2.1 + n - n,(accAt (openR s ac) (plc s.accs ac)).2.2)=(openR s ac).accs[plc s.accs ac]'d1:=by
  rw [<- accAt_get d1,Int.add_sub_cancel]; exact Prod.ext d3.symm rfl
 show (openR s ac).accs.set (plc s.accs ac) (ac,(accAt (openR s ac) (plc s.accs ac)).2.1 + n - n,(accAt (openR s ac) (plc s.accs ac)).2.2)=_
 rw [hback]; exact List.set_getElem_self _
theorem mark_le {fb fa idx last:Int} (h:betw 1 idx 10000=true) (h1:0<=fb /\ fb<=10000) (h2:0<=fa /\ fa<=10000) (h3:betw 0 last 10000=true):0<=markOf fb fa idx last /\ markOf fb fa idx last<=10000:=by
 have g1:=betw_true h; have g3:=betw_true h3
 have g2:idx.tdiv 20=idx / 20:=Int.tdiv_eq_ediv_of_nonneg (by omega)
 have g4:(fb + fa).tdiv 2=(fb + fa) / 2:=Int.tdiv_eq_ediv_of_nonneg (by omega)
 unfold markOf middleR halfR lastR; rw [g2,g4]
 split <;> split <;> omega
theorem marksL_ok:∀ (ms:List Mp) (L:List Int),(∀ m,m ∈ ms->marketErr m.1 m.2.1 m.2.2.1 m.2.2.2=0)->(∀ x,x ∈ L->betw 0 x 10000=true)->(marksL L ms).2=0 /\ (marksL L ms).1.length=L.length + ms.length /\ ∀ x,x ∈ (marksL L ms).1->betw 0 x 10000=true
 |[],L,_,hL=>⟨rfl,rfl,hL⟩
 |m :: r,L,h,hL=>by
  have hm:=h m (by simp)
  obtain ⟨hb,h1,h2⟩:=marketErr_ok hm; have hR:=bookErr_zero.1 hb
  have e:markR m.1 m.2.1 m.2.2.1 m.2.2.2=(markOf (firstPrice m.1) (firstPrice m.2.1) m.2.2.1 m.2.2.2,0):=by
   unfold markR; rw [if_pos hm]
  have hr:=mark_le h1 (first_bd hR.b) (first_bd hR.a) h2; unfold marksL
  rw [if_pos (by rw [e]),e]
  obtain ⟨i1,i2,i3⟩:=marksL_ok r (L ++ [markOf (firstPrice m.1) (firstPrice m.2.1) m.2.2.1 m.2.2.2]) (fun x hx=>h x (by simp [hx])) (fun x hx=>by
   rcases List.mem_append.1 hx with hx | hx
   ·exact hL x hx
   ·simp at hx
    subst hx; exact betw_mk hr)
  refine ⟨i1,?_,i3⟩
  rw [i2]; simp
  omega
theorem Str.marks {s:Tn} (hs:Str s):(marksP s.mkts).2=0 /\ (marksP s.mkts).1.length=s.mkts.length /\ ∀ x,x ∈ (marksP s.mkts).1->betw 0 x 10000=true:=by
 unfold marksP; rw [if_pos ⟨hs.m1,hs.m2⟩]
 have:=marksL_ok s.mkts [] hs.mkt (fun _ h=>by cases h)
 simpa using this
theorem marFrom_err:∀ (ps ms:List Int) (x y:Int),(∀ m,m ∈ ms->betw 0 m 10000=true)->(marFrom x y ps ms).2.2=0
 |[],[],_,_,_=>rfl
 |[],_ :: _,_,_,_=>rfl
 |_ :: _,[],_,_,_=>rfl
 |p :: ps,m :: ms,x,y,h=>by
  rw [marFrom_on (h m (by simp))]
  exact marFrom_err ps ms _ _ (fun z hz=>h z (by simp [hz]))
theorem worths_are:∀ (ps ms:List Int),(∀ p,p ∈ ps->betw (-1000) p 1000=true)->(∀ m,m ∈ ms->betw 0 m 10000=true)->∃ l,worths ps ms=some l /\ ∀ x,x ∈ l->money x=true
 |[],ms,_,_=>⟨[],by simp [worths],by simp⟩
 |p :: ps,[],_,_=>⟨[],by simp [worths],by simp⟩
 |p :: ps,m :: ms,h,h'=>by
  have h0:betw (-1000) p 1000=true /\ betw 0 m 10000=true:=⟨h p (by simp),h' m (by simp)⟩
  obtain ⟨l,h1,h2⟩:=worths_are ps ms (fun i hi=>h i (by simp [hi])) (fun i hi=>h' i (by simp [hi]))
  refine ⟨p * m :: l,?_,?_⟩
  ·simp only [worths]
   rw [if_pos h0,h1]
   rfl
  ·intro x hx
   rcases List.mem_cons.1 hx with rfl | hx
   ·have h3:=betw_true h0.1
    have h4:=betw_true h0.2
    have h5:-(1000 * 10000)<=p * m /\ p * m<=1000 * 10000:=by
     constructor
     ·have:=Int.mul_le_mul_of_nonneg_right h3.1 h4.1
      have h6:-1000 * 10000<=-1000 * m:=by omega
      omega
     ·have:=Int.mul_le_mul_of_nonneg_right h3.2 h4.1
      have h6:1000 * m<=1000 * 10000:=by omega
      omega
    exact money_mk (by omega)
   ·exact h2 x hx
theorem addFrom_err:∀ (l:List Int) (s:Int),(∀ x,x ∈ l->money x=true)->(addFrom s l).2=0 \/ (addFrom s l).2=7
 |[],s,_=>.inl rfl
 |x :: l,s,h=>by
  simp only [addFrom]
  rw [if_pos (h x (by simp))]
  split
  ·exact addFrom_err l _ (fun y hy=>h y (by simp [hy]))
  ·exact .inr rfl
theorem sound_err {a:Acc} {marks:List Int} (ha:accErr a.1 a.2.1 a.2.2 marks.length=0) (hm:∀ x,x ∈ marks->betw 0 x 10000=true):(soundR a.1 a.2.1 a.2.2 marks).2.2=0 \/ (soundR a.1 a.2.1 a.2.2 marks).2.2=7:=by
 obtain ⟨a1,a2,a3,a4,a5⟩:=accErr_ok ha
 have h1:(marginsR a.1 a.2.1 a.2.2 marks).2.2=0:=by
  unfold marginsR; rw [if_pos ha]; exact marFrom_err _ _ _ _ hm
 have h2:(equityR a.1 a.2.1 a.2.2 marks).2=0 \/ (equityR a.1 a.2.1 a.2.2 marks).2=7:=by
  unfold equityR; rw [if_pos ha]
  obtain ⟨l,w1,w2⟩:=worths_are a.2.2 marks (fun p hp=>by
   have:=List.all_eq_true.1 a5 p hp; exact this) hm
  rw [w1]
  exact addFrom_err (a.2.1 :: l) 0 (by
   intro x hx
   rcases List.mem_cons.1 hx with rfl | hx
   ·exact a4
   ·exact w2 x hx)
 unfold soundR; rw [if_pos h1]
 split
 ·exact .inl rfl
 ·exact h2
theorem ready_errs {s:Tn} {a:Acc} (hs:Str s) (ha:accErr a.1 a.2.1 a.2.2 s.mkts.length=0):readyE s.mkts a=0 \/ readyE s.mkts a=7 \/ readyE s.mkts a=8:=by
 obtain ⟨m1,m2,m3⟩:=hs.marks
 have:=sound_err (a:=a) (marks:=(marksP s.mkts).1) (by rw [m2]; exact ha) m3
 unfold readyE; rw [if_pos m1]
 split
 ·split
  ·exact .inl rfl
  ·exact .inr (.inr rfl)
 ·rename_i hne
  rcases this with e | e
  ·exact absurd e hne
  ·exact .inr (.inl e)
theorem cash_errs {s t:Tn} {ac n e:Int} (h:depositR s ac n=.ok t) (h2:withdrawR { t with evs:=[] } ac n=.error e) (hs:Str s) (hS:Sums s):e=7 \/ e=8:=by
 obtain ⟨hp,d1,d2,d3,d4,d5,d6,d7,d8,dS⟩:=deposit_is h hs hS; have K:=(deposit_facts h hs hS).1; obtain ⟨p1,p2⟩:=pay_ok hp
 have hids:t.accs.map (·.1)=(openR s ac).accs.map (·.1):=by
  rw [d2]
  exact ids_set d1 (by rw [<- accAt_get d1]; exact d3.symm)
 have hpl:plc t.accs ac=plc s.accs ac:=by rw [plc_ids hids]; exact open_plc
 have hh:hasA t.accs ac=true:=by rw [has_ids hids]; exact open_has
 have hat:accAt t (plc s.accs ac)=(ac,(accAt (openR s ac) (plc s.accs ac)).2.1 + n,(accAt (openR s ac) (plc s.accs ac)).2.2):=by
  unfold accAt at *
  rw [d2,List.getD_eq_getElem?_getD,List.getElem?_set_self d1]
  rfl
 have hn:money n=true:=money_mk (by omega)
 have hn':money (-n)=true:=money_mk (by omega)
 unfold withdrawR at h2; rw [if_pos hp] at h2
 have hh':hasA ({ t with evs:=[] }:Tn).accs ac=true:=hh
 rw [if_pos hh'] at h2; have ho:=K.str.out
 split at h2
 ·rename_i he
  obtain ⟨m1,m2,m3,eo⟩:=add_ok he
  have hpl':plc ({ t with evs:=[] }:Tn).accs ac=plc s.accs ac:=hpl
  rw [hpl'] at h2
  have hk:plc s.accs ac < t.accs.length:=by rw [<- hpl]; exact (accAt_has K.str.srt hh).1
  have ha1:=dS.accOk d1; have ha2:=K.str.accOk hk; rw [hat] at ha2; have hb1:=(accErr_ok ha1).2.2.2.1; have hb2:=(accErr_ok ha2).2.2.2.1; dsimp only at hb2
  have hae:addE ((accAt (openR s ac) (plc s.accs ac)).2.1 + n) (-n)=0 /\ addV ((accAt (openR s ac) (plc s.accs ac)).2.1 + n) (-n)=(accAt (openR s ac) (plc s.accs ac)).2.1 + n + -n:=add_mk hb2 hn' (by rw [Int.add_assoc,Int.add_right_neg,Int.add_zero]; exact hb1)
  unfold moveR at h2
  have hat':accAt ({ ({ t with evs:=[] }:Tn) with out:=addV ({ t with evs:=[] }:Tn).out n }:Tn) (plc s.accs ac)=(ac,(accAt (openR s ac) (plc s.accs ac)).2.1 + n,(accAt (openR s ac) (plc s.accs ac)).2.2):=hat
  rw [hat'] at h2; dsimp only at h2; rw [if_pos hae.1] at h2; dsimp only at h2
  split at h2
  ·cases h2
  ·rename_i hne
   cases h2
   have hst:Str (({ ({ t with evs:=[] }:Tn) with out:=addV t.out n }:Tn).setA (plc s.accs ac) (ac,addV ((accAt (openR s ac) (plc s.accs ac)).2.1 + n) (-n),(accAt (openR s ac) (plc s.accs ac)).2.2)):=by
    refine Str.setA (s:={ ({ t with evs:=[] }:Tn) with out:=addV t.out n }) ⟨K.str.m1,K.str.m2,K.str.srt,K.str.acc,K.str.mkt,K.str.who,K.str.nx,K.str.ins,K.str.res,K.str.inn,?_⟩ hk ?_ ?_
    ·have:=money_true m3
     show rng (addV t.out n)
     rw [show addV t.out n=t.out + n from eo]; have m3':money (t.out + n)=true:=m3; have:=money_true m3'; unfold rng at *
     omega
    ·show ac=(accAt t (plc s.accs ac)).1
     rw [hat]
    ·dsimp only
     rw [hae.2,Int.add_assoc,Int.add_right_neg,Int.add_zero]
     have ha3:accErr ac (accAt (openR s ac) (plc s.accs ac)).2.1 (accAt (openR s ac) (plc s.accs ac)).2.2 (openR s ac).mkts.length=0:=by
      have:=ha1; rw [d3] at this; exact this
     have:t.mkts.length=(openR s ac).mkts.length:=by
      rw [d8]; unfold openR
      split <;> rfl
     show accErr _ _ _ (t.mkts.length:Int)=0
     rw [this]; exact ha3
   have hlen:(plc s.accs ac) < ({ ({ t with evs:=[] }:Tn) with out:=addV t.out n }:Tn).accs.length:=hk
   have hk3:plc s.accs ac < (({ ({ t with evs:=[] }:Tn) with out:=addV t.out n }:Tn).setA (plc s.accs ac) (ac,addV ((accAt (openR s ac) (plc s.accs ac)).2.1 + n) (-n),(accAt (openR s ac) (plc s.accs ac)).2.2)).accs.length:=by
    show plc s.accs ac < (t.accs.set _ _).length
    rw [List.length_set]; exact hk
   have:=ready_errs hst (hst.accOk hk3)
   rcases this with q | q | q
   ·exact absurd q hne
   ·exact .inl q
   ·exact .inr q
 ·rename_i hne
  cases h2
  have:=addE_two t.out n (money_mk (by unfold rng at ho; omega)) hn
  have hne':¬ addE t.out n=0:=hne
  left
  show addE t.out n=7
  omega
open Go.RowKit Go.Proofs.YtpkbiafhnflmnaaGreatDoor.Fix Go.Proofs.YtpkbiafhnflmnaaGreatDoor.Ac Go.Sort Go.Maps Go.Proofs.YtpkbiafhnflmnaaGreatDoor.Mix
set_option maxHeartbeats 2000000 in
set_option maxRecDepth 100000 in
theorem cash_idx_some (b off c:Nat) (A:List Am) (P:Am->Bool) (B:Nat) (w:World) (hn:A.length<=140737488351232)
  (hc:∀ j u,(A.flatMap encA)[j]? = some u->w.cell? ⟨b,off + j,none⟩ = some u) (hb:b < w.heap.size)
  (hq:∀ W,Below w.heap.size w W->∀ k (hk:k < A.length),Calls Tryz.prog 33 #[accV (A[k]'hk).id (A[k]'hk).bal (A[k]'hk).p (A[k]'hk).n (A[k]'hk).c ,.pointer (some ⟨B,0,none⟩)] W fun e w'=>e=.returned (.bool (P (A[k]'hk))) /\ Below W.heap.size W w') :
  Calls Tryz.prog 16 #[.slice (some ⟨b,off,none⟩) A.length c,.func (.func 33) #[] #[.pointer (some ⟨B,0,none⟩)]] w fun e w'=>e=.returned (.int .i64 (idxP P A 0)) /\ Below w.heap.size w w':=by
 have eg:∀ args w,(callFunc 33 args).run Tryz.prog w=.ok (.enter 33 args) w:=enters_of Tryz.func33 (by kernel_rfl) rfl
 generalize hr:idxP P A 0=r; have R0:Hid (idxP P (A.drop 0) 0=r):=hr; clear hr; have HC:=hide hc; have HQ:=hide hq; clear hc hq; generalize hxn:A.length=n at hn ⊢; have N:=hide hxn; clear hxn
 go_enter Tryz.func16,Tryz.ntmps16
 go_wp2
 go_loopw [8] (fun i wr=>∃ k:Nat,k<=n /\ i=.int .i64 k /\ Hid (Below w.heap.size w wr) /\ Hid (idxP P (A.drop k) k=r)) (fun i _=>n - (intOf i).toNat)
 case atStart=>exact ⟨0,Nat.zero_le _,rfl,Below.refl _ _,R0⟩
 case round =>
  obtain ⟨k,hk,rfl,BW,R⟩:=hrel
  by_cases hlt:k < n
  ·have hltz:(k:Int) < (n:Int):=by omega
   have hkx:k < A.length:=by rw [N.out]; exact hlt
   obtain ⟨c0,c1,c2⟩:=arow_cells (w:=wr) (b:=b) (off:=off) (fun j u hu=>(BW.out.cell hb).trans (HC.out j u hu)) hkx
   have hcall:=HQ.out wr BW.out k hkx; have HH:=hide (idxP_at P hkx); generalize (A[k]'hkx).id=z1 at c0 hcall; generalize (A[k]'hkx).bal=z2 at c1 hcall; generalize (A[k]'hkx).p=z3 at c2 hcall; generalize (A[k]'hkx).n=z4 at c2 hcall; generalize (A[k]'hkx).c=z5 at c2 hcall
   cases hh:P (A[k]'hkx) with
   |true =>
    rw [hh] at hcall
    go_wp2_with (go_at_fn 33; refine hcall.mono ?_; rintro e w' ⟨rfl,hb'⟩)
    go_ret
    refine ⟨?_,BW.out.trans (hb'.mono BW.out.size)⟩
    rw [<- R.out,HH.out,if_pos hh]
    rfl
   |false =>
    rw [hh] at hcall
    go_wp2_with (go_at_fn 33; refine hcall.mono ?_; rintro e w' ⟨rfl,hb'⟩)
    go_roundw
    case rel =>
     refine ⟨k + 1,by omega,by go_num,BW.out.trans (hb'.mono BW.out.size),?_⟩
     show idxP P (A.drop (k + 1)) (k + 1)=r
     rw [<- R.out,HH.out,hh]
     rfl
    case measure=>simp [intOf]; omega
  ·have hk':k=n:=by omega
   subst hk'
   go_wp2
   go_ret
   refine ⟨?_,BW.out⟩
   rw [<- R.out,<- N.out,List.drop_length]
   rfl
theorem cash_idx (p:Option Addr) (c:Nat) (A:List Am) (P:Am->Bool) (B:Nat) (w:World) (hn:A.length<=140737488351232) (h:ARow w p A)
  (hq:∀ W,Below w.heap.size w W->∀ k (hk:k < A.length),Calls Tryz.prog 33 #[accV (A[k]'hk).id (A[k]'hk).bal (A[k]'hk).p (A[k]'hk).n (A[k]'hk).c ,.pointer (some ⟨B,0,none⟩)] W fun e w'=>e=.returned (.bool (P (A[k]'hk))) /\ Below W.heap.size W w') :
  Calls Tryz.prog 16 #[.slice p A.length c,.func (.func 33) #[] #[.pointer (some ⟨B,0,none⟩)]] w fun e w'=>e=.returned (.int .i64 (idxP P A 0)) /\ Below w.heap.size w w':=by
 by_cases hx:A=[]
 ·subst hx
  refine (accIdx_none p c _ w).mono ?_
  rintro e w' ⟨rfl,rfl⟩
  exact ⟨rfl,Below.refl _ _⟩
 ·rcases h with h | ⟨b,off,rfl,hc⟩
  ·exact absurd h hx
  ·exact cash_idx_some b off c A P B w hn hc (World.block_lt_of_cell? w _ (arow_cells hc (List.length_pos_iff.2 hx)).1) hq
theorem cash1_any (b:Am) (id:Int) (B:Nat) (w:World) (k0:w.cell? ⟨B,0,none⟩ = some (.int .i64 id)) :
  Calls Tryz.prog 33 #[accV b.id b.bal b.p b.n b.c,.pointer (some ⟨B,0,none⟩)] w fun e w'=>e=.returned (.bool (b.id == id)) /\ Below w.heap.size w w':=by
 have k0:=fun o=>cell_old k0 o
 go_enter Tryz.func33,Tryz.ntmps33
 go_wp2
 go_ret
 exact ⟨rfl,Ac.below_alloc _ _⟩
abbrev depC (who n:Int):Cm:=⟨1,who,0,n,(0,0,0,0,0),0,false⟩
abbrev wdrC (who n:Int):Cm:=⟨2,who,0,n,(0,0,0,0,0),0,false⟩
/-- who is there when somebody came: as they were, or with nothing. -/
theorem cash_acc {s:Tn} {who:Int} (hs:Srt s.accs) {a:Acc} (ha:a ∈ (openR s who).accs):(∀ b,b ∈ s.accs->b.1=a.1->b=a) /\ ((∀ b,b ∈ s.accs->¬ b.1=a.1)->a=(a.1,0,List.replicate s.mkts.length 0)):=by
 rcases open_mem' ha with h | ⟨h,e⟩
 ·refine ⟨fun b hb e=>?_,fun hn=>absurd rfl (hn a h)⟩
  obtain ⟨i,hi,e1⟩:=List.getElem_of_mem hb; obtain ⟨j,hj,e2⟩:=List.getElem_of_mem h
  by_cases hij:i=j
  ·subst hij
   rw [<- e1,<- e2]
  ·have:=ids_ne hs hi hj hij
   rw [accAt_get hi,accAt_get hj,e1,e2] at this; exact absurd e this
 ·subst e
  refine ⟨fun b hb e=>?_,fun _=>rfl⟩
  unfold hasA at h; rw [List.any_eq_false] at h
  exact absurd e (by simpa using h b hb)
/-- what came of a deposit. -/
theorem dep_rej {s:Tn} {who n:Int} (h:checkE s=0) (hr:rejectedL (doR s (depC who n)).1.evs=true):∃ e,(doR s (depC who n)).1.evs=[evRejected e] /\ (e=3 \/ e=5 \/ e=7):=by
 obtain ⟨e,h1,h2⟩:=do_rej h hr
 have h3:depositR { s with evs:=[] } who n=.error e:=h1
 exact ⟨e,by rw [h2],deposit_errs h3⟩
/-- what came of taking it out again. -/
theorem wdr_rej {s:Tn} {who n:Int} (h:checkE s=0) (hr:rejectedL (doR s (depC who n)).1.evs=false) (hr2:rejectedL (doR (doR s (depC who n)).1 (wdrC who n)).1.evs=true) :
  ∃ e,(doR (doR s (depC who n)).1 (wdrC who n)).1 = { (doR s (depC who n)).1 with evs:=[evRejected e] } /\ (e=7 \/ e=8):=by
 obtain ⟨hs,hS⟩:=checkE_zero.1 h
 have h1:depositR { s with evs:=[] } who n=.ok (doR s (depC who n)).1:=do_ok h hr
 have h2:=(do_cases (depC who n) h).2.1; obtain ⟨e,g1,g2⟩:=do_rej h2 hr2; exact ⟨e,g2,cash_errs h1 g1 (str_evs hs []) (sums_evs hS [])⟩
theorem wdr_ok {s:Tn} {who n:Int} (h:checkE s=0) (hr:rejectedL (doR s (depC who n)).1.evs=false) (hr2:rejectedL (doR (doR s (depC who n)).1 (wdrC who n)).1.evs=false) :
  (∀ a,a ∈ (doR (doR s (depC who n)).1 (wdrC who n)).1.accs->(∀ b,b ∈ s.accs->b.1=a.1->b=a) /\ ((∀ b,b ∈ s.accs->¬ b.1=a.1)->a=(a.1,0,List.replicate s.mkts.length 0))) /\
  (doR (doR s (depC who n)).1 (wdrC who n)).1.inn=s.inn + n /\ (doR (doR s (depC who n)).1 (wdrC who n)).1.out=s.out + n /\ (doR (doR s (depC who n)).1 (wdrC who n)).1.ins=s.ins /\ (doR (doR s (depC who n)).1 (wdrC who n)).1.res=s.res /\ (1<=n /\ n<=1000000000000) /\ (doR (doR s (depC who n)).1 (wdrC who n)).1.mkts.length=s.mkts.length:=by
 obtain ⟨hs,hS⟩:=checkE_zero.1 h
 have h1:depositR { s with evs:=[] } who n=.ok (doR s (depC who n)).1:=do_ok h hr
 have h2:=(do_cases (depC who n) h).2.1
 have h3:withdrawR { (doR s (depC who n)).1 with evs:=[] } who n=.ok (doR (doR s (depC who n)).1 (wdrC who n)).1:=do_ok h2 hr2
 obtain ⟨c1,c2,c3,c4,c5⟩:=cash_back h1 h3 (str_evs hs []) (sums_evs hS []); obtain ⟨hp,-⟩:=deposit_is h1 (str_evs hs []) (sums_evs hS []); obtain ⟨p1,p2⟩:=pay_ok hp; have m1:=(turn_keeps (do_ok h hr) (str_evs hs []) (sums_evs hS [])).1; have m2:=(turn_keeps (do_ok h2 hr2) (str_evs m1.str []) (sums_evs m1.sums [])).1
 refine ⟨fun a ha=>?_,c2,c3,c4,c5,by omega,m2.len.trans m1.len⟩
 rw [c1] at ha
 exact cash_acc (s:={ s with evs:=[] }) hs.srt ha
open Go.RowKit Go.Proofs.YtpkbiafhnflmnaaGreatDoor.Fix Go.Proofs.YtpkbiafhnflmnaaGreatDoor.Ac Go.Sort Go.Maps Go.Proofs.YtpkbiafhnflmnaaGreatDoor.Mix
theorem two_blk (w:World) (o o':Obj):((w.alloc o).alloc o').drew.heap[w.heap.size]? = some o /\ ((w.alloc o).alloc o').drew.heap[w.heap.size + 1]? = some o':=by
 refine ⟨blk_below (heap_alloc_new w o) ((Ac.below_alloc _ _).drew),?_⟩
 have:=heap_alloc_new (w.alloc o) o'
 rw [show (w.alloc o).heap.size=w.heap.size + 1 by simp] at this
 exact this
theorem zRow {w:World} {g n:Nat} (h:w.heap[g]? = some (.cells (zInts n) 3 (0,0))):Row w (some ⟨g,0,none⟩) (List.replicate n 0):=by
 refine .inr ⟨g,0,rfl,fun i hi=>?_⟩
 rw [Nat.zero_add,(blk_cell h i).1]; simp only [List.length_replicate] at hi; unfold zInts; simp [hi]
set_option maxHeartbeats 8000000 in
set_option maxRecDepth 100000 in
theorem law_cash (v:Value) (s:Tn) (who n:Int) (w:World) (h:VIn w v s) (hL:Rk.Laid w) :
  Calls Tryz.prog 8 #[v,.int .i64 who,.int .i64 n] w fun e w'=>e=.returned (.bool true) /\ Below w.heap.size w w':=by
 obtain ⟨p,n1,cc,p',n2,cc',hv⟩:=vnew_is h; subst hv; obtain ⟨W,hW⟩:∃ W,W=w.alloc (.cells #[.slice p n1 cc,.slice p' n2 cc',.int .i64 s.ins,.int .i64 s.res,.int .i64 s.next,.int .i64 s.inn,.int .i64 s.out] 25):=⟨_,rfl⟩
 have b0:Below w.heap.size w W:=by rw [hW]; exact Ac.below_alloc _ _
 have E0:Hid (W.heap[w.heap.size]? = some (venO (.slice p n1 cc) (.slice p' n2 cc') s)):=by
  show W.heap[w.heap.size]? = _
  rw [hW]; exact heap_alloc_new w _
 have DO:Hid (Calls Tryz.prog 11 #[venV (.slice p n1 cc) (.slice p' n2 cc') s,.agg #[.int .i64 1,.int .i64 who,.int .i64 0,.int .i64 n,.int .i64 0,.int .i64 0,.int .i64 0,.int .i64 0,.int .i64 0,.int .i64 0,.bool false]] W (DoPost s (depC who n) W)) :=
  venue_do _ s (depC who n) W (h.below b0) (hL.next b0)
 have VI:=hide h; have LD:=hide hL; have HW:=hide hW; have BW:=hide b0; clear hW b0 h hL; obtain ⟨a0,a1,a2,a3,a4,a5,a6⟩:=ven_cells E0.out
 go_enter Tryz.func8,Tryz.ntmps8
 go_wp2_with (rw [<- HW.out])
 refine DO.out.mono ?_
 rintro e X ⟨v',ev,rfl,hbX,hvX,heX⟩
 obtain ⟨q,qn,qc,q',qn',qc',rfl⟩:=vnew_is hvX; obtain ⟨X1,hX1⟩:∃ X1,X1=X.alloc (.cells #[.slice q qn qc,.slice q' qn' qc',.int .i64 (doR s (depC who n)).1.ins,.int .i64 (doR s (depC who n)).1.res,.int .i64 (doR s (depC who n)).1.next,.int .i64 (doR s (depC who n)).1.inn,.int .i64 (doR s (depC who n)).1.out] 25):=⟨_,rfl⟩
 have hb1:Below X.heap.size X X1:=by rw [hX1]; exact Ac.below_alloc _ _
 have N1:=hide (hbX.trans (hb1.mono hbX.size)); have B1:=hide (BW.out.trans (N1.out.mono BW.out.size))
 have F1:Hid (X1.heap[X.heap.size]? = some (venO (.slice q qn qc) (.slice q' qn' qc') (doR s (depC who n)).1)):=by show X1.heap[X.heap.size]? = _; rw [hX1]; exact heap_alloc_new X _
 have VX1:=hide ((hvX.below hb1).mono (Nat.zero_le _)); have EX1:=hide ((heX.below hb1).mono (Nat.zero_le _)); have HX1:=hide hX1
 obtain ⟨pe,pec,rfl⟩:∃ p c',ev=.slice p (doR s (depC who n)).1.evs.length c':=by obtain ⟨q,c',e,-⟩:=heX; exact ⟨q,c',e⟩
 clear hX1 hb1 hvX heX hbX; have F0:=hide (blk_below E0.out N1.out); have OP:=hide (opened_any X1 (LD.out.next B1.out)); have L1:=hide (LD.out.next B1.out); clear DO HW E0 a0 a1 a2 a3 a4 a5 a6
 by_cases hce:checkE s=0
 ·obtain ⟨z1,z2,-⟩:=do_cases (depC who n) hce
  have DR:=hide (dep_rej (who:=who) (n:=n) hce); have WR:=hide (wdr_rej (who:=who) (n:=n) hce); have WO:=hide (wdr_ok (who:=who) (n:=n) hce); have STR:=hide (checkE_zero.1 hce).1; rw [z1]; obtain ⟨T,hT⟩:∃ T,T=(doR s (depC who n)).1:=⟨_,rfl⟩; rw [<- hT] at HX1 F1 VX1 EX1 z2 DR WR WO ⊢; clear hT z1
  go_wp2_with (rw [<- HX1.out])
  refine OP.out.mono ?_
  rintro e Y ⟨rfl,hbY⟩
  have BY:=hide (B1.out.trans (hbY.mono B1.out.size)); have LY:=hide (L1.out.next hbY); have Y0:=hide (blk_below F0.out hbY); have Y1:=hide (blk_below F1.out hbY); have VY:=hide (VX1.out.below hbY); have EY:=hide (EX1.out.below hbY); have RJ:=hide (rejected_any _ _ Y EY.out); clear OP HX1 hbY F0 F1 VX1 EX1 B1 L1 N1
  go_wp2_with fail
  refine RJ.out.mono ?_
  rintro e Z' ⟨rfl,hZ'⟩
  rw [hZ']; clear hZ' RJ; cases hrj:rejectedL T.evs
  ·clear DR
   have DO2:Hid (Calls Tryz.prog 11 #[venV (.slice q qn qc) (.slice q' qn' qc') T,.agg #[.int .i64 2,.int .i64 who,.int .i64 0,.int .i64 n,.int .i64 0,.int .i64 0,.int .i64 0,.int .i64 0,.int .i64 0,.int .i64 0,.bool false]] Y (DoPost T (wdrC who n) Y)) :=
    venue_do _ T (wdrC who n) Y VY.out LY.out
   obtain ⟨b0,b1,b2,b3,b4,b5,b6⟩:=ven_cells Y1.out
   go_wp2_with fail
   refine DO2.out.mono ?_
   rintro e U ⟨v',ev,rfl,hbX,hvX,heX⟩
   obtain ⟨r,rn,rc,r',rn',rc',rfl⟩:=vnew_is hvX; obtain ⟨U1,hX1⟩:∃ X1,X1=U.alloc (.cells #[.slice r rn rc,.slice r' rn' rc',.int .i64 (doR T (wdrC who n)).1.ins,.int .i64 (doR T (wdrC who n)).1.res,.int .i64 (doR T (wdrC who n)).1.next,.int .i64 (doR T (wdrC who n)).1.inn,.int .i64 (doR T (wdrC who n)).1.out] 25):=⟨_,rfl⟩
   have hb1:Below U.heap.size U U1:=by rw [hX1]; exact Ac.below_alloc _ _
   have N2:=hide (hbX.trans (hb1.mono hbX.size)); have B2:=hide (BY.out.trans (N2.out.mono BY.out.size))
   have F2:Hid (U1.heap[U.heap.size]? = some (venO (.slice r rn rc) (.slice r' rn' rc') (doR T (wdrC who n)).1)):=by show U1.heap[U.heap.size]? = _; rw [hX1]; exact heap_alloc_new U _
   have VX2:=hide ((hvX.below hb1).mono (Nat.zero_le _)); have EX2:=hide ((heX.below hb1).mono (Nat.zero_le _)); have HX2:=hide hX1
   obtain ⟨pr,prc,rfl⟩:∃ p c',ev=.slice p (doR T (wdrC who n)).1.evs.length c':=by obtain ⟨q,c',e,-⟩:=heX; exact ⟨q,c',e⟩
   clear hX1 hb1 hvX heX hbX; have G0:=hide (blk_below Y0.out N2.out); have G1:=hide (blk_below Y1.out N2.out); have VT:=hide (VY.out.below N2.out); have VS:=hide (VI.out.below B2.out); clear DO2 EY Y0 Y1 LY BY VY b0 b1 b2 b3 b4 b5 b6 VI LD; obtain ⟨z3,z4,-⟩:=do_cases (wdrC who n) z2; rw [z3]; have K4:=(checkE_zero.1 z4).1; obtain ⟨V,hV⟩:∃ V,V=(doR T (wdrC who n)).1:=⟨_,rfl⟩; rw [<- hV] at HX2 F2 VX2 EX2 K4 WR WO ⊢; have RJ2:=hide (rejected_any _ _ U1 EX2.out); clear hV z3 z4 N2
   go_wp2_with (rw [<- HX2.out])
   refine RJ2.out.mono ?_
   rintro e Z' ⟨rfl,hZ'⟩
   rw [hZ']; clear hZ' RJ2 HX2; cases hrj2:rejectedL V.evs
   ·obtain ⟨wacc,y1,y2,y3,y4,⟨hn1,hn2⟩,hML⟩:=WO.out hrj hrj2
    obtain ⟨q9,q9',g9,g9',A,M,e,-,-,vr,-⟩:=VS.out; simp only [Value.agg.injEq,Array.mk.injEq,List.cons.injEq,Value.slice.injEq,and_true] at e; obtain ⟨⟨rfl,rfl,rfl⟩,⟨rfl,rfl,rfl⟩⟩:=e; obtain ⟨r9,r9',f9,f9',A',M',e,-,-,vr',-⟩:=VX2.out; simp only [Value.agg.injEq,Array.mk.injEq,List.cons.injEq,Value.slice.injEq,and_true] at e; obtain ⟨⟨rfl,rfl,rfl⟩,⟨rfl,rfl,rfl⟩⟩:=e; obtain ⟨hl1,hl2⟩:=few_vin vr; obtain ⟨hl3,hl4⟩:=few_vin vr'; obtain ⟨m,hm⟩:∃ m,m=A'.length:=⟨_,rfl⟩
    have hm8:m<=8:=by have:=K4.few; omega
    have hN:∀ a,a ∈ A->a.n=s.mkts.length:=fun a ha=>by
     have h1:a.acc ∈ s.accs:=by rw [<- vr.accs]; exact List.mem_map_of_mem ha
     have h2:=acc_len (STR.out.acc _ h1); have h3:=(vr.eachA a ha).len; exact h3.symm.trans (Int.ofNat_inj.1 h2)
    have hN':∀ a,a ∈ A'->a.n=s.mkts.length:=fun a ha=>by
     have h1:a.acc ∈ V.accs:=by rw [<- vr'.accs]; exact List.mem_map_of_mem ha
     have h2:=acc_len (K4.acc _ h1); have h3:=(vr'.eachA a ha).len; exact (h3.symm.trans (Int.ofNat_inj.1 h2)).trans hML
    have hk2:s.mkts.length<=2:=STR.out.m2; obtain ⟨ml,hml⟩:∃ ml,ml=s.mkts.length:=⟨_,rfl⟩; rw [<- hml] at hN hN' hk2 wacc
    have IX:Hid (∀ W,Below U1.heap.size U1 W->∀ id B,W.cell? ⟨B,0,none⟩ = some (.int .i64 id)->Calls Tryz.prog 16 #[.slice p A.length cc,.func (.func 33) #[] #[.pointer (some ⟨B,0,none⟩)]] W fun e w'=>e=.returned (.int .i64 (idxP (fun b:Am=>b.id == id) A 0)) /\ Below W.heap.size W w'):=fun W hW id B kB =>
     cash_idx p cc A (fun b=>b.id == id) B W vr.na (arow_below vr.rowA hW) (fun W' hW' k hk=>cash1_any _ id B W' ((hW'.cell (World.block_lt_of_cell? _ _ kB)).trans kB))
    have MK:∀ W:World,(Instr.makeSlice 38 (.int .i64 (ml:Nat)) (.int .i64 (ml:Nat))).run Tryz.prog W=.ok (.slice (some ⟨W.heap.size,0,none⟩) ml ml) (W.alloc (.cells (zInts ml) 3)):=fun W=>make_ints ml (by omega) W
    have HA:=hide vr.rowA; have HA':=hide vr'.rowA; have HM:=hide hm; rw [<- hm] at F2; obtain ⟨b0,b1,b2,b3,b4,b5,b6⟩:=ven_cells F2.out; obtain ⟨a0,a1,a2,a3,a4,a5,a6⟩:=ven_cells G0.out; rw [y1] at b5; rw [y2] at b6; rw [y3] at b2; rw [y4] at b3; have HN:=hide hN; have HN':=hide hN'; have VR:=hide vr; have VR':=hide vr'; have WACC:=hide wacc; have ins:=STR.out.inn; have out:=STR.out.out; unfold rng at ins out; clear hN hN' hml vr vr' wacc hm WO WR VS VX2 VT EX2 G1 F2 G0 y1 y2 y3 y4 hl1 hl2 hl3 hl4 hML K4
    go_wp2_with fail
    go_loopw [85] (fun i wr=>∃ (k:Nat),k<=m /\ i=.int .i64 k /\ Hid (Below U1.heap.size U1 wr)) (fun i _=>m - (intOf i).toNat)
    case atStart=>exact ⟨0,Nat.zero_le _,rfl,Below.refl _ _⟩
    case round =>
     obtain ⟨k,hk,rfl,J⟩:=hrel
     by_cases hlt:k < m
     ·have hltz:(k:Int) < (m:Int):=by omega
      have hkA:k < A'.length:=by rw [<- HM.out]; exact hlt
      obtain ⟨b,off,rfl,hc⟩:∃ b off,r=some ⟨b,off,none⟩ /\ ∀ j u,(A'.flatMap encA)[j]? = some u->wr.cell? ⟨b,off + j,none⟩ = some u:=by
       rcases arow_below HA'.out J.out with e | e
       ·rw [e] at hkA; simp at hkA
       ·exact e
      obtain ⟨c0,c1,c2⟩:=arow_cells hc hkA; have hzn:(A'[k]'hkA).n=ml:=HN'.out _ (List.getElem_mem hkA); rw [hzn] at c2; have AM:=hide (List.getElem_mem hkA); generalize A'[k]'hkA=a at *; clear hc; obtain ⟨z1,hz1⟩:∃ z1,z1=a.id:=⟨_,rfl⟩; obtain ⟨z2,hz2⟩:∃ z2,z2=a.bal:=⟨_,rfl⟩; obtain ⟨z3,hz3⟩:∃ z3,z3=a.p:=⟨_,rfl⟩; obtain ⟨z5,hz5⟩:∃ z5,z5=a.c:=⟨_,rfl⟩; rw [<- hz1] at c0; rw [<- hz2] at c1; rw [<- hz3,<- hz5] at c2; have hao:=VR'.out.eachA a AM.out
      have hav:a.acc ∈ V.accs:=by rw [<- VR'.out.accs]; exact List.mem_map_of_mem AM.out
      obtain ⟨wa1,wa2⟩:=WACC.out _ hav
      have SAME0:Hid ((∀ b,b ∈ A->(b.id == z1)=false)->∀ G P,Below U1.heap.size U1 P->Row P (some ⟨G,0,none⟩) (List.replicate ml 0)->Calls Tryz.prog 34 #[accV z1 z2 z3 ml z5,accV z1 0 (some ⟨G,0,none⟩) ml ml] P fun e w'=>e=.returned (.bool true) /\ Below P.heap.size P w'):=fun hno G P hP hr=>by
       have ha:=hao.below hP
       have e:=wa2 (fun b hb=>by
        rw [<- VR.out.accs] at hb; obtain ⟨b',hb',rfl⟩:=List.mem_map.1 hb; have:=hno b' hb'; rw [hz1] at this
        show ¬ b'.id=a.id
        simpa using this)
       have:=accSame_any z1 z2 z3 ml z5 a.pos z1 0 (some ⟨G,0,none⟩) ml (List.replicate ml 0) P (by rw [ha.len,hzn]) (by simp) (by omega) (by rw [hz3]; exact ha.row) hr
       rw [show accEq z1 z2 a.pos z1 0 (List.replicate ml 0)=true from by
        have e2:a.bal=0:=congrArg (·.2.1) e
        have e3:a.pos=List.replicate ml 0:=congrArg (·.2.2) e
        unfold accEq; rw [hz2,e2,e3]; simp] at this
       exact this
      have SAME1:Hid (∀ j (hj:j < A.length),((A[j]'hj).id == z1)=true->∀ P,Below U1.heap.size U1 P->Calls Tryz.prog 34 #[accV z1 z2 z3 ml z5,accV (A[j]'hj).id (A[j]'hj).bal (A[j]'hj).p ml (A[j]'hj).c] P fun e w'=>e=.returned (.bool true) /\ Below P.heap.size P w'):=fun j hj hid P hP=>by
       have ha:=hao.below hP; have hb:=(VR.out.eachA _ (List.getElem_mem hj)).below hP; have hbn:=HN.out _ (List.getElem_mem hj)
       have e:=wa1 (A[j]'hj).acc (by rw [<- VR.out.accs]; exact List.mem_map_of_mem (List.getElem_mem hj)) (show (A[j]'hj).id=a.id by rw [hz1] at hid; simpa using hid)
       have:=accSame_any z1 z2 z3 ml z5 a.pos (A[j]'hj).id (A[j]'hj).bal (A[j]'hj).p (A[j]'hj).c (A[j]'hj).pos P (by rw [ha.len,hzn]) (by rw [hb.len,hbn]) (by omega) (by rw [hz3]; exact ha.row) hb.row
       rw [show accEq z1 z2 a.pos (A[j]'hj).id (A[j]'hj).bal (A[j]'hj).pos=true from by
        have e1:(A[j]'hj).id=a.id:=congrArg (·.1) e
        have e2:(A[j]'hj).bal=a.bal:=congrArg (·.2.1) e
        have e3:(A[j]'hj).pos=a.pos:=congrArg (·.2.2) e
        unfold accEq; rw [hz1,hz2,e1,e2,e3]; simp] at this
       exact this
      clear hz1 hz2 hz3 hz5 hzn hao hav wa1 wa2; obtain ⟨S,hS⟩:∃ S,S=wr.alloc (.cells #[.int .i64 z1,.int .i64 z2,.slice z3 ml z5] 40):=⟨_,rfl⟩
      have hbS:Below wr.heap.size wr S:=by rw [hS]; exact Ac.below_alloc _ _
      have hnS:S.heap[wr.heap.size]? = some (.cells #[.int .i64 z1,.int .i64 z2,.slice z3 ml z5] 40):=by rw [hS]; exact heap_alloc_new _ _
      have k0:=(blk_cell hnS 0).1; have k1:=(blk_cell hnS 1).1; have k2:=(blk_cell hnS 2).1
      simp only [List.getElem?_toArray,List.getElem?_cons_zero,List.getElem?_cons_succ] at k0 k1 k2
      have JS:=hide (J.out.trans (hbS.mono J.out.size)); have HS:=hide hS; clear hS hbS hnS
      have x0:∀ Y,Below S.heap.size S Y->Y.cell? ⟨wr.heap.size,0,none⟩ = some (.int .i64 z1):=fun Y hY=>(hY.cell (World.block_lt_of_cell? _ _ k0)).trans k0
      have x2:∀ Y,Below S.heap.size S Y->Y.cell? ⟨wr.heap.size,2,none⟩ = some (.slice z3 ml z5):=fun Y hY=>(hY.cell (World.block_lt_of_cell? _ _ k2)).trans k2
      have XD:Hid (Below S.heap.size S S.drew):=(Below.refl _ S).drew; have sx:S.heap.size<=S.heap.size + 1:=Nat.le_succ _
      go_wp2_with (rw [<- HS.out])
      go_region_held3 (fun w'=>Below S.heap.size S w') (first | (with_reducible assumption) | (with_reducible exact XD.out) | (repeat (first | (with_reducible assumption) | (with_reducible exact XD.out) | (with_reducible exact Below.refl _ _) | (with_reducible refine Below.drew ?_) | (with_reducible refine Below.alloc ?_ ?_ _) | (with_reducible refine Below.setCell ?_ ?_ _) | (exact Below.size (by with_reducible assumption)) | (exact Nat.le_refl _) | (exact sx) | (with_reducible refine (?_:Below S.heap.size S _).size) | (simp; done)))) (fail)
      ·obtain ⟨Z,hZ⟩:∃ Z,Z=((S.alloc (.cells (zInts ml) 3)).alloc (.cells #[.int .i64 z1,.int .i64 0,.slice (some ⟨S.heap.size,0,none⟩) ml ml] 40)).drew:=⟨_,rfl⟩
       rw [<- hZ]
       have hg:Z.heap[S.heap.size]? = some (.cells (zInts ml) 3):=by rw [hZ]; exact (two_blk S _ _).1
       have hbo:Z.heap[S.heap.size + 1]? = some (.cells #[.int .i64 z1,.int .i64 0,.slice (some ⟨S.heap.size,0,none⟩) ml ml] 40):=by rw [hZ]; exact (two_blk S _ _).2
       have hbZ:Below S.heap.size S Z:=by rw [hZ]; exact (Ac.below_alloc2 S _ _).drew
       clear hZ; have JZ:=hide (JS.out.trans (hbZ.mono JS.out.size)); have kz0:=(hbZ.cell (World.block_lt_of_cell? _ _ k0)).trans k0; have kz1:=(hbZ.cell (World.block_lt_of_cell? _ _ k1)).trans k1; have kz2:=(hbZ.cell (World.block_lt_of_cell? _ _ k2)).trans k2; have ab0:=(JZ.out.cell (World.block_lt_of_cell? _ _ a0)).trans a0; have IZ:=hide (IX.out Z JZ.out z1 _ kz0)
       have NE:¬ wr.heap.size=(S.heap.size + 1):=by have:=(World.block_lt_of_cell? _ _ k0); dsimp only at this; omega
       have HBO:=hide hbo; have HG:=hide hg
       have HWS:Hid (U1.heap.size<=(S.heap.size + 1)):=by have:=JS.out.size; show U1.heap.size<=(S.heap.size + 1); omega
       clear hbo hg hbZ HS k0 k1 k2 x0 x2 XD sx c0 c1 c2 JS; generalize S.heap.size + 1=bo at *; generalize S.heap.size=g at *
       go_wp2_with fail
       refine IZ.out.mono ?_
       rintro e P ⟨rfl,hbP⟩
       have JP:=hide (JZ.out.trans (hbP.mono JZ.out.size)); have kp0:=(hbP.cell (World.block_lt_of_cell? _ _ kz0)).trans kz0; have kp1:=(hbP.cell (World.block_lt_of_cell? _ _ kz1)).trans kz1; have kp2:=(hbP.cell (World.block_lt_of_cell? _ _ kz2)).trans kz2; have ap0:=(hbP.cell (World.block_lt_of_cell? _ _ ab0)).trans ab0; have PBO:=hide (blk_below HBO.out hbP); have PG:=hide (blk_below HG.out hbP); clear IZ hbP kz0 kz1 kz2 ab0 HBO HG
       rcases idxP_ways (fun b:Am=>b.id == z1) A 0 with ⟨i1,i2⟩ | ⟨j,hj,i1,i2,-⟩
       ·rw [i1]
        have SM:=hide (SAME0.out i2 g P JP.out (zRow PG.out)); have y0:=(blk_cell PBO.out 0).1; have y1:=(blk_cell PBO.out 1).1; have y2:=(blk_cell PBO.out 2).1
        simp only [List.getElem?_toArray,List.getElem?_cons_zero,List.getElem?_cons_succ] at y0 y1 y2
        clear SAME0 SAME1 i1 i2
        go_wp2_with fail
        refine SM.out.mono ?_
        rintro e R ⟨rfl,hbR⟩
        go_wp2
        go_roundw
        case rel=>exact ⟨k + 1,by omega,by go_num,JP.out.trans (hbR.mono JP.out.size)⟩
        case measure=>simp [intOf]; omega
       ·rw [i1,Nat.zero_add]
        have hjz:(j:Int) < (A.length:Int):=by omega
        obtain ⟨bb,oo,rfl,hc⟩:∃ b off,p=some ⟨b,off,none⟩ /\ ∀ j u,(A.flatMap encA)[j]? = some u->P.cell? ⟨b,off + j,none⟩ = some u:=by
         rcases arow_below HA.out JP.out with e | e
         ·rw [e] at hj; simp at hj
         ·exact e
        obtain ⟨d0,d1,d2⟩:=arow_cells hc hj; rw [HN.out _ (List.getElem_mem hj)] at d2; have SM:=hide (SAME1.out j hj i2); obtain ⟨w0,f0⟩:=blk_cell PBO.out 0; obtain ⟨w1,f1⟩:=blk_cell PBO.out 1; obtain ⟨w2,f2⟩:=blk_cell PBO.out 2
        simp only [List.getElem?_toArray,List.getElem?_cons_zero,List.getElem?_cons_succ] at w0 w1 w2
        clear hc SAME0 SAME1 i1 i2 PBO PG HA HA' IX MK; generalize (A[j]'hj).id=t1 at *; generalize (A[j]'hj).bal=t2 at *; generalize (A[j]'hj).p=t3 at *; generalize (A[j]'hj).c=t5 at *; obtain ⟨u0,w0⟩:∃ u,P.cell? ⟨bo,0,none⟩ = some u:=⟨_,w0⟩; obtain ⟨u1,w1⟩:∃ u,P.cell? ⟨bo,1,none⟩ = some u:=⟨_,w1⟩; obtain ⟨u2,w2⟩:∃ u,P.cell? ⟨bo,2,none⟩ = some u:=⟨_,w2⟩; obtain ⟨Q,hQ⟩:∃ Q,Q=((P.setCell ⟨bo,0,none⟩ (.int .i64 t1)).setCell ⟨bo,1,none⟩ (.int .i64 t2)).setCell ⟨bo,2,none⟩ (.slice t3 ml t5):=⟨_,rfl⟩
        have JQ:Hid (Below U1.heap.size U1 Q):=by
         rw [hQ]; have hh:U1.heap.size<=bo:=HWS.out; exact ((JP.out.setCell (p:=⟨bo,0,none⟩) hh _).setCell (p:=⟨bo,1,none⟩) hh _).setCell (p:=⟨bo,2,none⟩) hh _
        have q0:Q.cell? ⟨bo,0,none⟩ = some (.int .i64 t1):=by
         rw [hQ,cell_set_off _ _ (by omega),cell_set_off _ _ (by omega)]
         exact World.cell?_setCell_same _ _ _ w0
        have q1:Q.cell? ⟨bo,1,none⟩ = some (.int .i64 t2):=by
         rw [hQ,cell_set_off _ _ (by omega)]
         refine World.cell?_setCell_same _ _ _ (u:=u1) ?_
         rw [cell_set_off _ _ (by omega)]
         exact w1
        have q2:Q.cell? ⟨bo,2,none⟩ = some (.slice t3 ml t5):=by
         rw [hQ]
         refine World.cell?_setCell_same _ _ _ (u:=u2) ?_
         rw [cell_set_off _ _ (by omega),cell_set_off _ _ (by omega)]
         exact w2
        have hbq:But (fun b=>b=bo) P Q:=by
         rw [hQ]; exact ((but_one P ⟨bo,0,none⟩ _).setCell (p:=⟨bo,1,none⟩) (.inl rfl) _).setCell (p:=⟨bo,2,none⟩) (.inl rfl) _
        have kq0:=hbq.cell (p:=⟨wr.heap.size,0,none⟩) NE kp0; have kq1:=hbq.cell (p:=⟨wr.heap.size,1,none⟩) NE kp1; have kq2:=hbq.cell (p:=⟨wr.heap.size,2,none⟩) NE kp2; have SQ:=hide (SM.out Q JQ.out); have HQ:=hide hQ; clear hQ hbq SM kp0 kp1 kp2 NE
        go_wp2_with (rw [<- HQ.out])
        refine SQ.out.mono ?_
        rintro e R ⟨rfl,hbR⟩
        go_wp2
        go_roundw
        case rel=>exact ⟨k + 1,by omega,by go_num,JQ.out.trans (hbR.mono JQ.out.size)⟩
        case measure=>simp [intOf]; omega
      ·obtain ⟨Z,hZ⟩:∃ Z,Z=((S.alloc (.cells #[.int .i64 z1,.int .i64 0,.slice (some ⟨S.heap.size + 1,0,none⟩) ml ml] 40)).alloc (.cells (zInts ml) 3)).drew:=⟨_,rfl⟩
       rw [<- hZ]
       have hg:Z.heap[S.heap.size + 1]? = some (.cells (zInts ml) 3):=by rw [hZ]; exact (two_blk S _ _).2
       have hbo:Z.heap[S.heap.size]? = some (.cells #[.int .i64 z1,.int .i64 0,.slice (some ⟨S.heap.size + 1,0,none⟩) ml ml] 40):=by rw [hZ]; exact (two_blk S _ _).1
       have hbZ:Below S.heap.size S Z:=by rw [hZ]; exact (Ac.below_alloc2 S _ _).drew
       clear hZ; have JZ:=hide (JS.out.trans (hbZ.mono JS.out.size)); have kz0:=(hbZ.cell (World.block_lt_of_cell? _ _ k0)).trans k0; have kz1:=(hbZ.cell (World.block_lt_of_cell? _ _ k1)).trans k1; have kz2:=(hbZ.cell (World.block_lt_of_cell? _ _ k2)).trans k2; have ab0:=(JZ.out.cell (World.block_lt_of_cell? _ _ a0)).trans a0; have IZ:=hide (IX.out Z JZ.out z1 _ kz0)
       have NE:¬ wr.heap.size=S.heap.size:=by have:=(World.block_lt_of_cell? _ _ k0); dsimp only at this; omega
       have HBO:=hide hbo; have HG:=hide hg
       have HWS:Hid (U1.heap.size<=S.heap.size):=by have:=JS.out.size; show U1.heap.size<=S.heap.size; omega
       clear hbo hg hbZ HS k0 k1 k2 x0 x2 XD sx c0 c1 c2 JS; generalize S.heap.size + 1=g at *; generalize S.heap.size=bo at *
       go_wp2_with fail
       refine IZ.out.mono ?_
       rintro e P ⟨rfl,hbP⟩
       have JP:=hide (JZ.out.trans (hbP.mono JZ.out.size)); have kp0:=(hbP.cell (World.block_lt_of_cell? _ _ kz0)).trans kz0; have kp1:=(hbP.cell (World.block_lt_of_cell? _ _ kz1)).trans kz1; have kp2:=(hbP.cell (World.block_lt_of_cell? _ _ kz2)).trans kz2; have ap0:=(hbP.cell (World.block_lt_of_cell? _ _ ab0)).trans ab0; have PBO:=hide (blk_below HBO.out hbP); have PG:=hide (blk_below HG.out hbP); clear IZ hbP kz0 kz1 kz2 ab0 HBO HG
       rcases idxP_ways (fun b:Am=>b.id == z1) A 0 with ⟨i1,i2⟩ | ⟨j,hj,i1,i2,-⟩
       ·rw [i1]
        have SM:=hide (SAME0.out i2 g P JP.out (zRow PG.out)); have y0:=(blk_cell PBO.out 0).1; have y1:=(blk_cell PBO.out 1).1; have y2:=(blk_cell PBO.out 2).1
        simp only [List.getElem?_toArray,List.getElem?_cons_zero,List.getElem?_cons_succ] at y0 y1 y2
        clear SAME0 SAME1 i1 i2
        go_wp2_with fail
        refine SM.out.mono ?_
        rintro e R ⟨rfl,hbR⟩
        go_wp2
        go_roundw
        case rel=>exact ⟨k + 1,by omega,by go_num,JP.out.trans (hbR.mono JP.out.size)⟩
        case measure=>simp [intOf]; omega
       ·rw [i1,Nat.zero_add]
        have hjz:(j:Int) < (A.length:Int):=by omega
        obtain ⟨bb,oo,rfl,hc⟩:∃ b off,p=some ⟨b,off,none⟩ /\ ∀ j u,(A.flatMap encA)[j]? = some u->P.cell? ⟨b,off + j,none⟩ = some u:=by
         rcases arow_below HA.out JP.out with e | e
         ·rw [e] at hj; simp at hj
         ·exact e
        obtain ⟨d0,d1,d2⟩:=arow_cells hc hj; rw [HN.out _ (List.getElem_mem hj)] at d2; have SM:=hide (SAME1.out j hj i2); obtain ⟨w0,f0⟩:=blk_cell PBO.out 0; obtain ⟨w1,f1⟩:=blk_cell PBO.out 1; obtain ⟨w2,f2⟩:=blk_cell PBO.out 2
        simp only [List.getElem?_toArray,List.getElem?_cons_zero,List.getElem?_cons_succ] at w0 w1 w2
        clear hc SAME0 SAME1 i1 i2 PBO PG HA HA' IX MK; generalize (A[j]'hj).id=t1 at *; generalize (A[j]'hj).bal=t2 at *; generalize (A[j]'hj).p=t3 at *; generalize (A[j]'hj).c=t5 at *; obtain ⟨u0,w0⟩:∃ u,P.cell? ⟨bo,0,none⟩ = some u:=⟨_,w0⟩; obtain ⟨u1,w1⟩:∃ u,P.cell? ⟨bo,1,none⟩ = some u:=⟨_,w1⟩; obtain ⟨u2,w2⟩:∃ u,P.cell? ⟨bo,2,none⟩ = some u:=⟨_,w2⟩; obtain ⟨Q,hQ⟩:∃ Q,Q=((P.setCell ⟨bo,0,none⟩ (.int .i64 t1)).setCell ⟨bo,1,none⟩ (.int .i64 t2)).setCell ⟨bo,2,none⟩ (.slice t3 ml t5):=⟨_,rfl⟩
        have JQ:Hid (Below U1.heap.size U1 Q):=by
         rw [hQ]; have hh:U1.heap.size<=bo:=HWS.out; exact ((JP.out.setCell (p:=⟨bo,0,none⟩) hh _).setCell (p:=⟨bo,1,none⟩) hh _).setCell (p:=⟨bo,2,none⟩) hh _
        have q0:Q.cell? ⟨bo,0,none⟩ = some (.int .i64 t1):=by
         rw [hQ,cell_set_off _ _ (by omega),cell_set_off _ _ (by omega)]
         exact World.cell?_setCell_same _ _ _ w0
        have q1:Q.cell? ⟨bo,1,none⟩ = some (.int .i64 t2):=by
         rw [hQ,cell_set_off _ _ (by omega)]
         refine World.cell?_setCell_same _ _ _ (u:=u1) ?_
         rw [cell_set_off _ _ (by omega)]
         exact w1
        have q2:Q.cell? ⟨bo,2,none⟩ = some (.slice t3 ml t5):=by
         rw [hQ]
         refine World.cell?_setCell_same _ _ _ (u:=u2) ?_
         rw [cell_set_off _ _ (by omega),cell_set_off _ _ (by omega)]
         exact w2
        have hbq:But (fun b=>b=bo) P Q:=by
         rw [hQ]; exact ((but_one P ⟨bo,0,none⟩ _).setCell (p:=⟨bo,1,none⟩) (.inl rfl) _).setCell (p:=⟨bo,2,none⟩) (.inl rfl) _
        have kq0:=hbq.cell (p:=⟨wr.heap.size,0,none⟩) NE kp0; have kq1:=hbq.cell (p:=⟨wr.heap.size,1,none⟩) NE kp1; have kq2:=hbq.cell (p:=⟨wr.heap.size,2,none⟩) NE kp2; have SQ:=hide (SM.out Q JQ.out); have HQ:=hide hQ; clear hQ hbq SM kp0 kp1 kp2 NE
        go_wp2_with (rw [<- HQ.out])
        refine SQ.out.mono ?_
        rintro e R ⟨rfl,hbR⟩
        go_wp2
        go_roundw
        case rel=>exact ⟨k + 1,by omega,by go_num,JQ.out.trans (hbR.mono JQ.out.size)⟩
        case measure=>simp [intOf]; omega
     ·obtain rfl:k=m:=by omega
      have B2':=(J.out.cell (World.block_lt_of_cell? _ _ b2)).trans b2; have B3':=(J.out.cell (World.block_lt_of_cell? _ _ b3)).trans b3; have B5':=(J.out.cell (World.block_lt_of_cell? _ _ b5)).trans b5; have B6':=(J.out.cell (World.block_lt_of_cell? _ _ b6)).trans b6; have A2':=(J.out.cell (World.block_lt_of_cell? _ _ a2)).trans a2; have A3':=(J.out.cell (World.block_lt_of_cell? _ _ a3)).trans a3; have A5':=(J.out.cell (World.block_lt_of_cell? _ _ a5)).trans a5; have A6':=(J.out.cell (World.block_lt_of_cell? _ _ a6)).trans a6
      go_wp2
      go_ret
      exact ⟨rfl,B2.out.trans (J.out.mono B2.out.size)⟩
   ·obtain ⟨ee,hv,he⟩:=WR.out hrj hrj2
    have SM:=hide (venue_same _ _ V T U1 VX2.out VT.out (by rw [hv]) (by rw [hv]) (by rw [hv]) (by rw [hv]) (by rw [hv]) (by rw [hv]) (by rw [hv]) (by have:=K4.few; omega) (by have:=K4.m2; omega))
    have hev:V.evs=[evRejected ee]:=by rw [hv]
    rw [hev]; rw [hev] at EX2; obtain ⟨pp,c9,e9,-,-,hr9,-⟩:=EX2.out; cases e9
    obtain ⟨b9,o9,rfl,hc9⟩:∃ b off,pr=some ⟨b,off,none⟩ /\ ∀ j u,(flatE [evRejected ee])[j]? = some u->U1.cell? ⟨b,off + j,none⟩ = some u:=by
     rcases hr9 with e | e
     ·cases e
     ·exact e
    have x1:U1.cell? ⟨b9,o9 + 1,none⟩ = some (.int .i64 ee):=hc9 1 _ rfl; obtain ⟨b0,b1,b2,b3,b4,b5,b6⟩:=ven_cells F2.out; obtain ⟨c0,c1,c2,c3,c4,c5,c6⟩:=ven_cells G1.out; clear hc9 hr9 WR WO hv K4 hev
    rcases he with rfl | rfl
    ·go_wp2_with fail
     refine SM.out.mono ?_
     rintro e R ⟨rfl,hbR⟩
     go_wp2
     go_ret
     exact ⟨rfl,B2.out.trans (hbR.mono B2.out.size)⟩
    ·go_wp2_with fail
     refine SM.out.mono ?_
     rintro e R ⟨rfl,hbR⟩
     go_wp2
     go_ret
     exact ⟨rfl,B2.out.trans (hbR.mono B2.out.size)⟩
  ·obtain ⟨ee,hev,he⟩:=DR.out hrj
   rw [hev]; rw [hev] at EY; obtain ⟨pp,c9,e9,-,-,hr9,-⟩:=EY.out; cases e9
   obtain ⟨b9,o9,rfl,hc9⟩:∃ b off,pe=some ⟨b,off,none⟩ /\ ∀ j u,(flatE [evRejected ee])[j]? = some u->Y.cell? ⟨b,off + j,none⟩ = some u:=by
    rcases hr9 with e | e
    ·cases e
    ·exact e
   have x1:Y.cell? ⟨b9,o9 + 1,none⟩ = some (.int .i64 ee):=hc9 1 _ rfl; clear hc9 hr9 WR WO DR hev
   rcases he with rfl | rfl | rfl
   ·go_wp2
    go_ret
    exact ⟨rfl,BY.out⟩
   ·go_wp2
    go_ret
    exact ⟨rfl,BY.out⟩
   ·go_wp2
    go_ret
    exact ⟨rfl,BY.out⟩
 ·have HR:(doR s (depC who n)).2=checkE s:=by rw [do_bad _ hce]
  rw [HR]; obtain ⟨r,hr⟩:∃ r,r=checkE s:=⟨_,rfl⟩; rw [<- hr] at hce ⊢; obtain ⟨T,hT⟩:∃ T,T=(doR s (depC who n)).1:=⟨_,rfl⟩; rw [<- hT] at HX1 ⊢; clear hT hr HR F0 F1 VX1 EX1 VI
  go_wp2_with (rw [<- HX1.out])
  refine OP.out.mono ?_
  rintro e Y ⟨rfl,hbY⟩
  have BY:=hide (B1.out.trans (hbY.mono B1.out.size)); have LY:=hide (L1.out.next hbY); clear OP HX1 hbY L1 B1; have OP2:=hide (opened_any Y LY.out)
  go_wp2_with fail
  refine OP2.out.mono ?_
  rintro e Z9 ⟨rfl,hb9⟩
  go_wp2
  go_ret
  exact ⟨rfl,BY.out.trans (hb9.mono BY.out.size)⟩
end Go.Proofs.YtpkbiafhnflmnaaGreatDoor.Vn
namespace Go.Proofs.YtpkbiafhnflmnaaGreatDoor.venueCash
open Go.ChangeShapes Go.WideShapes Go.ChangeAt Go.RowKit Go.Joins Go.Proofs.YtpkbiafhnflmnaaGreatDoor.Rk Go.Proofs.YtpkbiafhnflmnaaGreatDoor.Vn
set_option linter.unusedVariables false
theorem own:ownKnob Tryz.prog.godebug=none:=by kernel_rfl
theorem laidOut:laidOutB Tryz.prog=true:=by kernel_rfl
set_option maxRecDepth 100000 in
theorem lifted (os:Os) (started:os.Started) (H:Type) (enc:TypeId × Value->H) :
  ReturnsInHanded {} Tryz.checked os 8 .any (fun w args=>(Rows.venueCashSpec.pre enc Tryz.prog Tryz.f8 Rows.venueCashRow.domain false w args /\ laidMetH Tryz.prog laid1 w) /\ sizedMet enc Tryz.prog Tryz.f8 (OpenSpec.ofChange Rows.venueCashSpec) false w args)
   (Rows.venueCashSpec.post enc Tryz.prog Tryz.f8 false true false false):=by
 refine returnsInHanded_of_change_and (C:=Tryz.checked) (X:=fun w _=>laidMetH Tryz.prog laid1 w) (fun _ _ _ hh h=>h.of_heap hh) own started (by kernel_rfl) Tryz.func8
  (ChangeSpec.witness_shaped (enc:=enc) (C:=Tryz.checked) (os:=os) (X:=fun w _=>laidMetH Tryz.prog laid1 w) false (World.laidAll Tryz.prog os laid1) #[.agg #[.slice none 0 0,.slice none 0 0,.int .i64 0,.int .i64 0,.int .i64 0,.int .i64 0,.int .i64 0],.int .i64 0,.int .i64 0] 8 (World.laidAll_os _ _ _)
   (World.shaped_of_ZipB (by kernel_rfl) (by kernel_rfl)) (by kernel_rfl) (by kernel_rfl) (by kernel_rfl)
   (by rw [MakeChecks.laidMetH_plain _ _ _ (by kernel_rfl)]; exact laidMet_laidAll _ (by kernel_rfl) (by kernel_rfl))) ?_
 intro W base args ds gs before hval0 hW hcnd hsz0 hX _
 have hval:∀ (j:Nat) t v,Tryz.f8.params[j]? = some t->args[j]? = some v->Value.okWide Tryz.prog W .any base t v:=hval0; have hLd:=of_laid hX; have hW':=hW; obtain ⟨p,q,hA0,hV,rfl,hfz,hnd⟩:=hW
 have hA:DataW.TrodAll enc Tryz.prog W 0 (fun _=>true) true Tryz.f8.params.toList args.toList ds p:=hA0
 have hsz:(DataW.weightsEach Tryz.prog (Tryz.f8.params.toList ++ Rows.venueCashSpec.plain.varTypes Tryz.prog) (ds ++ gs)).all (·<=reachBytes)=true:=hsz0
 rw [Tryz.params8] at hA hval hsz; obtain ⟨v0,vs0,d0,ds0,p0,q0,hargs,rfl,rfl,h0,r0⟩:=trodAll_cons hA; obtain ⟨v1,vs1,d1,ds1,p1,q1,rfl,rfl,rfl,h1,r1⟩:=trodAll_cons r0; obtain ⟨v2,vs2,d2,ds2,p2,q2,rfl,rfl,rfl,h2,r2⟩:=trodAll_cons r1; obtain ⟨rfl,rfl,rfl⟩:=trodAll_nil r2
 obtain rfl:args = #[v0,v1,v2]:=by cases args; simp_all
 obtain ⟨rfl,rfl⟩:=trodVars_none hV; have k0:=h0; have k1:=h1; have k2:=h2
 have lt0:∀ x ∈ p0,x.block < W.heap.size:=by obtain ⟨m,hm⟩:=k0; exact DataW.trod_lt m _ _ _ hm
 have lt1:∀ x ∈ p1,x.block < W.heap.size:=by obtain ⟨m,hm⟩:=k1; exact DataW.trod_lt m _ _ _ hm
 have lt2:∀ x ∈ p2,x.block < W.heap.size:=by obtain ⟨m,hm⟩:=k2; exact DataW.trod_lt m _ _ _ hm
 have big:∀ {j:Nat} {t:TypeId} {d:DataW H},([25,3,3] ++ Rows.venueCashSpec.plain.varTypes Tryz.prog)[j]? = some t->([d0,d1,d2] ++ [])[j]? = some d->∀ m,m ∈ d.weights Tryz.prog t->m<=reachBytes:=fun ht hd m hm=>by
  have:=List.all_eq_true.1 hsz m (DataW.weights_mem_each ht hd m hm)
  simpa using this
 obtain ⟨s0,hs0⟩:=venue_read (hval 0 25 v0 rfl rfl) h0 (big (j:=0) rfl rfl); obtain ⟨n1,rfl,rfl,rfl,w1⟩:=open_int Tryz.underlying3 (hval 1 3 v1 rfl rfl) h1; obtain ⟨n2,rfl,rfl,rfl,w2⟩:=open_int Tryz.underlying3 (hval 2 3 v2 rfl rfl) h2; clear hA0 hval0 big
 refine (law_cash v0 s0 n1 n2 W hs0 hLd).mono fun e W' ⟨he,bel⟩=>?_
 subst he
 exact ⟨_,rfl,_,_,_,[],_,[],hW',trodAll_mk1 (shut_bool Tryz.underlying4 _),(trodAll_cons_mk (Below.trod laidOut (by kernel_rfl) (of_decide_eq_true (by kernel_rfl)) k0 bel lt0) (trodAll_cons_mk (Below.trod laidOut (by kernel_rfl) (of_decide_eq_true (by kernel_rfl)) k1 bel lt1) (trodAll_cons_mk (Below.trod laidOut (by kernel_rfl) (of_decide_eq_true (by kernel_rfl)) k2 bel lt2) trodAll_mk0))),rfl,bel.frame _,fun h=>by cases h⟩
theorem over:Rows.VenueCashSaid :=
 OpenClaim.holds_of_wide 8 Tryz.f8 rfl rfl rfl rfl rfl rfl rfl ⟨rfl,rfl,rfl,rfl,rfl⟩ rfl rfl rfl rfl rfl (by kernel_rfl) Tryz.func8 (by kernel_rfl)
  (of_decide_eq_true (by kernel_rfl)) (by unfold Func.isWrapper; first | (rw [if_pos (by decide +kernel)]; kernel_rfl) | (rw [if_neg (by decide +kernel)]; exact ⟨rfl,rfl⟩))
  (fun os started H enc _=>lifted os started H enc)
theorem card:Rows.VenueCashCardSaid :=
 Claim7.holds_tied_plain_at .later [] [.data] true (true, "282d2aec10900769c483711ccf7034c4226bb8f84f208cece23444b1ce27ece2") false
  over (fun _ h=>by cases h) (by kernel_rfl) (fun _ h=>by cases h) venueCash_row_tie rfl ⟨rfl,rfl⟩ (by kernel_rfl) rfl
  (fun f fn hf hfn=>by
   obtain rfl : f = 8 := Option.some.inj ((show Tryz.prog.funcNamed "tollbooth/tollboothlaw.VenueCash" = some 8 by kernel_rfl).symm.trans hf) |>.symm
   obtain rfl:fn=Tryz.f8:=(Option.some.inj (Tryz.func8.symm.trans hfn)).symm
   exact ⟨by kernel_rfl,fun j t ht=>by
    rw [Tryz.params8] at ht
    rcases j with _ | _ | _ | j
    ·obtain rfl:t=25:=by simpa using ht.symm
     exact (show Tryz.prog.wantsStandIn 25=false by kernel_rfl)
    ·obtain rfl:t=3:=by simpa using ht.symm
     exact (show Tryz.prog.wantsStandIn 3=false by kernel_rfl)
    ·obtain rfl:t=3:=by simpa using ht.symm
     exact (show Tryz.prog.wantsStandIn 3=false by kernel_rfl)
    ·simp at ht⟩)
  (by kernel_rfl)
end Go.Proofs.YtpkbiafhnflmnaaGreatDoor.venueCash
namespace Go.Proofs.YtpkbiafhnflmnaaGreatDoor
theorem venueCash_holds:Rows.VenueCashCardSaid:=venueCash.card
#print axioms venueCash_holds
end Go.Proofs.YtpkbiafhnflmnaaGreatDoor
