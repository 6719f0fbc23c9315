/-
  Package venue, the mathematics: cash, and who else is changed.
-/
import Derived.Test.YtpkbiafhnflmnaaGreatDoorS19
namespace Go.Proofs.YtpkbiafhnflmnaaGreatDoor.Vn
open Go.Proofs.YtpkbiafhnflmnaaGreatDoor.Num Go.Proofs.YtpkbiafhnflmnaaGreatDoor.AcP Go.Proofs.YtpkbiafhnflmnaaGreatDoor.FuP Go.Proofs.YtpkbiafhnflmnaaGreatDoor.RkP Go.Proofs.YtpkbiafhnflmnaaGreatDoor.Bk Go.Proofs.YtpkbiafhnflmnaaGreatDoor.Rm
theorem ids_ne {s:Tn} (hs:Srt s.accs) {i j:Nat} (hi:i < s.accs.length) (hj:j < s.accs.length) (h:¬ i=j):¬ (accAt s i).1=(accAt s j).1:=by
 rw [accAt_get hi,accAt_get hj]
 rcases Nat.lt_or_gt_of_ne h with g | g
 ·have:=List.pairwise_iff_getElem.1 hs i j hi hj g
  omega
 ·have:=List.pairwise_iff_getElem.1 hs j i hj hi g
  omega
theorem marFrom_le:∀ (ps ms:List Int) (x y:Int),y<=x->(marFrom x y ps ms).2.1<=(marFrom x y ps ms).1
 |[],[],x,y,h=>h
 |[],_ :: _,x,y,h=>h
 |_ :: _,[],x,y,h=>h
 |p :: ps,m :: ms,x,y,h=>by
  cases hm:betw 0 m 10000
  ·rw [marFrom_bad hm]; exact Int.le_refl _
  ·rw [marFrom_on hm]
   have h1:=betw_true hm
   have h0:0<=max p (-p) * m:=Int.mul_nonneg (by omega) h1.1
   have h2:=goO_beg h0
   exact marFrom_le ps ms _ _ (by omega)
theorem sound_goes {id bal:Int} {pos marks:List Int} (h:(soundR id bal pos marks).1=true):(soundR id bal pos marks).2.1=true:=by
 have h3:(marginsR id bal pos marks).2.1<=(marginsR id bal pos marks).1:=by
  unfold marginsR
  split
  ·exact marFrom_le _ _ 0 0 (Int.le_refl _)
  ·exact Int.le_refl _
 unfold soundR at h ⊢
 split at h
 ·rename_i h1
  rw [if_pos h1]
  split at h
  ·rename_i h2
   rw [if_pos h2]; simp only [decide_eq_true_eq] at h ⊢
   omega
  ·cases h
 ·cases h
theorem ready_ok {ms:List Mp} {a:Acc} (h:readyE ms a=0):(marksP ms).2=0 /\ soundR a.1 a.2.1 a.2.2 (marksP ms).1=(true,true,0):=by
 unfold readyE at h
 split at h
 ·rename_i h1
  split at h
  ·rename_i h2
   split at h
   ·rename_i h3
    exact ⟨h1,Prod.ext h3 (Prod.ext (sound_goes h3) h2)⟩
   ·cases h
  ·rename_i h2
   exact absurd h h2
 ·rename_i h1
  exact absurd h h1
theorem move_ids {s t:Tn} {k:Nat} {n:Int} (h:moveR s k n=.ok t) (hk:k < s.accs.length):t.accs.map (·.1)=s.accs.map (·.1) /\ t.mkts=s.mkts:=by
 unfold moveR at h
 split at h
 ·cases h
  exact ⟨ids_set hk (by rw [accAt_get hk]),rfl⟩
 ·cases h
theorem withdraw_ready {s t:Tn} {ac n:Int} (h:withdrawR s ac n=.ok t) (hs:Str s):hasA t.accs ac=true /\ readyE t.mkts (accAt t (plc t.accs ac))=0:=by
 unfold withdrawR at h
 split at h
 ·split at h
  ·rename_i ha
   split at h
   ·split at h
    ·rename_i u hu
     split at h
     ·rename_i hr
      cases h; obtain ⟨i1,-⟩:=move_ids hu (accAt_has hs.srt ha).1; rw [has_ids i1,plc_ids i1]; exact ⟨ha,hr⟩
     ·cases h
    ·cases h
   ·cases h
  ·cases h
 ·cases h
/-- the order that came to rest has the side and the price that were asked for. -/
theorem come_found {b a:List Odr} {o:Odr} {how:Int} (h:comeE b a o how=0):∀ y,y ∈ comeB b a o how ++ comeA b a o how->oid y=oid o->osd y=osd o /\ opr y=opr o:=by
 obtain ⟨hR,hok,hf,-⟩:=come_facts h; have T:=(take_fills hR hok).2.2.2
 have hno:∀ x,x ∈ b ++ a->¬ oid x=oid o:=fun x hx e=>by
  have:=List.find?_eq_none.1 hf x hx
  simp [hasId,e] at this
 intro y hy hid
 unfold comeB comeA at hy
 have bad:∀ z,z ∈ takeB b a o ++ takeA b a o->oid z=oid o->False:=fun z hz e=>by
  obtain ⟨x,hx,e1,-⟩:=T z hz; exact hno x hx (e1.symm.trans e)
 cases hs:stays how (takeT b a o).2.2.1
 ·rw [hs] at hy
  simp only [Bool.false_eq_true,if_false] at hy; unfold restB restA at hy
  split at hy
  ·rcases List.mem_append.1 hy with hy | hy
   ·rcases mem_laid.1 hy with rfl | hy
    ·exact ⟨rfl,rfl⟩
    ·exact (bad y (List.mem_append.2 (.inl hy)) hid).elim
   ·exact (bad y (List.mem_append.2 (.inr hy)) hid).elim
  ·rcases List.mem_append.1 hy with hy | hy
   ·exact (bad y (List.mem_append.2 (.inl hy)) hid).elim
   ·rcases mem_laid.1 hy with rfl | hy
    ·exact ⟨rfl,rfl⟩
    ·exact (bad y (List.mem_append.2 (.inr hy)) hid).elim
 ·rw [hs] at hy
  simp only [if_true] at hy; exact (bad y hy hid).elim
theorem traded_none (a:Acc) (mk p:Int):traded a mk 0 p 0=a:=by
 unfold traded
 have h1:a.2.2.set mk.toNat (a.2.2.getD mk.toNat 0 + 0)=a.2.2:=by
  apply List.ext_getElem
  ·simp
  ·intro i h1 h2
   rw [List.getElem_set]
   split
   ·rename_i e
    subst e
    rw [List.getD_eq_getElem?_getD,List.getElem?_eq_getElem h2]
    simp
   ·rfl
 rw [h1,Int.zero_mul,Int.sub_zero,Int.sub_zero]
theorem kin_came {s u:Tn} {mk:Nat} {o:Odr} {how:Int} (hk:mk < s.mkts.length) (h:Kin (cameR s mk o how) u):(mktAt u mk).1=comeB (mktAt s mk).1 (mktAt s mk).2.1 o how /\ (mktAt u mk).2.1=comeA (mktAt s mk).1 (mktAt s mk).2.1 o how:=by
 obtain ⟨e1,e2,-⟩:=h.book mk
 have hm:mktAt (cameR s mk o how) mk=(comeB (mktAt s mk).1 (mktAt s mk).2.1 o how,comeA (mktAt s mk).1 (mktAt s mk).2.1 o how,(mktAt s mk).2.2.1,(mktAt s mk).2.2.2):=by
  unfold cameR Tn.setB; rw [Int.toNat_natCast]
  have hk':mk < (Tn.tell { s with next:=s.next + 1 } (evAccepted mk (oid o) (oac o))).mkts.length:=hk
  rw [mktAt_set hk',if_pos rfl]
  rfl
 rw [e1,e2,hm]; exact ⟨rfl,rfl⟩
/-- who takes more on: what is found of the order is traded, and then there is what is wanted. -/
theorem place_ready {s t:Tn} {c:Cm} (h:placeR s c=.ok t) (hs:Str s) (hS:Sums s) (hr:c.red=false) :
  hasA s.accs c.ac=true /\ t.accs.map (·.1)=s.accs.map (·.1) /\ (∃ k:Nat,c.mkt=k /\ k < s.mkts.length /\
   (findE (mktAt t k).1 (mktAt t k).2.1 s.next=0 ->
    tradeErr (accAt t (plc t.accs c.ac)).1 (accAt t (plc t.accs c.ac)).2.1 (accAt t (plc t.accs c.ac)).2.2 k (osd (findO (mktAt t k).1 (mktAt t k).2.1 s.next) * oqt (findO (mktAt t k).1 (mktAt t k).2.1 s.next)) (opr (findO (mktAt t k).1 (mktAt t k).2.1 s.next)) 0=0 /\
    readyE t.mkts (traded (accAt t (plc t.accs c.ac)) k (osd (findO (mktAt t k).1 (mktAt t k).2.1 s.next) * oqt (findO (mktAt t k).1 (mktAt t k).2.1 s.next)) (opr (findO (mktAt t k).1 (mktAt t k).2.1 s.next)) 0)=0) /\
   (¬ findE (mktAt t k).1 (mktAt t k).2.1 s.next=0->readyE t.mkts (accAt t (plc t.accs c.ac))=0)):=by
 unfold placeR at h
 split at h
 ·rename_i he
  obtain ⟨o1,o2,o3,o4,o5,o6⟩:=order_ok he; obtain ⟨m1,m2⟩:=hasM_iff.1 o4
  obtain ⟨k,hk⟩:∃ k:Nat,c.mkt=k:=⟨c.mkt.toNat,by omega⟩
  rw [hk] at h m2; rw [hr] at h
  have hkl:k < s.mkts.length:=by omega
  obtain ⟨u,P,hrd⟩:=place_is h hs hS hkl rfl o5 o3; obtain ⟨K,-,-,-,-,-,ids⟩:=P.facts hs hS rfl o5 o3; have hrd:=hrd rfl
  refine ⟨o3,ids,k,hk,hkl,?_,?_⟩
  all_goals
   obtain ⟨q1,q2,q3,q4⟩:=orderO_is s c; generalize orderO s c=o at h P hrd q1 q2 q3 q4
   have hm:(mktAt t k).1=comeB (mktAt s k).1 (mktAt s k).2.1 o c.how /\ (mktAt t k).2.1=comeA (mktAt s k).1 (mktAt s k).2.1 o c.how:=by
    have g:=gone_is u k o (comeL c.how (takeT (mktAt s k).1 (mktAt s k).2.1 o).2.2.1); rw [<- P.is] at g
    have:mktAt t k=mktAt u k:=by unfold mktAt; rw [g.2.1]
    rw [this]; exact kin_came hkl P.ff.kin
   unfold readyWithE at hrd; rw [Int.toNat_natCast,q1,q2] at hrd
  ·intro hfe
   have hmem:findO (mktAt t k).1 (mktAt t k).2.1 s.next ∈ (mktAt t k).1 ++ (mktAt t k).2.1 /\ oid (findO (mktAt t k).1 (mktAt t k).2.1 s.next)=s.next:=by
    unfold findE at hfe; unfold findO
    split at hfe
    ·rename_i hb
     rw [if_pos hb]
     cases hx:findIn s.next (mktAt t k).1 (mktAt t k).2.1 with
     |none=>rw [hx] at hfe; cases hfe
     |some y =>
      have g1:=List.mem_of_find?_eq_some hx
      have g2:=List.find?_some hx
      simp only [hasId,decide_eq_true_eq] at g2; exact ⟨g1,g2⟩
    ·rename_i hb
     exact absurd hfe hb
   obtain ⟨w1,w2⟩:=come_found P.he (findO (mktAt t k).1 (mktAt t k).2.1 s.next) (by rw [<- hm.1,<- hm.2]; exact hmem.1) (by rw [hmem.2,q1])
   rw [w1,w2]
   split at hrd
   ·rename_i ht
    exact ⟨ht,hrd⟩
   ·rename_i ht
    exact absurd hrd ht
  ·intro hfe
   have hno:findO (mktAt t k).1 (mktAt t k).2.1 s.next=noOdr:=by
    unfold findE at hfe; unfold findO
    split at hfe
    ·rename_i hb
     rw [if_pos hb]
     cases hx:findIn s.next (mktAt t k).1 (mktAt t k).2.1 with
     |none=>rfl
     |some y=>rw [hx] at hfe; exact absurd rfl hfe
    ·rename_i hb
     rw [if_neg hb]
   rw [hno] at hrd; have hz:osd o * oqt noOdr=0:=Int.mul_zero _; rw [hz] at hrd
   split at hrd
   ·rw [traded_none] at hrd
    exact hrd
   ·rename_i ht
    exact absurd hrd ht
 ·cases h
/-- who only reduces. -/
theorem sumQ_nneg:∀ (F:List Fil),(∀ f,f ∈ F->1<=f.2.2.2.2.2.2)->0<=sumQ F
 |[],_=>Int.le_refl 0
 |f :: F,h=>by
  have h1:=h f (by simp)
  have h2:=sumQ_nneg F (fun g hg=>h g (by simp [hg]))
  have h3:sumQ (f :: F)=f.2.2.2.2.2.2 + sumQ F:=by unfold sumQ; rw [List.map_cons,List.sum_cons]; rfl
  omega
theorem place_reduces {s t:Tn} {c:Cm} (h:placeR s c=.ok t) (hs:Str s) (hS:Sums s) (hr:c.red=true) :
  hasA s.accs c.ac=true /\ t.accs.map (·.1)=s.accs.map (·.1) /\ (osd c.o=1 \/ osd c.o = -1) /\ ∃ k:Nat,c.mkt=k /\ k < s.mkts.length /\ ∃ q:Int,0<=q /\ q<=-(osd c.o) * posAt (accAt s (plc s.accs c.ac)) k /\ 0 < -(osd c.o) * posAt (accAt s (plc s.accs c.ac)) k /\
   posAt (accAt t (plc t.accs c.ac)) k=posAt (accAt s (plc s.accs c.ac)) k + osd c.o * q:=by
 unfold placeR at h
 split at h
 ·rename_i he
  obtain ⟨o1,o2,o3,o4,o5,o6⟩:=order_ok he; obtain ⟨m1,m2⟩:=hasM_iff.1 o4
  obtain ⟨k,hk⟩:∃ k:Nat,c.mkt=k:=⟨c.mkt.toNat,by omega⟩
  have o6:=o6 hr; rw [hk] at h m2; rw [hk,Int.toNat_natCast] at o6
  have hkl:k < s.mkts.length:=by omega
  obtain ⟨u,P,-⟩:=place_is h hs hS hkl rfl o5 o3; obtain ⟨K,-,-,-,-,-,ids⟩:=P.facts hs hS rfl o5 o3
  have hq:oqt (orderO s c)=min (oqt c.o) (-(osd c.o) * posAt (accAt s (plc s.accs c.ac)) k):=by
   unfold orderO; rw [if_pos hr,hk,Int.toNat_natCast]
  obtain ⟨q1,q2,q3,q4⟩:=orderO_is s c; generalize orderO s c=o at h P q1 q2 q3 q4 hq; obtain ⟨hR,hok,-⟩:=come_facts P.he; obtain ⟨f1,f2,f3,-⟩:=take_fills hR hok
  have f4:=sumQ_nneg _ (fun f hf=>by obtain ⟨x,-,-,-,-,-,r,-⟩:=f1 f hf; exact r)
  have f5:=sum_taker (id:=oac o) (sd:=osd o) _ (fun f hf=>by
   obtain ⟨x,hx,e1,e2,e3,e4,e5,e6⟩:=f1 f hf
   exact ⟨e2,by rw [e1]; exact e6,e3⟩)
  have hsd:=(okOrder_pq hok); have hpn:=P.ff.posn k (oac o); rw [if_pos rfl,f5] at hpn
  have hpt:posOf t.accs k c.ac=posOf s.accs k c.ac + osd c.o * sumQ (takeT (mktAt s k).1 (mktAt s k).2.1 o).2.1:=by
   have g:=(gone_is u k o (comeL c.how (takeT (mktAt s k).1 (mktAt s k).2.1 o).2.2.1)).1; rw [<- P.is] at g; rw [g,<- q2,hpn,<- q3]
   rfl
  have hat:hasA t.accs c.ac=true:=by rw [has_ids ids]; exact o3
  unfold posOf at hpt; rw [accOf_plc K.str.srt hat,accOf_plc hs.srt o3] at hpt
  exact ⟨o3,ids,by rw [<- q3]; exact okOrder_sd hok,k,hk,hkl,sumQ (takeT (mktAt s k).1 (mktAt s k).2.1 o).2.1,f4,by omega,o6,hpt⟩
 ·cases h
theorem mark_le {fb fa idx last:Int} (h:betw 1 idx 10000=true) (h1:0<=fb /\ fb<=10000) (h2:0<=fa /\ fa<=10000) (h3:betw 0 last 10000=true):0<=markOf fb fa idx last /\ markOf fb fa idx last<=10000:=by
 have g1:=betw_true h; have g3:=betw_true h3
 have g2:idx.tdiv 20=idx / 20:=Int.tdiv_eq_ediv_of_nonneg (by omega)
 have g4:(fb + fa).tdiv 2=(fb + fa) / 2:=Int.tdiv_eq_ediv_of_nonneg (by omega)
 unfold markOf middleR halfR lastR; rw [g2,g4]
 split <;> split <;> omega
theorem marksL_ok:∀ (ms:List Mp) (L:List Int),(∀ m,m ∈ ms->marketErr m.1 m.2.1 m.2.2.1 m.2.2.2=0)->(∀ x,x ∈ L->betw 0 x 10000=true)->(marksL L ms).2=0 /\ (marksL L ms).1.length=L.length + ms.length /\ ∀ x,x ∈ (marksL L ms).1->betw 0 x 10000=true
 |[],L,_,hL=>⟨rfl,rfl,hL⟩
 |m :: r,L,h,hL=>by
  have hm:=h m (by simp)
  obtain ⟨hb,h1,h2⟩:=marketErr_ok hm; have hR:=bookErr_zero.1 hb
  have e:markR m.1 m.2.1 m.2.2.1 m.2.2.2=(markOf (firstPrice m.1) (firstPrice m.2.1) m.2.2.1 m.2.2.2,0):=by
   unfold markR; rw [if_pos hm]
  have hr:=mark_le h1 (first_bd hR.b) (first_bd hR.a) h2; unfold marksL
  rw [if_pos (by rw [e]),e]
  obtain ⟨i1,i2,i3⟩:=marksL_ok r (L ++ [markOf (firstPrice m.1) (firstPrice m.2.1) m.2.2.1 m.2.2.2]) (fun x hx=>h x (by simp [hx])) (fun x hx=>by
   rcases List.mem_append.1 hx with hx | hx
   ·exact hL x hx
   ·simp at hx
    subst hx; exact betw_mk hr)
  refine ⟨i1,?_,i3⟩
  rw [i2]; simp
  omega
theorem Str.marks {s:Tn} (hs:Str s):(marksP s.mkts).2=0 /\ (marksP s.mkts).1.length=s.mkts.length /\ ∀ x,x ∈ (marksP s.mkts).1->betw 0 x 10000=true:=by
 unfold marksP; rw [if_pos ⟨hs.m1,hs.m2⟩]
 have:=marksL_ok s.mkts [] hs.mkt (fun _ h=>by cases h)
 simpa using this
end Go.Proofs.YtpkbiafhnflmnaaGreatDoor.Vn
