/-
  VenueOthers is true of every venue and command: cash, orders that rest, and cancelling change nobody else's account; an index nobody's. The table of tiers reads as the program's text lays it (the card ties it).
-/
import Derived.Test.YtpkbiafhnflmnaaGreatDoorS19
import Derived.Test.YtpkbiafhnflmnaaGreatDoorS47
import Derived.Test.YtpkbiafhnflmnaaGreatDoorRows
import Derived.Test.YtpkbiafhnflmnaaGreatDoorCards
import Derived.Test.YtpkbiafhnflmnaaGreatDoorTie
import Derived.Test.YtpkbiafhnflmnaaGreatDoorS48
import Derived.Outline
import Derived.ProofKit
import Derived.OpenShut
import Derived.ChangeOld
import Derived.Below
import Derived.SizedLaws
import Derived.Lay
import Derived.MakeChecks
import Derived.SevenTiedAt
namespace Go.Proofs.YtpkbiafhnflmnaaGreatDoor.Vn
open Go.Proofs.YtpkbiafhnflmnaaGreatDoor.Num Go.Proofs.YtpkbiafhnflmnaaGreatDoor.AcP Go.Proofs.YtpkbiafhnflmnaaGreatDoor.FuP Go.Proofs.YtpkbiafhnflmnaaGreatDoor.RkP Go.Proofs.YtpkbiafhnflmnaaGreatDoor.Bk Go.Proofs.YtpkbiafhnflmnaaGreatDoor.Rm
theorem mem_set_other {l:List Acc} {k:Nat} {a b:Acc} (h:a ∈ l) (hn:∀ hk:k < l.length,¬ l[k]=a):a ∈ l.set k b:=by
 obtain ⟨j,hj,rfl⟩:=List.mem_iff_getElem.1 h
 have hne:¬ k=j:=fun e=>by subst e; exact hn hj rfl
 have:(l.set k b)[j]'(by simpa using hj)=l[j]:=by rw [List.getElem_set,if_neg hne]
 rw [<- this]; exact List.getElem_mem _
/-- what a deposit is, when it is done. -/
theorem deposit_is {s t:Tn} {ac n:Int} (h:depositR s ac n=.ok t) (hs:Str s) (hS:Sums s) :
  payE ac n=0 /\ plc s.accs ac < (openR s ac).accs.length /\ t.accs=(openR s ac).accs.set (plc s.accs ac) (ac,(accAt (openR s ac) (plc s.accs ac)).2.1 + n,(accAt (openR s ac) (plc s.accs ac)).2.2) /\ (accAt (openR s ac) (plc s.accs ac)).1=ac /\
   t.inn=s.inn + n /\ t.out=s.out /\ t.ins=s.ins /\ t.res=s.res /\ t.mkts=s.mkts /\ Str (openR s ac):=by
 unfold depositR at h
 split at h
 ·rename_i hp
  obtain ⟨p1,p2⟩:=pay_ok hp
  split at h
  ·rename_i he
   obtain ⟨m1,m2,m3,e⟩:=add_ok he; obtain ⟨o1,o2,o3,o4,o5,o6,o7⟩:=open_facts hs hS p2
   have hop:openR { s with inn:=addV s.inn n } ac = { openR s ac with inn:=addV s.inn n }:=by
    unfold openR; dsimp only
    split <;> rfl
   rw [hop] at h; unfold moveR at h
   split at h
   ·rename_i ha
    obtain ⟨-,-,-,e2⟩:=add_ok ha; cases h
    have hat:accAt ({ openR s ac with inn:=addV s.inn n }:Tn) (plc s.accs ac)=accAt (openR s ac) (plc s.accs ac):=rfl
    have hrest:(openR s ac).ins=s.ins /\ (openR s ac).res=s.res /\ (openR s ac).out=s.out /\ (openR s ac).mkts=s.mkts:=by
     unfold openR
     split <;> exact ⟨rfl,rfl,rfl,rfl⟩
    refine ⟨hp,o3,?_,o4,e,hrest.2.2.1,hrest.1,hrest.2.1,hrest.2.2.2,o1⟩
    rw [hat] at e2
    show (openR s ac).accs.set (plc s.accs ac) ((accAt (openR s ac) (plc s.accs ac)).1,addV (accAt (openR s ac) (plc s.accs ac)).2.1 n,(accAt (openR s ac) (plc s.accs ac)).2.2)=_
    rw [e2,o4]
   ·cases h
  ·cases h
 ·cases h
theorem withdraw_is {s t:Tn} {ac n:Int} (h:withdrawR s ac n=.ok t):hasA s.accs ac=true /\ t.accs=s.accs.set (plc s.accs ac) ((accAt s (plc s.accs ac)).1,(accAt s (plc s.accs ac)).2.1 - n,(accAt s (plc s.accs ac)).2.2) /\ t.inn=s.inn /\ t.out=s.out + n /\ t.ins=s.ins /\ t.res=s.res:=by
 unfold withdrawR at h
 split at h
 ·split at h
  ·rename_i hh
   split at h
   ·rename_i he
    obtain ⟨m1,m2,m3,e⟩:=add_ok he
    split at h
    ·rename_i u hu
     split at h
     ·cases h
      unfold moveR at hu
      split at hu
      ·rename_i ha
       obtain ⟨-,-,-,e2⟩:=add_ok ha; cases hu
       refine ⟨hh,?_,rfl,e,rfl,rfl⟩
       show s.accs.set (plc s.accs ac) ((accAt s (plc s.accs ac)).1,addV (accAt s (plc s.accs ac)).2.1 (-n),(accAt s (plc s.accs ac)).2.2)=_
       have e3:addV (accAt s (plc s.accs ac)).2.1 (-n)=(accAt s (plc s.accs ac)).2.1 + -n:=e2; rw [e3,Int.sub_eq_add_neg]
      ·cases hu
     ·cases h
    ·cases h
   ·cases h
  ·cases h
 ·cases h
theorem open_mem {s:Tn} {id:Int} {a:Acc} (h:a ∈ s.accs):a ∈ (openR s id).accs:=by
 unfold openR
 split
 ·exact h
 ·exact put_mem.2 (.inr h)
/-- who is nobody else. -/
theorem others_same {s t:Tn} {c:Cm} (h:turnR s c=.ok t) (hs:Str s) (hS:Sums s) (h6:¬ c.kind=6) (h7:¬ c.kind=7) (hf:∀ e,e ∈ t.evs->¬ e.1=3) :
  t.ins=s.ins /\ t.res=s.res /\ ∀ a,a ∈ s.accs->((a.1=c.ac)->¬ (c.kind=1 \/ c.kind=2))->a ∈ t.accs:=by
 unfold turnR at h
 split at h
 ·rename_i h1
  obtain ⟨-,d1,d2,d3,-,-,d4,d5,-⟩:=deposit_is h hs hS
  refine ⟨d4,d5,fun a ha hn=>?_⟩
  rw [d2]
  refine mem_set_other (open_mem ha) (fun hk e=>?_)
  rw [accAt_get hk] at d3
  exact hn (by rw [<- e]; exact d3) (.inl h1)
 ·split at h
  ·rename_i h2
   obtain ⟨w1,w2,-,-,w3,w4⟩:=withdraw_is h
   refine ⟨w3,w4,fun a ha hn=>?_⟩
   rw [w2]
   refine mem_set_other ha (fun hk e=>?_)
   have:=(accAt_has hs.srt w1).2; rw [accAt_get hk] at this
   exact hn (by rw [<- e]; exact this) (.inr h2)
  ·split at h
   ·unfold placeR at h
    split at h
    ·rename_i he
     obtain ⟨o1,o2,o3,o4,o5,o6⟩:=order_ok he; obtain ⟨m1,m2⟩:=hasM_iff.1 o4
     obtain ⟨k,hk⟩:∃ k:Nat,c.mkt=k:=⟨c.mkt.toNat,by omega⟩
     rw [hk] at h m2
     obtain ⟨u,P,-⟩:=place_is h hs hS (by omega) rfl o5 o3
     have g:=gone_is u k (orderO s c) (comeL c.how (takeT (mktAt s k).1 (mktAt s k).2.1 (orderO s c)).2.2.1); rw [<- P.is] at g
     have hevs:∀ e,e ∈ u.evs->e ∈ t.evs:=by
      rw [P.is]; unfold goneIf
      split
      ·intro e he; exact List.mem_append.2 (.inl he)
      ·exact fun _ h=>h
     have hF:(takeT (mktAt s k).1 (mktAt s k).2.1 (orderO s c)).2.1=[]:=by
      cases hx:(takeT (mktAt s k).1 (mktAt s k).2.1 (orderO s c)).2.1 with
      |nil=>rfl
      |cons f l =>
       have:=P.ff.evs; rw [hx] at this
       exact absurd rfl (hf (evFilled k f) (hevs _ (by rw [this]; simp)))
     have hu:=P.fills; rw [hF] at hu; cases hu; rw [g.1,g.2.2.1,g.2.2.2.1]
     exact ⟨rfl,rfl,fun a ha _=>ha⟩
    ·cases h
   ·split at h
    ·obtain ⟨F,c1,c2,-⟩:=cancelL_facts hs hS s.mkts 0 (by simp) h
     exact ⟨c2,F.res,fun a ha _=>by rw [c1]; exact ha⟩
    ·split at h
     ·obtain ⟨-,-,c1,c2,c3⟩:=index_facts h hs hS
      exact ⟨c2,c3,fun a ha _=>by rw [c1]; exact ha⟩
     ·cases h
open Go.RowKit Go.Proofs.YtpkbiafhnflmnaaGreatDoor.Fix Go.Proofs.YtpkbiafhnflmnaaGreatDoor.Ac Go.Sort Go.Maps Go.Proofs.YtpkbiafhnflmnaaGreatDoor.Mix
set_option maxHeartbeats 2000000 in
set_option maxRecDepth 100000 in
theorem others_idx_some (b off c:Nat) (A:List Am) (P:Am->Bool) (B:Nat) (w:World) (hn:A.length<=140737488351232)
  (hc:∀ j u,(A.flatMap encA)[j]? = some u->w.cell? ⟨b,off + j,none⟩ = some u) (hb:b < w.heap.size)
  (hq:∀ W,Below w.heap.size w W->∀ k (hk:k < A.length),Calls Tryz.prog 38 #[accV (A[k]'hk).id (A[k]'hk).bal (A[k]'hk).p (A[k]'hk).n (A[k]'hk).c ,.pointer (some ⟨B,0,none⟩)] W fun e w'=>e=.returned (.bool (P (A[k]'hk))) /\ Below W.heap.size W w') :
  Calls Tryz.prog 16 #[.slice (some ⟨b,off,none⟩) A.length c,.func (.func 38) #[] #[.pointer (some ⟨B,0,none⟩)]] w fun e w'=>e=.returned (.int .i64 (idxP P A 0)) /\ Below w.heap.size w w':=by
 have eg:∀ args w,(callFunc 38 args).run Tryz.prog w=.ok (.enter 38 args) w:=enters_of Tryz.func38 (by kernel_rfl) rfl
 generalize hr:idxP P A 0=r; have R0:Hid (idxP P (A.drop 0) 0=r):=hr; clear hr; have HC:=hide hc; have HQ:=hide hq; clear hc hq; generalize hxn:A.length=n at hn ⊢; have N:=hide hxn; clear hxn
 go_enter Tryz.func16,Tryz.ntmps16
 go_wp2
 go_loopw [8] (fun i wr=>∃ k:Nat,k<=n /\ i=.int .i64 k /\ Hid (Below w.heap.size w wr) /\ Hid (idxP P (A.drop k) k=r)) (fun i _=>n - (intOf i).toNat)
 case atStart=>exact ⟨0,Nat.zero_le _,rfl,Below.refl _ _,R0⟩
 case round =>
  obtain ⟨k,hk,rfl,BW,R⟩:=hrel
  by_cases hlt:k < n
  ·have hltz:(k:Int) < (n:Int):=by omega
   have hkx:k < A.length:=by rw [N.out]; exact hlt
   obtain ⟨c0,c1,c2⟩:=arow_cells (w:=wr) (b:=b) (off:=off) (fun j u hu=>(BW.out.cell hb).trans (HC.out j u hu)) hkx
   have hcall:=HQ.out wr BW.out k hkx; have HH:=hide (idxP_at P hkx); generalize (A[k]'hkx).id=z1 at c0 hcall; generalize (A[k]'hkx).bal=z2 at c1 hcall; generalize (A[k]'hkx).p=z3 at c2 hcall; generalize (A[k]'hkx).n=z4 at c2 hcall; generalize (A[k]'hkx).c=z5 at c2 hcall
   cases hh:P (A[k]'hkx) with
   |true =>
    rw [hh] at hcall
    go_wp2_with (go_at_fn 38; refine hcall.mono ?_; rintro e w' ⟨rfl,hb'⟩)
    go_ret
    refine ⟨?_,BW.out.trans (hb'.mono BW.out.size)⟩
    rw [<- R.out,HH.out,if_pos hh]
    rfl
   |false =>
    rw [hh] at hcall
    go_wp2_with (go_at_fn 38; refine hcall.mono ?_; rintro e w' ⟨rfl,hb'⟩)
    go_roundw
    case rel =>
     refine ⟨k + 1,by omega,by go_num,BW.out.trans (hb'.mono BW.out.size),?_⟩
     show idxP P (A.drop (k + 1)) (k + 1)=r
     rw [<- R.out,HH.out,hh]
     rfl
    case measure=>simp [intOf]; omega
  ·have hk':k=n:=by omega
   subst hk'
   go_wp2
   go_ret
   refine ⟨?_,BW.out⟩
   rw [<- R.out,<- N.out,List.drop_length]
   rfl
theorem others_idx (p:Option Addr) (c:Nat) (A:List Am) (P:Am->Bool) (B:Nat) (w:World) (hn:A.length<=140737488351232) (h:ARow w p A)
  (hq:∀ W,Below w.heap.size w W->∀ k (hk:k < A.length),Calls Tryz.prog 38 #[accV (A[k]'hk).id (A[k]'hk).bal (A[k]'hk).p (A[k]'hk).n (A[k]'hk).c ,.pointer (some ⟨B,0,none⟩)] W fun e w'=>e=.returned (.bool (P (A[k]'hk))) /\ Below W.heap.size W w') :
  Calls Tryz.prog 16 #[.slice p A.length c,.func (.func 38) #[] #[.pointer (some ⟨B,0,none⟩)]] w fun e w'=>e=.returned (.int .i64 (idxP P A 0)) /\ Below w.heap.size w w':=by
 by_cases hx:A=[]
 ·subst hx
  refine (accIdx_none p c _ w).mono ?_
  rintro e w' ⟨rfl,rfl⟩
  exact ⟨rfl,Below.refl _ _⟩
 ·rcases h with h | ⟨b,off,rfl,hc⟩
  ·exact absurd h hx
  ·exact others_idx_some b off c A P B w hn hc (World.block_lt_of_cell? w _ (arow_cells hc (List.length_pos_iff.2 hx)).1) hq
set_option maxHeartbeats 2000000 in
set_option maxRecDepth 100000 in
theorem others_evs_some (b off c:Nat) (A:List Ev) (P:Ev->Bool)   (w:World) (hn:A.length<=9223372036854775807)
  (hc:∀ j u,(flatE A)[j]? = some u->w.cell? ⟨b,off + j,none⟩ = some u) (hb:b < w.heap.size)
  (hq:∀ W,Below w.heap.size w W->∀ k (hk:k < A.length),Calls Tryz.prog 36 #[evV (A[k]'hk)  ] W fun e w'=>e=.returned (.bool (P (A[k]'hk))) /\ Below W.heap.size W w') :
  Calls Tryz.prog 71 #[.slice (some ⟨b,off,none⟩) A.length c,.func (.func 36) #[] #[]] w fun e w'=>e=.returned (.int .i64 (idxP P A 0)) /\ Below w.heap.size w w':=by
 have eg:∀ args w,(callFunc 36 args).run Tryz.prog w=.ok (.enter 36 args) w:=enters_of Tryz.func36 (by kernel_rfl) rfl
 generalize hr:idxP P A 0=r; have R0:Hid (idxP P (A.drop 0) 0=r):=hr; clear hr; have HC:=hide hc; have HQ:=hide hq; clear hc hq; generalize hxn:A.length=n at hn ⊢; have N:=hide hxn; clear hxn
 go_enter Tryz.func71,Tryz.ntmps71
 go_wp2
 go_loopw [8] (fun i wr=>∃ k:Nat,k<=n /\ i=.int .i64 k /\ Hid (Below w.heap.size w wr) /\ Hid (idxP P (A.drop k) k=r)) (fun i _=>n - (intOf i).toNat)
 case atStart=>exact ⟨0,Nat.zero_le _,rfl,Below.refl _ _,R0⟩
 case round =>
  obtain ⟨k,hk,rfl,BW,R⟩:=hrel
  by_cases hlt:k < n
  ·have hltz:(k:Int) < (n:Int):=by omega
   have hkx:k < A.length:=by rw [N.out]; exact hlt
   obtain ⟨c0,c1,c2,c3,c4,c5,c6,c7,c8,c9,c10,c11,c12⟩:=erow_cells (w:=wr) (b:=b) (off:=off) (fun j u hu=>(BW.out.cell hb).trans (HC.out j u hu)) hkx
   have hcall:=HQ.out wr BW.out k hkx; have HH:=hide (idxP_at P hkx); dsimp only [evV] at hcall; generalize hpk:P (A[k]'hkx)=pk at hcall HH; generalize (A[k]'hkx).1=z0 at c0 hcall; generalize (A[k]'hkx).2.1=z1 at c1 hcall; generalize (A[k]'hkx).2.2.1=z2 at c2 hcall; generalize (A[k]'hkx).2.2.2.1=z3 at c3 hcall; generalize (A[k]'hkx).2.2.2.2.1=z4 at c4 hcall; generalize (A[k]'hkx).2.2.2.2.2.1=z5 at c5 hcall; generalize (A[k]'hkx).2.2.2.2.2.2.1=z6 at c6 hcall; generalize (A[k]'hkx).2.2.2.2.2.2.2.1=z7 at c7 hcall; generalize (A[k]'hkx).2.2.2.2.2.2.2.2.1=z8 at c8 hcall; generalize (A[k]'hkx).2.2.2.2.2.2.2.2.2.1=z9 at c9 hcall; generalize (A[k]'hkx).2.2.2.2.2.2.2.2.2.2.1=z10 at c10 hcall; generalize (A[k]'hkx).2.2.2.2.2.2.2.2.2.2.2.1=z11 at c11 hcall; generalize (A[k]'hkx).2.2.2.2.2.2.2.2.2.2.2.2=z12 at c12 hcall
   cases hh:pk with
   |true =>
    rw [hh] at hcall HH
    go_wp2_with (go_at_fn 36; refine hcall.mono ?_; rintro e w' ⟨rfl,hb'⟩)
    go_ret
    refine ⟨?_,BW.out.trans (hb'.mono BW.out.size)⟩
    rw [<- R.out,HH.out,if_pos trivial]
    rfl
   |false =>
    rw [hh] at hcall HH
    go_wp2_with (go_at_fn 36; refine hcall.mono ?_; rintro e w' ⟨rfl,hb'⟩)
    go_roundw
    case rel =>
     refine ⟨k + 1,by omega,by go_num,BW.out.trans (hb'.mono BW.out.size),?_⟩
     show idxP P (A.drop (k + 1)) (k + 1)=r
     rw [<- R.out,HH.out]; simp
    case measure=>simp [intOf]; omega
  ·have hk':k=n:=by omega
   subst hk'
   go_wp2
   go_ret
   refine ⟨?_,BW.out⟩
   rw [<- R.out,<- N.out,List.drop_length]
   rfl
theorem others_evs (p:Option Addr) (c:Nat) (A:List Ev) (P:Ev->Bool)   (w:World) (hn:A.length<=9223372036854775807) (h:ERow w p A)
  (hq:∀ W,Below w.heap.size w W->∀ k (hk:k < A.length),Calls Tryz.prog 36 #[evV (A[k]'hk)  ] W fun e w'=>e=.returned (.bool (P (A[k]'hk))) /\ Below W.heap.size W w') :
  Calls Tryz.prog 71 #[.slice p A.length c,.func (.func 36) #[] #[]] w fun e w'=>e=.returned (.int .i64 (idxP P A 0)) /\ Below w.heap.size w w':=by
 by_cases hx:A=[]
 ·subst hx
  refine (evIdx_none p c _ w).mono ?_
  rintro e w' ⟨rfl,rfl⟩
  exact ⟨rfl,Below.refl _ _⟩
 ·rcases h with h | ⟨b,off,rfl,hc⟩
  ·exact absurd h hx
  ·exact others_evs_some b off c A P   w hn hc (World.block_lt_of_cell? w _ (erow_cells hc (List.length_pos_iff.2 hx)).1) hq
theorem others1_any (x:Ev) (w:World):Calls Tryz.prog 36 #[evV x] w fun e w'=>e=.returned (.bool (x.1 == 3)) /\ Below w.heap.size w w':=by
 go_enter Tryz.func36,Tryz.ntmps36
 go_wp2
 go_ret
 exact ⟨rfl,Ac.below_alloc _ _⟩
/-- is one of them a fill? -/
theorem others_filled (p:Option Addr) (c:Nat) (L:List Ev) (w:World) (hn:L.length<=9223372036854775807) (h:ERow w p L) :
  Calls Tryz.prog 35 #[.slice p L.length c,fnV 36] w fun e w'=>e=.returned (.bool (L.any fun x=>x.1 == 3)) /\ Below w.heap.size w w':=by
 have hcon:=others_evs p c L (fun x=>x.1 == 3) w hn h (fun W _ k hk=>others1_any _ W)
 rw [<- idxP_any]
 generalize idxP (fun x:Ev=>x.1 == 3) L 0=r at hcon ⊢
 generalize L.length=n at hcon ⊢; clear h
 go_enter Tryz.func35,Tryz.ntmps35
 go_wp2_with (go_at_call 71; refine hcon.mono ?_; rintro e w' ⟨rfl,hb'⟩)
 go_ret
 exact ⟨rfl,hb'⟩
set_option maxHeartbeats 1000000 in
theorem others2_any (a b:Am) (B:Nat) (w:World) (hl:b.n=a.n) (hn:a.n<=140737488351232) (ha:AOk w a) (hb:AOk w b)
  (k0:w.cell? ⟨B,0,none⟩ = some (.int .i64 a.id)) (k1:w.cell? ⟨B,1,none⟩ = some (.int .i64 a.bal)) (k2:w.cell? ⟨B,2,none⟩ = some (.slice a.p a.n a.c)) :
  Calls Tryz.prog 38 #[accV b.id b.bal b.p b.n b.c,.pointer (some ⟨B,0,none⟩)] w fun e w'=>e=.returned (.bool (accEq a.id a.bal a.pos b.id b.bal b.pos)) /\ Below w.heap.size w w':=by
 have SM:Hid (∀ W,Below w.heap.size w W->Calls Tryz.prog 34 #[accV a.id a.bal a.p a.n a.c,accV b.id b.bal b.p a.n b.c] W fun e w'=>e=.returned (.bool (accEq a.id a.bal a.pos b.id b.bal b.pos)) /\ Below W.heap.size W w'):=fun W hW =>
  accSame_any _ _ _ _ _ _ _ _ _ _ _ W (ha.below hW).len ((hb.below hW).len.trans hl) hn (ha.below hW).row (hb.below hW).row
 rw [hl]
 have k0:=fun o=>cell_old k0 o
 have k1:=fun o=>cell_old k1 o
 have k2:=fun o=>cell_old k2 o
 generalize accEq a.id a.bal a.pos b.id b.bal b.pos=r at SM ⊢; generalize a.id=a1 at *; generalize a.bal=a2 at *; generalize a.p=a3 at *; generalize a.n=a4 at *; generalize a.c=a5 at *; generalize b.id=b1 at *; generalize b.bal=b2 at *; generalize b.p=b3 at *; generalize b.c=b5 at *; clear ha hb hl hn
 go_enter Tryz.func38,Tryz.ntmps38
 go_wp2_with fail
 refine (SM.out _ (Ac.below_alloc _ _)).mono ?_
 rintro e w' ⟨rfl,hb'⟩
 go_wp2
 go_ret
 exact ⟨rfl,(Ac.below_alloc _ _).trans (hb'.mono (Ac.below_alloc _ _).size)⟩
open Go.RowKit Go.Proofs.YtpkbiafhnflmnaaGreatDoor.Fix Go.Proofs.YtpkbiafhnflmnaaGreatDoor.Ac Go.Sort Go.Maps Go.Proofs.YtpkbiafhnflmnaaGreatDoor.Mix
/-- is an account among these, as it is? -/
theorem others_has (p:Option Addr) (c:Nat) (A:List Am) (a:Am) (B:Nat) (w:World) (hn:A.length<=140737488351232) (h:ARow w p A) (hl:∀ b,b ∈ A->b.n=a.n) (ha:AOk w a) (hA:∀ b,b ∈ A->AOk w b) (hm:a.n<=140737488351232)
  (k0:w.cell? ⟨B,0,none⟩ = some (.int .i64 a.id)) (k1:w.cell? ⟨B,1,none⟩ = some (.int .i64 a.bal)) (k2:w.cell? ⟨B,2,none⟩ = some (.slice a.p a.n a.c)) (hin:∃ b,b ∈ A /\ b.acc=a.acc) :
  Calls Tryz.prog 37 #[.slice p A.length c,.func (.func 38) #[] #[.pointer (some ⟨B,0,none⟩)]] w fun e w'=>e=.returned (.bool true) /\ Below w.heap.size w w':=by
 have hcon:=others_idx p c A (fun b=>accEq a.id a.bal a.pos b.id b.bal b.pos) B w hn h (fun W hW k hk=>others2_any a _ B W (hl _ (List.getElem_mem hk)) hm (ha.below hW) ((hA _ (List.getElem_mem hk)).below hW)
  ((hW.cell (World.block_lt_of_cell? _ _ k0)).trans k0) ((hW.cell (World.block_lt_of_cell? _ _ k1)).trans k1) ((hW.cell (World.block_lt_of_cell? _ _ k2)).trans k2))
 have hT:A.any (fun b=>accEq a.id a.bal a.pos b.id b.bal b.pos)=true:=by
  obtain ⟨b,hb,e⟩:=hin
  refine List.any_eq_true.2 ⟨b,hb,?_⟩
  have e1:b.id=a.id:=congrArg (·.1) e
  have e2:b.bal=a.bal:=congrArg (·.2.1) e
  have e3:b.pos=a.pos:=congrArg (·.2.2) e
  simp [accEq,e1,e2,e3]
 rw [<- hT,<- idxP_any]
 generalize idxP (fun b:Am=>accEq a.id a.bal a.pos b.id b.bal b.pos) A 0=r at hcon ⊢
 generalize A.length=n at hcon ⊢; clear h hl ha hA hm k0 k1 k2 hin hT hn
 go_enter Tryz.func37,Tryz.ntmps37
 go_wp2_with (go_at_call 16; refine hcon.mono ?_; rintro e w' ⟨rfl,hb'⟩)
 go_ret
 exact ⟨rfl,hb'⟩
set_option maxHeartbeats 8000000 in
set_option maxRecDepth 100000 in
theorem law_others (v:Value) (s:Tn) (c:Cm) (w:World) (h:VIn w v s) (hL:Rk.Laid w) :
  Calls Tryz.prog 9 #[v,cmV c] w fun e w'=>e=.returned (.bool true) /\ Below w.heap.size w w':=by
 obtain ⟨p,n1,cc,p',n2,cc',hv⟩:=vnew_is h; subst hv; obtain ⟨W,hW⟩:∃ W,W=(w.alloc (.cells #[.slice p n1 cc,.slice p' n2 cc',.int .i64 s.ins,.int .i64 s.res,.int .i64 s.next,.int .i64 s.inn,.int .i64 s.out] 25)).alloc (cmO c):=⟨_,rfl⟩
 have b0:Below w.heap.size w W:=by rw [hW]; exact ((Below.refl _ w).alloc (Nat.le_refl _) _).alloc (by simp) _
 have E0:Hid (W.heap[w.heap.size]? = some (venO (.slice p n1 cc) (.slice p' n2 cc') s)):=by
  show W.heap[w.heap.size]? = _
  rw [hW]; exact blk_below (heap_alloc_new w _) (Ac.below_alloc _ _)
 have E1:Hid (W.heap[w.heap.size + 1]? = some (cmO c)):=by
  show W.heap[w.heap.size + 1]? = _
  rw [hW]
  have hx:(w.alloc (.cells #[.slice p n1 cc,.slice p' n2 cc',.int .i64 s.ins,.int .i64 s.res,.int .i64 s.next,.int .i64 s.inn,.int .i64 s.out] 25)).heap.size=w.heap.size + 1:=by simp
  have:=heap_alloc_new (w.alloc (.cells #[.slice p n1 cc,.slice p' n2 cc',.int .i64 s.ins,.int .i64 s.res,.int .i64 s.next,.int .i64 s.inn,.int .i64 s.out] 25)) (cmO c); rw [hx] at this; exact this
 have DO:=hide (venue_do _ s c W (h.below b0) (hL.next b0)); have VI:=hide h; have LD:=hide hL; have HW:=hide hW; have BW:=hide b0; clear hW b0 h hL; obtain ⟨a0,a1,a2,a3,a4,a5,a6⟩:=ven_cells E0.out; have d0:=(blk_cell E1.out 0).1; have d1:=(blk_cell E1.out 1).1; have d2:=(blk_cell E1.out 2).1; have d3:=(blk_cell E1.out 3).1; have d4:=(blk_cell E1.out 4).1; have d5:=(blk_cell E1.out 5).1; have d6:=(blk_cell E1.out 6).1; have d7:=(blk_cell E1.out 7).1; have d8:=(blk_cell E1.out 8).1; have d9:=(blk_cell E1.out 9).1; have d10:=(blk_cell E1.out 10).1
 simp only [List.getElem?_toArray,List.getElem?_cons_zero,List.getElem?_cons_succ] at d0 d1 d2 d3 d4 d5 d6 d7 d8 d9 d10
 go_enter Tryz.func9,Tryz.ntmps9
 go_wp2_with (rw [<- HW.out])
 refine DO.out.mono ?_
 rintro e X ⟨v',ev,rfl,hbX,hvX,heX⟩
 obtain ⟨q,m1,dd,q',m2,dd',rfl⟩:=vnew_is hvX; obtain ⟨X1,hX1⟩:∃ X1,X1=X.alloc (.cells #[.slice q m1 dd,.slice q' m2 dd',.int .i64 (doR s c).1.ins,.int .i64 (doR s c).1.res,.int .i64 (doR s c).1.next,.int .i64 (doR s c).1.inn,.int .i64 (doR s c).1.out] 25):=⟨_,rfl⟩
 have hb1:Below X.heap.size X X1:=by rw [hX1]; exact Ac.below_alloc _ _
 have BX1:=hide ((BW.out.trans (hbX.mono BW.out.size)).trans (hb1.mono (Nat.le_trans BW.out.size hbX.size))); have F0:=hide (blk_below (blk_below E0.out hbX) hb1); have FC:=hide (blk_below (blk_below E1.out hbX) hb1)
 have F1:Hid (X1.heap[X.heap.size]? = some (venO (.slice q m1 dd) (.slice q' m2 dd') (doR s c).1)):=by show X1.heap[X.heap.size]? = _; rw [hX1]; exact heap_alloc_new X _
 have VX:=hide ((hvX.below hb1).mono (Nat.zero_le _)); have EX:=hide ((heX.below hb1).mono (Nat.zero_le _)); have OP:=hide (opened_any X1 (LD.out.next BX1.out)); have HX1:=hide hX1
 obtain ⟨pe,ce,rfl⟩:∃ p c',ev=.slice p (doR s c).1.evs.length c':=by obtain ⟨q,c',e,-⟩:=heX; exact ⟨q,c',e⟩
 clear hX1 hb1 hvX heX hbX DO HW E0 E1 a0 a1 a2 a3 a4 a5 a6 d0 d1 d2 d3 d4 d5 d6 d7 d8 d9 d10
 by_cases hce:checkE s=0
 ·obtain ⟨z1,z2,-⟩:=do_cases c hce
  have DOK:=hide (do_ok (c:=c) hce); rw [z1]; obtain ⟨T,hT⟩:∃ T,T=(doR s c).1:=⟨_,rfl⟩; rw [<- hT] at HX1 F1 VX EX z2 DOK ⊢; have LX:=hide (LD.out.next BX1.out); clear hT z1
  go_wp2_with (rw [<- HX1.out])
  refine OP.out.mono ?_
  rintro e Y ⟨rfl,hbY⟩
  have BY:=hide (BX1.out.trans (hbY.mono BX1.out.size)); have LY:=hide (LX.out.next hbY); have Y0:=hide (blk_below F0.out hbY); have Y1:=hide (blk_below F1.out hbY); have YC:=hide (blk_below FC.out hbY); have VY:=hide (VX.out.below hbY); have EY:=hide (EX.out.below hbY); have VS:=hide (VI.out.below BY.out); have RJ:=hide (rejected_any _ _ Y EY.out); clear OP HX1 hbY F0 F1 FC VX EX VI BX1 LX; obtain ⟨a0,a1,a2,a3,a4,a5,a6⟩:=ven_cells Y0.out; obtain ⟨b0,b1,b2,b3,b4,b5,b6⟩:=ven_cells Y1.out; have d0:=(blk_cell YC.out 0).1; have d1:=(blk_cell YC.out 1).1
  simp only [List.getElem?_toArray,List.getElem?_cons_zero,List.getElem?_cons_succ] at d0 d1
  go_wp2_with fail
  refine RJ.out.mono ?_
  rintro e Z' ⟨rfl,hZ'⟩
  rw [hZ']; clear hZ' RJ; cases hrj:rejectedL T.evs
  ·cases h6:(c.kind == 6)
   ·cases h7:(c.kind == 7)
    ·have CN:Hid (Calls Tryz.prog 35 #[.slice pe T.evs.length ce,fnV 36] Y fun e w'=>e=.returned (.bool (T.evs.any fun x=>x.1 == 3)) /\ Below Y.heap.size Y w'):=by
      obtain ⟨p9,c9,e9,-,hl9,hr9,-⟩:=EY.out; cases e9
      exact others_filled pe ce T.evs Y (Nat.le_trans hl9 (by decide)) hr9
     go_wp2_with fail
     refine CN.out.mono ?_
     rintro e Z ⟨rfl,hbZ⟩
     have BZ:=hide (BY.out.trans (hbZ.mono BY.out.size)); have LZ:=hide (LY.out.next hbZ)
     cases hfl:T.evs.any fun x=>x.1 == 3
     ·obtain ⟨q9,q9',g9,g9',A,M,e,-,-,vr,-⟩:=(VS.out.below hbZ)
      simp only [Value.agg.injEq,Array.mk.injEq,List.cons.injEq,Value.slice.injEq,and_true] at e; obtain ⟨⟨rfl,rfl,rfl⟩,⟨rfl,rfl,rfl⟩⟩:=e; obtain ⟨r9,r9',f9,f9',A',M',e,-,-,vr',-⟩:=(VY.out.below hbZ); simp only [Value.agg.injEq,Array.mk.injEq,List.cons.injEq,Value.slice.injEq,and_true] at e; obtain ⟨⟨rfl,rfl,rfl⟩,⟨rfl,rfl,rfl⟩⟩:=e
      have hev:∀ e,e ∈ T.evs->¬ e.1=3:=fun e he h3=>by
       have:=List.any_eq_false.1 hfl e he; simp [h3] at this
      obtain ⟨hs,hS⟩:=checkE_zero.1 hce; have hturn:=DOK.out hrj
      have OS:=others_same hturn (str_evs hs []) (sums_evs hS []) (by simpa using h6) (by simpa using h7) hev
      have KP:=(turn_keeps hturn (str_evs hs []) (sums_evs hS [])).1; obtain ⟨o1,o2,o3⟩:=OS
      have hN:∀ a,a ∈ A->a.n=s.mkts.length:=fun a ha=>by
       have h1:a.acc ∈ s.accs:=by rw [<- vr.accs]; exact List.mem_map_of_mem ha
       have h2:=acc_len (hs.acc _ h1); have h3:=(vr.eachA a ha).len; exact h3.symm.trans (Int.ofNat_inj.1 h2)
      have hN':∀ a,a ∈ A'->a.n=s.mkts.length:=fun a ha=>by
       have h1:a.acc ∈ T.accs:=by rw [<- vr'.accs]; exact List.mem_map_of_mem ha
       have h2:=acc_len (KP.str.acc _ h1); have h3:=(vr'.eachA a ha).len; exact (h3.symm.trans (Int.ofNat_inj.1 h2)).trans KP.len
      have hm2:s.mkts.length<=2:=hs.m2
      have hA8:A.length<=8:=by
       have:A.length=s.accs.length:=by rw [<- vr.accs]; simp
       rw [this]; exact hs.few
      have HAS:Hid (∀ W,Below Z.heap.size Z W->∀ a,a ∈ A->(a.id=c.ac->¬ (c.kind=1 \/ c.kind=2))->∀ B,W.cell? ⟨B,0,none⟩ = some (.int .i64 a.id)->W.cell? ⟨B,1,none⟩ = some (.int .i64 a.bal)->W.cell? ⟨B,2,none⟩ = some (.slice a.p a.n a.c) ->
        Calls Tryz.prog 37 #[.slice q A'.length dd,.func (.func 38) #[] #[.pointer (some ⟨B,0,none⟩)]] W fun e w'=>e=.returned (.bool true) /\ Below W.heap.size W w'):=fun W hW a ha hx B k0 k1 k2=>by
       have v1:=vr.below hW; have v2:=vr'.below hW
       refine others_has q dd A' a B W v2.na v2.rowA (fun b hb=>(hN' b hb).trans (hN a ha).symm) (v1.eachA a ha) v2.eachA (by rw [hN a ha]; omega) k0 k1 k2 ?_
       have h1:a.acc ∈ s.accs:=by rw [<- vr.accs]; exact List.mem_map_of_mem ha
       have h2:=o3 a.acc h1 hx; rw [<- vr'.accs] at h2; obtain ⟨b,hb,e⟩:=List.mem_map.1 h2; exact ⟨b,hb,e⟩
      have HA:=hide vr.rowA; have o1':T.ins=s.ins:=o1; have o2':T.res=s.res:=o2; obtain ⟨n,hn⟩:∃ n,n=A.length:=⟨_,rfl⟩; rw [<- hn] at hA8; have HN:=hide hn; have Z0:=hide (blk_below Y0.out hbZ); have Z1:=hide (blk_below Y1.out hbZ); have ZC:=hide (blk_below YC.out hbZ); rw [<- hn] at Z0; clear VS VY EY Y0 Y1 YC BY LY LZ LD CN DOK hbZ vr vr' hev hs hS hturn KP o1 o2 o3 hN hN' hm2 hn hfl h6 h7 hrj hce z2 a0 a1 a2 a3 a4 a5 a6 b0 b1 b2 b3 b4 b5 b6 d0 d1; obtain ⟨a0,a1,a2,a3,a4,a5,a6⟩:=ven_cells Z0.out; obtain ⟨b0,b1,b2,b3,b4,b5,b6⟩:=ven_cells Z1.out; have d0:=(blk_cell ZC.out 0).1; have d1:=(blk_cell ZC.out 1).1
      simp only [List.getElem?_toArray,List.getElem?_cons_zero,List.getElem?_cons_succ] at d0 d1
      rw [o1'] at b2; rw [o2'] at b3
      go_wp2_with fail
      go_loopw [45] (fun i wr=>∃ (k:Nat),k<=n /\ i=.int .i64 k /\ Hid (Below Z.heap.size Z wr)) (fun i _=>n - (intOf i).toNat)
      case atStart=>exact ⟨0,Nat.zero_le _,rfl,Below.refl _ _⟩
      case round =>
       obtain ⟨k,hk,rfl,J⟩:=hrel
       by_cases hlt:k < n
       ·have hltz:(k:Int) < (n:Int):=by omega
        have hkA:k < A.length:=by rw [<- HN.out]; exact hlt
        obtain ⟨b,off,rfl,hc⟩:∃ b off,p=some ⟨b,off,none⟩ /\ ∀ j u,(A.flatMap encA)[j]? = some u->wr.cell? ⟨b,off + j,none⟩ = some u:=by
         rcases arow_below HA.out J.out with e | e
         ·rw [e] at hkA; simp at hkA
         ·exact e
        obtain ⟨c0,c1,c2⟩:=arow_cells hc hkA; have hx:=HAS.out; have D0:=(J.out.cell (World.block_lt_of_cell? _ _ d0)).trans d0; have D1:=(J.out.cell (World.block_lt_of_cell? _ _ d1)).trans d1; have B0:=(J.out.cell (World.block_lt_of_cell? _ _ b0)).trans b0
        have D0:=fun o=>cell_old D0 o
        have D1:=fun o=>cell_old D1 o
        have B0:=fun o=>cell_old B0 o
        have AM:=hide (List.getElem_mem hkA); generalize A[k]'hkA=a at c0 c1 c2 AM
        have CALL:Hid ((a.id=c.ac->¬ (c.kind=1 \/ c.kind=2))->Calls Tryz.prog 37 #[.slice q A'.length dd,.func (.func 38) #[] #[.pointer (some ⟨wr.heap.size,0,none⟩)]] (wr.alloc (.cells #[.int .i64 a.id,.int .i64 a.bal,.slice a.p a.n a.c] 40)) fun e w'=>e=.returned (.bool true) /\ Below (wr.alloc (.cells #[.int .i64 a.id,.int .i64 a.bal,.slice a.p a.n a.c] 40)).heap.size (wr.alloc (.cells #[.int .i64 a.id,.int .i64 a.bal,.slice a.p a.n a.c] 40)) w'):=fun hne=>by
         have hnew:=heap_alloc_new wr (.cells #[.int .i64 a.id,.int .i64 a.bal,.slice a.p a.n a.c] 40); have k0:=(blk_cell hnew 0).1; have k1:=(blk_cell hnew 1).1; have k2:=(blk_cell hnew 2).1
         simp only [List.getElem?_toArray,List.getElem?_cons_zero,List.getElem?_cons_succ] at k0 k1 k2
         exact hx _ (J.out.trans ((Ac.below_alloc _ _).mono J.out.size)) a AM.out hne _ k0 k1 k2
        clear hx HAS hc HA AM; generalize a.id=z1 at *; generalize a.bal=z2 at *; generalize a.p=z3 at *; generalize a.n=z4 at *; generalize a.c=z5 at *; cases e0:(z1 == c.ac)
        ·have CA:=hide (CALL.out (fun e=>by simp [e] at e0))
         go_wp2_with fail
         refine CA.out.mono ?_
         rintro e W ⟨rfl,hbW⟩
         go_wp2
         go_roundw
         case rel=>exact ⟨k + 1,by omega,by go_num,(J.out.trans ((Ac.below_alloc _ _).mono J.out.size)).trans (hbW.mono (Nat.le_trans J.out.size (Ac.below_alloc _ _).size))⟩
         case measure=>simp [intOf]; omega
        ·cases e1:(c.kind == 1)
         ·cases e2:(c.kind == 2)
          ·have CA:=hide (CALL.out (fun _=>by simpa using ⟨by simpa using e1,by simpa using e2⟩))
           go_wp2_with fail
           refine CA.out.mono ?_
           rintro e W ⟨rfl,hbW⟩
           go_wp2
           go_roundw
           case rel=>exact ⟨k + 1,by omega,by go_num,(J.out.trans ((Ac.below_alloc _ _).mono J.out.size)).trans (hbW.mono (Nat.le_trans J.out.size (Ac.below_alloc _ _).size))⟩
           case measure=>simp [intOf]; omega
          ·go_wp2
           go_roundw
           case rel=>exact ⟨k + 1,by omega,by go_num,J.out.trans ((Ac.below_alloc _ _).mono J.out.size)⟩
           case measure=>simp [intOf]; omega
         ·go_wp2
          go_roundw
          case rel=>exact ⟨k + 1,by omega,by go_num,J.out.trans ((Ac.below_alloc _ _).mono J.out.size)⟩
          case measure=>simp [intOf]; omega
       ·obtain rfl:k=n:=by omega
        have A2:=(J.out.cell (World.block_lt_of_cell? _ _ a2)).trans a2; have A3:=(J.out.cell (World.block_lt_of_cell? _ _ a3)).trans a3; have B2:=(J.out.cell (World.block_lt_of_cell? _ _ b2)).trans b2; have B3:=(J.out.cell (World.block_lt_of_cell? _ _ b3)).trans b3
        go_wp2
        go_ret
        exact ⟨rfl,BZ.out.trans (J.out.mono BZ.out.size)⟩
     ·have OP2:=hide (opened_any Z LZ.out)
      go_wp2_with fail
      refine OP2.out.mono ?_
      rintro e Z9 ⟨rfl,hb9⟩
      go_wp2
      go_ret
      exact ⟨rfl,BZ.out.trans (hb9.mono BZ.out.size)⟩
    ·have OP2:=hide (opened_any Y LY.out)
     go_wp2_with fail
     refine OP2.out.mono ?_
     rintro e Z9 ⟨rfl,hb9⟩
     go_wp2
     go_ret
     exact ⟨rfl,BY.out.trans (hb9.mono BY.out.size)⟩
   ·have OP2:=hide (opened_any Y LY.out)
    go_wp2_with fail
    refine OP2.out.mono ?_
    rintro e Z9 ⟨rfl,hb9⟩
    go_wp2
    go_ret
    exact ⟨rfl,BY.out.trans (hb9.mono BY.out.size)⟩
  ·have OP2:=hide (opened_any Y LY.out)
   go_wp2_with fail
   refine OP2.out.mono ?_
   rintro e Z9 ⟨rfl,hb9⟩
   go_wp2
   go_ret
   exact ⟨rfl,BY.out.trans (hb9.mono BY.out.size)⟩
 ·have HR:(doR s c).2=checkE s:=by rw [do_bad c hce]
  rw [HR]; obtain ⟨r,hr⟩:∃ r,r=checkE s:=⟨_,rfl⟩; rw [<- hr] at hce ⊢; obtain ⟨T,hT⟩:∃ T,T=(doR s c).1:=⟨_,rfl⟩; rw [<- hT] at HX1 ⊢; clear hT hr HR F0 F1 FC VX EX VI; have LX:=hide (LD.out.next BX1.out)
  go_wp2_with (rw [<- HX1.out])
  refine OP.out.mono ?_
  rintro e Y ⟨rfl,hbY⟩
  have BY:=hide (BX1.out.trans (hbY.mono BX1.out.size)); have OP2:=hide (opened_any Y (LX.out.next hbY)); clear OP HX1 hbY LX BX1
  go_wp2_with fail
  refine OP2.out.mono ?_
  rintro e Z ⟨rfl,hbZ⟩
  have BZ:=hide (BY.out.trans (hbZ.mono BY.out.size)); clear OP2 hbZ BY
  go_wp2
  go_ret
  exact ⟨rfl,BZ.out⟩
end Go.Proofs.YtpkbiafhnflmnaaGreatDoor.Vn
namespace Go.Proofs.YtpkbiafhnflmnaaGreatDoor.venueOthers
open Go.ChangeShapes Go.WideShapes Go.ChangeAt Go.RowKit Go.Joins Go.Proofs.YtpkbiafhnflmnaaGreatDoor.Rk Go.Proofs.YtpkbiafhnflmnaaGreatDoor.Vn
set_option linter.unusedVariables false
theorem own:ownKnob Tryz.prog.godebug=none:=by kernel_rfl
theorem laidOut:laidOutB Tryz.prog=true:=by kernel_rfl
set_option maxRecDepth 100000 in
theorem lifted (os:Os) (started:os.Started) (H:Type) (enc:TypeId × Value->H) :
  ReturnsInHanded {} Tryz.checked os 9 .any (fun w args=>(Rows.venueOthersSpec.pre enc Tryz.prog Tryz.f9 Rows.venueOthersRow.domain false w args /\ laidMetH Tryz.prog laid1 w) /\ sizedMet enc Tryz.prog Tryz.f9 (OpenSpec.ofChange Rows.venueOthersSpec) false w args)
   (Rows.venueOthersSpec.post enc Tryz.prog Tryz.f9 false true false false):=by
 refine returnsInHanded_of_change_and (C:=Tryz.checked) (X:=fun w _=>laidMetH Tryz.prog laid1 w) (fun _ _ _ hh h=>h.of_heap hh) own started (by kernel_rfl) Tryz.func9
  (ChangeSpec.witness_shaped (enc:=enc) (C:=Tryz.checked) (os:=os) (X:=fun w _=>laidMetH Tryz.prog laid1 w) false (World.laidAll Tryz.prog os laid1) #[.agg #[.slice none 0 0,.slice none 0 0,.int .i64 0,.int .i64 0,.int .i64 0,.int .i64 0,.int .i64 0],.agg #[.int .i64 0,.int .i64 0,.int .i64 0,.int .i64 0,.int .i64 0,.int .i64 0,.int .i64 0,.int .i64 0,.int .i64 0,.int .i64 0,.bool false]] 8 (World.laidAll_os _ _ _)
   (World.shaped_of_ZipB (by kernel_rfl) (by kernel_rfl)) (by kernel_rfl) (by kernel_rfl) (by kernel_rfl)
   (by rw [MakeChecks.laidMetH_plain _ _ _ (by kernel_rfl)]; exact laidMet_laidAll _ (by kernel_rfl) (by kernel_rfl))) ?_
 intro W base args ds gs before hval0 hW hcnd hsz0 hX _
 have hval:∀ (j:Nat) t v,Tryz.f9.params[j]? = some t->args[j]? = some v->Value.okWide Tryz.prog W .any base t v:=hval0; have hLd:=of_laid hX; have hW':=hW; obtain ⟨p,q,hA0,hV,rfl,hfz,hnd⟩:=hW
 have hA:DataW.TrodAll enc Tryz.prog W 0 (fun _=>true) true Tryz.f9.params.toList args.toList ds p:=hA0
 have hsz:(DataW.weightsEach Tryz.prog (Tryz.f9.params.toList ++ Rows.venueOthersSpec.plain.varTypes Tryz.prog) (ds ++ gs)).all (·<=reachBytes)=true:=hsz0
 rw [Tryz.params9] at hA hval hsz; obtain ⟨v0,vs0,d0,ds0,p0,q0,hargs,rfl,rfl,h0,r0⟩:=trodAll_cons hA; obtain ⟨v1,vs1,d1,ds1,p1,q1,rfl,rfl,rfl,h1,r1⟩:=trodAll_cons r0; obtain ⟨rfl,rfl,rfl⟩:=trodAll_nil r1
 obtain rfl:args = #[v0,v1]:=by cases args; simp_all
 obtain ⟨rfl,rfl⟩:=trodVars_none hV; have k0:=h0; have k1:=h1
 have lt0:∀ x ∈ p0,x.block < W.heap.size:=by obtain ⟨m,hm⟩:=k0; exact DataW.trod_lt m _ _ _ hm
 have lt1:∀ x ∈ p1,x.block < W.heap.size:=by obtain ⟨m,hm⟩:=k1; exact DataW.trod_lt m _ _ _ hm
 have big:∀ {j:Nat} {t:TypeId} {d:DataW H},([25,29] ++ Rows.venueOthersSpec.plain.varTypes Tryz.prog)[j]? = some t->([d0,d1] ++ [])[j]? = some d->∀ m,m ∈ d.weights Tryz.prog t->m<=reachBytes:=fun ht hd m hm=>by
  have:=List.all_eq_true.1 hsz m (DataW.weights_mem_each ht hd m hm)
  simpa using this
 obtain ⟨s,hs⟩:=venue_read (hval 0 25 v0 rfl rfl) h0 (big (j:=0) rfl rfl); obtain ⟨c,rfl⟩:=cmd_read (hval 1 29 v1 rfl rfl) h1; clear hA0 hval0 big
 refine (law_others v0 s c W hs hLd).mono fun e W' ⟨he,bel⟩=>?_
 subst he
 exact ⟨_,rfl,_,_,_,[],_,[],hW',trodAll_mk1 (shut_bool Tryz.underlying4 _),(trodAll_cons_mk (Below.trod laidOut (by kernel_rfl) (of_decide_eq_true (by kernel_rfl)) k0 bel lt0) (trodAll_cons_mk (Below.trod laidOut (by kernel_rfl) (of_decide_eq_true (by kernel_rfl)) k1 bel lt1) trodAll_mk0)),rfl,bel.frame _,fun h=>by cases h⟩
theorem over:Rows.VenueOthersSaid :=
 OpenClaim.holds_of_wide 9 Tryz.f9 rfl rfl rfl rfl rfl rfl rfl ⟨rfl,rfl,rfl,rfl,rfl⟩ rfl rfl rfl rfl rfl (by kernel_rfl) Tryz.func9 (by kernel_rfl)
  (of_decide_eq_true (by kernel_rfl)) (by unfold Func.isWrapper; first | (rw [if_pos (by decide +kernel)]; kernel_rfl) | (rw [if_neg (by decide +kernel)]; exact ⟨rfl,rfl⟩))
  (fun os started H enc _=>lifted os started H enc)
theorem card:Rows.VenueOthersCardSaid :=
 Claim7.holds_tied_plain_at .later [] [.data] true (true, "282d2aec10900769c483711ccf7034c4226bb8f84f208cece23444b1ce27ece2") false
  over (fun _ h=>by cases h) (by kernel_rfl) (fun _ h=>by cases h) venueOthers_row_tie rfl ⟨rfl,rfl⟩ (by kernel_rfl) rfl
  (fun f fn hf hfn=>by
   obtain rfl : f = 9 := Option.some.inj ((show Tryz.prog.funcNamed "tollbooth/tollboothlaw.VenueOthers" = some 9 by kernel_rfl).symm.trans hf) |>.symm
   obtain rfl:fn=Tryz.f9:=(Option.some.inj (Tryz.func9.symm.trans hfn)).symm
   exact ⟨by kernel_rfl,fun j t ht=>by
    rw [Tryz.params9] at ht
    rcases j with _ | _ | j
    ·obtain rfl:t=25:=by simpa using ht.symm
     exact (show Tryz.prog.wantsStandIn 25=false by kernel_rfl)
    ·obtain rfl:t=29:=by simpa using ht.symm
     exact (show Tryz.prog.wantsStandIn 29=false by kernel_rfl)
    ·simp at ht⟩)
  (by kernel_rfl)
end Go.Proofs.YtpkbiafhnflmnaaGreatDoor.venueOthers
namespace Go.Proofs.YtpkbiafhnflmnaaGreatDoor
theorem venueOthers_holds:Rows.VenueOthersCardSaid:=venueOthers.card
#print axioms venueOthers_holds
end Go.Proofs.YtpkbiafhnflmnaaGreatDoor
