/-
  VenueReady is true of every venue and command: whoever takes more on, or takes money out, has what that wants by the marks behind it, what rests of the order done, too; who only reduces has no more of a position than ahead, and none of the other sign. The table of tiers reads as the program's text lays it (the card ties it).
-/
import Derived.Test.YtpkbiafhnflmnaaGreatDoorS47
import Derived.Test.YtpkbiafhnflmnaaGreatDoorVenueReadyMath
import Derived.Test.YtpkbiafhnflmnaaGreatDoorS26
import Derived.BigQuiet
import Derived.Test.YtpkbiafhnflmnaaGreatDoorRows
import Derived.Test.YtpkbiafhnflmnaaGreatDoorCards
import Derived.Test.YtpkbiafhnflmnaaGreatDoorTie
import Derived.Test.YtpkbiafhnflmnaaGreatDoorS48
import Derived.Outline
import Derived.ProofKit
import Derived.OpenShut
import Derived.ChangeOld
import Derived.Below
import Derived.SizedLaws
import Derived.Lay
import Derived.MakeChecks
import Derived.SevenTiedAt
namespace Go.Proofs.YtpkbiafhnflmnaaGreatDoor.Vn
open Go.RowKit Go.Proofs.YtpkbiafhnflmnaaGreatDoor.Num Go.Proofs.YtpkbiafhnflmnaaGreatDoor.Fix Go.Proofs.YtpkbiafhnflmnaaGreatDoor.AcP Go.Proofs.YtpkbiafhnflmnaaGreatDoor.FuP Go.Proofs.YtpkbiafhnflmnaaGreatDoor.Bk Go.Proofs.YtpkbiafhnflmnaaGreatDoor.Rm Go.Proofs.YtpkbiafhnflmnaaGreatDoor.Ac Go.Sort Go.Maps Go.Proofs.YtpkbiafhnflmnaaGreatDoor.Mix Go.Proofs.YtpkbiafhnflmnaaGreatDoor.RkP
theorem mrow_rm {w:World} {p:Option Addr} {M:List Mkt} (h:MRow w p M) (hm:∀ m,m ∈ M->MOk w m):Rm.MRow w p M:=by
 refine ⟨?_,fun j hj=>?_⟩
 ·rcases h with h | ⟨b,off,rfl,hc⟩
  ·exact .inl h
  ·refine .inr ⟨b,off,rfl,fun j hj i v hv=>?_⟩
   rw [getElem!_pos M j hj] at hv
   have hi:i < 4:=(List.getElem?_eq_some_iff.1 hv).1
   have:=hc (j * 4 + i) v (by rw [show flatM M=M.flatMap mCells from rfl,flat_get mCells_len M j hj i hi]; exact hv)
   rw [<- Nat.add_assoc] at this; exact this
 ·rw [getElem!_pos M j hj]
  have:=hm _ (List.getElem_mem hj); exact ⟨this.b,this.a,this.nb,this.na⟩
set_option maxHeartbeats 2000000 in
set_option maxRecDepth 100000 in
theorem ready_idx1_some (b off c:Nat) (A:List Am) (P:Am->Bool) (B:Nat) (w:World) (hn:A.length<=140737488351232)
  (hc:∀ j u,(A.flatMap encA)[j]? = some u->w.cell? ⟨b,off + j,none⟩ = some u) (hb:b < w.heap.size)
  (hq:∀ W,Below w.heap.size w W->∀ k (hk:k < A.length),Calls Tryz.prog 17 #[accV (A[k]'hk).id (A[k]'hk).bal (A[k]'hk).p (A[k]'hk).n (A[k]'hk).c ,.pointer (some ⟨B,0,none⟩)] W fun e w'=>e=.returned (.bool (P (A[k]'hk))) /\ Below W.heap.size W w') :
  Calls Tryz.prog 16 #[.slice (some ⟨b,off,none⟩) A.length c,.func (.func 17) #[] #[.pointer (some ⟨B,0,none⟩)]] w fun e w'=>e=.returned (.int .i64 (idxP P A 0)) /\ Below w.heap.size w w':=by
 have eg:∀ args w,(callFunc 17 args).run Tryz.prog w=.ok (.enter 17 args) w:=enters_of Tryz.func17 (by kernel_rfl) rfl
 generalize hr:idxP P A 0=r; have R0:Hid (idxP P (A.drop 0) 0=r):=hr; clear hr; have HC:=hide hc; have HQ:=hide hq; clear hc hq; generalize hxn:A.length=n at hn ⊢; have N:=hide hxn; clear hxn
 go_enter Tryz.func16,Tryz.ntmps16
 go_wp2
 go_loopw [8] (fun i wr=>∃ k:Nat,k<=n /\ i=.int .i64 k /\ Hid (Below w.heap.size w wr) /\ Hid (idxP P (A.drop k) k=r)) (fun i _=>n - (intOf i).toNat)
 case atStart=>exact ⟨0,Nat.zero_le _,rfl,Below.refl _ _,R0⟩
 case round =>
  obtain ⟨k,hk,rfl,BW,R⟩:=hrel
  by_cases hlt:k < n
  ·have hltz:(k:Int) < (n:Int):=by omega
   have hkx:k < A.length:=by rw [N.out]; exact hlt
   obtain ⟨c0,c1,c2⟩:=arow_cells (w:=wr) (b:=b) (off:=off) (fun j u hu=>(BW.out.cell hb).trans (HC.out j u hu)) hkx
   have hcall:=HQ.out wr BW.out k hkx; have HH:=hide (idxP_at P hkx); generalize (A[k]'hkx).id=z1 at c0 hcall; generalize (A[k]'hkx).bal=z2 at c1 hcall; generalize (A[k]'hkx).p=z3 at c2 hcall; generalize (A[k]'hkx).n=z4 at c2 hcall; generalize (A[k]'hkx).c=z5 at c2 hcall
   cases hh:P (A[k]'hkx) with
   |true =>
    rw [hh] at hcall
    go_wp2_with (go_at_fn 17; refine hcall.mono ?_; rintro e w' ⟨rfl,hb'⟩)
    go_ret
    refine ⟨?_,BW.out.trans (hb'.mono BW.out.size)⟩
    rw [<- R.out,HH.out,if_pos hh]
    rfl
   |false =>
    rw [hh] at hcall
    go_wp2_with (go_at_fn 17; refine hcall.mono ?_; rintro e w' ⟨rfl,hb'⟩)
    go_roundw
    case rel =>
     refine ⟨k + 1,by omega,by go_num,BW.out.trans (hb'.mono BW.out.size),?_⟩
     show idxP P (A.drop (k + 1)) (k + 1)=r
     rw [<- R.out,HH.out,hh]
     rfl
    case measure=>simp [intOf]; omega
  ·have hk':k=n:=by omega
   subst hk'
   go_wp2
   go_ret
   refine ⟨?_,BW.out⟩
   rw [<- R.out,<- N.out,List.drop_length]
   rfl
theorem ready_idx1 (p:Option Addr) (c:Nat) (A:List Am) (P:Am->Bool) (B:Nat) (w:World) (hn:A.length<=140737488351232) (h:ARow w p A)
  (hq:∀ W,Below w.heap.size w W->∀ k (hk:k < A.length),Calls Tryz.prog 17 #[accV (A[k]'hk).id (A[k]'hk).bal (A[k]'hk).p (A[k]'hk).n (A[k]'hk).c ,.pointer (some ⟨B,0,none⟩)] W fun e w'=>e=.returned (.bool (P (A[k]'hk))) /\ Below W.heap.size W w') :
  Calls Tryz.prog 16 #[.slice p A.length c,.func (.func 17) #[] #[.pointer (some ⟨B,0,none⟩)]] w fun e w'=>e=.returned (.int .i64 (idxP P A 0)) /\ Below w.heap.size w w':=by
 by_cases hx:A=[]
 ·subst hx
  refine (accIdx_none p c _ w).mono ?_
  rintro e w' ⟨rfl,rfl⟩
  exact ⟨rfl,Below.refl _ _⟩
 ·rcases h with h | ⟨b,off,rfl,hc⟩
  ·exact absurd h hx
  ·exact ready_idx1_some b off c A P B w hn hc (World.block_lt_of_cell? w _ (arow_cells hc (List.length_pos_iff.2 hx)).1) hq
set_option maxHeartbeats 2000000 in
set_option maxRecDepth 100000 in
theorem ready_idx2_some (b off c:Nat) (A:List Am) (P:Am->Bool) (B:Nat) (w:World) (hn:A.length<=140737488351232)
  (hc:∀ j u,(A.flatMap encA)[j]? = some u->w.cell? ⟨b,off + j,none⟩ = some u) (hb:b < w.heap.size)
  (hq:∀ W,Below w.heap.size w W->∀ k (hk:k < A.length),Calls Tryz.prog 19 #[accV (A[k]'hk).id (A[k]'hk).bal (A[k]'hk).p (A[k]'hk).n (A[k]'hk).c ,.pointer (some ⟨B,0,none⟩)] W fun e w'=>e=.returned (.bool (P (A[k]'hk))) /\ Below W.heap.size W w') :
  Calls Tryz.prog 16 #[.slice (some ⟨b,off,none⟩) A.length c,.func (.func 19) #[] #[.pointer (some ⟨B,0,none⟩)]] w fun e w'=>e=.returned (.int .i64 (idxP P A 0)) /\ Below w.heap.size w w':=by
 have eg:∀ args w,(callFunc 19 args).run Tryz.prog w=.ok (.enter 19 args) w:=enters_of Tryz.func19 (by kernel_rfl) rfl
 generalize hr:idxP P A 0=r; have R0:Hid (idxP P (A.drop 0) 0=r):=hr; clear hr; have HC:=hide hc; have HQ:=hide hq; clear hc hq; generalize hxn:A.length=n at hn ⊢; have N:=hide hxn; clear hxn
 go_enter Tryz.func16,Tryz.ntmps16
 go_wp2
 go_loopw [8] (fun i wr=>∃ k:Nat,k<=n /\ i=.int .i64 k /\ Hid (Below w.heap.size w wr) /\ Hid (idxP P (A.drop k) k=r)) (fun i _=>n - (intOf i).toNat)
 case atStart=>exact ⟨0,Nat.zero_le _,rfl,Below.refl _ _,R0⟩
 case round =>
  obtain ⟨k,hk,rfl,BW,R⟩:=hrel
  by_cases hlt:k < n
  ·have hltz:(k:Int) < (n:Int):=by omega
   have hkx:k < A.length:=by rw [N.out]; exact hlt
   obtain ⟨c0,c1,c2⟩:=arow_cells (w:=wr) (b:=b) (off:=off) (fun j u hu=>(BW.out.cell hb).trans (HC.out j u hu)) hkx
   have hcall:=HQ.out wr BW.out k hkx; have HH:=hide (idxP_at P hkx); generalize (A[k]'hkx).id=z1 at c0 hcall; generalize (A[k]'hkx).bal=z2 at c1 hcall; generalize (A[k]'hkx).p=z3 at c2 hcall; generalize (A[k]'hkx).n=z4 at c2 hcall; generalize (A[k]'hkx).c=z5 at c2 hcall
   cases hh:P (A[k]'hkx) with
   |true =>
    rw [hh] at hcall
    go_wp2_with (go_at_fn 19; refine hcall.mono ?_; rintro e w' ⟨rfl,hb'⟩)
    go_ret
    refine ⟨?_,BW.out.trans (hb'.mono BW.out.size)⟩
    rw [<- R.out,HH.out,if_pos hh]
    rfl
   |false =>
    rw [hh] at hcall
    go_wp2_with (go_at_fn 19; refine hcall.mono ?_; rintro e w' ⟨rfl,hb'⟩)
    go_roundw
    case rel =>
     refine ⟨k + 1,by omega,by go_num,BW.out.trans (hb'.mono BW.out.size),?_⟩
     show idxP P (A.drop (k + 1)) (k + 1)=r
     rw [<- R.out,HH.out,hh]
     rfl
    case measure=>simp [intOf]; omega
  ·have hk':k=n:=by omega
   subst hk'
   go_wp2
   go_ret
   refine ⟨?_,BW.out⟩
   rw [<- R.out,<- N.out,List.drop_length]
   rfl
theorem ready_idx2 (p:Option Addr) (c:Nat) (A:List Am) (P:Am->Bool) (B:Nat) (w:World) (hn:A.length<=140737488351232) (h:ARow w p A)
  (hq:∀ W,Below w.heap.size w W->∀ k (hk:k < A.length),Calls Tryz.prog 19 #[accV (A[k]'hk).id (A[k]'hk).bal (A[k]'hk).p (A[k]'hk).n (A[k]'hk).c ,.pointer (some ⟨B,0,none⟩)] W fun e w'=>e=.returned (.bool (P (A[k]'hk))) /\ Below W.heap.size W w') :
  Calls Tryz.prog 16 #[.slice p A.length c,.func (.func 19) #[] #[.pointer (some ⟨B,0,none⟩)]] w fun e w'=>e=.returned (.int .i64 (idxP P A 0)) /\ Below w.heap.size w w':=by
 by_cases hx:A=[]
 ·subst hx
  refine (accIdx_none p c _ w).mono ?_
  rintro e w' ⟨rfl,rfl⟩
  exact ⟨rfl,Below.refl _ _⟩
 ·rcases h with h | ⟨b,off,rfl,hc⟩
  ·exact absurd h hx
  ·exact ready_idx2_some b off c A P B w hn hc (World.block_lt_of_cell? w _ (arow_cells hc (List.length_pos_iff.2 hx)).1) hq
theorem ready1_any (b:Am) (id:Int) (B:Nat) (w:World) (k0:w.cell? ⟨B,1,none⟩ = some (.int .i64 id)) :
  Calls Tryz.prog 17 #[accV b.id b.bal b.p b.n b.c,.pointer (some ⟨B,0,none⟩)] w fun e w'=>e=.returned (.bool (b.id == id)) /\ Below w.heap.size w w':=by
 have k0:=fun o=>cell_old k0 o
 go_enter Tryz.func17,Tryz.ntmps17
 go_wp2
 go_ret
 exact ⟨rfl,Ac.below_alloc _ _⟩
theorem ready2_any (b:Am) (id:Int) (B:Nat) (w:World) (k0:w.cell? ⟨B,1,none⟩ = some (.int .i64 id)) :
  Calls Tryz.prog 19 #[accV b.id b.bal b.p b.n b.c,.pointer (some ⟨B,0,none⟩)] w fun e w'=>e=.returned (.bool (b.id == id)) /\ Below w.heap.size w w':=by
 have k0:=fun o=>cell_old k0 o
 go_enter Tryz.func19,Tryz.ntmps19
 go_wp2
 go_ret
 exact ⟨rfl,Ac.below_alloc _ _⟩
/-- the place of an account that is there. -/
theorem idx_plc {T:Tn} {A:List Am} (hA:A.map Am.acc=T.accs) (hs:Srt T.accs) {id:Int} (h:hasA T.accs id=true):idxP (fun b:Am=>b.id == id) A 0=(plc T.accs id:Nat) /\ ∃ hi:plc T.accs id < A.length,(A[plc T.accs id]'hi).acc=accAt T (plc T.accs id):=by
 obtain ⟨h1,h2⟩:=accAt_has hs h
 have hl:A.length=T.accs.length:=by rw [<- hA]; simp
 have hat:∀ j (hj:j < A.length),(A[j]'hj).acc=accAt T j:=fun j hj=>by
  unfold accAt
  rw [<- hA,List.getD_eq_getElem?_getD,List.getElem?_map,List.getElem?_eq_getElem hj]
  rfl
 refine ⟨?_,by omega,hat _ _⟩
 rcases idxP_ways (fun b:Am=>b.id == id) A 0 with ⟨-,i2⟩ | ⟨j,hj,i1,i2,-⟩
 ·have hi:plc T.accs id < A.length:=by omega
  have h3:=i2 _ (List.getElem_mem hi)
  have h4:(A[plc T.accs id]'hi).id=(accAt T (plc T.accs id)).1:=congrArg (·.1) (hat _ hi)
  rw [h4,h2] at h3; simp at h3
 ·rw [i1,Nat.zero_add]
  have h4:(A[j]'hj).id=(accAt T j).1:=congrArg (·.1) (hat _ hj)
  have h5:(accAt T j).1=id:=by rw [<- h4]; simpa using i2
  by_cases hij:j=plc T.accs id
  ·rw [hij]
  ·have:=ids_ne hs (by omega:j < T.accs.length) h1 hij
   rw [h5,h2] at this; exact absurd rfl this
theorem find_ok {b a:List Odr} (h:Right b a) {id:Int} (he:findE b a id=0):okOrder (findO b a id)=0:=by
 unfold findE at he; unfold findO; rw [if_pos (bookErr_zero.2 h)] at he ⊢
 cases hf:findIn id b a with
 |none=>rw [hf] at he; cases he
 |some o =>
  have hm:=(find_mem hf).1
  rcases List.mem_append.1 hm with hm | hm
  ·exact h.b.ok o hm
  ·exact h.a.ok o hm
abbrev sndOk (a:Acc) (mks:List Int):Prop:=soundR a.1 a.2.1 a.2.2 mks=(true,true,0)
/-- who takes money out, or takes more on. -/
structure RdF (s T:Tn) (c:Cm):Prop where
 str:Str T
 has:hasA T.accs c.ac=true
 wd:c.kind=2->sndOk (accAt T (plc T.accs c.ac)) (marksP T.mkts).1
 pl:c.kind=3->hasA s.accs c.ac=true /\ ∃ k:Nat,c.mkt=k /\ k < s.mkts.length /\ T.mkts.length=s.mkts.length /\
  (c.red=true->(osd c.o=1 \/ osd c.o = -1) /\ 0<=posAt (accAt s (plc s.accs c.ac)) k * posAt (accAt T (plc T.accs c.ac)) k /\ max (posAt (accAt T (plc T.accs c.ac)) k) (-posAt (accAt T (plc T.accs c.ac)) k)<=max (posAt (accAt s (plc s.accs c.ac)) k) (-posAt (accAt s (plc s.accs c.ac)) k) /\ posAt (accAt s (plc s.accs c.ac)) k * osd c.o < 0) /\
  (c.red=false->(findE (mktAt T k).1 (mktAt T k).2.1 s.next=0 ->
    tradeErr (accAt T (plc T.accs c.ac)).1 (accAt T (plc T.accs c.ac)).2.1 (accAt T (plc T.accs c.ac)).2.2 k (osd (findO (mktAt T k).1 (mktAt T k).2.1 s.next) * oqt (findO (mktAt T k).1 (mktAt T k).2.1 s.next)) (opr (findO (mktAt T k).1 (mktAt T k).2.1 s.next)) 0=0 /\
    sndOk (traded (accAt T (plc T.accs c.ac)) k (osd (findO (mktAt T k).1 (mktAt T k).2.1 s.next) * oqt (findO (mktAt T k).1 (mktAt T k).2.1 s.next)) (opr (findO (mktAt T k).1 (mktAt T k).2.1 s.next)) 0) (marksP T.mkts).1) /\
   (¬ findE (mktAt T k).1 (mktAt T k).2.1 s.next=0->sndOk (accAt T (plc T.accs c.ac)) (marksP T.mkts).1))
theorem red_math {was now sd q:Int} (hsd:sd=1 \/ sd = -1) (h0:0<=q) (h1:q<=-sd * was) (h2:0 < -sd * was) (h3:now=was + sd * q):0<=was * now /\ max now (-now)<=max was (-was) /\ was * sd < 0:=by
 rcases hsd with rfl | rfl
 ·have h4:now=was + q:=by omega
  have h5:was < 0:=by omega
  have h6:now<=0:=by omega
  exact ⟨Int.mul_nonneg_of_nonpos_of_nonpos (by omega) h6,by omega,by omega⟩
 ·have h4:now=was - q:=by omega
  have h5:0 < was:=by omega
  have h6:0<=now:=by omega
  exact ⟨Int.mul_nonneg (by omega) h6,by omega,by omega⟩
theorem ready_facts {s:Tn} {c:Cm} (h:checkE s=0) (hr:rejectedL (doR s c).1.evs=false) (hk:c.kind=2 \/ c.kind=3):RdF s (doR s c).1 c:=by
 obtain ⟨hs,hS⟩:=checkE_zero.1 h; have ht:=do_ok h hr; generalize (doR s c).1=T at ht ⊢; have K:=(turn_keeps ht (str_evs hs []) (sums_evs hS [])).1
 rcases hk with hk | hk
 ·have hw:withdrawR { s with evs:=[] } c.ac c.n=.ok T:=by
   unfold turnR at ht; rw [hk] at ht; exact ht
  obtain ⟨w1,w2⟩:=withdraw_ready hw (str_evs hs [])
  exact ⟨K.str,w1,fun _=>(ready_ok w2).2,fun h3=>by omega⟩
 ·have hp:placeR { s with evs:=[] } c=.ok T:=by
   unfold turnR at ht; rw [hk] at ht; exact ht
  cases hred:c.red
  ·obtain ⟨p1,p2,k,p3,p4,p5,p6⟩:=place_ready hp (str_evs hs []) (sums_evs hS []) hred
   refine ⟨K.str,by rw [has_ids p2]; exact p1,fun h2=>by omega,fun _=>⟨p1,k,p3,p4,K.len,fun h=>(by rw [hred] at h; cases h),fun _=>⟨fun he=>?_,fun he=>?_⟩⟩⟩
   ·obtain ⟨q1,q2⟩:=p5 he
    exact ⟨q1,(ready_ok q2).2⟩
   ·exact (ready_ok (p6 he)).2
  ·obtain ⟨p1,p2,p3,k,p4,p5,q,q1,q2,q3,q4⟩:=place_reduces hp (str_evs hs []) (sums_evs hS []) hred
   refine ⟨K.str,by rw [has_ids p2]; exact p1,fun h2=>by omega,fun _=>⟨p1,k,p4,p5,K.len,fun _=>⟨p3,red_math p3 q1 q2 q3 q4⟩,fun h=>(by rw [hred] at h; cases h)⟩⟩
theorem pos_bd {a:Acc} {m:Int} (h:accErr a.1 a.2.1 a.2.2 m=0) (k:Nat):-1000<=posAt a k /\ posAt a k<=1000:=by
 have:=(accErr_ok h).2.2.2.2; unfold posAt
 rw [List.getD_eq_getElem?_getD]
 cases hx:a.2.2[k]? with
 |none=>simp
 |some x =>
  have:=List.all_eq_true.1 this x (List.mem_of_getElem? hx); have:=betw_true this
  simpa using this
set_option maxHeartbeats 8000000 in
set_option maxRecDepth 100000 in
theorem law_ready (v:Value) (s:Tn) (c:Cm) (w:World) (h:VIn w v s) (hL:Rk.Laid w) :
  Calls Tryz.prog 4 #[v,cmV c] w fun e w'=>e=.returned (.bool true) /\ Below w.heap.size w w':=by
 have mixed:Tryz.prog.follows .mixedOrders=true:=by kernel_rfl
 obtain ⟨p,n1,cc,p',n2,cc',hv⟩:=vnew_is h; subst hv; obtain ⟨W,hW⟩:∃ W,W=(w.alloc (.cells #[.slice p n1 cc,.slice p' n2 cc',.int .i64 s.ins,.int .i64 s.res,.int .i64 s.next,.int .i64 s.inn,.int .i64 s.out] 25)).alloc (cmO c):=⟨_,rfl⟩
 have b0:Below w.heap.size w W:=by rw [hW]; exact ((Below.refl _ w).alloc (Nat.le_refl _) _).alloc (by simp) _
 have E0:Hid (W.heap[w.heap.size]? = some (venO (.slice p n1 cc) (.slice p' n2 cc') s)):=by
  show W.heap[w.heap.size]? = _
  rw [hW]; exact blk_below (heap_alloc_new w _) (Ac.below_alloc _ _)
 have E1:Hid (W.heap[w.heap.size + 1]? = some (cmO c)):=by
  show W.heap[w.heap.size + 1]? = _
  rw [hW]
  have hx:(w.alloc (.cells #[.slice p n1 cc,.slice p' n2 cc',.int .i64 s.ins,.int .i64 s.res,.int .i64 s.next,.int .i64 s.inn,.int .i64 s.out] 25)).heap.size=w.heap.size + 1:=by simp
  have:=heap_alloc_new (w.alloc (.cells #[.slice p n1 cc,.slice p' n2 cc',.int .i64 s.ins,.int .i64 s.res,.int .i64 s.next,.int .i64 s.inn,.int .i64 s.out] 25)) (cmO c); rw [hx] at this; exact this
 have DO:=hide (venue_do _ s c W (h.below b0) (hL.next b0)); have VI:=hide h; have LD:=hide hL; have HW:=hide hW; have BW:=hide b0; clear hW b0 h hL; obtain ⟨a0,a1,a2,a3,a4,a5,a6⟩:=ven_cells E0.out; have d0:=(blk_cell E1.out 0).1; have d1:=(blk_cell E1.out 1).1; have d2:=(blk_cell E1.out 2).1; have d3:=(blk_cell E1.out 3).1; have d4:=(blk_cell E1.out 4).1; have d5:=(blk_cell E1.out 5).1; have d6:=(blk_cell E1.out 6).1; have d7:=(blk_cell E1.out 7).1; have d8:=(blk_cell E1.out 8).1; have d9:=(blk_cell E1.out 9).1; have d10:=(blk_cell E1.out 10).1
 simp only [List.getElem?_toArray,List.getElem?_cons_zero,List.getElem?_cons_succ] at d0 d1 d2 d3 d4 d5 d6 d7 d8 d9 d10
 go_enter Tryz.func4,Tryz.ntmps4
 go_wp2_with (rw [<- HW.out])
 refine DO.out.mono ?_
 rintro e X ⟨v',ev,rfl,hbX,hvX,heX⟩
 obtain ⟨q,m1,dd,q',m2,dd',rfl⟩:=vnew_is hvX; obtain ⟨X1,hX1⟩:∃ X1,X1=X.alloc (.cells #[.slice q m1 dd,.slice q' m2 dd',.int .i64 (doR s c).1.ins,.int .i64 (doR s c).1.res,.int .i64 (doR s c).1.next,.int .i64 (doR s c).1.inn,.int .i64 (doR s c).1.out] 25):=⟨_,rfl⟩
 have hb1:Below X.heap.size X X1:=by rw [hX1]; exact Ac.below_alloc _ _
 have BX1:=hide ((BW.out.trans (hbX.mono BW.out.size)).trans (hb1.mono (Nat.le_trans BW.out.size hbX.size))); have F0:=hide (blk_below (blk_below E0.out hbX) hb1); have FC:=hide (blk_below (blk_below E1.out hbX) hb1)
 have F1:Hid (X1.heap[X.heap.size]? = some (venO (.slice q m1 dd) (.slice q' m2 dd') (doR s c).1)):=by show X1.heap[X.heap.size]? = _; rw [hX1]; exact heap_alloc_new X _
 have VX:=hide ((hvX.below hb1).mono (Nat.zero_le _)); have EX:=hide ((heX.below hb1).mono (Nat.zero_le _)); have OP:=hide (opened_any X1 (LD.out.next BX1.out)); have HX1:=hide hX1
 obtain ⟨pe,ce,rfl⟩:∃ p c',ev=.slice p (doR s c).1.evs.length c':=by obtain ⟨q,c',e,-⟩:=heX; exact ⟨q,c',e⟩
 clear hX1 hb1 hvX heX hbX DO HW E0 E1 a0 a1 a2 a3 a4 a5 a6 d0 d1 d2 d3 d4 d5 d6 d7 d8 d9 d10
 by_cases hce:checkE s=0
 ·obtain ⟨z1,z2,-⟩:=do_cases c hce
  have RF:=hide (ready_facts (c:=c) hce); have STR:=hide (checkE_zero.1 hce).1; rw [z1]; obtain ⟨T,hT⟩:∃ T,T=(doR s c).1:=⟨_,rfl⟩; rw [<- hT] at HX1 F1 VX EX z2 RF ⊢; have LX:=hide (LD.out.next BX1.out); clear hT z1
  go_wp2_with (rw [<- HX1.out])
  refine OP.out.mono ?_
  rintro e Y ⟨rfl,hbY⟩
  have BY:=hide (BX1.out.trans (hbY.mono BX1.out.size)); have LY:=hide (LX.out.next hbY); have Y0:=hide (blk_below F0.out hbY); have Y1:=hide (blk_below F1.out hbY); have YC:=hide (blk_below FC.out hbY); have VY:=hide (VX.out.below hbY); have EY:=hide (EX.out.below hbY); have VS:=hide (VI.out.below BY.out); have RJ:=hide (rejected_any _ _ Y EY.out); clear OP HX1 hbY F0 F1 FC VX EX VI BX1 LX; have d0:=(blk_cell YC.out 0).1
  simp only [List.getElem?_toArray,List.getElem?_cons_zero] at d0
  go_wp2_with fail
  refine RJ.out.mono ?_
  rintro e Z' ⟨rfl,hZ'⟩
  rw [hZ']; clear hZ' RJ; cases hrj:rejectedL T.evs
  ·cases h2:(c.kind == 2)
   ·have h2b:(c.kind != 2)=true:=by simpa using h2
    cases h3:(c.kind == 3)
    ·have h3b:(c.kind != 3)=true:=by simpa using h3
     have OP2:=hide (opened_any Y LY.out)
     go_wp2_with fail
     refine OP2.out.mono ?_
     rintro e Z9 ⟨rfl,hb9⟩
     go_wp2
     go_ret
     exact ⟨rfl,BY.out.trans (hb9.mono BY.out.size)⟩
    ·have h3':c.kind=3:=by simpa using h3
     have h3b:(c.kind != 3)=false:=by simpa using h3
     have F:=RF.out hrj (.inr h3'); obtain ⟨q9,q9',g9,g9',A,M,e,-,-,vr,-⟩:=VS.out; simp only [Value.agg.injEq,Array.mk.injEq,List.cons.injEq,Value.slice.injEq,and_true] at e; obtain ⟨⟨rfl,rfl,rfl⟩,⟨rfl,rfl,rfl⟩⟩:=e; obtain ⟨r9,r9',f9,f9',A',M',e,-,-,vr',ov',-⟩:=VY.out; simp only [Value.agg.injEq,Array.mk.injEq,List.cons.injEq,Value.slice.injEq,and_true] at e; obtain ⟨⟨rfl,rfl,rfl⟩,⟨rfl,rfl,rfl⟩⟩:=e; obtain ⟨ix1,hi,hacc⟩:=idx_plc vr'.accs F.str.srt F.has; obtain ⟨hmk0,-,-⟩:=F.str.marks; have d1:=(blk_cell YC.out 1).1; have d2:=(blk_cell YC.out 2).1; have d6:=(blk_cell YC.out 6).1; have d10:=(blk_cell YC.out 10).1
     simp only [List.getElem?_toArray,List.getElem?_cons_zero,List.getElem?_cons_succ] at d1 d2 d6 d10
     have IX:Hid (Calls Tryz.prog 16 #[.slice q A'.length dd,.func (.func 17) #[] #[.pointer (some ⟨w.heap.size + 1,0,none⟩)]] Y fun e w'=>e=.returned (.int .i64 (plc T.accs c.ac:Nat)) /\ Below Y.heap.size Y w'):=by
      have:=ready_idx1 q dd A' (fun b=>b.id == c.ac) (w.heap.size + 1) Y vr'.na vr'.rowA (fun W hW k hk=>ready1_any _ c.ac _ W ((hW.cell (World.block_lt_of_cell? _ _ d1)).trans d1))
      rw [ix1] at this; exact this
     have MK:Hid (∀ X,Below Y.heap.size Y X->Calls Tryz.prog 18 #[.slice q' M'.length dd'] X fun e w'=>∃ v,e=.returned (.tuple #[v,.int .i64 0]) /\ w'.ownsRow X.heap.size 3 1 v (marksP T.mkts).1.length ((marksP T.mkts).1.map (Value.int .i64)) /\ Below X.heap.size X w'):=fun X hX=>by
      have:=marks_any q' M'.length dd' M' X rfl (mrow_rm (mrow_below vr'.rowM hX) (fun m hm=>(vr'.eachM m hm).below hX))
      rw [marksP_is,vr'.mkts,hmk0] at this; exact this
     obtain ⟨i,hi0⟩:∃ i,i=plc T.accs c.ac:=⟨_,rfl⟩; obtain ⟨mks,hmks⟩:∃ mks,mks=(marksP T.mkts).1:=⟨_,rfl⟩; have aok:=vr'.eachA _ (List.getElem_mem hi)
     obtain ⟨b,off,rfl,hc⟩:∃ b off,q=some ⟨b,off,none⟩ /\ ∀ j u,(A'.flatMap encA)[j]? = some u->Y.cell? ⟨b,off + j,none⟩ = some u:=by
      rcases vr'.rowA with e | e
      ·rw [e] at hi; simp at hi
      ·exact e
     obtain ⟨r0,r1,r2⟩:=arow_cells hc hi
     have hiz:(plc T.accs c.ac:Int) < (A'.length:Int):=by omega
     generalize A'[plc T.accs c.ac]'hi=a at *; rw [<- hi0] at IX r0 r1 r2 hiz hacc; rw [<- hmks] at MK; obtain ⟨z1,z2,z3,z4,z5,zp⟩:=a; dsimp only at r0 r1 r2 aok hacc; obtain ⟨a0,a1,a2,a3,a4,a5,a6⟩:=ven_cells Y0.out; obtain ⟨b0,b1,b2,b3,b4,b5,b6⟩:=ven_cells Y1.out; have HACC:=hide hacc; have AOKY:=hide aok
     have SNDW:Hid (∀ P,Below Y.heap.size Y P->∀ px cx,Row P px mks->sndOk (accAt T i) mks->Calls Tryz.prog 22 #[accV z1 z2 z3 z4 z5,.slice px mks.length cx] P fun e w'=>e=.returned (.tuple #[.bool true,.bool true,.int .i64 0]) /\ Below P.heap.size P w'):=fun P hP px cx hr hok=>by
      have ha:=aok.below hP
      have:=Rk.sound_any z1 z2 z3 px z4 z5 mks.length cx zp mks P ha.len rfl (by have:=ha.few; dsimp only at this; omega) (LY.out.next hP) ha.row hr
      have e:soundR z1 z2 zp mks=(true,true,0):=by
       have h9:=hok; rw [<- hacc] at h9; exact h9
      rw [e] at this; exact this
     obtain ⟨n,hn⟩:∃ n,n=A'.length:=⟨_,rfl⟩; rw [<- hn] at b0 IX hiz; have HN:=hide hn; have HI0:=hide hi0; have HMKS:=hide hmks; clear hc hn aok hacc hi ix1 hmk0 hi0 hmks; obtain ⟨hasS,k,hk,hkl,hTl,hred,hnred⟩:=F.pl h3'; clear h3'; obtain ⟨iy1,hj,hacs⟩:=idx_plc vr.accs STR.out.srt hasS
     have IX2:Hid (∀ P,Below Y.heap.size Y P->Calls Tryz.prog 16 #[.slice p A.length cc,.func (.func 19) #[] #[.pointer (some ⟨w.heap.size + 1,0,none⟩)]] P fun e w'=>e=.returned (.int .i64 (plc s.accs c.ac:Nat)) /\ Below P.heap.size P w'):=fun P hP=>by
      have hd:=(hP.cell (World.block_lt_of_cell? _ _ d1)).trans d1
      have:=ready_idx2 p cc A (fun b=>b.id == c.ac) (w.heap.size + 1) P vr.na (arow_below vr.rowA hP) (fun W hW k hk=>ready2_any _ c.ac _ W ((hW.cell (World.block_lt_of_cell? _ _ hd)).trans hd))
      rw [iy1] at this; exact this
     have bok:=vr.eachA _ (List.getElem_mem hj)
     obtain ⟨bb,boff,rfl,hcb⟩:∃ b off,p=some ⟨b,off,none⟩ /\ ∀ j u,(A.flatMap encA)[j]? = some u->Y.cell? ⟨b,off + j,none⟩ = some u:=by
      rcases vr.rowA with e | e
      ·rw [e] at hj; simp at hj
      ·exact e
     obtain ⟨t0,t1,t2⟩:=arow_cells hcb hj
     have hjz:(plc s.accs c.ac:Int) < (A.length:Int):=by omega
     have hal1:=acc_len (STR.out.accOk (k:=plc s.accs c.ac) (by have:=(few_vin vr).1; omega))
     have hal2:=acc_len (F.str.accOk (k:=i) (by have:=(few_vin vr').1; have:=HN.out; omega))
     generalize A[plc s.accs c.ac]'hj=a2 at *; obtain ⟨j,hj0⟩:∃ j,j=plc s.accs c.ac:=⟨_,rfl⟩; rw [<- hj0] at IX2 t0 t1 t2 hjz hacs hred hal1; rw [<- HI0.out] at hred hnred; rw [<- HMKS.out] at hnred; clear hj0; obtain ⟨y1,y2,y3,y4,y5,yp⟩:=a2; dsimp only at t0 t1 t2 bok hacs; rw [hk] at d2
     have hyp:yp=(accAt s j).2.2:=congrArg (·.2.2) hacs
     have hzp:zp=(accAt T i).2.2:=congrArg (·.2.2) HACC.out
     have hy4:y4=s.mkts.length:=by
      have h1:=bok.len; dsimp only at h1; rw [hyp] at h1
      omega
     have hz4:z4=s.mkts.length:=by
      have h1:=AOKY.out.len; dsimp only at h1; rw [hzp] at h1
      omega
     have hky:(k:Int) < (y4:Int):=by omega
     have hkz:(k:Int) < (z4:Int):=by omega
     obtain ⟨yb,yo,rfl,fy⟩:∃ b o,y3=some ⟨b,o,none⟩ /\ Y.cell? ⟨b,o + k,none⟩ = some (.int .i64 (posAt (accAt s j) k)):=by
      have hyl:k < yp.length:=by rw [bok.len]; show k < y4; omega
      rcases bok.row with e | ⟨b,o,e,hcc⟩
      ·have e:yp=[]:=e
       rw [e] at hyl; simp at hyl
      ·exact ⟨b,o,e,by rw [hcc k hyl]; show some (Value.int .i64 (yp.getD k 0))=_; rw [hyp]; rfl⟩
     obtain ⟨zb,zo,rfl,fz⟩:∃ b o,z3=some ⟨b,o,none⟩ /\ Y.cell? ⟨b,o + k,none⟩ = some (.int .i64 (posAt (accAt T i) k)):=by
      have hyl:k < zp.length:=by rw [AOKY.out.len]; show k < z4; omega
      rcases AOKY.out.row with e | ⟨b,o,e,hcc⟩
      ·have e:zp=[]:=e
       rw [e] at hyl; simp at hyl
      ·exact ⟨b,o,e,by rw [hcc k hyl]; show some (Value.int .i64 (zp.getD k 0))=_; rw [hzp]; rfl⟩
     have pb1:-1000<=posAt (accAt s j) k /\ posAt (accAt s j) k<=1000:=pos_bd (STR.out.accOk (k:=j) (by have:=(few_vin vr).1; omega)) k
     have pb2:-1000<=posAt (accAt T i) k /\ posAt (accAt T i) k<=1000:=pos_bd (F.str.accOk (k:=i) (by have:=(few_vin vr').1; have:=HN.out; omega)) k
     have HTB:=hide (F.str.at (k:=k) (by omega)).1
     have hkM:k < M'.length:=by have:=(few_vin vr').2; omega
     obtain ⟨mb,moff,rfl,hcm⟩:∃ b off,q'=some ⟨b,off,none⟩ /\ ∀ j u,(flatM M')[j]? = some u->Y.cell? ⟨b,off + j,none⟩ = some u:=by
      rcases vr'.rowM with e | e
      ·rw [e] at hkM; simp at hkM
      ·exact e
     obtain ⟨m0,m1,-,-⟩:=mrow_cells hcm hkM
     have hmat:mktAt T k=mpOf (M'[k]'hkM):=by
      unfold mktAt
      rw [<- vr'.mkts,List.getD_eq_getElem?_getD,List.getElem?_map,List.getElem?_eq_getElem hkM]
      rfl
     have hkMz:(k:Int) < (M'.length:Int):=by omega
     have ovm:=ov' _ (List.getElem_mem hkM); have mok:=vr'.eachM _ (List.getElem_mem hkM)
     have FI:Hid (∀ X,Below Y.heap.size Y X->_):=fun X hX=>find_any _ _ (M'[k]'hkM).1.2.1 (M'[k]'hkM).2.1.2.1 (mB (M'[k]'hkM)) (mA (M'[k]'hkM)) s.next X (orow_below ovm.1.row hX) (orow_below ovm.2.row hX) mok.nb mok.na
     have fe1:(mktAt T k).1=mB (M'[k]'hkM):=by rw [hmat]; rfl
     have fe2:(mktAt T k).2.1=mA (M'[k]'hkM):=by rw [hmat]; rfl
     rw [fe1,fe2] at HTB hnred; generalize M'[k]'hkM=mm at *; obtain ⟨⟨pb,cb,bids⟩,⟨pa,ca,asks⟩,idx,last⟩:=mm; simp only [mB,mA] at m0 m1 FI HTB hnred; have HRED:=hide hred; have HNRED:=hide hnred; have HZ4:=hide hz4; clear hyp hzp hy4 hz4 hacs hcb hk hkl hTl hal1 hal2 hred hnred hasS iy1 hj vr vr' ov' F RF hcm hmat ovm mok fe1 fe2 bok VS VY EY hkM
     go_wp2_with fail
     refine IX.out.mono ?_
     rintro e Y2 ⟨rfl,hb2⟩
     have YN:=hide hb2; have y1:=(hb2.cell (World.block_lt_of_cell? _ _ b1)).trans b1; have M2:=hide (MK.out Y2 hb2); clear hb2 IX MK
     go_wp2_with fail
     refine M2.out.mono ?_
     rintro e Y3 ⟨mv,rfl,ho,hb3⟩
     obtain ⟨px,cx,rfl,-,-,hmrow,-⟩:=own_am ho; have Y3B:=hide (YN.out.trans (hb3.mono YN.out.size)); obtain ⟨Z,hZ⟩:∃ Z,Z=Y3.alloc (.cells #[.int .i64 z1,.int .i64 z2,.slice (some ⟨zb,zo,none⟩) z4 z5] 40):=⟨_,rfl⟩
     have hbZ:Below Y3.heap.size Y3 Z:=by rw [hZ]; exact Ac.below_alloc _ _
     have ZA:Hid (Z.heap[Y3.heap.size]? = some (.cells #[.int .i64 z1,.int .i64 z2,.slice (some ⟨zb,zo,none⟩) z4 z5] 40)):=by show Z.heap[Y3.heap.size]? = _; rw [hZ]; exact heap_alloc_new _ _
     have JZ:=hide (Y3B.out.trans (hbZ.mono Y3B.out.size)); have MRZ:=hide (row_below hmrow hbZ); have MR3:=hide hmrow; have B3Z:=hide hbZ; have HZ:=hide hZ; have x0:=(Y3B.out.cell (World.block_lt_of_cell? _ _ r0)).trans r0; have x1:=(Y3B.out.cell (World.block_lt_of_cell? _ _ r1)).trans r1; have x2:=(Y3B.out.cell (World.block_lt_of_cell? _ _ r2)).trans r2; have v0:=(Y3B.out.cell (World.block_lt_of_cell? _ _ b0)).trans b0; have w0:=(JZ.out.cell (World.block_lt_of_cell? _ _ d0)).trans d0; clear hZ hbZ ho hmrow hb3 M2 y1 YN; have v00:=(JZ.out.cell (World.block_lt_of_cell? _ _ a0)).trans a0; have IZ:=hide (IX2.out Z JZ.out); clear IX2
     go_wp2_with (rw [<- HZ.out])
     refine IZ.out.mono ?_
     rintro e P ⟨rfl,hbP⟩
     have JP:=hide (JZ.out.trans (hbP.mono JZ.out.size)); have PA:=hide (blk_below ZA.out hbP); have MRP:=hide (row_below MRZ.out hbP); have u0:=(JP.out.cell (World.block_lt_of_cell? _ _ a0)).trans a0; have u2:=(JP.out.cell (World.block_lt_of_cell? _ _ d2)).trans d2; have u6:=(JP.out.cell (World.block_lt_of_cell? _ _ d6)).trans d6; have u10:=(JP.out.cell (World.block_lt_of_cell? _ _ d10)).trans d10; have J3P:=hide (B3Z.out.trans (hbP.mono B3Z.out.size)); clear IZ HZ hbP x0 x1 x2 v0 w0 v00 MRZ JZ ZA B3Z; cases hr:c.red
     ·obtain ⟨hn1,hn2⟩:=HNRED.out hr
      clear HRED HNRED pb1 pb2 fy fz; obtain ⟨XB,hXB⟩:∃ XB,XB=X.heap.size:=⟨_,rfl⟩; have h1P:=(JP.out.cell (World.block_lt_of_cell? _ _ b1)).trans b1; rw [<- hXB] at h1P; have h2P:=(JP.out.cell (World.block_lt_of_cell? _ _ m0)).trans m0; have h3P:=(JP.out.cell (World.block_lt_of_cell? _ _ m1)).trans m1; have h4P:=(JP.out.cell (World.block_lt_of_cell? _ _ a4)).trans a4
      have r1:∀ X,Below P.heap.size P X->X.cell? ⟨XB,1,none⟩ = some (.slice (some ⟨mb,moff,none⟩) M'.length dd'):=fun X hX=>(hX.cell (World.block_lt_of_cell? _ _ h1P)).trans h1P
      have r2:∀ X,Below P.heap.size P X->X.cell? ⟨mb,moff + k * 4,none⟩ = some (.slice pb bids.length cb):=fun X hX=>(hX.cell (World.block_lt_of_cell? _ _ h2P)).trans h2P
      have r3:∀ X,Below P.heap.size P X->X.cell? ⟨mb,moff + k * 4 + 1,none⟩ = some (.slice pa asks.length ca):=fun X hX=>(hX.cell (World.block_lt_of_cell? _ _ h3P)).trans h3P
      have r4:∀ X,Below P.heap.size P X->X.cell? ⟨w.heap.size,4,none⟩ = some (.int .i64 s.next):=fun X hX=>(hX.cell (World.block_lt_of_cell? _ _ h4P)).trans h4P
      have r5:∀ X,Below P.heap.size P X->X.cell? ⟨w.heap.size + 1,2,none⟩ = some (.int .i64 k):=fun X hX=>(hX.cell (World.block_lt_of_cell? _ _ u2)).trans u2
      have FP:Hid (∀ X,Below P.heap.size P X->_):=fun X hX=>FI.out X (JP.out.trans (hX.mono JP.out.size))
      obtain ⟨fo,hfo⟩:∃ fo,fo=findO bids asks s.next:=⟨_,rfl⟩; obtain ⟨fe,hfe⟩:∃ fe,fe=findE bids asks s.next:=⟨_,rfl⟩
      have HFK:Hid (fe=0->okOrder fo=0):=fun h=>by rw [hfo]; exact find_ok HTB.out (by rw [<- hfe]; exact h)
      rw [<- hfo,<- hfe] at FP; rw [<- hfe,<- hfo] at hn1; rw [<- hfe] at hn2; have HN1:=hide hn1; have HN2:=hide hn2; obtain ⟨g1,g2,g3,g4,rq⟩:=fo
      try dsimp only at FP
      rw [hXB] at r1; clear hfo hfe hn1 hn2 h1P h2P h3P h4P FI u0 u6 HTB hXB; have WD:Hid (Below P.heap.size P P.drew):=(Below.refl _ P).drew; have ALD:Hid (Below P.heap.size P (P.alloc (.cells #[.int .i64 0,.int .i64 0,.int .i64 0,.int .i64 0,.int .i64 0] 27)).drew):=((Below.refl _ P).alloc (Nat.le_refl _) _).drew
      have KN:Hid (∀ x,Below (P.alloc (.cells #[.int .i64 0,.int .i64 0,.int .i64 0,.int .i64 0,.int .i64 0] 27)).drew.heap.size (P.alloc (.cells #[.int .i64 0,.int .i64 0,.int .i64 0,.int .i64 0,.int .i64 0] 27)).drew x->(∀ i,i < 5->x.cell? ⟨P.heap.size,i,none⟩ = some (.int .i64 0) /\ x.frozen? ⟨P.heap.size,i,none⟩ = false)):=fun x hx i hi=>kept_new hx i (by match i,hi with | 0,_=>rfl | 1,_=>rfl | 2,_=>rfl | 3,_=>rfl | 4,_=>rfl)
      go_wp2_with fail
      go_region_held3 (fun w'=>Below P.heap.size P w') (first | (with_reducible assumption) | (with_reducible exact WD.out) | (with_reducible exact ALD.out) | ((with_reducible refine Below.alloc ?_ ?_ _) <;> first | (with_reducible assumption) | exact Below.size (by with_reducible assumption)) | ((with_reducible refine Below.setCell (Below.setCell (Below.setCell (Below.setCell (Below.setCell ?_ ?_ _) ?_ _) ?_ _) ?_ _) ?_ _) <;> first | (with_reducible assumption) | exact Nat.le_refl _)) ((go_at_call 20; refine (FP.out _ ?_).mono ?_; assumption; rintro e w1 ⟨rfl,hb⟩; have hb':Below P.heap.size P w1:=Below.trans (by assumption) (hb.mono (Below.size (by assumption))); try (have kn:=(by with_reducible exact KN.out w1 hb:∀ i,i < 5->w1.cell? ⟨P.heap.size,i,none⟩ = some (.int .i64 0) /\ w1.frozen? ⟨P.heap.size,i,none⟩ = false); obtain ⟨kz0,kq0⟩:=kn 0 (by decide); obtain ⟨kz1,kq1⟩:=kn 1 (by decide); obtain ⟨kz2,kq2⟩:=kn 2 (by decide); obtain ⟨kz3,kq3⟩:=kn 3 (by decide); obtain ⟨kz4,kq4⟩:=kn 4 (by decide); clear kn)))
      ·obtain ⟨N,hN⟩:∃ N,N=w1.alloc (.cells #[.int .i64 g1,.int .i64 g2,.int .i64 g3,.int .i64 g4,.int .i64 rq] 27):=⟨_,rfl⟩
       rw [<- hN]
       have q2:N.cell? ⟨w1.heap.size,2,none⟩ = some (.int .i64 g3):=by rw [hN]; exact new_cell w1 _ _ 2 _ rfl
       have q3:N.cell? ⟨w1.heap.size,3,none⟩ = some (.int .i64 g4):=by rw [hN]; exact new_cell w1 _ _ 3 _ rfl
       have q4:N.cell? ⟨w1.heap.size,4,none⟩ = some (.int .i64 rq):=by rw [hN]; exact new_cell w1 _ _ 4 _ rfl
       have BN:Hid (Below P.heap.size P N):=by rw [hN]; exact hb'.alloc hb'.size _
       have HTN:¬ Y3.heap.size=w1.heap.size:=by have h1:=(Array.getElem?_eq_some_iff.1 PA.out).1; have h2:=hb'.size; omega
       clear hN hb hb'; generalize w1.heap.size=t at *; have JN:=hide (JP.out.trans (BN.out.mono JP.out.size)); have J3N:=hide (J3P.out.trans (BN.out.mono J3P.out.size)); have NA:=hide (blk_below PA.out BN.out); have MRN:=hide (row_below MR3.out J3N.out); clear r1 r2 r3 r4 r5 FP WD ALD KN
       by_cases hfe:fe=0
       ·obtain ⟨tr1,tr2⟩:=HN1.out hfe
        obtain ⟨l1,l2,l3,l4⟩:=okOrder_pq (HFK.out hfe); have hsd:=okOrder_sd (HFK.out hfe); dsimp only [osd,oqt,opr] at tr1 tr2 l1 l2 l3 l4 hsd; have eacc:accAt T i=(z1,z2,zp):=HACC.out.symm; rw [eacc] at tr1 tr2; dsimp only at tr1; obtain ⟨qq,hqq⟩:∃ qq,g3 * rq=qq:=⟨_,rfl⟩; rw [hqq] at tr1 tr2
        have hqb:-1000<=qq /\ qq<=1000:=by rcases hsd with e | e <;> (rw [e] at hqq; omega)
        obtain ⟨hqa,hqb⟩:=hqb
        have hwr:IntKind.i64.wrap qq=qq:=IntWalk.i64_in qq ⟨by omega,by omega⟩
        have TR:=hide (trade_good z1 z2 (some ⟨zb,zo,none⟩) z4 z5 zp k qq g4 0 N AOKY.out.len (row_below AOKY.out.row JN.out) tr1); have n2:=(JN.out.cell (World.block_lt_of_cell? _ _ d2)).trans d2; obtain ⟨s0,-⟩:=blk_cell NA.out 0; obtain ⟨s1,-⟩:=blk_cell NA.out 1; obtain ⟨s2,-⟩:=blk_cell NA.out 2
        simp only [List.getElem?_toArray,List.getElem?_cons_zero,List.getElem?_cons_succ] at s0 s1 s2
        have TR2:=hide tr2; subst hfe; clear tr1 tr2 HN1 HN2 HFK hsd eacc SNDW
        go_wp2_with fail
        refine TR.out.mono ?_
        rintro e R ⟨tv,rfl,hoR,hbR⟩
        obtain ⟨p3,c3,rfl,hlR,-,hrR,hblk⟩:=own_am hoR; have RA:=hide (blk_below NA.out hbR); have JR:=hide (JN.out.trans (hbR.mono JN.out.size)); have J3R:=hide (J3N.out.trans (hbR.mono J3N.out.size)); obtain ⟨w0,f0⟩:=blk_cell RA.out 0; obtain ⟨w1,f1⟩:=blk_cell RA.out 1; obtain ⟨w2,f2⟩:=blk_cell RA.out 2
        simp only [List.getElem?_toArray,List.getElem?_cons_zero,List.getElem?_cons_succ] at w0 w1 w2
        obtain ⟨o0,w0⟩:∃ u,R.cell? ⟨Y3.heap.size,0,none⟩ = some u:=⟨_,w0⟩; obtain ⟨o1,w1⟩:∃ u,R.cell? ⟨Y3.heap.size,1,none⟩ = some u:=⟨_,w1⟩; obtain ⟨o2,w2⟩:∃ u,R.cell? ⟨Y3.heap.size,2,none⟩ = some u:=⟨_,w2⟩; obtain ⟨nb,hnb⟩:∃ nb,nb=z2 - qq * g4 - 0:=⟨_,rfl⟩; rw [<- hnb]; obtain ⟨Q,hQ⟩:∃ Q,Q=((R.setCell ⟨Y3.heap.size,0,none⟩ (.int .i64 z1)).setCell ⟨Y3.heap.size,1,none⟩ (.int .i64 nb)).setCell ⟨Y3.heap.size,2,none⟩ (.slice p3 z4 c3):=⟨_,rfl⟩; have hY3:Y.heap.size<=Y3.heap.size:=Y3B.out.size
        have JQ:Hid (Below Y.heap.size Y Q):=by
         rw [hQ]; exact ((JR.out.setCell (p:=⟨Y3.heap.size,0,none⟩) hY3 _).setCell (p:=⟨Y3.heap.size,1,none⟩) hY3 _).setCell (p:=⟨Y3.heap.size,2,none⟩) hY3 _
        have J3Q:Hid (Below Y3.heap.size Y3 Q):=by
         rw [hQ]; exact ((J3R.out.setCell (p:=⟨Y3.heap.size,0,none⟩) (Nat.le_refl _) _).setCell (p:=⟨Y3.heap.size,1,none⟩) (Nat.le_refl _) _).setCell (p:=⟨Y3.heap.size,2,none⟩) (Nat.le_refl _) _
        have q0:Q.cell? ⟨Y3.heap.size,0,none⟩ = some (.int .i64 z1):=by
         rw [hQ,cell_set_off _ _ (by omega),cell_set_off _ _ (by omega)]
         exact World.cell?_setCell_same _ _ _ w0
        have q1:Q.cell? ⟨Y3.heap.size,1,none⟩ = some (.int .i64 nb):=by
         rw [hQ,cell_set_off _ _ (by omega)]
         refine World.cell?_setCell_same _ _ _ (u:=o1) ?_
         rw [cell_set_off _ _ (by omega)]
         exact w1
        have q2:Q.cell? ⟨Y3.heap.size,2,none⟩ = some (.slice p3 z4 c3):=by
         rw [hQ]
         refine World.cell?_setCell_same _ _ _ (u:=o2) ?_
         rw [cell_set_off _ _ (by omega),cell_set_off _ _ (by omega)]
         exact w2
        have hbq:But (fun b=>b=Y3.heap.size) R Q:=by
         rw [hQ]; exact ((but_one R ⟨Y3.heap.size,0,none⟩ _).setCell (p:=⟨Y3.heap.size,1,none⟩) (.inl rfl) _).setCell (p:=⟨Y3.heap.size,2,none⟩) (.inl rfl) _
        have hrQ:Row Q p3 (zp.set (k:Int).toNat (zp.getD (k:Int).toNat 0 + qq)):=row_but hrR hbq (.inr (fun x hx e=>by
         have h1:=hblk x hx
         have h2:=(Array.getElem?_eq_some_iff.1 NA.out).1
         omega))
        have SND:Hid (Calls Tryz.prog 22 #[accV z1 nb p3 z4 c3,.slice px mks.length cx] Q fun e w'=>e=.returned (.tuple #[.bool true,.bool true,.int .i64 0]) /\ Below Q.heap.size Q w'):=by
         have:=Rk.sound_any z1 nb p3 px z4 c3 mks.length cx (zp.set (k:Int).toNat (zp.getD (k:Int).toNat 0 + qq)) mks Q (by rw [List.length_set]; exact AOKY.out.len) rfl (by have:=AOKY.out.few; dsimp only at this; omega) (LY.out.next JQ.out) hrQ (row_below MR3.out J3Q.out)
         have e:soundR z1 nb (zp.set (k:Int).toNat (zp.getD (k:Int).toNat 0 + qq)) mks=(true,true,0):=by rw [hnb]; exact TR2.out
         rw [e] at this; exact this
        have HQ:=hide hQ; clear hQ hbq hrQ hoR hbR hrR hblk hlR hnb TR TR2 NA RA s0 s1 s2 n2 hwr hqa hqb
        go_wp2_with (rw [<- HQ.out])
        refine SND.out.mono ?_
        rintro e O ⟨rfl,hbO⟩
        go_wp2
        go_ret
        exact ⟨rfl,BY.out.trans ((JQ.out.trans (hbO.mono JQ.out.size)).mono BY.out.size)⟩
       ·have SND:=hide (SNDW.out N JN.out px cx MRN.out (HN2.out hfe))
        obtain ⟨s0,-⟩:=blk_cell NA.out 0; obtain ⟨s1,-⟩:=blk_cell NA.out 1; obtain ⟨s2,-⟩:=blk_cell NA.out 2
        simp only [List.getElem?_toArray,List.getElem?_cons_zero,List.getElem?_cons_succ] at s0 s1 s2
        clear HN1 HN2 HFK SNDW
        go_wp2_with fail
        refine SND.out.mono ?_
        rintro e O ⟨rfl,hbO⟩
        go_wp2
        go_ret
        exact ⟨rfl,BY.out.trans ((JN.out.trans (hbO.mono JN.out.size)).mono BY.out.size)⟩
      ·obtain ⟨N,hN⟩:∃ N,N=((((w1.setCell ⟨P.heap.size,0,none⟩ (.int .i64 g1)).setCell ⟨P.heap.size,1,none⟩ (.int .i64 g2)).setCell ⟨P.heap.size,2,none⟩ (.int .i64 g3)).setCell ⟨P.heap.size,3,none⟩ (.int .i64 g4)).setCell ⟨P.heap.size,4,none⟩ (.int .i64 rq):=⟨_,rfl⟩
       rw [<- hN]
       have q4':N.cell? ⟨P.heap.size,4,none⟩ = some (.int .i64 rq):=by
        rw [hN]
        refine World.cell?_setCell_same _ _ _ (u:=.int .i64 0) ?_
        rw [cell_set_off _ _ (by omega),cell_set_off _ _ (by omega),cell_set_off _ _ (by omega),cell_set_off _ _ (by omega)]
        assumption
       have q3':N.cell? ⟨P.heap.size,3,none⟩ = some (.int .i64 g4):=by
        rw [hN,cell_set_off _ _ (by omega)]
        refine World.cell?_setCell_same _ _ _ (u:=.int .i64 0) ?_
        rw [cell_set_off _ _ (by omega),cell_set_off _ _ (by omega),cell_set_off _ _ (by omega)]
        assumption
       have q2':N.cell? ⟨P.heap.size,2,none⟩ = some (.int .i64 g3):=by
        rw [hN,cell_set_off _ _ (by omega),cell_set_off _ _ (by omega)]
        refine World.cell?_setCell_same _ _ _ (u:=.int .i64 0) ?_
        rw [cell_set_off _ _ (by omega),cell_set_off _ _ (by omega)]
        assumption
       have BN:Hid (Below P.heap.size P N):=by
        rw [hN]; exact ((((hb'.setCell (p:=⟨P.heap.size,0,none⟩) (Nat.le_refl _) _).setCell (p:=⟨P.heap.size,1,none⟩) (Nat.le_refl _) _).setCell (p:=⟨P.heap.size,2,none⟩) (Nat.le_refl _) _).setCell (p:=⟨P.heap.size,3,none⟩) (Nat.le_refl _) _).setCell (p:=⟨P.heap.size,4,none⟩) (Nat.le_refl _) _
       have HTN:¬ Y3.heap.size=P.heap.size:=by have h1:=(Array.getElem?_eq_some_iff.1 PA.out).1; omega
       clear hN hb hb' kz0 kz1 kz2 kz3 kz4 kq0 kq1 kq2 kq3 kq4; have q2:=q2'; have q3:=q3'; have q4:=q4'; clear q2' q3' q4'; have JPH:=hide JP.out.size; generalize P.heap.size=t at q2 q3 q4 HTN ⊢; have JN:=hide (JP.out.trans (BN.out.mono JP.out.size)); have J3N:=hide (J3P.out.trans (BN.out.mono J3P.out.size)); have NA:=hide (blk_below PA.out BN.out); have MRN:=hide (row_below MR3.out J3N.out); clear r1 r2 r3 r4 r5 FP WD ALD KN
       by_cases hfe:fe=0
       ·obtain ⟨tr1,tr2⟩:=HN1.out hfe
        obtain ⟨l1,l2,l3,l4⟩:=okOrder_pq (HFK.out hfe); have hsd:=okOrder_sd (HFK.out hfe); dsimp only [osd,oqt,opr] at tr1 tr2 l1 l2 l3 l4 hsd; have eacc:accAt T i=(z1,z2,zp):=HACC.out.symm; rw [eacc] at tr1 tr2; dsimp only at tr1; obtain ⟨qq,hqq⟩:∃ qq,g3 * rq=qq:=⟨_,rfl⟩; rw [hqq] at tr1 tr2
        have hqb:-1000<=qq /\ qq<=1000:=by rcases hsd with e | e <;> (rw [e] at hqq; omega)
        obtain ⟨hqa,hqb⟩:=hqb
        have hwr:IntKind.i64.wrap qq=qq:=IntWalk.i64_in qq ⟨by omega,by omega⟩
        have TR:=hide (trade_good z1 z2 (some ⟨zb,zo,none⟩) z4 z5 zp k qq g4 0 N AOKY.out.len (row_below AOKY.out.row JN.out) tr1); have n2:=(JN.out.cell (World.block_lt_of_cell? _ _ d2)).trans d2; obtain ⟨s0,-⟩:=blk_cell NA.out 0; obtain ⟨s1,-⟩:=blk_cell NA.out 1; obtain ⟨s2,-⟩:=blk_cell NA.out 2
        simp only [List.getElem?_toArray,List.getElem?_cons_zero,List.getElem?_cons_succ] at s0 s1 s2
        have TR2:=hide tr2; subst hfe; clear tr1 tr2 HN1 HN2 HFK hsd eacc SNDW
        go_wp2_with fail
        refine TR.out.mono ?_
        rintro e R ⟨tv,rfl,hoR,hbR⟩
        obtain ⟨p3,c3,rfl,hlR,-,hrR,hblk⟩:=own_am hoR; have RA:=hide (blk_below NA.out hbR); have JR:=hide (JN.out.trans (hbR.mono JN.out.size)); have J3R:=hide (J3N.out.trans (hbR.mono J3N.out.size)); obtain ⟨w0,f0⟩:=blk_cell RA.out 0; obtain ⟨w1,f1⟩:=blk_cell RA.out 1; obtain ⟨w2,f2⟩:=blk_cell RA.out 2
        simp only [List.getElem?_toArray,List.getElem?_cons_zero,List.getElem?_cons_succ] at w0 w1 w2
        obtain ⟨o0,w0⟩:∃ u,R.cell? ⟨Y3.heap.size,0,none⟩ = some u:=⟨_,w0⟩; obtain ⟨o1,w1⟩:∃ u,R.cell? ⟨Y3.heap.size,1,none⟩ = some u:=⟨_,w1⟩; obtain ⟨o2,w2⟩:∃ u,R.cell? ⟨Y3.heap.size,2,none⟩ = some u:=⟨_,w2⟩; obtain ⟨nb,hnb⟩:∃ nb,nb=z2 - qq * g4 - 0:=⟨_,rfl⟩; rw [<- hnb]; obtain ⟨Q,hQ⟩:∃ Q,Q=((R.setCell ⟨Y3.heap.size,0,none⟩ (.int .i64 z1)).setCell ⟨Y3.heap.size,1,none⟩ (.int .i64 nb)).setCell ⟨Y3.heap.size,2,none⟩ (.slice p3 z4 c3):=⟨_,rfl⟩; have hY3:Y.heap.size<=Y3.heap.size:=Y3B.out.size
        have JQ:Hid (Below Y.heap.size Y Q):=by
         rw [hQ]; exact ((JR.out.setCell (p:=⟨Y3.heap.size,0,none⟩) hY3 _).setCell (p:=⟨Y3.heap.size,1,none⟩) hY3 _).setCell (p:=⟨Y3.heap.size,2,none⟩) hY3 _
        have J3Q:Hid (Below Y3.heap.size Y3 Q):=by
         rw [hQ]; exact ((J3R.out.setCell (p:=⟨Y3.heap.size,0,none⟩) (Nat.le_refl _) _).setCell (p:=⟨Y3.heap.size,1,none⟩) (Nat.le_refl _) _).setCell (p:=⟨Y3.heap.size,2,none⟩) (Nat.le_refl _) _
        have q0:Q.cell? ⟨Y3.heap.size,0,none⟩ = some (.int .i64 z1):=by
         rw [hQ,cell_set_off _ _ (by omega),cell_set_off _ _ (by omega)]
         exact World.cell?_setCell_same _ _ _ w0
        have q1:Q.cell? ⟨Y3.heap.size,1,none⟩ = some (.int .i64 nb):=by
         rw [hQ,cell_set_off _ _ (by omega)]
         refine World.cell?_setCell_same _ _ _ (u:=o1) ?_
         rw [cell_set_off _ _ (by omega)]
         exact w1
        have q2:Q.cell? ⟨Y3.heap.size,2,none⟩ = some (.slice p3 z4 c3):=by
         rw [hQ]
         refine World.cell?_setCell_same _ _ _ (u:=o2) ?_
         rw [cell_set_off _ _ (by omega),cell_set_off _ _ (by omega)]
         exact w2
        have hbq:But (fun b=>b=Y3.heap.size) R Q:=by
         rw [hQ]; exact ((but_one R ⟨Y3.heap.size,0,none⟩ _).setCell (p:=⟨Y3.heap.size,1,none⟩) (.inl rfl) _).setCell (p:=⟨Y3.heap.size,2,none⟩) (.inl rfl) _
        have hrQ:Row Q p3 (zp.set (k:Int).toNat (zp.getD (k:Int).toNat 0 + qq)):=row_but hrR hbq (.inr (fun x hx e=>by
         have h1:=hblk x hx
         have h2:=(Array.getElem?_eq_some_iff.1 NA.out).1
         omega))
        have SND:Hid (Calls Tryz.prog 22 #[accV z1 nb p3 z4 c3,.slice px mks.length cx] Q fun e w'=>e=.returned (.tuple #[.bool true,.bool true,.int .i64 0]) /\ Below Q.heap.size Q w'):=by
         have:=Rk.sound_any z1 nb p3 px z4 c3 mks.length cx (zp.set (k:Int).toNat (zp.getD (k:Int).toNat 0 + qq)) mks Q (by rw [List.length_set]; exact AOKY.out.len) rfl (by have:=AOKY.out.few; dsimp only at this; omega) (LY.out.next JQ.out) hrQ (row_below MR3.out J3Q.out)
         have e:soundR z1 nb (zp.set (k:Int).toNat (zp.getD (k:Int).toNat 0 + qq)) mks=(true,true,0):=by rw [hnb]; exact TR2.out
         rw [e] at this; exact this
        have HQ:=hide hQ; clear hQ hbq hrQ hoR hbR hrR hblk hlR hnb TR TR2 NA RA s0 s1 s2 n2 hwr hqa hqb
        go_wp2_with (rw [<- HQ.out])
        refine SND.out.mono ?_
        rintro e O ⟨rfl,hbO⟩
        go_wp2
        go_ret
        exact ⟨rfl,BY.out.trans ((JQ.out.trans (hbO.mono JQ.out.size)).mono BY.out.size)⟩
       ·have SND:=hide (SNDW.out N JN.out px cx MRN.out (HN2.out hfe))
        obtain ⟨s0,-⟩:=blk_cell NA.out 0; obtain ⟨s1,-⟩:=blk_cell NA.out 1; obtain ⟨s2,-⟩:=blk_cell NA.out 2
        simp only [List.getElem?_toArray,List.getElem?_cons_zero,List.getElem?_cons_succ] at s0 s1 s2
        clear HN1 HN2 HFK SNDW
        go_wp2_with fail
        refine SND.out.mono ?_
        rintro e O ⟨rfl,hbO⟩
        go_wp2
        go_ret
        exact ⟨rfl,BY.out.trans ((JN.out.trans (hbO.mono JN.out.size)).mono BY.out.size)⟩
     ·obtain ⟨sd1,q1,q2,q3⟩:=HRED.out hr
      clear HRED HNRED FI HTB; have p2:=(JP.out.cell (World.block_lt_of_cell? _ _ t2)).trans t2; have py:=(JP.out.cell (World.block_lt_of_cell? _ _ fy)).trans fy; have pz:=(JP.out.cell (World.block_lt_of_cell? _ _ fz)).trans fz; obtain ⟨s2,-⟩:=blk_cell PA.out 2
      simp only [List.getElem?_toArray,List.getElem?_cons_zero,List.getElem?_cons_succ] at s2
      have q3':posAt (accAt s j) k * c.o.2.2.1 < 0:=q3; have sd2:c.o.2.2.1=1 \/ c.o.2.2.1 = -1:=sd1; generalize posAt (accAt s j) k=was at *; generalize posAt (accAt T i) k=now at *; generalize c.o.2.2.1=sd at *
      have mb1:=mul_bd (n:=was) (a:=now) (by omega) (by omega)
      have mb2:=mul_bd (n:=was) (a:=sd) (by omega) (by omega)
      obtain ⟨x1,hx1⟩:∃ x,was * now=x:=⟨_,rfl⟩; obtain ⟨x2,hx2⟩:∃ x,was * sd=x:=⟨_,rfl⟩; rw [hx1] at q1 mb1; rw [hx2] at q3' mb2
      have hw1:IntKind.i64.wrap x1=x1:=IntWalk.i64_in x1 ⟨by omega,by omega⟩
      have hw2:IntKind.i64.wrap x2=x2:=IntWalk.i64_in x2 ⟨by omega,by omega⟩
      obtain ⟨pb1a,pb1b⟩:=pb1; obtain ⟨pb2a,pb2b⟩:=pb2; clear q3 sd1 sd2 fy fz t0 t1 t2 mb1 mb2 SNDW
      go_wp2_with fail
      go_quiet (fail)
      obtain ⟨P2,hP2⟩:∃ P2,P2=P.drewN nq:=⟨_,rfl⟩; rw [<- hP2]
      have bd:Below P.heap.size P P2:=by rw [hP2]; exact drewN_below (Below.refl _ _) _
      have u6':=(bd.cell (World.block_lt_of_cell? _ _ u6)).trans u6; have JP2:=hide (JP.out.trans (bd.mono JP.out.size)); clear hP2 bd u0 u2 u6 u10 p2 py pz s2
      go_wp2
      go_ret
      exact ⟨rfl,BY.out.trans (JP2.out.mono BY.out.size)⟩
   ·have h2':c.kind=2:=by simpa using h2
    have F:=RF.out hrj (.inl h2')
    have h3:(c.kind == 3)=false:=by simp [h2']
    have h2b:(c.kind != 2)=false:=by simp [h2']
    have h3b:(c.kind != 3)=true:=by simp [h2']
    have hok:=F.wd h2'; obtain ⟨q9,q9',g9,g9',A,M,e,-,-,vr,-⟩:=VS.out; simp only [Value.agg.injEq,Array.mk.injEq,List.cons.injEq,Value.slice.injEq,and_true] at e; obtain ⟨⟨rfl,rfl,rfl⟩,⟨rfl,rfl,rfl⟩⟩:=e; obtain ⟨r9,r9',f9,f9',A',M',e,-,-,vr',ov',-⟩:=VY.out; simp only [Value.agg.injEq,Array.mk.injEq,List.cons.injEq,Value.slice.injEq,and_true] at e; obtain ⟨⟨rfl,rfl,rfl⟩,⟨rfl,rfl,rfl⟩⟩:=e; obtain ⟨ix1,hi,hacc⟩:=idx_plc vr'.accs F.str.srt F.has; obtain ⟨hmk0,-,-⟩:=F.str.marks; have d1:=(blk_cell YC.out 1).1; have d2:=(blk_cell YC.out 2).1; have d6:=(blk_cell YC.out 6).1; have d10:=(blk_cell YC.out 10).1
    simp only [List.getElem?_toArray,List.getElem?_cons_zero,List.getElem?_cons_succ] at d1 d2 d6 d10
    have IX:Hid (Calls Tryz.prog 16 #[.slice q A'.length dd,.func (.func 17) #[] #[.pointer (some ⟨w.heap.size + 1,0,none⟩)]] Y fun e w'=>e=.returned (.int .i64 (plc T.accs c.ac:Nat)) /\ Below Y.heap.size Y w'):=by
     have:=ready_idx1 q dd A' (fun b=>b.id == c.ac) (w.heap.size + 1) Y vr'.na vr'.rowA (fun W hW k hk=>ready1_any _ c.ac _ W ((hW.cell (World.block_lt_of_cell? _ _ d1)).trans d1))
     rw [ix1] at this; exact this
    have MK:Hid (∀ X,Below Y.heap.size Y X->Calls Tryz.prog 18 #[.slice q' M'.length dd'] X fun e w'=>∃ v,e=.returned (.tuple #[v,.int .i64 0]) /\ w'.ownsRow X.heap.size 3 1 v (marksP T.mkts).1.length ((marksP T.mkts).1.map (Value.int .i64)) /\ Below X.heap.size X w'):=fun X hX=>by
     have:=marks_any q' M'.length dd' M' X rfl (mrow_rm (mrow_below vr'.rowM hX) (fun m hm=>(vr'.eachM m hm).below hX))
     rw [marksP_is,vr'.mkts,hmk0] at this; exact this
    obtain ⟨i,hi0⟩:∃ i,i=plc T.accs c.ac:=⟨_,rfl⟩; obtain ⟨mks,hmks⟩:∃ mks,mks=(marksP T.mkts).1:=⟨_,rfl⟩; have aok:=vr'.eachA _ (List.getElem_mem hi)
    obtain ⟨b,off,rfl,hc⟩:∃ b off,q=some ⟨b,off,none⟩ /\ ∀ j u,(A'.flatMap encA)[j]? = some u->Y.cell? ⟨b,off + j,none⟩ = some u:=by
     rcases vr'.rowA with e | e
     ·rw [e] at hi; simp at hi
     ·exact e
    obtain ⟨r0,r1,r2⟩:=arow_cells hc hi
    have hiz:(plc T.accs c.ac:Int) < (A'.length:Int):=by omega
    generalize A'[plc T.accs c.ac]'hi=a at *; rw [<- hi0] at IX r0 r1 r2 hiz hacc; rw [<- hmks] at MK; obtain ⟨z1,z2,z3,z4,z5,zp⟩:=a; dsimp only at r0 r1 r2 aok hacc; obtain ⟨a0,a1,a2,a3,a4,a5,a6⟩:=ven_cells Y0.out; obtain ⟨b0,b1,b2,b3,b4,b5,b6⟩:=ven_cells Y1.out; have HACC:=hide hacc; have AOKY:=hide aok
    have SNDW:Hid (∀ P,Below Y.heap.size Y P->∀ px cx,Row P px mks->sndOk (accAt T i) mks->Calls Tryz.prog 22 #[accV z1 z2 z3 z4 z5,.slice px mks.length cx] P fun e w'=>e=.returned (.tuple #[.bool true,.bool true,.int .i64 0]) /\ Below P.heap.size P w'):=fun P hP px cx hr hok=>by
     have ha:=aok.below hP
     have:=Rk.sound_any z1 z2 z3 px z4 z5 mks.length cx zp mks P ha.len rfl (by have:=ha.few; dsimp only at this; omega) (LY.out.next hP) ha.row hr
     have e:soundR z1 z2 zp mks=(true,true,0):=by
      have h9:=hok; rw [<- hacc] at h9; exact h9
     rw [e] at this; exact this
    obtain ⟨n,hn⟩:∃ n,n=A'.length:=⟨_,rfl⟩; rw [<- hn] at b0 IX hiz; have HN:=hide hn; have HI0:=hide hi0; have HMKS:=hide hmks; clear hc hn aok hacc hi ix1 hmk0 hi0 hmks; rw [<- HI0.out,<- HMKS.out] at hok; clear h2'
    go_wp2_with fail
    refine IX.out.mono ?_
    rintro e Y2 ⟨rfl,hb2⟩
    have YN:=hide hb2; have y1:=(hb2.cell (World.block_lt_of_cell? _ _ b1)).trans b1; have M2:=hide (MK.out Y2 hb2); clear hb2 IX MK
    go_wp2_with fail
    refine M2.out.mono ?_
    rintro e Y3 ⟨mv,rfl,ho,hb3⟩
    obtain ⟨px,cx,rfl,-,-,hmrow,-⟩:=own_am ho; have Y3B:=hide (YN.out.trans (hb3.mono YN.out.size)); obtain ⟨Z,hZ⟩:∃ Z,Z=Y3.alloc (.cells #[.int .i64 z1,.int .i64 z2,.slice z3 z4 z5] 40):=⟨_,rfl⟩
    have hbZ:Below Y3.heap.size Y3 Z:=by rw [hZ]; exact Ac.below_alloc _ _
    have ZA:Hid (Z.heap[Y3.heap.size]? = some (.cells #[.int .i64 z1,.int .i64 z2,.slice z3 z4 z5] 40)):=by show Z.heap[Y3.heap.size]? = _; rw [hZ]; exact heap_alloc_new _ _
    have JZ:=hide (Y3B.out.trans (hbZ.mono Y3B.out.size)); have MRZ:=hide (row_below hmrow hbZ); have MR3:=hide hmrow; have B3Z:=hide hbZ; have HZ:=hide hZ; have x0:=(Y3B.out.cell (World.block_lt_of_cell? _ _ r0)).trans r0; have x1:=(Y3B.out.cell (World.block_lt_of_cell? _ _ r1)).trans r1; have x2:=(Y3B.out.cell (World.block_lt_of_cell? _ _ r2)).trans r2; have v0:=(Y3B.out.cell (World.block_lt_of_cell? _ _ b0)).trans b0; have w0:=(JZ.out.cell (World.block_lt_of_cell? _ _ d0)).trans d0; clear hZ hbZ ho hmrow hb3 M2 y1 YN; have SND:=hide (SNDW.out Z JZ.out px cx MRZ.out hok); have PA:=ZA; clear SNDW hok; obtain ⟨s0,-⟩:=blk_cell PA.out 0; obtain ⟨s1,-⟩:=blk_cell PA.out 1; obtain ⟨s2,-⟩:=blk_cell PA.out 2
    simp only [List.getElem?_toArray,List.getElem?_cons_zero,List.getElem?_cons_succ] at s0 s1 s2
    go_wp2_with (rw [<- HZ.out])
    refine SND.out.mono ?_
    rintro e O ⟨rfl,hbO⟩
    go_wp2
    go_ret
    exact ⟨rfl,BY.out.trans ((JZ.out.trans (hbO.mono JZ.out.size)).mono BY.out.size)⟩
  ·have OP2:=hide (opened_any Y LY.out)
   go_wp2_with fail
   refine OP2.out.mono ?_
   rintro e Z9 ⟨rfl,hb9⟩
   go_wp2
   go_ret
   exact ⟨rfl,BY.out.trans (hb9.mono BY.out.size)⟩
 ·have HR:(doR s c).2=checkE s:=by rw [do_bad c hce]
  rw [HR]; obtain ⟨r,hr⟩:∃ r,r=checkE s:=⟨_,rfl⟩; rw [<- hr] at hce ⊢; obtain ⟨T,hT⟩:∃ T,T=(doR s c).1:=⟨_,rfl⟩; rw [<- hT] at HX1 ⊢; clear hT hr HR F0 F1 FC VX EX VI; have LX:=hide (LD.out.next BX1.out)
  go_wp2_with (rw [<- HX1.out])
  refine OP.out.mono ?_
  rintro e Y ⟨rfl,hbY⟩
  have BY:=hide (BX1.out.trans (hbY.mono BX1.out.size)); have OP2:=hide (opened_any Y (LX.out.next hbY)); clear OP HX1 hbY LX BX1
  go_wp2_with fail
  refine OP2.out.mono ?_
  rintro e Z ⟨rfl,hbZ⟩
  have BZ:=hide (BY.out.trans (hbZ.mono BY.out.size)); clear OP2 hbZ BY
  go_wp2
  go_ret
  exact ⟨rfl,BZ.out⟩
end Go.Proofs.YtpkbiafhnflmnaaGreatDoor.Vn
namespace Go.Proofs.YtpkbiafhnflmnaaGreatDoor.venueReady
open Go.ChangeShapes Go.WideShapes Go.ChangeAt Go.RowKit Go.Joins Go.Proofs.YtpkbiafhnflmnaaGreatDoor.Rk Go.Proofs.YtpkbiafhnflmnaaGreatDoor.Vn
set_option linter.unusedVariables false
theorem own:ownKnob Tryz.prog.godebug=none:=by kernel_rfl
theorem laidOut:laidOutB Tryz.prog=true:=by kernel_rfl
set_option maxRecDepth 100000 in
theorem lifted (os:Os) (started:os.Started) (H:Type) (enc:TypeId × Value->H) :
  ReturnsInHanded {} Tryz.checked os 4 .any (fun w args=>(Rows.venueReadySpec.pre enc Tryz.prog Tryz.f4 Rows.venueReadyRow.domain false w args /\ laidMetH Tryz.prog laid1 w) /\ sizedMet enc Tryz.prog Tryz.f4 (OpenSpec.ofChange Rows.venueReadySpec) false w args)
   (Rows.venueReadySpec.post enc Tryz.prog Tryz.f4 false true false false):=by
 refine returnsInHanded_of_change_and (C:=Tryz.checked) (X:=fun w _=>laidMetH Tryz.prog laid1 w) (fun _ _ _ hh h=>h.of_heap hh) own started (by kernel_rfl) Tryz.func4
  (ChangeSpec.witness_shaped (enc:=enc) (C:=Tryz.checked) (os:=os) (X:=fun w _=>laidMetH Tryz.prog laid1 w) false (World.laidAll Tryz.prog os laid1) #[.agg #[.slice none 0 0,.slice none 0 0,.int .i64 0,.int .i64 0,.int .i64 0,.int .i64 0,.int .i64 0],.agg #[.int .i64 0,.int .i64 0,.int .i64 0,.int .i64 0,.int .i64 0,.int .i64 0,.int .i64 0,.int .i64 0,.int .i64 0,.int .i64 0,.bool false]] 8 (World.laidAll_os _ _ _)
   (World.shaped_of_ZipB (by kernel_rfl) (by kernel_rfl)) (by kernel_rfl) (by kernel_rfl) (by kernel_rfl)
   (by rw [MakeChecks.laidMetH_plain _ _ _ (by kernel_rfl)]; exact laidMet_laidAll _ (by kernel_rfl) (by kernel_rfl))) ?_
 intro W base args ds gs before hval0 hW hcnd hsz0 hX _
 have hval:∀ (j:Nat) t v,Tryz.f4.params[j]? = some t->args[j]? = some v->Value.okWide Tryz.prog W .any base t v:=hval0; have hLd:=of_laid hX; have hW':=hW; obtain ⟨p,q,hA0,hV,rfl,hfz,hnd⟩:=hW
 have hA:DataW.TrodAll enc Tryz.prog W 0 (fun _=>true) true Tryz.f4.params.toList args.toList ds p:=hA0
 have hsz:(DataW.weightsEach Tryz.prog (Tryz.f4.params.toList ++ Rows.venueReadySpec.plain.varTypes Tryz.prog) (ds ++ gs)).all (·<=reachBytes)=true:=hsz0
 rw [Tryz.params4] at hA hval hsz; obtain ⟨v0,vs0,d0,ds0,p0,q0,hargs,rfl,rfl,h0,r0⟩:=trodAll_cons hA; obtain ⟨v1,vs1,d1,ds1,p1,q1,rfl,rfl,rfl,h1,r1⟩:=trodAll_cons r0; obtain ⟨rfl,rfl,rfl⟩:=trodAll_nil r1
 obtain rfl:args = #[v0,v1]:=by cases args; simp_all
 obtain ⟨rfl,rfl⟩:=trodVars_none hV; have k0:=h0; have k1:=h1
 have lt0:∀ x ∈ p0,x.block < W.heap.size:=by obtain ⟨m,hm⟩:=k0; exact DataW.trod_lt m _ _ _ hm
 have lt1:∀ x ∈ p1,x.block < W.heap.size:=by obtain ⟨m,hm⟩:=k1; exact DataW.trod_lt m _ _ _ hm
 have big:∀ {j:Nat} {t:TypeId} {d:DataW H},([25,29] ++ Rows.venueReadySpec.plain.varTypes Tryz.prog)[j]? = some t->([d0,d1] ++ [])[j]? = some d->∀ m,m ∈ d.weights Tryz.prog t->m<=reachBytes:=fun ht hd m hm=>by
  have:=List.all_eq_true.1 hsz m (DataW.weights_mem_each ht hd m hm)
  simpa using this
 obtain ⟨s0,hs0⟩:=venue_read (hval 0 25 v0 rfl rfl) h0 (big (j:=0) rfl rfl); obtain ⟨c1,rfl⟩:=cmd_read (hval 1 29 v1 rfl rfl) h1; clear hA0 hval0 big
 refine (law_ready v0 s0 c1 W hs0 hLd).mono fun e W' ⟨he,bel⟩=>?_
 subst he
 exact ⟨_,rfl,_,_,_,[],_,[],hW',trodAll_mk1 (shut_bool Tryz.underlying4 _),(trodAll_cons_mk (Below.trod laidOut (by kernel_rfl) (of_decide_eq_true (by kernel_rfl)) k0 bel lt0) (trodAll_cons_mk (Below.trod laidOut (by kernel_rfl) (of_decide_eq_true (by kernel_rfl)) k1 bel lt1) trodAll_mk0)),rfl,bel.frame _,fun h=>by cases h⟩
theorem over:Rows.VenueReadySaid :=
 OpenClaim.holds_of_wide 4 Tryz.f4 rfl rfl rfl rfl rfl rfl rfl ⟨rfl,rfl,rfl,rfl,rfl⟩ rfl rfl rfl rfl rfl (by kernel_rfl) Tryz.func4 (by kernel_rfl)
  (of_decide_eq_true (by kernel_rfl)) (by unfold Func.isWrapper; first | (rw [if_pos (by decide +kernel)]; kernel_rfl) | (rw [if_neg (by decide +kernel)]; exact ⟨rfl,rfl⟩))
  (fun os started H enc _=>lifted os started H enc)
theorem card:Rows.VenueReadyCardSaid :=
 Claim7.holds_tied_plain_at .later [] [.data] true (true, "282d2aec10900769c483711ccf7034c4226bb8f84f208cece23444b1ce27ece2") false
  over (fun _ h=>by cases h) (by kernel_rfl) (fun _ h=>by cases h) venueReady_row_tie rfl ⟨rfl,rfl⟩ (by kernel_rfl) rfl
  (fun f fn hf hfn=>by
   obtain rfl : f = 4 := Option.some.inj ((show Tryz.prog.funcNamed "tollbooth/tollboothlaw.VenueReady" = some 4 by kernel_rfl).symm.trans hf) |>.symm
   obtain rfl:fn=Tryz.f4:=(Option.some.inj (Tryz.func4.symm.trans hfn)).symm
   exact ⟨by kernel_rfl,fun j t ht=>by
    rw [Tryz.params4] at ht
    rcases j with _ | _ | j
    ·obtain rfl:t=25:=by simpa using ht.symm
     exact (show Tryz.prog.wantsStandIn 25=false by kernel_rfl)
    ·obtain rfl:t=29:=by simpa using ht.symm
     exact (show Tryz.prog.wantsStandIn 29=false by kernel_rfl)
    ·simp at ht⟩)
  (by kernel_rfl)
end Go.Proofs.YtpkbiafhnflmnaaGreatDoor.venueReady
namespace Go.Proofs.YtpkbiafhnflmnaaGreatDoor
theorem venueReady_holds:Rows.VenueReadyCardSaid:=venueReady.card
#print axioms venueReady_holds
end Go.Proofs.YtpkbiafhnflmnaaGreatDoor
