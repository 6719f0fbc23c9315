/-
  VenueCancels is true of every venue, command and number: an order that rests wholly, and is cancelled, never was, but for its number; nobody else can cancel it. The table of tiers reads as the program's text lays it (the card ties it).
-/
import Derived.Test.YtpkbiafhnflmnaaGreatDoorS46
import Derived.Test.YtpkbiafhnflmnaaGreatDoorVenueCancelsMath
import Derived.BigQuiet
import Derived.Test.YtpkbiafhnflmnaaGreatDoorRows
import Derived.Test.YtpkbiafhnflmnaaGreatDoorCards
import Derived.Test.YtpkbiafhnflmnaaGreatDoorTie
import Derived.Test.YtpkbiafhnflmnaaGreatDoorS48
import Derived.Outline
import Derived.ProofKit
import Derived.OpenShut
import Derived.ChangeOld
import Derived.Below
import Derived.SizedLaws
import Derived.Lay
import Derived.MakeChecks
import Derived.SevenTiedAt
namespace Go.Proofs.YtpkbiafhnflmnaaGreatDoor.Vn
open Go.RowKit Go.Proofs.YtpkbiafhnflmnaaGreatDoor.Num Go.Proofs.YtpkbiafhnflmnaaGreatDoor.Fix Go.Proofs.YtpkbiafhnflmnaaGreatDoor.AcP Go.Proofs.YtpkbiafhnflmnaaGreatDoor.FuP Go.Proofs.YtpkbiafhnflmnaaGreatDoor.Bk Go.Proofs.YtpkbiafhnflmnaaGreatDoor.Rm Go.Proofs.YtpkbiafhnflmnaaGreatDoor.Ac Go.Sort Go.Maps Go.Proofs.YtpkbiafhnflmnaaGreatDoor.Mix Go.Proofs.YtpkbiafhnflmnaaGreatDoor.RkP
abbrev cancC (ac n:Int):Cm:=⟨4,ac,0,n,(0,0,0,0,0),0,false⟩
structure CanF (s T:Tn) (ac qt:Int):Prop where
 len:T.evs.length=1
 other:∀ a,¬ a=ac->doR T (cancC a s.next)=({ T with evs:=[evRejected 5] },0)
 own:∃ k:Nat,doR T (cancC ac s.next)=({ s with next:=s.next + 1,evs:=[evGone k s.next ac qt] },0)
 chk:checkE T=0
theorem cancel_facts {s:Tn} {c:Cm} (h:checkE s=0) (h3:c.kind=3) (h4:c.how=4) (hr:rejectedL (doR s c).1.evs=false):CanF s (doR s c).1 c.ac (oqt c.o):=by
 obtain ⟨hs,hS⟩:=checkE_zero.1 h; have ht:=do_ok h hr; have hc:=(do_cases c h).2.1; generalize (doR s c).1=T at ht hc ⊢
 have hp:placeR { s with evs:=[] } c=.ok T:=by
  unfold turnR at ht; rw [h3] at ht; exact ht
 obtain ⟨e1,-,e3,k,e4⟩:=cancel_post hp (str_evs hs []) (sums_evs hS []) h4 rfl
 refine ⟨e1,fun a ha=>?_,⟨k,?_⟩,hc⟩
 ·unfold doR
  rw [if_pos hc]
  have:turnR { T with evs:=[] } (cancC a s.next)=.error 5:=e3 a ha
  rw [this]
 ·unfold doR
  rw [if_pos hc]
  have:turnR { T with evs:=[] } (cancC c.ac s.next)=.ok { s with next:=s.next + 1,evs:=[evGone k s.next c.ac (oqt c.o)] }:=e4
  rw [this]
theorem vnew_next {B:Nat} {w:World} {va vm:Value} {t:Tn} (h:VNew B w (venV va vm t) t) (n:Int) (L:List Ev):VNew B w (venV va vm { t with next:=n,evs:=L }) { t with next:=n,evs:=L }:=by
 obtain ⟨p,p',c,c',A,M,e,h1,h2,h3,h4,h5⟩:=h; simp only [Value.agg.injEq,Array.mk.injEq,List.cons.injEq,and_true] at e; obtain ⟨rfl,rfl⟩:=e; exact ⟨p,p',c,c',A,M,rfl,h1,h2,h3.evs rfl rfl,h4,h5⟩
set_option maxHeartbeats 8000000 in
set_option maxRecDepth 100000 in
theorem law_cancels (v:Value) (s:Tn) (c:Cm) (other:Int) (w:World) (h:VIn w v s) (hL:Rk.Laid w) :
  Calls Tryz.prog 7 #[v,cmV c,.int .i64 other] w fun e w'=>e=.returned (.bool true) /\ Below w.heap.size w w':=by
 obtain ⟨p,n1,cc,p',n2,cc',hv⟩:=vnew_is h; subst hv; obtain ⟨c',hc'⟩:∃ c':Cm,c' = ⟨3,c.ac,c.mkt,c.n,c.o,4,c.red⟩:=⟨_,rfl⟩; obtain ⟨W,hW⟩:∃ W,W=(w.alloc (.cells #[.slice p n1 cc,.slice p' n2 cc',.int .i64 s.ins,.int .i64 s.res,.int .i64 s.next,.int .i64 s.inn,.int .i64 s.out] 25)).alloc (.cells #[.int .i64 3,.int .i64 c.ac,.int .i64 c.mkt,.int .i64 c.n,.int .i64 c.o.1,.int .i64 c.o.2.1,.int .i64 c.o.2.2.1,.int .i64 c.o.2.2.2.1,.int .i64 c.o.2.2.2.2,.int .i64 4,.bool c.red] 29):=⟨_,rfl⟩
 have b0:Below w.heap.size w W:=by rw [hW]; exact ((Below.refl _ w).alloc (Nat.le_refl _) _).alloc (by simp) _
 have E0:Hid (W.heap[w.heap.size]? = some (venO (.slice p n1 cc) (.slice p' n2 cc') s)):=by
  show W.heap[w.heap.size]? = _
  rw [hW]; exact blk_below (heap_alloc_new w _) (Ac.below_alloc _ _)
 have E1:Hid (W.heap[w.heap.size + 1]? = some (.cells #[.int .i64 3,.int .i64 c.ac,.int .i64 c.mkt,.int .i64 c.n,.int .i64 c.o.1,.int .i64 c.o.2.1,.int .i64 c.o.2.2.1,.int .i64 c.o.2.2.2.1,.int .i64 c.o.2.2.2.2,.int .i64 4,.bool c.red] 29)):=by
  show W.heap[w.heap.size + 1]? = _
  rw [hW]
  have hx:(w.alloc (.cells #[.slice p n1 cc,.slice p' n2 cc',.int .i64 s.ins,.int .i64 s.res,.int .i64 s.next,.int .i64 s.inn,.int .i64 s.out] 25)).heap.size=w.heap.size + 1:=by simp
  have:=heap_alloc_new (w.alloc (.cells #[.slice p n1 cc,.slice p' n2 cc',.int .i64 s.ins,.int .i64 s.res,.int .i64 s.next,.int .i64 s.inn,.int .i64 s.out] 25)) (.cells #[.int .i64 3,.int .i64 c.ac,.int .i64 c.mkt,.int .i64 c.n,.int .i64 c.o.1,.int .i64 c.o.2.1,.int .i64 c.o.2.2.1,.int .i64 c.o.2.2.2.1,.int .i64 c.o.2.2.2.2,.int .i64 4,.bool c.red] 29); rw [hx] at this; exact this
 have DO:Hid (Calls Tryz.prog 11 #[venV (.slice p n1 cc) (.slice p' n2 cc') s,.agg #[.int .i64 3,.int .i64 c.ac,.int .i64 c.mkt,.int .i64 c.n,.int .i64 c.o.1,.int .i64 c.o.2.1,.int .i64 c.o.2.2.1,.int .i64 c.o.2.2.2.1,.int .i64 c.o.2.2.2.2,.int .i64 4,.bool c.red]] W (DoPost s c' W)):=by
  have:=venue_do _ s c' W (h.below b0) (hL.next b0); rw [hc'] at this ⊢; exact this
 have VI:=hide h; have LD:=hide hL; have HW:=hide hW; have BW:=hide b0; have HC:=hide hc'; clear hW b0 h hL hc'
 go_enter Tryz.func7,Tryz.ntmps7
 go_wp2_with fail
 rw [<- HW.out]
 refine DO.out.mono ?_
 rintro e X ⟨v',ev,rfl,hbX,hvX,heX⟩
 obtain ⟨q,qn,qc,q',qn',qc',rfl⟩:=vnew_is hvX; obtain ⟨X1,hX1⟩:∃ X1,X1=X.alloc (.cells #[.slice q qn qc,.slice q' qn' qc',.int .i64 (doR s c').1.ins,.int .i64 (doR s c').1.res,.int .i64 (doR s c').1.next,.int .i64 (doR s c').1.inn,.int .i64 (doR s c').1.out] 25):=⟨_,rfl⟩
 have hb1:Below X.heap.size X X1:=by rw [hX1]; exact Ac.below_alloc _ _
 have N1:=hide (hbX.trans (hb1.mono hbX.size)); have B1:=hide (BW.out.trans (N1.out.mono BW.out.size))
 have F1:Hid (X1.heap[X.heap.size]? = some (venO (.slice q qn qc) (.slice q' qn' qc') (doR s c').1)):=by show X1.heap[X.heap.size]? = _; rw [hX1]; exact heap_alloc_new X _
 have VX1:=hide ((hvX.below hb1).mono (Nat.zero_le _)); have EX1:=hide ((heX.below hb1).mono (Nat.zero_le _)); have HX1:=hide hX1; have KX1:=hide (And.intro hbX (And.intro hb1 hvX))
 obtain ⟨pe,pec,rfl⟩:∃ p9 c9,ev=.slice p9 (doR s c').1.evs.length c9:=by obtain ⟨p9,c9,e,-⟩:=heX; exact ⟨p9,c9,e⟩
 clear hX1 hb1 hvX heX hbX; have F0:=hide (blk_below E0.out N1.out); have FC:=hide (blk_below E1.out N1.out); have OP:=hide (opened_any X1 (LD.out.next B1.out)); have L1:=hide (LD.out.next B1.out); clear DO HW E0 E1
 by_cases hce:checkE s=0
 ·obtain ⟨z1,z2,-⟩:=do_cases c' hce
  have CF:Hid (rejectedL (doR s c').1.evs=false->CanF s (doR s c').1 c.ac (oqt c.o)):=fun hr=>by
   have:=cancel_facts (c:=c') hce (by rw [HC.out]) (by rw [HC.out]) hr
   rw [show c'.ac=c.ac by rw [HC.out],show c'.o=c.o by rw [HC.out]] at this
   exact this
  have STR:=hide (checkE_zero.1 hce).1; rw [z1]; obtain ⟨T,hT⟩:∃ T,T=(doR s c').1:=⟨_,rfl⟩; rw [<- hT] at HX1 F1 VX1 EX1 z2 CF ⊢; clear hT z1 HC
  go_wp2_with (rw [<- HX1.out])
  refine OP.out.mono ?_
  rintro e Y ⟨rfl,hbY⟩
  have BY:=hide (B1.out.trans (hbY.mono B1.out.size)); have LY:=hide (L1.out.next hbY); have Y0:=hide (blk_below F0.out hbY); have Y1:=hide (blk_below F1.out hbY); have YC:=hide (blk_below FC.out hbY); have VY:=hide (VX1.out.below hbY); have EY:=hide (EX1.out.below hbY); have RJ:=hide (rejected_any _ _ Y EY.out); clear OP HX1 hbY F0 F1 FC VX1 EX1 B1 L1 N1
  go_wp2_with fail
  refine RJ.out.mono ?_
  rintro e Z' ⟨rfl,hZ'⟩
  rw [hZ']; clear hZ' RJ; cases hrj:rejectedL T.evs
  ·have F:=CF.out hrj
   have hlen:=F.len; rw [hlen]
   have AT:=hide (Own.at_any other 8 Y (by decide) (by decide))
   have nx:=STR.out.nx; clear CF EY; have d0:=(blk_cell YC.out 0).1; have d1:=(blk_cell YC.out 1).1; have d2:=(blk_cell YC.out 2).1; have d3:=(blk_cell YC.out 3).1; have d4:=(blk_cell YC.out 4).1; have d5:=(blk_cell YC.out 5).1; have d6:=(blk_cell YC.out 6).1; have d7:=(blk_cell YC.out 7).1; have d8:=(blk_cell YC.out 8).1; have d9:=(blk_cell YC.out 9).1; have d10:=(blk_cell YC.out 10).1
   simp only [List.getElem?_toArray,List.getElem?_cons_zero,List.getElem?_cons_succ] at d0 d1 d2 d3 d4 d5 d6 d7 d8 d9 d10
   obtain ⟨a0,a1,a2,a3,a4,a5,a6⟩:=ven_cells Y0.out; obtain ⟨b0,b1,b2,b3,b4,b5,b6⟩:=ven_cells Y1.out
   go_wp2_with fail
   refine AT.out.mono ?_
   rintro e Z' ⟨rfl,hZ'⟩
   rw [hZ']; clear hZ' AT; obtain ⟨oo,hoo⟩:∃ oo,oo=other % 8:=⟨_,rfl⟩; rw [<- hoo]; clear hoo; have HF:=hide F; clear F hlen; cases hne:(oo == c.ac)
   ·have hne2:¬ oo=c.ac:=by simpa using hne
    have DO2:Hid (Calls Tryz.prog 11 #[venV (.slice q qn qc) (.slice q' qn' qc') T,.agg #[.int .i64 4,.int .i64 oo,.int .i64 0,.int .i64 s.next,.int .i64 0,.int .i64 0,.int .i64 0,.int .i64 0,.int .i64 0,.int .i64 0,.bool false]] Y (DoPost T (cancC oo s.next) Y)) :=
     venue_do _ T (cancC oo s.next) Y VY.out LY.out
    go_wp2_with fail
    refine DO2.out.mono ?_
    rintro e U ⟨v',ev,rfl,hbX,hvX,heX⟩
    obtain ⟨r,rn,rc,r',rn',rc',rfl⟩:=vnew_is hvX; obtain ⟨U1,hX1⟩:∃ X1,X1=U.alloc (.cells #[.slice r rn rc,.slice r' rn' rc',.int .i64 (doR T (cancC oo s.next)).1.ins,.int .i64 (doR T (cancC oo s.next)).1.res,.int .i64 (doR T (cancC oo s.next)).1.next,.int .i64 (doR T (cancC oo s.next)).1.inn,.int .i64 (doR T (cancC oo s.next)).1.out] 25):=⟨_,rfl⟩
    have hb1:Below U.heap.size U U1:=by rw [hX1]; exact Ac.below_alloc _ _
    have N2:=hide (hbX.trans (hb1.mono hbX.size)); have B2:=hide (BY.out.trans (N2.out.mono BY.out.size))
    have F2:Hid (U1.heap[U.heap.size]? = some (venO (.slice r rn rc) (.slice r' rn' rc') (doR T (cancC oo s.next)).1)):=by show U1.heap[U.heap.size]? = _; rw [hX1]; exact heap_alloc_new U _
    have VX2:=hide ((hvX.below hb1).mono (Nat.zero_le _)); have EX2:=hide ((heX.below hb1).mono (Nat.zero_le _)); have HX2:=hide hX1; have KX2:=hide (And.intro hbX (And.intro hb1 hvX))
    obtain ⟨pr,prc,rfl⟩:∃ p9 c9,ev=.slice p9 (doR T (cancC oo s.next)).1.evs.length c9:=by obtain ⟨p9,c9,e,-⟩:=heX; exact ⟨p9,c9,e⟩
    clear hX1 hb1 hvX heX hbX; have hoth:=HF.out.other oo hne2
    have hz:(doR T (cancC oo s.next)).2=0:=by rw [hoth]
    rw [hz]; obtain ⟨V,hV⟩:∃ V,V=(doR T (cancC oo s.next)).1:=⟨_,rfl⟩; rw [<- hV] at HX2 F2 VX2 EX2 ⊢
    have hv:V = { T with evs:=[evRejected 5] }:=by rw [hV,hoth]
    have G0:=hide (blk_below Y0.out N2.out); have G1:=hide (blk_below Y1.out N2.out); have GC:=hide (blk_below YC.out N2.out); have VT:=hide (VY.out.below N2.out); have L2:=hide (LY.out.next N2.out); have RJ2:=hide (rejected_any _ _ U1 EX2.out)
    have hrj2:rejectedL V.evs=true:=by rw [hv]; rfl
    rw [hrj2] at RJ2; have K4:=(checkE_zero.1 HF.out.chk).1
    have SM:=hide (venue_same _ _ V T U1 VX2.out VT.out (by rw [hv]) (by rw [hv]) (by rw [hv]) (by rw [hv]) (by rw [hv]) (by rw [hv]) (by rw [hv]) (by rw [hv]; have:=K4.few; show T.accs.length<=_; omega) (by rw [hv]; have:=K4.m2; show T.mkts.length<=_; omega))
    clear hV hoth hz hv hrj2 K4 DO2 Y0 Y1 YC VY LY BY a0 a1 a2 a3 a4 a5 a6 b0 b1 b2 b3 b4 b5 b6 d0 d1 d2 d3 d4 d5 d6 d7 d8 d9 d10 VX2 N2 EX2; obtain ⟨b0,b1,b2,b3,b4,b5,b6⟩:=ven_cells G1.out; obtain ⟨e0,e1,e2,e3,e4,e5,e6⟩:=ven_cells F2.out
    go_wp2_with (rw [<- HX2.out])
    refine RJ2.out.mono ?_
    rintro e Z' ⟨rfl,hZ'⟩
    rw [hZ']; clear hZ' RJ2 HX2
    go_wp2_with fail
    refine SM.out.mono ?_
    rintro e R ⟨rfl,hbR⟩
    have BR:=hide (B2.out.trans (hbR.mono B2.out.size)); have R0:=hide (blk_below G0.out hbR); have R1:=hide (blk_below G1.out hbR); have RC:=hide (blk_below GC.out hbR); have VR:=hide (VT.out.below hbR); have LR:=hide (L2.out.next hbR); clear SM hbR G0 G1 GC VT L2 B2 F2 b0 b1 b2 b3 b4 b5 b6 e0 e1 e2 e3 e4 e5 e6
    have DO3:Hid (Calls Tryz.prog 11 #[venV (.slice q qn qc) (.slice q' qn' qc') T,.agg #[.int .i64 4,.int .i64 c.ac,.int .i64 0,.int .i64 s.next,.int .i64 0,.int .i64 0,.int .i64 0,.int .i64 0,.int .i64 0,.int .i64 0,.bool false]] R (DoPost T (cancC c.ac s.next) R)) :=
     venue_do _ T (cancC c.ac s.next) R VR.out LR.out
    obtain ⟨a0,a1,a2,a3,a4,a5,a6⟩:=ven_cells R0.out; obtain ⟨b0,b1,b2,b3,b4,b5,b6⟩:=ven_cells R1.out; have d1:=(blk_cell RC.out 1).1
    simp only [List.getElem?_toArray,List.getElem?_cons_zero,List.getElem?_cons_succ] at d1
    go_wp2_with fail
    refine DO3.out.mono ?_
    rintro e K ⟨v',ev,rfl,hbX,hvX,heX⟩
    obtain ⟨t,tn,tc,t',tn',tc',rfl⟩:=vnew_is hvX; obtain ⟨K1,hX1⟩:∃ X1,X1=K.alloc (.cells #[.slice t tn tc,.slice t' tn' tc',.int .i64 (doR T (cancC c.ac s.next)).1.ins,.int .i64 (doR T (cancC c.ac s.next)).1.res,.int .i64 (doR T (cancC c.ac s.next)).1.next,.int .i64 (doR T (cancC c.ac s.next)).1.inn,.int .i64 (doR T (cancC c.ac s.next)).1.out] 25):=⟨_,rfl⟩
    have hb1:Below K.heap.size K K1:=by rw [hX1]; exact Ac.below_alloc _ _
    have N3:=hide (hbX.trans (hb1.mono hbX.size)); have B3:=hide (BR.out.trans (N3.out.mono BR.out.size))
    have F3:Hid (K1.heap[K.heap.size]? = some (venO (.slice t tn tc) (.slice t' tn' tc') (doR T (cancC c.ac s.next)).1)):=by show K1.heap[K.heap.size]? = _; rw [hX1]; exact heap_alloc_new K _
    have VX3:=hide ((hvX.below hb1).mono (Nat.zero_le _)); have EX3:=hide ((heX.below hb1).mono (Nat.zero_le _)); have HX3:=hide hX1; have KX3:=hide (And.intro hbX (And.intro hb1 hvX))
    obtain ⟨pg,pgc,rfl⟩:∃ p9 c9,ev=.slice p9 (doR T (cancC c.ac s.next)).1.evs.length c9:=by obtain ⟨p9,c9,e,-⟩:=heX; exact ⟨p9,c9,e⟩
    clear hX1 hb1 hvX heX hbX; obtain ⟨kk,hown⟩:=HF.out.own
    have hz:(doR T (cancC c.ac s.next)).2=0:=by rw [hown]
    rw [hz]; obtain ⟨V,hV⟩:∃ V,V=(doR T (cancC c.ac s.next)).1:=⟨_,rfl⟩; rw [<- hV] at HX3 F3 VX3 EX3 KX3 ⊢; have HKR:Hid (R.heap.size<=K.heap.size):=KX3.out.1.size; have HKW:Hid (w.heap.size<=K.heap.size):=Nat.le_trans BR.out.size HKR.out; have KB:=hide KX3.out.2.1; have VK:=hide KX3.out.2.2
    have hv:V = { s with next:=s.next + 1,evs:=[evGone kk s.next c.ac (oqt c.o)] }:=by rw [hV,hown]
    have Q0:=hide (blk_below R0.out N3.out); have QC:=hide (blk_below RC.out N3.out); have VS:=hide (VI.out.below B3.out)
    have hev:V.evs=[evGone kk s.next c.ac (oqt c.o)]:=by rw [hv]
    have hnx:V.next=s.next + 1:=by rw [hv]
    have hq1:V.accs=s.accs:=by rw [hv]
    have hq2:V.mkts=s.mkts:=by rw [hv]
    have hq3:V.ins=s.ins:=by rw [hv]
    have hq4:V.res=s.res:=by rw [hv]
    have hq5:V.inn=s.inn:=by rw [hv]
    have hq6:V.out=s.out:=by rw [hv]
    have HQS:=hide (And.intro hq1 (And.intro hq2 (And.intro hq3 (And.intro hq4 (And.intro hq5 hq6))))); have HNX:=hide hnx; clear hq1 hq2 hq3 hq4 hq5 hq6 hnx; rw [hev] at EX3 ⊢; obtain ⟨pp,c9,e9,-,-,hr9,-⟩:=EX3.out; cases e9
    obtain ⟨b9,o9,rfl,hc9⟩:∃ b off,pg=some ⟨b,off,none⟩ /\ ∀ j u,(flatE [evGone kk s.next c.ac (oqt c.o)])[j]? = some u->K1.cell? ⟨b,off + j,none⟩ = some u:=by
     rcases hr9 with e | e
     ·cases e
     ·exact e
    have g0:K1.cell? ⟨b9,o9,none⟩ = some (.int .i64 4):=hc9 0 _ rfl; have g3:K1.cell? ⟨b9,o9 + 3,none⟩ = some (.int .i64 s.next):=hc9 3 _ rfl; have g5:K1.cell? ⟨b9,o9 + 5,none⟩ = some (.int .i64 c.o.2.2.2.2):=hc9 5 _ rfl; have d8:=(blk_cell QC.out 8).1
    simp only [List.getElem?_toArray,List.getElem?_cons_zero,List.getElem?_cons_succ] at d8
    have R0S:=R0; clear a0 a1 a2 a3 a4 a5 a6 b0 b1 b2 b3 b4 b5 b6 d1 hc9 hr9 EX3 QC hV hown hz hv DO3 R0 R1 RC VR LR BR N3 hev KX3; obtain ⟨a0,a1,a2,a3,a4,a5,a6⟩:=ven_cells Q0.out; obtain ⟨b0,b1,b2,b3,b4,b5,b6⟩:=ven_cells F3.out; rw [HNX.out] at b4; obtain ⟨nx1,nx2⟩:=nx
    go_wp2_with (rw [<- HX3.out])
    go_quiet (fail)
    obtain ⟨K2,hK2⟩:∃ K2,K2=K1.drewN nq:=⟨_,rfl⟩; rw [<- hK2]
    have bd:Below K1.heap.size K1 K2:=by rw [hK2]; exact drewN_below (Below.refl _ _) _
    have B4:=hide (B3.out.trans (bd.mono B3.out.size)); have V4:=hide (VX3.out.below bd); have P0:=hide (blk_below Q0.out bd); have P3:=hide (blk_below F3.out bd); have hKw:w.heap.size<=K.heap.size:=HKW.out
    have NE:¬ w.heap.size=K.heap.size:=by
     have h1:=(Array.getElem?_eq_some_iff.1 R0S.out).1
     have h2:=HKR.out
     omega
    clear hK2 Q0 F3 HX3 g0 g3 g5 d8 VX3 a0 a1 a2 a3 a4 a5 a6 b0 b1 b2 b3 b4 b5 b6; obtain ⟨a0,a1,a2,a3,a4,a5,a6⟩:=ven_cells P0.out; obtain ⟨b0,b1,b2,b3,b4,b5,b6⟩:=ven_cells P3.out; obtain ⟨-,f4⟩:=blk_cell P3.out 4; obtain ⟨u4,b4⟩:∃ u,K2.cell? ⟨K.heap.size,4,none⟩ = some u:=⟨_,b4⟩; obtain ⟨J,hJ⟩:∃ J,J=K2.setCell ⟨K.heap.size,4,none⟩ (.int .i64 s.next):=⟨_,rfl⟩
    have hbJ:But (fun b=>b=K.heap.size) K2 J:=by rw [hJ]; exact but_one K2 ⟨K.heap.size,4,none⟩ _
    have BJ:Hid (Below w.heap.size w J):=by rw [hJ]; exact B4.out.setCell (p:=⟨K.heap.size,4,none⟩) hKw _
    have VJ:=hide (VI.out.below BJ.out)
    have VT:Hid (VIn J (venV (.slice t tn tc) (.slice t' tn' tc') { V with next:=s.next,evs:=[] }) { V with next:=s.next,evs:=[] }):=by
     have:Below K.heap.size K J:=by
      rw [hJ]; exact (KB.out.trans (bd.mono KB.out.size)).setCell (p:=⟨K.heap.size,4,none⟩) (Nat.le_refl _) _
     exact vnew_next ((VK.out.below this).mono (Nat.zero_le _)) _ _
    have e0:=hbJ.cell (p:=⟨w.heap.size,0,none⟩) NE a0; have e1:=hbJ.cell (p:=⟨w.heap.size,1,none⟩) NE a1; have e2:=hbJ.cell (p:=⟨w.heap.size,2,none⟩) NE a2; have e3:=hbJ.cell (p:=⟨w.heap.size,3,none⟩) NE a3; have e4:=hbJ.cell (p:=⟨w.heap.size,4,none⟩) NE a4; have e5:=hbJ.cell (p:=⟨w.heap.size,5,none⟩) NE a5; have e6:=hbJ.cell (p:=⟨w.heap.size,6,none⟩) NE a6
    have h0:J.cell? ⟨K.heap.size,0,none⟩ = some (.slice t tn tc):=by rw [hJ,cell_set_off _ _ (by omega)]; exact b0
    have h1:J.cell? ⟨K.heap.size,1,none⟩ = some (.slice t' tn' tc'):=by rw [hJ,cell_set_off _ _ (by omega)]; exact b1
    have h2:J.cell? ⟨K.heap.size,2,none⟩ = some (.int .i64 V.ins):=by rw [hJ,cell_set_off _ _ (by omega)]; exact b2
    have h3:J.cell? ⟨K.heap.size,3,none⟩ = some (.int .i64 V.res):=by rw [hJ,cell_set_off _ _ (by omega)]; exact b3
    have h4:J.cell? ⟨K.heap.size,4,none⟩ = some (.int .i64 s.next):=by rw [hJ]; exact World.cell?_setCell_same _ _ _ b4
    have h5:J.cell? ⟨K.heap.size,5,none⟩ = some (.int .i64 V.inn):=by rw [hJ,cell_set_off _ _ (by omega)]; exact b5
    have h6:J.cell? ⟨K.heap.size,6,none⟩ = some (.int .i64 V.out):=by rw [hJ,cell_set_off _ _ (by omega)]; exact b6
    obtain ⟨hq1,hq2,hq3,hq4,hq5,hq6⟩:=HQS.out
    have SM:=hide (venue_same _ _ _ s J VT.out VJ.out hq1 hq2 hq3 hq4 rfl hq5 hq6 (by show V.accs.length<=_; rw [hq1]; have:=STR.out.few; omega) (by show V.mkts.length<=_; rw [hq2]; have:=STR.out.m2; omega))
    have HJ:=hide hJ; clear hJ hbJ hq1 hq2 hq3 hq4 hq5 hq6 VT VJ V4 P0 P3 NE hKw bd
    go_wp2_with (rw [<- HJ.out])
    refine SM.out.mono ?_
    rintro e M ⟨rfl,hbM⟩
    go_wp2
    go_ret
    exact ⟨rfl,BJ.out.trans (hbM.mono BJ.out.size)⟩
   ·obtain ⟨R,hR⟩:∃ R,R=Y:=⟨_,rfl⟩
    rw [<- hR] at BY Y0 Y1 YC VY LY a0 a1 a2 a3 a4 a5 a6 b0 b1 b2 b3 b4 b5 b6 d0 d1 d2 d3 d4 d5 d6 d7 d8 d9 d10 ⊢; have BR:=BY; have R0:=Y0; have R1:=Y1; have RC:=YC; have VR:=VY; have LR:=LY; clear hR Y0 Y1 YC VY LY BY a0 a1 a2 a3 a4 a5 a6 b0 b1 b2 b3 b4 b5 b6 d0 d2 d3 d4 d5 d6 d7 d8 d9 d10
    have DO3:Hid (Calls Tryz.prog 11 #[venV (.slice q qn qc) (.slice q' qn' qc') T,.agg #[.int .i64 4,.int .i64 c.ac,.int .i64 0,.int .i64 s.next,.int .i64 0,.int .i64 0,.int .i64 0,.int .i64 0,.int .i64 0,.int .i64 0,.bool false]] R (DoPost T (cancC c.ac s.next) R)) :=
     venue_do _ T (cancC c.ac s.next) R VR.out LR.out
    obtain ⟨a0,a1,a2,a3,a4,a5,a6⟩:=ven_cells R0.out; obtain ⟨b0,b1,b2,b3,b4,b5,b6⟩:=ven_cells R1.out; have d1:=(blk_cell RC.out 1).1
    simp only [List.getElem?_toArray,List.getElem?_cons_zero,List.getElem?_cons_succ] at d1
    go_wp2_with fail
    refine DO3.out.mono ?_
    rintro e K ⟨v',ev,rfl,hbX,hvX,heX⟩
    obtain ⟨t,tn,tc,t',tn',tc',rfl⟩:=vnew_is hvX; obtain ⟨K1,hX1⟩:∃ X1,X1=K.alloc (.cells #[.slice t tn tc,.slice t' tn' tc',.int .i64 (doR T (cancC c.ac s.next)).1.ins,.int .i64 (doR T (cancC c.ac s.next)).1.res,.int .i64 (doR T (cancC c.ac s.next)).1.next,.int .i64 (doR T (cancC c.ac s.next)).1.inn,.int .i64 (doR T (cancC c.ac s.next)).1.out] 25):=⟨_,rfl⟩
    have hb1:Below K.heap.size K K1:=by rw [hX1]; exact Ac.below_alloc _ _
    have N3:=hide (hbX.trans (hb1.mono hbX.size)); have B3:=hide (BR.out.trans (N3.out.mono BR.out.size))
    have F3:Hid (K1.heap[K.heap.size]? = some (venO (.slice t tn tc) (.slice t' tn' tc') (doR T (cancC c.ac s.next)).1)):=by show K1.heap[K.heap.size]? = _; rw [hX1]; exact heap_alloc_new K _
    have VX3:=hide ((hvX.below hb1).mono (Nat.zero_le _)); have EX3:=hide ((heX.below hb1).mono (Nat.zero_le _)); have HX3:=hide hX1; have KX3:=hide (And.intro hbX (And.intro hb1 hvX))
    obtain ⟨pg,pgc,rfl⟩:∃ p9 c9,ev=.slice p9 (doR T (cancC c.ac s.next)).1.evs.length c9:=by obtain ⟨p9,c9,e,-⟩:=heX; exact ⟨p9,c9,e⟩
    clear hX1 hb1 hvX heX hbX; obtain ⟨kk,hown⟩:=HF.out.own
    have hz:(doR T (cancC c.ac s.next)).2=0:=by rw [hown]
    rw [hz]; obtain ⟨V,hV⟩:∃ V,V=(doR T (cancC c.ac s.next)).1:=⟨_,rfl⟩; rw [<- hV] at HX3 F3 VX3 EX3 KX3 ⊢; have HKR:Hid (R.heap.size<=K.heap.size):=KX3.out.1.size; have HKW:Hid (w.heap.size<=K.heap.size):=Nat.le_trans BR.out.size HKR.out; have KB:=hide KX3.out.2.1; have VK:=hide KX3.out.2.2
    have hv:V = { s with next:=s.next + 1,evs:=[evGone kk s.next c.ac (oqt c.o)] }:=by rw [hV,hown]
    have Q0:=hide (blk_below R0.out N3.out); have QC:=hide (blk_below RC.out N3.out); have VS:=hide (VI.out.below B3.out)
    have hev:V.evs=[evGone kk s.next c.ac (oqt c.o)]:=by rw [hv]
    have hnx:V.next=s.next + 1:=by rw [hv]
    have hq1:V.accs=s.accs:=by rw [hv]
    have hq2:V.mkts=s.mkts:=by rw [hv]
    have hq3:V.ins=s.ins:=by rw [hv]
    have hq4:V.res=s.res:=by rw [hv]
    have hq5:V.inn=s.inn:=by rw [hv]
    have hq6:V.out=s.out:=by rw [hv]
    have HQS:=hide (And.intro hq1 (And.intro hq2 (And.intro hq3 (And.intro hq4 (And.intro hq5 hq6))))); have HNX:=hide hnx; clear hq1 hq2 hq3 hq4 hq5 hq6 hnx; rw [hev] at EX3 ⊢; obtain ⟨pp,c9,e9,-,-,hr9,-⟩:=EX3.out; cases e9
    obtain ⟨b9,o9,rfl,hc9⟩:∃ b off,pg=some ⟨b,off,none⟩ /\ ∀ j u,(flatE [evGone kk s.next c.ac (oqt c.o)])[j]? = some u->K1.cell? ⟨b,off + j,none⟩ = some u:=by
     rcases hr9 with e | e
     ·cases e
     ·exact e
    have g0:K1.cell? ⟨b9,o9,none⟩ = some (.int .i64 4):=hc9 0 _ rfl; have g3:K1.cell? ⟨b9,o9 + 3,none⟩ = some (.int .i64 s.next):=hc9 3 _ rfl; have g5:K1.cell? ⟨b9,o9 + 5,none⟩ = some (.int .i64 c.o.2.2.2.2):=hc9 5 _ rfl; have d8:=(blk_cell QC.out 8).1
    simp only [List.getElem?_toArray,List.getElem?_cons_zero,List.getElem?_cons_succ] at d8
    have R0S:=R0; clear a0 a1 a2 a3 a4 a5 a6 b0 b1 b2 b3 b4 b5 b6 d1 hc9 hr9 EX3 QC hV hown hz hv DO3 R0 R1 RC VR LR BR N3 hev KX3; obtain ⟨a0,a1,a2,a3,a4,a5,a6⟩:=ven_cells Q0.out; obtain ⟨b0,b1,b2,b3,b4,b5,b6⟩:=ven_cells F3.out; rw [HNX.out] at b4; obtain ⟨nx1,nx2⟩:=nx
    go_wp2_with (rw [<- HX3.out])
    go_quiet (fail)
    obtain ⟨K2,hK2⟩:∃ K2,K2=K1.drewN nq:=⟨_,rfl⟩; rw [<- hK2]
    have bd:Below K1.heap.size K1 K2:=by rw [hK2]; exact drewN_below (Below.refl _ _) _
    have B4:=hide (B3.out.trans (bd.mono B3.out.size)); have V4:=hide (VX3.out.below bd); have P0:=hide (blk_below Q0.out bd); have P3:=hide (blk_below F3.out bd); have hKw:w.heap.size<=K.heap.size:=HKW.out
    have NE:¬ w.heap.size=K.heap.size:=by
     have h1:=(Array.getElem?_eq_some_iff.1 R0S.out).1
     have h2:=HKR.out
     omega
    clear hK2 Q0 F3 HX3 g0 g3 g5 d8 VX3 a0 a1 a2 a3 a4 a5 a6 b0 b1 b2 b3 b4 b5 b6; obtain ⟨a0,a1,a2,a3,a4,a5,a6⟩:=ven_cells P0.out; obtain ⟨b0,b1,b2,b3,b4,b5,b6⟩:=ven_cells P3.out; obtain ⟨-,f4⟩:=blk_cell P3.out 4; obtain ⟨u4,b4⟩:∃ u,K2.cell? ⟨K.heap.size,4,none⟩ = some u:=⟨_,b4⟩; obtain ⟨J,hJ⟩:∃ J,J=K2.setCell ⟨K.heap.size,4,none⟩ (.int .i64 s.next):=⟨_,rfl⟩
    have hbJ:But (fun b=>b=K.heap.size) K2 J:=by rw [hJ]; exact but_one K2 ⟨K.heap.size,4,none⟩ _
    have BJ:Hid (Below w.heap.size w J):=by rw [hJ]; exact B4.out.setCell (p:=⟨K.heap.size,4,none⟩) hKw _
    have VJ:=hide (VI.out.below BJ.out)
    have VT:Hid (VIn J (venV (.slice t tn tc) (.slice t' tn' tc') { V with next:=s.next,evs:=[] }) { V with next:=s.next,evs:=[] }):=by
     have:Below K.heap.size K J:=by
      rw [hJ]; exact (KB.out.trans (bd.mono KB.out.size)).setCell (p:=⟨K.heap.size,4,none⟩) (Nat.le_refl _) _
     exact vnew_next ((VK.out.below this).mono (Nat.zero_le _)) _ _
    have e0:=hbJ.cell (p:=⟨w.heap.size,0,none⟩) NE a0; have e1:=hbJ.cell (p:=⟨w.heap.size,1,none⟩) NE a1; have e2:=hbJ.cell (p:=⟨w.heap.size,2,none⟩) NE a2; have e3:=hbJ.cell (p:=⟨w.heap.size,3,none⟩) NE a3; have e4:=hbJ.cell (p:=⟨w.heap.size,4,none⟩) NE a4; have e5:=hbJ.cell (p:=⟨w.heap.size,5,none⟩) NE a5; have e6:=hbJ.cell (p:=⟨w.heap.size,6,none⟩) NE a6
    have h0:J.cell? ⟨K.heap.size,0,none⟩ = some (.slice t tn tc):=by rw [hJ,cell_set_off _ _ (by omega)]; exact b0
    have h1:J.cell? ⟨K.heap.size,1,none⟩ = some (.slice t' tn' tc'):=by rw [hJ,cell_set_off _ _ (by omega)]; exact b1
    have h2:J.cell? ⟨K.heap.size,2,none⟩ = some (.int .i64 V.ins):=by rw [hJ,cell_set_off _ _ (by omega)]; exact b2
    have h3:J.cell? ⟨K.heap.size,3,none⟩ = some (.int .i64 V.res):=by rw [hJ,cell_set_off _ _ (by omega)]; exact b3
    have h4:J.cell? ⟨K.heap.size,4,none⟩ = some (.int .i64 s.next):=by rw [hJ]; exact World.cell?_setCell_same _ _ _ b4
    have h5:J.cell? ⟨K.heap.size,5,none⟩ = some (.int .i64 V.inn):=by rw [hJ,cell_set_off _ _ (by omega)]; exact b5
    have h6:J.cell? ⟨K.heap.size,6,none⟩ = some (.int .i64 V.out):=by rw [hJ,cell_set_off _ _ (by omega)]; exact b6
    obtain ⟨hq1,hq2,hq3,hq4,hq5,hq6⟩:=HQS.out
    have SM:=hide (venue_same _ _ _ s J VT.out VJ.out hq1 hq2 hq3 hq4 rfl hq5 hq6 (by show V.accs.length<=_; rw [hq1]; have:=STR.out.few; omega) (by show V.mkts.length<=_; rw [hq2]; have:=STR.out.m2; omega))
    have HJ:=hide hJ; clear hJ hbJ hq1 hq2 hq3 hq4 hq5 hq6 VT VJ V4 P0 P3 NE hKw bd
    go_wp2_with (rw [<- HJ.out])
    refine SM.out.mono ?_
    rintro e M ⟨rfl,hbM⟩
    go_wp2
    go_ret
    exact ⟨rfl,BJ.out.trans (hbM.mono BJ.out.size)⟩
  ·have OP2:=hide (opened_any Y LY.out)
   go_wp2_with fail
   refine OP2.out.mono ?_
   rintro e Z9 ⟨rfl,hb9⟩
   go_wp2
   go_ret
   exact ⟨rfl,BY.out.trans (hb9.mono BY.out.size)⟩
 ·have HR:(doR s c').2=checkE s:=by rw [do_bad _ hce]
  rw [HR]; obtain ⟨r,hr⟩:∃ r,r=checkE s:=⟨_,rfl⟩; rw [<- hr] at hce ⊢; obtain ⟨T,hT⟩:∃ T,T=(doR s c').1:=⟨_,rfl⟩; rw [<- hT] at HX1 ⊢; clear hT hr HR F0 F1 FC VX1 EX1 VI HC
  go_wp2_with (rw [<- HX1.out])
  refine OP.out.mono ?_
  rintro e Y ⟨rfl,hbY⟩
  have BY:=hide (B1.out.trans (hbY.mono B1.out.size)); have LY:=hide (L1.out.next hbY); clear OP HX1 hbY L1 B1; have OP2:=hide (opened_any Y LY.out)
  go_wp2_with fail
  refine OP2.out.mono ?_
  rintro e Z9 ⟨rfl,hb9⟩
  go_wp2
  go_ret
  exact ⟨rfl,BY.out.trans (hb9.mono BY.out.size)⟩
end Go.Proofs.YtpkbiafhnflmnaaGreatDoor.Vn
namespace Go.Proofs.YtpkbiafhnflmnaaGreatDoor.venueCancels
open Go.ChangeShapes Go.WideShapes Go.ChangeAt Go.RowKit Go.Joins Go.Proofs.YtpkbiafhnflmnaaGreatDoor.Rk Go.Proofs.YtpkbiafhnflmnaaGreatDoor.Vn
set_option linter.unusedVariables false
theorem own:ownKnob Tryz.prog.godebug=none:=by kernel_rfl
theorem laidOut:laidOutB Tryz.prog=true:=by kernel_rfl
set_option maxRecDepth 100000 in
theorem lifted (os:Os) (started:os.Started) (H:Type) (enc:TypeId × Value->H) :
  ReturnsInHanded {} Tryz.checked os 7 .any (fun w args=>(Rows.venueCancelsSpec.pre enc Tryz.prog Tryz.f7 Rows.venueCancelsRow.domain false w args /\ laidMetH Tryz.prog laid1 w) /\ sizedMet enc Tryz.prog Tryz.f7 (OpenSpec.ofChange Rows.venueCancelsSpec) false w args)
   (Rows.venueCancelsSpec.post enc Tryz.prog Tryz.f7 false true false false):=by
 refine returnsInHanded_of_change_and (C:=Tryz.checked) (X:=fun w _=>laidMetH Tryz.prog laid1 w) (fun _ _ _ hh h=>h.of_heap hh) own started (by kernel_rfl) Tryz.func7
  (ChangeSpec.witness_shaped (enc:=enc) (C:=Tryz.checked) (os:=os) (X:=fun w _=>laidMetH Tryz.prog laid1 w) false (World.laidAll Tryz.prog os laid1) #[.agg #[.slice none 0 0,.slice none 0 0,.int .i64 0,.int .i64 0,.int .i64 0,.int .i64 0,.int .i64 0],.agg #[.int .i64 0,.int .i64 0,.int .i64 0,.int .i64 0,.int .i64 0,.int .i64 0,.int .i64 0,.int .i64 0,.int .i64 0,.int .i64 0,.bool false],.int .i64 0] 8 (World.laidAll_os _ _ _)
   (World.shaped_of_ZipB (by kernel_rfl) (by kernel_rfl)) (by kernel_rfl) (by kernel_rfl) (by kernel_rfl)
   (by rw [MakeChecks.laidMetH_plain _ _ _ (by kernel_rfl)]; exact laidMet_laidAll _ (by kernel_rfl) (by kernel_rfl))) ?_
 intro W base args ds gs before hval0 hW hcnd hsz0 hX _
 have hval:∀ (j:Nat) t v,Tryz.f7.params[j]? = some t->args[j]? = some v->Value.okWide Tryz.prog W .any base t v:=hval0; have hLd:=of_laid hX; have hW':=hW; obtain ⟨p,q,hA0,hV,rfl,hfz,hnd⟩:=hW
 have hA:DataW.TrodAll enc Tryz.prog W 0 (fun _=>true) true Tryz.f7.params.toList args.toList ds p:=hA0
 have hsz:(DataW.weightsEach Tryz.prog (Tryz.f7.params.toList ++ Rows.venueCancelsSpec.plain.varTypes Tryz.prog) (ds ++ gs)).all (·<=reachBytes)=true:=hsz0
 rw [Tryz.params7] at hA hval hsz; obtain ⟨v0,vs0,d0,ds0,p0,q0,hargs,rfl,rfl,h0,r0⟩:=trodAll_cons hA; obtain ⟨v1,vs1,d1,ds1,p1,q1,rfl,rfl,rfl,h1,r1⟩:=trodAll_cons r0; obtain ⟨v2,vs2,d2,ds2,p2,q2,rfl,rfl,rfl,h2,r2⟩:=trodAll_cons r1; obtain ⟨rfl,rfl,rfl⟩:=trodAll_nil r2
 obtain rfl:args = #[v0,v1,v2]:=by cases args; simp_all
 obtain ⟨rfl,rfl⟩:=trodVars_none hV; have k0:=h0; have k1:=h1; have k2:=h2
 have lt0:∀ x ∈ p0,x.block < W.heap.size:=by obtain ⟨m,hm⟩:=k0; exact DataW.trod_lt m _ _ _ hm
 have lt1:∀ x ∈ p1,x.block < W.heap.size:=by obtain ⟨m,hm⟩:=k1; exact DataW.trod_lt m _ _ _ hm
 have lt2:∀ x ∈ p2,x.block < W.heap.size:=by obtain ⟨m,hm⟩:=k2; exact DataW.trod_lt m _ _ _ hm
 have big:∀ {j:Nat} {t:TypeId} {d:DataW H},([25,29,3] ++ Rows.venueCancelsSpec.plain.varTypes Tryz.prog)[j]? = some t->([d0,d1,d2] ++ [])[j]? = some d->∀ m,m ∈ d.weights Tryz.prog t->m<=reachBytes:=fun ht hd m hm=>by
  have:=List.all_eq_true.1 hsz m (DataW.weights_mem_each ht hd m hm)
  simpa using this
 obtain ⟨s0,hs0⟩:=venue_read (hval 0 25 v0 rfl rfl) h0 (big (j:=0) rfl rfl); obtain ⟨c1,rfl⟩:=cmd_read (hval 1 29 v1 rfl rfl) h1; obtain ⟨n2,rfl,rfl,rfl,w2⟩:=open_int Tryz.underlying3 (hval 2 3 v2 rfl rfl) h2; clear hA0 hval0 big
 refine (law_cancels v0 s0 c1 n2 W hs0 hLd).mono fun e W' ⟨he,bel⟩=>?_
 subst he
 exact ⟨_,rfl,_,_,_,[],_,[],hW',trodAll_mk1 (shut_bool Tryz.underlying4 _),(trodAll_cons_mk (Below.trod laidOut (by kernel_rfl) (of_decide_eq_true (by kernel_rfl)) k0 bel lt0) (trodAll_cons_mk (Below.trod laidOut (by kernel_rfl) (of_decide_eq_true (by kernel_rfl)) k1 bel lt1) (trodAll_cons_mk (Below.trod laidOut (by kernel_rfl) (of_decide_eq_true (by kernel_rfl)) k2 bel lt2) trodAll_mk0))),rfl,bel.frame _,fun h=>by cases h⟩
theorem over:Rows.VenueCancelsSaid :=
 OpenClaim.holds_of_wide 7 Tryz.f7 rfl rfl rfl rfl rfl rfl rfl ⟨rfl,rfl,rfl,rfl,rfl⟩ rfl rfl rfl rfl rfl (by kernel_rfl) Tryz.func7 (by kernel_rfl)
  (of_decide_eq_true (by kernel_rfl)) (by unfold Func.isWrapper; first | (rw [if_pos (by decide +kernel)]; kernel_rfl) | (rw [if_neg (by decide +kernel)]; exact ⟨rfl,rfl⟩))
  (fun os started H enc _=>lifted os started H enc)
theorem card:Rows.VenueCancelsCardSaid :=
 Claim7.holds_tied_plain_at .later [] [.data] true (true, "282d2aec10900769c483711ccf7034c4226bb8f84f208cece23444b1ce27ece2") false
  over (fun _ h=>by cases h) (by kernel_rfl) (fun _ h=>by cases h) venueCancels_row_tie rfl ⟨rfl,rfl⟩ (by kernel_rfl) rfl
  (fun f fn hf hfn=>by
   obtain rfl : f = 7 := Option.some.inj ((show Tryz.prog.funcNamed "tollbooth/tollboothlaw.VenueCancels" = some 7 by kernel_rfl).symm.trans hf) |>.symm
   obtain rfl:fn=Tryz.f7:=(Option.some.inj (Tryz.func7.symm.trans hfn)).symm
   exact ⟨by kernel_rfl,fun j t ht=>by
    rw [Tryz.params7] at ht
    rcases j with _ | _ | _ | j
    ·obtain rfl:t=25:=by simpa using ht.symm
     exact (show Tryz.prog.wantsStandIn 25=false by kernel_rfl)
    ·obtain rfl:t=29:=by simpa using ht.symm
     exact (show Tryz.prog.wantsStandIn 29=false by kernel_rfl)
    ·obtain rfl:t=3:=by simpa using ht.symm
     exact (show Tryz.prog.wantsStandIn 3=false by kernel_rfl)
    ·simp at ht⟩)
  (by kernel_rfl)
end Go.Proofs.YtpkbiafhnflmnaaGreatDoor.venueCancels
namespace Go.Proofs.YtpkbiafhnflmnaaGreatDoor
theorem venueCancels_holds:Rows.VenueCancelsCardSaid:=venueCancels.card
#print axioms venueCancels_holds
end Go.Proofs.YtpkbiafhnflmnaaGreatDoor
