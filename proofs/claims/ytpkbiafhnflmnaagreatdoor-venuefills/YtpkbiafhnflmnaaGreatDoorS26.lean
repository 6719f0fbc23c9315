/-
  Package venue by contracts: would an account be ready, if what rests were traded?
-/
import Derived.Test.YtpkbiafhnflmnaaGreatDoorS25
namespace Go.Proofs.YtpkbiafhnflmnaaGreatDoor.Vn
open Go.RowKit Go.Proofs.YtpkbiafhnflmnaaGreatDoor.Num Go.Proofs.YtpkbiafhnflmnaaGreatDoor.Fix Go.Proofs.YtpkbiafhnflmnaaGreatDoor.AcP Go.Proofs.YtpkbiafhnflmnaaGreatDoor.FuP Go.Proofs.YtpkbiafhnflmnaaGreatDoor.Bk Go.Proofs.YtpkbiafhnflmnaaGreatDoor.Rm Go.Proofs.YtpkbiafhnflmnaaGreatDoor.Ac Go.Sort Go.Maps Go.Proofs.YtpkbiafhnflmnaaGreatDoor.Mix Go.Proofs.YtpkbiafhnflmnaaGreatDoor.RkP
theorem new_frozen (w:World) (cs:Array Value) (t:TypeId) (i:Nat):(w.alloc (.cells cs t)).frozen? ⟨w.heap.size,i,none⟩ = false:=by
 have h:=heap_alloc_new w (.cells cs t); unfold World.frozen?; dsimp only; rw [h]; simp
/-- behind a call that came when the new block was there: the block is as it was made. -/
theorem kept_new {w x:World} {cs:Array Value} {t:TypeId} (hb:Below (w.alloc (.cells cs t)).drew.heap.size (w.alloc (.cells cs t)).drew x) (i:Nat) {v:Value} (hv:cs[i]? = some v):x.cell? ⟨w.heap.size,i,none⟩ = some v /\ x.frozen? ⟨w.heap.size,i,none⟩ = false :=
 ⟨(hb.cell (p:=⟨w.heap.size,i,none⟩) (by simp)).trans (new_cell w cs t i v hv),(hb.frozen (p:=⟨w.heap.size,i,none⟩) (by simp)).trans (new_frozen w cs t i)⟩
theorem find_bd {b a:List Odr} (h:Right b a) (id:Int):0<=oqt (findO b a id) /\ oqt (findO b a id)<=1000:=by
 unfold findO; rw [if_pos (bookErr_zero.2 h)]
 cases hf:findIn id b a with
 |none=>exact ⟨Int.le_refl 0,(by decide:(0:Int)<=1000)⟩
 |some o =>
  have hm:=(find_mem hf).1
  have hok:okOrder o=0:=by
   rcases List.mem_append.1 hm with hm | hm
   ·exact h.b.ok o hm
   ·exact h.a.ok o hm
  have:=okOrder_pq hok; simp only [Option.getD_some]
  omega
set_option maxHeartbeats 8000000 in
set_option maxRecDepth 100000 in
theorem readyWith_any (T:Nat) (F L:Nat->Prop) (s:Tn) (mk:Nat) (o:Odr) (w:World) (h:TA w T F L s) (hs:Str s) (hL:Rk.Laid w) (hmk:mk < s.mkts.length) (hid:hasA s.accs (oac o)=true) (hsd:osd o=1 \/ osd o = -1) :
  Calls Tryz.prog 111 #[turnP T,.int .i64 (mk:Nat),odrV o] w fun e w'=>e=.returned (.int .i64 (readyWithE s mk o)) /\ Below w.heap.size w w':=by
 have mixed:Tryz.prog.follows .mixedOrders=true:=by kernel_rfl
 obtain ⟨oi,oa,sd,pr,qt⟩:=o; obtain ⟨A,M,va,vm,ve,h,-,-⟩:=h; obtain ⟨W,hW⟩:∃ W,W=w.alloc (.cells #[.int .i64 oi,.int .i64 oa,.int .i64 sd,.int .i64 pr,.int .i64 qt] 27):=⟨_,rfl⟩
 have b0:Below w.heap.size w W:=by rw [hW]; exact below_alloc w _
 have hW1:=h.below b0
 have hmM:mk < M.length:=by rw [h.lenM]; exact hmk
 obtain ⟨gm,cm,rfl,hgF,fz,m0,m1,-,-⟩:=hW1.atM hmM
 have t1:W.cell? ⟨T,1,none⟩ = some (.slice (some ⟨gm,0,none⟩) M.length cm):=by rw [hW1.cell]; rfl
 have a0:W.cell? ⟨w.heap.size,0,none⟩ = some (.int .i64 oi):=by rw [hW]; exact new_cell w _ _ 0 _ rfl
 obtain ⟨o1,o2,-,-⟩:=hW1.eachM _ (List.getElem_mem hmM); have hR:=(hs.at hmk).1; have hism:=hW1.isMkt hmM
 have fe1:(mktAt s mk).1=mB (M[mk]'hmM):=by rw [hism]; rfl
 have fe2:(mktAt s mk).2.1=mA (M[mk]'hmM):=by rw [hism]; rfl
 rw [fe1,fe2] at hR; have hfew:=book_few hR
 have FI:Hid (∀ X,Below W.heap.size W X->_):=fun X hX=>find_any _ _ (M[mk]'hmM).1.2.1 (M[mk]'hmM).2.1.2.1 (mB (M[mk]'hmM)) (mA (M[mk]'hmM)) oi X (orow_below o1.row hX) (orow_below o2.row hX) (by omega) (by omega)
 generalize (M[mk]'hmM)=m at *; obtain ⟨⟨pb,cb,bids⟩,⟨pa,ca,asks⟩,idx,last⟩:=m; simp only [mB,mA] at m0 m1 FI fe1 fe2 hR hfew
 have r1:∀ X,Below W.heap.size W X->X.cell? ⟨T,1,none⟩ = some (.slice (some ⟨gm,0,none⟩) M.length cm):=fun X hX=>(hX.cell (World.block_lt_of_cell? _ _ t1)).trans t1
 have r2:∀ X,Below W.heap.size W X->X.cell? ⟨gm,mk * 4,none⟩ = some (.slice pb bids.length cb):=fun X hX=>(hX.cell (World.block_lt_of_cell? _ _ m0)).trans m0
 have r3:∀ X,Below W.heap.size W X->X.cell? ⟨gm,mk * 4 + 1,none⟩ = some (.slice pa asks.length ca):=fun X hX=>(hX.cell (World.block_lt_of_cell? _ _ m1)).trans m1
 have r4:∀ X,Below W.heap.size W X->X.cell? ⟨w.heap.size,0,none⟩ = some (.int .i64 oi):=fun X hX=>(hX.cell (World.block_lt_of_cell? _ _ a0)).trans a0
 have hmz:(mk:Int) < (M.length:Int):=by omega
 have hbd:=find_bd hR oi; obtain ⟨fo,hfo⟩:∃ fo,fo=findO bids asks oi:=⟨_,rfl⟩; rw [<- hfo] at hbd FI; obtain ⟨g1,g2,g3,g4,rq⟩:=fo; dsimp only [oqt] at hbd
 try dsimp only at FI
 obtain ⟨pa0,ca1,ea,t0',-⟩:=hW1.place hs oa; obtain ⟨hkS,-⟩:=accAt_has hs.srt hid; dsimp only [oac] at hkS; obtain ⟨k,hk⟩:∃ k,k=plc s.accs oa:=⟨_,rfl⟩; rw [<- hk] at hkS
 have hkA:k < A.length:=by rw [h.lenA]; exact hkS
 obtain ⟨ga,ca0,rfl,hFa,hcapa,hmaxa,fza,k0,k1,k2⟩:=hW1.atA hkA
 have t0:W.cell? ⟨T,0,none⟩ = some (.slice (some ⟨ga,0,none⟩) A.length ca0):=by rw [hW1.cell]; rfl
 have PL:Hid (∀ Y,Below W.heap.size W Y->Calls Tryz.prog 87 #[.slice (some ⟨ga,0,none⟩) A.length ca0,.int .i64 oa] Y fun e w'=>e=.returned (.tuple #[.int .i64 (k:Nat),.bool true]) /\ Below Y.heap.size Y w'):=fun Y hY=>by
  obtain ⟨p',c',e',-,pl⟩:=(hW1.below hY).place hs oa; cases e'; rw [hid,<- hk] at pl; exact pl
 have hmem:=hW1.each _ (List.getElem_mem hkA); have hisa:=h.isAcc hkA; generalize (A[k]'hkA)=a at *; obtain ⟨aid,bal,ap,an,ac,pos⟩:=a; dsimp only at k0 k1 k2 hmem hisa; obtain ⟨q,hq⟩:∃ q,q=sd * rq:=⟨_,rfl⟩
 have hq2:-1000<=q /\ q<=1000:=by dsimp only [osd] at hsd; rcases hsd with e | e <;> (rw [e] at hq; omega)
 obtain ⟨hqa,hqb⟩:=hq2
 have hwr:IntKind.i64.wrap q=q:=IntWalk.i64_in q ⟨by omega,by omega⟩
 have a1:W.cell? ⟨w.heap.size,1,none⟩ = some (.int .i64 oa):=by rw [hW]; exact new_cell w _ _ 1 _ rfl
 have a2:W.cell? ⟨w.heap.size,2,none⟩ = some (.int .i64 sd):=by rw [hW]; exact new_cell w _ _ 2 _ rfl
 have a3:W.cell? ⟨w.heap.size,3,none⟩ = some (.int .i64 pr):=by rw [hW]; exact new_cell w _ _ 3 _ rfl
 have hkz:(k:Int) < (A.length:Int):=by omega
 have hqe:sd * rq=q:=hq.symm
 obtain ⟨TPost,hTP⟩:∃ TPost:Int->Int->Option Addr->Nat->Nat->Int->World->Prop,TPost=(fun v1 v2 p3 n3 c3 r w'=>(tradeErr aid bal pos mk q pr 0=0 /\ r=0 /\ v1=aid /\ v2=bal - q * pr - 0 /\ n3=an /\ Row w' p3 (pos.set (mk:Int).toNat (pos.getD (mk:Int).toNat 0 + q))) \/ (¬ tradeErr aid bal pos mk q pr 0=0 /\ r=tradeErr aid bal pos mk q pr 0)):=⟨_,rfl⟩
 have TR:Hid (∀ Y,Below W.heap.size W Y->Calls Tryz.prog 21 #[accV aid bal ap an ac,.int .i64 (mk:Nat),.int .i64 q,.int .i64 pr,.int .i64 0] Y fun e w'=>∃ v1 v2 p3 n3 c3 r,e=.returned (.tuple #[.agg #[.int .i64 v1,.int .i64 v2,.slice p3 n3 c3],.int .i64 r]) /\ TPost v1 v2 p3 n3 c3 r w' /\ Below Y.heap.size Y w' /\ ∀ x,p3=some x->Y.heap.size<=x.block):=fun Y hY=>by
  rw [hTP]
  by_cases he:tradeErr aid bal pos mk q pr 0=0
  ·refine (trade_good aid bal ap an ac pos mk q pr 0 Y hmem.1.len (row_below hmem.1.row hY) he).mono ?_
   rintro e w' ⟨v,rfl,ho,hb⟩
   obtain ⟨px,cx,rfl,hl,hnil,hrow,hblk⟩:=own_am ho; exact ⟨_,_,_,_,_,_,rfl,.inl ⟨he,rfl,rfl,rfl,rfl,hrow⟩,hb,hblk⟩
  ·refine (trade_bad aid bal ap an ac pos mk q pr 0 Y hmem.1.len (by have:=hmem.1.few; dsimp only at this; omega) (row_below hmem.1.row hY) (by decide) (by decide) he).mono ?_
   rintro e w' ⟨rfl,hb⟩
   exact ⟨_,_,_,_,_,_,rfl,.inr ⟨he,rfl⟩,hb,fun x hx=>by cases hx⟩
 have HTP:=hide hTP; have HFO:=hide hfo; have HQ:=hide hq; have HK:=hide hk; have H1:=hide hW1; have HS:=hide hs; have HL:=hide (hL.next b0); have HMem:=hide hmem; have HISA:=hide hisa; have HE1:=hide fe1; have HE2:=hide fe2; have B0:=hide b0; have HID:=hide hid; obtain ⟨r0,hr0⟩:∃ r0,r0=readyWithE s mk (oi,oa,sd,pr,qt):=⟨_,rfl⟩; rw [<- hr0]
 have HRW:Hid (r0=if tradeErr aid bal pos mk q pr 0=0 then readyE s.mkts (traded (aid,bal,pos) mk q pr 0) else tradeErr aid bal pos mk q pr 0):=by
  show r0=_
  rw [hr0]; unfold readyWithE; dsimp only [oac,osd,opr,oid]; rw [Int.toNat_natCast,fe1,fe2,<- HFO.out,<- hk,hisa]; dsimp only [oqt]; rw [hqe]
 clear hTP hfo hq hk hW1 hs hL hmem hisa h hid hsd hr0 fe1 fe2 hR hfew hFa fza b0 hgF t0' hcapa hmaxa ea hkS hmk hbd; have HW:=hide hW; clear hW fz t1 m0 m1 a0 o1 o2 hism
 go_enter Tryz.func111,Tryz.ntmps111
 go_wp2_with (rw [<- HW.out])
 have WD:Hid (Below W.heap.size W W.drew):=(Below.refl _ W).drew; have ALD:Hid (Below W.heap.size W (W.alloc (.cells #[.int .i64 0,.int .i64 0,.int .i64 0,.int .i64 0,.int .i64 0] 27)).drew):=((Below.refl _ W).alloc (Nat.le_refl _) _).drew
 have KN:Hid (∀ x,Below (W.alloc (.cells #[.int .i64 0,.int .i64 0,.int .i64 0,.int .i64 0,.int .i64 0] 27)).drew.heap.size (W.alloc (.cells #[.int .i64 0,.int .i64 0,.int .i64 0,.int .i64 0,.int .i64 0] 27)).drew x->(∀ i,i < 5->x.cell? ⟨W.heap.size,i,none⟩ = some (.int .i64 0) /\ x.frozen? ⟨W.heap.size,i,none⟩ = false)):=fun x hx i hi=>kept_new hx i (by match i,hi with | 0,_=>rfl | 1,_=>rfl | 2,_=>rfl | 3,_=>rfl | 4,_=>rfl)
 go_region_held3 (fun w'=>Below W.heap.size W w') (first | (with_reducible assumption) | (with_reducible exact WD.out) | (with_reducible exact ALD.out) | ((with_reducible refine Below.alloc ?_ ?_ _) <;> first | (with_reducible assumption) | exact Below.size (by with_reducible assumption)) | ((with_reducible refine Below.setCell (Below.setCell (Below.setCell (Below.setCell (Below.setCell ?_ ?_ _) ?_ _) ?_ _) ?_ _) ?_ _) <;> first | (with_reducible assumption) | exact Nat.le_refl _)) ((go_at_call 20; refine (FI.out _ ?_).mono ?_; assumption; rintro e w1 ⟨rfl,hb⟩; have hb':Below W.heap.size W w1:=Below.trans (by assumption) (hb.mono (Below.size (by assumption))); try (have kn:=(by with_reducible exact KN.out w1 hb:∀ i,i < 5->w1.cell? ⟨W.heap.size,i,none⟩ = some (.int .i64 0) /\ w1.frozen? ⟨W.heap.size,i,none⟩ = false); obtain ⟨z0,q0⟩:=kn 0 (by decide); obtain ⟨z1,q1⟩:=kn 1 (by decide); obtain ⟨z2,q2⟩:=kn 2 (by decide); obtain ⟨z3,q3⟩:=kn 3 (by decide); obtain ⟨z4,q4⟩:=kn 4 (by decide); clear kn)))
 ·obtain ⟨X,hX⟩:∃ X,X=w1.alloc (.cells #[.int .i64 g1,.int .i64 g2,.int .i64 g3,.int .i64 g4,.int .i64 rq] 27):=⟨_,rfl⟩
  rw [<- hX]
  have q4:X.cell? ⟨w1.heap.size,4,none⟩ = some (.int .i64 rq):=by rw [hX]; exact new_cell w1 _ _ 4 _ rfl
  have BX:Hid (Below W.heap.size W X):=by rw [hX]; exact hb'.alloc hb'.size _
  clear hX hb hb'; generalize w1.heap.size=t at *; clear FI r1 r2 r3 r4 KN ALD WD
  have s1:∀ Y,Below X.heap.size X Y->Y.cell? ⟨T,0,none⟩ = some (.slice (some ⟨ga,0,none⟩) A.length ca0):=fun Y hY=>by have e:=(BX.out.cell (World.block_lt_of_cell? _ _ t0)).trans t0; exact (hY.cell (World.block_lt_of_cell? _ _ e)).trans e
  have s2:∀ Y,Below X.heap.size X Y->Y.cell? ⟨w.heap.size,1,none⟩ = some (.int .i64 oa):=fun Y hY=>by have e:=(BX.out.cell (World.block_lt_of_cell? _ _ a1)).trans a1; exact (hY.cell (World.block_lt_of_cell? _ _ e)).trans e
  have PX:Hid (∀ Y,Below X.heap.size X Y->_):=fun Y hY=>PL.out Y (BX.out.trans (hY.mono BX.out.size))
  have XD:Hid (Below X.heap.size X X.drew):=(Below.refl _ X).drew
  go_wp2_with fail
  go_region_held3 (fun w'=>Below X.heap.size X w') (first | (with_reducible assumption) | (with_reducible exact XD.out)) ((go_at_call 87; refine (PX.out _ ?_).mono ?_; assumption; rintro e w2 ⟨rfl,hb2⟩; have hb2':Below X.heap.size X w2:=Below.trans (by assumption) (hb2.mono (Below.size (by assumption)))))
  have BY:=hide (BX.out.trans (hb2'.mono BX.out.size)); have y4:=(hb2'.cell (World.block_lt_of_cell? _ _ q4)).trans q4; clear s1 s2 PX XD q4 hb2 hb2' BX
  have s1:∀ Y,Below w2.heap.size w2 Y->Y.cell? ⟨T,0,none⟩ = some (.slice (some ⟨ga,0,none⟩) A.length ca0):=fun Y hY=>by have e:=(BY.out.cell (World.block_lt_of_cell? _ _ t0)).trans t0; exact (hY.cell (World.block_lt_of_cell? _ _ e)).trans e
  have s2:∀ Y,Below w2.heap.size w2 Y->Y.cell? ⟨w.heap.size,2,none⟩ = some (.int .i64 sd):=fun Y hY=>by have e:=(BY.out.cell (World.block_lt_of_cell? _ _ a2)).trans a2; exact (hY.cell (World.block_lt_of_cell? _ _ e)).trans e
  have s3:∀ Y,Below w2.heap.size w2 Y->Y.cell? ⟨w.heap.size,3,none⟩ = some (.int .i64 pr):=fun Y hY=>by have e:=(BY.out.cell (World.block_lt_of_cell? _ _ a3)).trans a3; exact (hY.cell (World.block_lt_of_cell? _ _ e)).trans e
  have s4:∀ Y,Below w2.heap.size w2 Y->Y.cell? ⟨ga,k * 3,none⟩ = some (.int .i64 aid):=fun Y hY=>by have e:=(BY.out.cell (World.block_lt_of_cell? _ _ k0)).trans k0; exact (hY.cell (World.block_lt_of_cell? _ _ e)).trans e
  have s5:∀ Y,Below w2.heap.size w2 Y->Y.cell? ⟨ga,k * 3 + 1,none⟩ = some (.int .i64 bal):=fun Y hY=>by have e:=(BY.out.cell (World.block_lt_of_cell? _ _ k1)).trans k1; exact (hY.cell (World.block_lt_of_cell? _ _ e)).trans e
  have s6:∀ Y,Below w2.heap.size w2 Y->Y.cell? ⟨ga,k * 3 + 2,none⟩ = some (.slice ap an ac):=fun Y hY=>by have e:=(BY.out.cell (World.block_lt_of_cell? _ _ k2)).trans k2; exact (hY.cell (World.block_lt_of_cell? _ _ e)).trans e
  have s7:∀ Y,Below w2.heap.size w2 Y->Y.cell? ⟨t,4,none⟩ = some (.int .i64 rq):=fun Y hY=>(hY.cell (World.block_lt_of_cell? _ _ y4)).trans y4
  have YD:Hid (Below w2.heap.size w2 w2.drew):=(Below.refl _ w2).drew; have YA:Hid (Below w2.heap.size w2 (w2.alloc (.cells #[.int .i64 0,.int .i64 0,.slice none 0 0] 40)).drew):=((Below.refl _ w2).alloc (Nat.le_refl _) _).drew
  have YN:Hid (∀ x,Below (w2.alloc (.cells #[.int .i64 0,.int .i64 0,.slice none 0 0] 40)).drew.heap.size (w2.alloc (.cells #[.int .i64 0,.int .i64 0,.slice none 0 0] 40)).drew x->(x.cell? ⟨w2.heap.size,0,none⟩ = some (.int .i64 0) /\ x.frozen? ⟨w2.heap.size,0,none⟩ = false) /\ (x.cell? ⟨w2.heap.size,1,none⟩ = some (.int .i64 0) /\ x.frozen? ⟨w2.heap.size,1,none⟩ = false) /\ (x.cell? ⟨w2.heap.size,2,none⟩ = some (.slice none 0 0) /\ x.frozen? ⟨w2.heap.size,2,none⟩ = false)):=fun x hx=>⟨kept_new hx 0 rfl,kept_new hx 1 rfl,kept_new hx 2 rfl⟩
  have TX:Hid (∀ Y,Below w2.heap.size w2 Y->Calls Tryz.prog 21 #[accV aid bal ap an ac,.int .i64 (mk:Nat),.int .i64 q,.int .i64 pr,.int .i64 0] Y fun e w'=>∃ v1 v2 p3 n3 c3 r,e=.returned (.tuple #[.agg #[.int .i64 v1,.int .i64 v2,.slice p3 n3 c3],.int .i64 r]) /\ TPost v1 v2 p3 n3 c3 r w' /\ Below Y.heap.size Y w' /\ ∀ x,p3=some x->Y.heap.size<=x.block):=fun Y hY=>TR.out Y (BY.out.trans (hY.mono BY.out.size))
  go_wp2_with fail
  go_region_held3 (fun w'=>Below w2.heap.size w2 w') (first | (with_reducible assumption) | (with_reducible exact YD.out) | (with_reducible exact YA.out) | ((with_reducible refine Below.alloc ?_ ?_ _) <;> first | (with_reducible assumption) | exact Below.size (by with_reducible assumption)) | ((with_reducible refine Below.setCell (Below.setCell (Below.setCell ?_ ?_ _) ?_ _) ?_ _) <;> first | (with_reducible assumption) | exact Nat.le_refl _)) ((go_at_call 21; refine (TX.out _ ?_).mono ?_; assumption; rintro e w3 ⟨v1,v2,p3,n3,c3,r,rfl,tp,hb3,pp3⟩; have TP:=hide tp; have P3:=hide pp3; clear tp pp3; have hb3':Below w2.heap.size w2 w3:=Below.trans (by assumption) (hb3.mono (Below.size (by assumption))); try (have kn:=(by with_reducible exact YN.out w3 hb3:(w3.cell? ⟨w2.heap.size,0,none⟩ = some (.int .i64 0) /\ w3.frozen? ⟨w2.heap.size,0,none⟩ = false) /\ (w3.cell? ⟨w2.heap.size,1,none⟩ = some (.int .i64 0) /\ w3.frozen? ⟨w2.heap.size,1,none⟩ = false) /\ (w3.cell? ⟨w2.heap.size,2,none⟩ = some (.slice none 0 0) /\ w3.frozen? ⟨w2.heap.size,2,none⟩ = false)); obtain ⟨⟨z0,q0⟩,⟨z1,q1⟩,⟨z2,q2⟩⟩:=kn)))
  ·obtain ⟨Z,hZ⟩:∃ Z,Z=w3.alloc (.cells #[.int .i64 v1,.int .i64 v2,.slice p3 n3 c3] 40):=⟨_,rfl⟩
   rw [<- hZ]
   have e0:Z.cell? ⟨w3.heap.size,0,none⟩ = some (.int .i64 v1):=by rw [hZ]; exact new_cell w3 _ _ 0 _ rfl
   have e1:Z.cell? ⟨w3.heap.size,1,none⟩ = some (.int .i64 v2):=by rw [hZ]; exact new_cell w3 _ _ 1 _ rfl
   have e2:Z.cell? ⟨w3.heap.size,2,none⟩ = some (.slice p3 n3 c3):=by rw [hZ]; exact new_cell w3 _ _ 2 _ rfl
   have BZ:Hid (Below W.heap.size W Z):=by rw [hZ]; exact BY.out.trans ((hb3'.alloc hb3'.size _).mono BY.out.size)
   have RZ:Hid (∀ xs,Row w3 p3 xs->Row Z p3 xs):=fun xs hx=>by rw [hZ]; exact row_below hx ((Below.refl _ w3).alloc (Nat.le_refl _) _)
   clear hZ hb3 hb3' s1 s2 s3 s4 s5 s6 s7 YD YA YN TX y4; generalize w3.heap.size=tz at *
   rcases (by have:=TP.out; rw [HTP.out] at this; exact this:(tradeErr aid bal pos mk q pr 0=0 /\ r=0 /\ v1=aid /\ v2=bal - q * pr - 0 /\ n3=an /\ Row w3 p3 (pos.set (mk:Int).toNat (pos.getD (mk:Int).toNat 0 + q))) \/ (¬ tradeErr aid bal pos mk q pr 0=0 /\ r=tradeErr aid bal pos mk q pr 0)) with ⟨he,hr,hv1,hv2,hn3,hrow⟩ | ⟨he,hr⟩
   ·have RD:=hide (ready_any T F (fun _=>False) s v1 v2 p3 n3 c3 (pos.set (mk:Int).toNat (pos.getD (mk:Int).toNat 0 + q)) Z ⟨_,_,_,_,_,H1.out.below BZ.out,rows_none _ _,fun _ h=>h.elim⟩ HS.out (HL.out.next BZ.out) (by rw [hn3,List.length_set]; exact HMem.out.1.len) (by have:=HMem.out.1.few; dsimp only at this; omega) (RZ.out _ hrow))
    have EQ:Hid (readyE s.mkts (v1,v2,pos.set (mk:Int).toNat (pos.getD (mk:Int).toNat 0 + q))=r0):=by
     show _=r0
     rw [HRW.out,if_pos he,hv1,hv2]
     rfl
    subst hr; clear hrow he hv1 hv2 hn3 TP
    go_wp2_with fail
    refine RD.out.mono ?_
    rintro e Q ⟨rfl,hbq⟩
    have BQ:=hide (B0.out.trans ((BZ.out.mono B0.out.size).trans (hbq.mono (Nat.le_trans B0.out.size BZ.out.size)))); rw [EQ.out]; clear hbq RD e0 e1 e2
    go_wp2
    go_ret
    exact ⟨rfl,BQ.out⟩
   ·have EQ:Hid (r=r0):=by
     show r=r0
     rw [HRW.out,if_neg he,hr]
    have hr0:¬ r=0:=by rw [hr]; exact he
    have BQ:=hide (B0.out.trans (BZ.out.mono B0.out.size)); clear he hr TP
    go_wp2
    go_ret
    exact ⟨by rw [<- EQ.out]; rfl,BQ.out⟩
  ·obtain ⟨Z,hZ⟩:∃ Z,Z=((w3.setCell ⟨w2.heap.size,0,none⟩ (.int .i64 v1)).setCell ⟨w2.heap.size,1,none⟩ (.int .i64 v2)).setCell ⟨w2.heap.size,2,none⟩ (.slice p3 n3 c3):=⟨_,rfl⟩
   rw [<- hZ]
   have e0:Z.cell? ⟨w2.heap.size,0,none⟩ = some (.int .i64 v1):=by
    rw [hZ,cell_set_off _ _ (by omega),cell_set_off _ _ (by omega)]
    exact World.cell?_setCell_same _ _ _ z0
   have e1:Z.cell? ⟨w2.heap.size,1,none⟩ = some (.int .i64 v2):=by
    rw [hZ,cell_set_off _ _ (by omega)]
    refine World.cell?_setCell_same _ _ _ (u:=.int .i64 0) ?_
    rw [cell_set_off _ _ (by omega)]
    exact z1
   have e2:Z.cell? ⟨w2.heap.size,2,none⟩ = some (.slice p3 n3 c3):=by
    rw [hZ]
    refine World.cell?_setCell_same _ _ _ (u:=.slice none 0 0) ?_
    rw [cell_set_off _ _ (by omega),cell_set_off _ _ (by omega)]
    exact z2
   have BZ:Hid (Below W.heap.size W Z):=by
    rw [hZ]; exact BY.out.trans ((((hb3'.setCell (p:=⟨w2.heap.size,0,none⟩) (Nat.le_refl _) _).setCell (p:=⟨w2.heap.size,1,none⟩) (Nat.le_refl _) _).setCell (p:=⟨w2.heap.size,2,none⟩) (Nat.le_refl _) _).mono BY.out.size)
   have RZ:Hid (∀ xs,Row w3 p3 xs->Row Z p3 xs):=fun xs hx=>by
    rw [hZ]
    have hbb:But (fun b=>b=w2.heap.size) w3 (((w3.setCell ⟨w2.heap.size,0,none⟩ (.int .i64 v1)).setCell ⟨w2.heap.size,1,none⟩ (.int .i64 v2)).setCell ⟨w2.heap.size,2,none⟩ (.slice p3 n3 c3)):=((but_one w3 ⟨w2.heap.size,0,none⟩ _).setCell (p:=⟨w2.heap.size,1,none⟩) (.inl rfl) _).setCell (p:=⟨w2.heap.size,2,none⟩) (.inl rfl) _
    exact row_but hx hbb (.inr (fun x hx e=>by have:=P3.out x hx; simp at this; omega))
   clear hZ hb3 hb3' z0 z1 z2 q0 q1 q2 s1 s2 s3 s4 s5 s6 s7 YD YA YN TX y4; generalize w2.heap.size=tz at *
   rcases (by have:=TP.out; rw [HTP.out] at this; exact this:(tradeErr aid bal pos mk q pr 0=0 /\ r=0 /\ v1=aid /\ v2=bal - q * pr - 0 /\ n3=an /\ Row w3 p3 (pos.set (mk:Int).toNat (pos.getD (mk:Int).toNat 0 + q))) \/ (¬ tradeErr aid bal pos mk q pr 0=0 /\ r=tradeErr aid bal pos mk q pr 0)) with ⟨he,hr,hv1,hv2,hn3,hrow⟩ | ⟨he,hr⟩
   ·have RD:=hide (ready_any T F (fun _=>False) s v1 v2 p3 n3 c3 (pos.set (mk:Int).toNat (pos.getD (mk:Int).toNat 0 + q)) Z ⟨_,_,_,_,_,H1.out.below BZ.out,rows_none _ _,fun _ h=>h.elim⟩ HS.out (HL.out.next BZ.out) (by rw [hn3,List.length_set]; exact HMem.out.1.len) (by have:=HMem.out.1.few; dsimp only at this; omega) (RZ.out _ hrow))
    have EQ:Hid (readyE s.mkts (v1,v2,pos.set (mk:Int).toNat (pos.getD (mk:Int).toNat 0 + q))=r0):=by
     show _=r0
     rw [HRW.out,if_pos he,hv1,hv2]
     rfl
    subst hr; clear hrow he hv1 hv2 hn3 TP
    go_wp2_with fail
    refine RD.out.mono ?_
    rintro e Q ⟨rfl,hbq⟩
    have BQ:=hide (B0.out.trans ((BZ.out.mono B0.out.size).trans (hbq.mono (Nat.le_trans B0.out.size BZ.out.size)))); rw [EQ.out]; clear hbq RD e0 e1 e2
    go_wp2
    go_ret
    exact ⟨rfl,BQ.out⟩
   ·have EQ:Hid (r=r0):=by
     show r=r0
     rw [HRW.out,if_neg he,hr]
    have hr0:¬ r=0:=by rw [hr]; exact he
    have BQ:=hide (B0.out.trans (BZ.out.mono B0.out.size)); clear he hr TP
    go_wp2
    go_ret
    exact ⟨by rw [<- EQ.out]; rfl,BQ.out⟩
 ·obtain ⟨X,hX⟩:∃ X,X=((((w1.setCell ⟨W.heap.size,0,none⟩ (.int .i64 g1)).setCell ⟨W.heap.size,1,none⟩ (.int .i64 g2)).setCell ⟨W.heap.size,2,none⟩ (.int .i64 g3)).setCell ⟨W.heap.size,3,none⟩ (.int .i64 g4)).setCell ⟨W.heap.size,4,none⟩ (.int .i64 rq):=⟨_,rfl⟩
  rw [<- hX]
  have q4:X.cell? ⟨W.heap.size,4,none⟩ = some (.int .i64 rq):=by
   rw [hX]
   refine World.cell?_setCell_same _ _ _ (u:=.int .i64 0) ?_
   rw [cell_set_off _ _ (by omega),cell_set_off _ _ (by omega),cell_set_off _ _ (by omega),cell_set_off _ _ (by omega)]
   exact z4
  have BX:Hid (Below W.heap.size W X):=by
   rw [hX]; exact ((((hb'.setCell (p:=⟨W.heap.size,0,none⟩) (Nat.le_refl _) _).setCell (p:=⟨W.heap.size,1,none⟩) (Nat.le_refl _) _).setCell (p:=⟨W.heap.size,2,none⟩) (Nat.le_refl _) _).setCell (p:=⟨W.heap.size,3,none⟩) (Nat.le_refl _) _).setCell (p:=⟨W.heap.size,4,none⟩) (Nat.le_refl _) _
  clear hX hb hb' z0 z1 z2 z3 z4 q0 q1 q2 q3; generalize W.heap.size=t at q4 ⊢; clear FI r1 r2 r3 r4 KN ALD WD
  have s1:∀ Y,Below X.heap.size X Y->Y.cell? ⟨T,0,none⟩ = some (.slice (some ⟨ga,0,none⟩) A.length ca0):=fun Y hY=>by have e:=(BX.out.cell (World.block_lt_of_cell? _ _ t0)).trans t0; exact (hY.cell (World.block_lt_of_cell? _ _ e)).trans e
  have s2:∀ Y,Below X.heap.size X Y->Y.cell? ⟨w.heap.size,1,none⟩ = some (.int .i64 oa):=fun Y hY=>by have e:=(BX.out.cell (World.block_lt_of_cell? _ _ a1)).trans a1; exact (hY.cell (World.block_lt_of_cell? _ _ e)).trans e
  have PX:Hid (∀ Y,Below X.heap.size X Y->_):=fun Y hY=>PL.out Y (BX.out.trans (hY.mono BX.out.size))
  have XD:Hid (Below X.heap.size X X.drew):=(Below.refl _ X).drew
  go_wp2_with fail
  go_region_held3 (fun w'=>Below X.heap.size X w') (first | (with_reducible assumption) | (with_reducible exact XD.out)) ((go_at_call 87; refine (PX.out _ ?_).mono ?_; assumption; rintro e w2 ⟨rfl,hb2⟩; have hb2':Below X.heap.size X w2:=Below.trans (by assumption) (hb2.mono (Below.size (by assumption)))))
  have BY:=hide (BX.out.trans (hb2'.mono BX.out.size)); have y4:=(hb2'.cell (World.block_lt_of_cell? _ _ q4)).trans q4; clear s1 s2 PX XD q4 hb2 hb2' BX
  have s1:∀ Y,Below w2.heap.size w2 Y->Y.cell? ⟨T,0,none⟩ = some (.slice (some ⟨ga,0,none⟩) A.length ca0):=fun Y hY=>by have e:=(BY.out.cell (World.block_lt_of_cell? _ _ t0)).trans t0; exact (hY.cell (World.block_lt_of_cell? _ _ e)).trans e
  have s2:∀ Y,Below w2.heap.size w2 Y->Y.cell? ⟨w.heap.size,2,none⟩ = some (.int .i64 sd):=fun Y hY=>by have e:=(BY.out.cell (World.block_lt_of_cell? _ _ a2)).trans a2; exact (hY.cell (World.block_lt_of_cell? _ _ e)).trans e
  have s3:∀ Y,Below w2.heap.size w2 Y->Y.cell? ⟨w.heap.size,3,none⟩ = some (.int .i64 pr):=fun Y hY=>by have e:=(BY.out.cell (World.block_lt_of_cell? _ _ a3)).trans a3; exact (hY.cell (World.block_lt_of_cell? _ _ e)).trans e
  have s4:∀ Y,Below w2.heap.size w2 Y->Y.cell? ⟨ga,k * 3,none⟩ = some (.int .i64 aid):=fun Y hY=>by have e:=(BY.out.cell (World.block_lt_of_cell? _ _ k0)).trans k0; exact (hY.cell (World.block_lt_of_cell? _ _ e)).trans e
  have s5:∀ Y,Below w2.heap.size w2 Y->Y.cell? ⟨ga,k * 3 + 1,none⟩ = some (.int .i64 bal):=fun Y hY=>by have e:=(BY.out.cell (World.block_lt_of_cell? _ _ k1)).trans k1; exact (hY.cell (World.block_lt_of_cell? _ _ e)).trans e
  have s6:∀ Y,Below w2.heap.size w2 Y->Y.cell? ⟨ga,k * 3 + 2,none⟩ = some (.slice ap an ac):=fun Y hY=>by have e:=(BY.out.cell (World.block_lt_of_cell? _ _ k2)).trans k2; exact (hY.cell (World.block_lt_of_cell? _ _ e)).trans e
  have s7:∀ Y,Below w2.heap.size w2 Y->Y.cell? ⟨t,4,none⟩ = some (.int .i64 rq):=fun Y hY=>(hY.cell (World.block_lt_of_cell? _ _ y4)).trans y4
  have YD:Hid (Below w2.heap.size w2 w2.drew):=(Below.refl _ w2).drew; have YA:Hid (Below w2.heap.size w2 (w2.alloc (.cells #[.int .i64 0,.int .i64 0,.slice none 0 0] 40)).drew):=((Below.refl _ w2).alloc (Nat.le_refl _) _).drew
  have YN:Hid (∀ x,Below (w2.alloc (.cells #[.int .i64 0,.int .i64 0,.slice none 0 0] 40)).drew.heap.size (w2.alloc (.cells #[.int .i64 0,.int .i64 0,.slice none 0 0] 40)).drew x->(x.cell? ⟨w2.heap.size,0,none⟩ = some (.int .i64 0) /\ x.frozen? ⟨w2.heap.size,0,none⟩ = false) /\ (x.cell? ⟨w2.heap.size,1,none⟩ = some (.int .i64 0) /\ x.frozen? ⟨w2.heap.size,1,none⟩ = false) /\ (x.cell? ⟨w2.heap.size,2,none⟩ = some (.slice none 0 0) /\ x.frozen? ⟨w2.heap.size,2,none⟩ = false)):=fun x hx=>⟨kept_new hx 0 rfl,kept_new hx 1 rfl,kept_new hx 2 rfl⟩
  have TX:Hid (∀ Y,Below w2.heap.size w2 Y->Calls Tryz.prog 21 #[accV aid bal ap an ac,.int .i64 (mk:Nat),.int .i64 q,.int .i64 pr,.int .i64 0] Y fun e w'=>∃ v1 v2 p3 n3 c3 r,e=.returned (.tuple #[.agg #[.int .i64 v1,.int .i64 v2,.slice p3 n3 c3],.int .i64 r]) /\ TPost v1 v2 p3 n3 c3 r w' /\ Below Y.heap.size Y w' /\ ∀ x,p3=some x->Y.heap.size<=x.block):=fun Y hY=>TR.out Y (BY.out.trans (hY.mono BY.out.size))
  go_wp2_with fail
  go_region_held3 (fun w'=>Below w2.heap.size w2 w') (first | (with_reducible assumption) | (with_reducible exact YD.out) | (with_reducible exact YA.out) | ((with_reducible refine Below.alloc ?_ ?_ _) <;> first | (with_reducible assumption) | exact Below.size (by with_reducible assumption)) | ((with_reducible refine Below.setCell (Below.setCell (Below.setCell ?_ ?_ _) ?_ _) ?_ _) <;> first | (with_reducible assumption) | exact Nat.le_refl _)) ((go_at_call 21; refine (TX.out _ ?_).mono ?_; assumption; rintro e w3 ⟨v1,v2,p3,n3,c3,r,rfl,tp,hb3,pp3⟩; have TP:=hide tp; have P3:=hide pp3; clear tp pp3; have hb3':Below w2.heap.size w2 w3:=Below.trans (by assumption) (hb3.mono (Below.size (by assumption))); try (have kn:=(by with_reducible exact YN.out w3 hb3:(w3.cell? ⟨w2.heap.size,0,none⟩ = some (.int .i64 0) /\ w3.frozen? ⟨w2.heap.size,0,none⟩ = false) /\ (w3.cell? ⟨w2.heap.size,1,none⟩ = some (.int .i64 0) /\ w3.frozen? ⟨w2.heap.size,1,none⟩ = false) /\ (w3.cell? ⟨w2.heap.size,2,none⟩ = some (.slice none 0 0) /\ w3.frozen? ⟨w2.heap.size,2,none⟩ = false)); obtain ⟨⟨z0,q0⟩,⟨z1,q1⟩,⟨z2,q2⟩⟩:=kn)))
  ·obtain ⟨Z,hZ⟩:∃ Z,Z=w3.alloc (.cells #[.int .i64 v1,.int .i64 v2,.slice p3 n3 c3] 40):=⟨_,rfl⟩
   rw [<- hZ]
   have e0:Z.cell? ⟨w3.heap.size,0,none⟩ = some (.int .i64 v1):=by rw [hZ]; exact new_cell w3 _ _ 0 _ rfl
   have e1:Z.cell? ⟨w3.heap.size,1,none⟩ = some (.int .i64 v2):=by rw [hZ]; exact new_cell w3 _ _ 1 _ rfl
   have e2:Z.cell? ⟨w3.heap.size,2,none⟩ = some (.slice p3 n3 c3):=by rw [hZ]; exact new_cell w3 _ _ 2 _ rfl
   have BZ:Hid (Below W.heap.size W Z):=by rw [hZ]; exact BY.out.trans ((hb3'.alloc hb3'.size _).mono BY.out.size)
   have RZ:Hid (∀ xs,Row w3 p3 xs->Row Z p3 xs):=fun xs hx=>by rw [hZ]; exact row_below hx ((Below.refl _ w3).alloc (Nat.le_refl _) _)
   clear hZ hb3 hb3' s1 s2 s3 s4 s5 s6 s7 YD YA YN TX y4; generalize w3.heap.size=tz at *
   rcases (by have:=TP.out; rw [HTP.out] at this; exact this:(tradeErr aid bal pos mk q pr 0=0 /\ r=0 /\ v1=aid /\ v2=bal - q * pr - 0 /\ n3=an /\ Row w3 p3 (pos.set (mk:Int).toNat (pos.getD (mk:Int).toNat 0 + q))) \/ (¬ tradeErr aid bal pos mk q pr 0=0 /\ r=tradeErr aid bal pos mk q pr 0)) with ⟨he,hr,hv1,hv2,hn3,hrow⟩ | ⟨he,hr⟩
   ·have RD:=hide (ready_any T F (fun _=>False) s v1 v2 p3 n3 c3 (pos.set (mk:Int).toNat (pos.getD (mk:Int).toNat 0 + q)) Z ⟨_,_,_,_,_,H1.out.below BZ.out,rows_none _ _,fun _ h=>h.elim⟩ HS.out (HL.out.next BZ.out) (by rw [hn3,List.length_set]; exact HMem.out.1.len) (by have:=HMem.out.1.few; dsimp only at this; omega) (RZ.out _ hrow))
    have EQ:Hid (readyE s.mkts (v1,v2,pos.set (mk:Int).toNat (pos.getD (mk:Int).toNat 0 + q))=r0):=by
     show _=r0
     rw [HRW.out,if_pos he,hv1,hv2]
     rfl
    subst hr; clear hrow he hv1 hv2 hn3 TP
    go_wp2_with fail
    refine RD.out.mono ?_
    rintro e Q ⟨rfl,hbq⟩
    have BQ:=hide (B0.out.trans ((BZ.out.mono B0.out.size).trans (hbq.mono (Nat.le_trans B0.out.size BZ.out.size)))); rw [EQ.out]; clear hbq RD e0 e1 e2
    go_wp2
    go_ret
    exact ⟨rfl,BQ.out⟩
   ·have EQ:Hid (r=r0):=by
     show r=r0
     rw [HRW.out,if_neg he,hr]
    have hr0:¬ r=0:=by rw [hr]; exact he
    have BQ:=hide (B0.out.trans (BZ.out.mono B0.out.size)); clear he hr TP
    go_wp2
    go_ret
    exact ⟨by rw [<- EQ.out]; rfl,BQ.out⟩
  ·obtain ⟨Z,hZ⟩:∃ Z,Z=((w3.setCell ⟨w2.heap.size,0,none⟩ (.int .i64 v1)).setCell ⟨w2.heap.size,1,none⟩ (.int .i64 v2)).setCell ⟨w2.heap.size,2,none⟩ (.slice p3 n3 c3):=⟨_,rfl⟩
   rw [<- hZ]
   have e0:Z.cell? ⟨w2.heap.size,0,none⟩ = some (.int .i64 v1):=by
    rw [hZ,cell_set_off _ _ (by omega),cell_set_off _ _ (by omega)]
    exact World.cell?_setCell_same _ _ _ z0
   have e1:Z.cell? ⟨w2.heap.size,1,none⟩ = some (.int .i64 v2):=by
    rw [hZ,cell_set_off _ _ (by omega)]
    refine World.cell?_setCell_same _ _ _ (u:=.int .i64 0) ?_
    rw [cell_set_off _ _ (by omega)]
    exact z1
   have e2:Z.cell? ⟨w2.heap.size,2,none⟩ = some (.slice p3 n3 c3):=by
    rw [hZ]
    refine World.cell?_setCell_same _ _ _ (u:=.slice none 0 0) ?_
    rw [cell_set_off _ _ (by omega),cell_set_off _ _ (by omega)]
    exact z2
   have BZ:Hid (Below W.heap.size W Z):=by
    rw [hZ]; exact BY.out.trans ((((hb3'.setCell (p:=⟨w2.heap.size,0,none⟩) (Nat.le_refl _) _).setCell (p:=⟨w2.heap.size,1,none⟩) (Nat.le_refl _) _).setCell (p:=⟨w2.heap.size,2,none⟩) (Nat.le_refl _) _).mono BY.out.size)
   have RZ:Hid (∀ xs,Row w3 p3 xs->Row Z p3 xs):=fun xs hx=>by
    rw [hZ]
    have hbb:But (fun b=>b=w2.heap.size) w3 (((w3.setCell ⟨w2.heap.size,0,none⟩ (.int .i64 v1)).setCell ⟨w2.heap.size,1,none⟩ (.int .i64 v2)).setCell ⟨w2.heap.size,2,none⟩ (.slice p3 n3 c3)):=((but_one w3 ⟨w2.heap.size,0,none⟩ _).setCell (p:=⟨w2.heap.size,1,none⟩) (.inl rfl) _).setCell (p:=⟨w2.heap.size,2,none⟩) (.inl rfl) _
    exact row_but hx hbb (.inr (fun x hx e=>by have:=P3.out x hx; simp at this; omega))
   clear hZ hb3 hb3' z0 z1 z2 q0 q1 q2 s1 s2 s3 s4 s5 s6 s7 YD YA YN TX y4; generalize w2.heap.size=tz at *
   rcases (by have:=TP.out; rw [HTP.out] at this; exact this:(tradeErr aid bal pos mk q pr 0=0 /\ r=0 /\ v1=aid /\ v2=bal - q * pr - 0 /\ n3=an /\ Row w3 p3 (pos.set (mk:Int).toNat (pos.getD (mk:Int).toNat 0 + q))) \/ (¬ tradeErr aid bal pos mk q pr 0=0 /\ r=tradeErr aid bal pos mk q pr 0)) with ⟨he,hr,hv1,hv2,hn3,hrow⟩ | ⟨he,hr⟩
   ·have RD:=hide (ready_any T F (fun _=>False) s v1 v2 p3 n3 c3 (pos.set (mk:Int).toNat (pos.getD (mk:Int).toNat 0 + q)) Z ⟨_,_,_,_,_,H1.out.below BZ.out,rows_none _ _,fun _ h=>h.elim⟩ HS.out (HL.out.next BZ.out) (by rw [hn3,List.length_set]; exact HMem.out.1.len) (by have:=HMem.out.1.few; dsimp only at this; omega) (RZ.out _ hrow))
    have EQ:Hid (readyE s.mkts (v1,v2,pos.set (mk:Int).toNat (pos.getD (mk:Int).toNat 0 + q))=r0):=by
     show _=r0
     rw [HRW.out,if_pos he,hv1,hv2]
     rfl
    subst hr; clear hrow he hv1 hv2 hn3 TP
    go_wp2_with fail
    refine RD.out.mono ?_
    rintro e Q ⟨rfl,hbq⟩
    have BQ:=hide (B0.out.trans ((BZ.out.mono B0.out.size).trans (hbq.mono (Nat.le_trans B0.out.size BZ.out.size)))); rw [EQ.out]; clear hbq RD e0 e1 e2
    go_wp2
    go_ret
    exact ⟨rfl,BQ.out⟩
   ·have EQ:Hid (r=r0):=by
     show r=r0
     rw [HRW.out,if_neg he,hr]
    have hr0:¬ r=0:=by rw [hr]; exact he
    have BQ:=hide (B0.out.trans (BZ.out.mono B0.out.size)); clear he hr TP
    go_wp2
    go_ret
    exact ⟨by rw [<- EQ.out]; rfl,BQ.out⟩
end Go.Proofs.YtpkbiafhnflmnaaGreatDoor.Vn
