import Derived.Test.YthdjfhnhjiageaaGreatDoorG34
import Derived.Test.YthdjfhnhjiageaaGreatDoorG28
set_option maxHeartbeats 8000000
set_option maxRecDepth 100000
namespace Go.Proofs.YthdjfhnhjiageaaGreatDoor.Vn
open Go.RowKit Num Fix AcP FuP Bk Rm Ac Go.Sort Go.Maps Mix RkP
abbrev odO (o:Odr):Obj:=.cells #[.int .i64 o.1,.int .i64 o.2.1,.int .i64 o.2.2.1,.int .i64 o.2.2.2.1,.int .i64 o.2.2.2.2] 26
theorem place_bad (T:Nat)(F L:Nat->Prop)(s:Tn)(c:Cm)(w:World)(h:TA w T F L s)(hs:Str s)(he:¬orderE s c=0) :
  Calls Tryz.prog 88 #[turnP T,cmV c] w (Ends w T F L (placeR s c)):=by
 obtain⟨W,hW⟩:∃W,W=w.alloc (cmO c):=⟨_,rfl⟩;have b0:Below w.heap.size w W:=by rw [hW];exact below_alloc w _
 have eB:W.heap[w.heap.size]? = some (cmO c):=by rw [hW];exact heap_alloc_new w _
 have OO:=orderOf_any T F L s c W (h.below b0) hs;rw [if_neg he] at OO;have OH:=hide OO;have HW:=hide hW;have B0:=hide b0;have EE0:Hid (∀X,Below w.heap.size w X->Ends w T F L (placeR s c) (.returned (.int .i64 (orderE s c))) X):=fun X hX=>.inr ⟨_,by unfold placeR;rw [if_neg he],rfl,he,.of_below hX⟩;generalize orderE s c=oe at *;obtain⟨kind,ac,mkt,n,⟨o1,o2,o3,o4,o5⟩,how,red⟩:=c;try dsimp only at eB
 try dsimp only at OH
 try dsimp only at HW
 try dsimp only
 have a:∀i v,_->W.cell? ⟨w.heap.size,i,none⟩=some v:=fun i v hv=>((blk_cell (by exact eB) i).1).trans hv;have a0:=a 0 (.int .i64 kind) rfl;have a1:=a 1 (.int .i64 ac) rfl;have a2:=a 2 (.int .i64 mkt) rfl;have a3:=a 3 (.int .i64 n) rfl;have a4:=a 4 (.int .i64 o1) rfl;have a5:=a 5 (.int .i64 o2) rfl;have a6:=a 6 (.int .i64 o3) rfl;have a7:=a 7 (.int .i64 o4) rfl;have a8:=a 8 (.int .i64 o5) rfl;have a9:=a 9 (.int .i64 how) rfl;have a10:=a 10 (.bool red) rfl;clear a hs hW b0 eB h OO;go_enter Tryz.func88,Tryz.ntmps88;go_wp2_with (rw [<- HW.out]);refine OH.out.mono ?_;rintro e W1 ⟨rfl,b1⟩;have B1:=hide (B0.out.trans (b1.mono B0.out.size));clear a0 a1 a2 a3 a4 a5 a6 a7 a8 a9 a10 b1 HW;have EE:=hide (EE0.out (W1.alloc (odO noOdr)) (B1.out.alloc B1.out.size _));clear EE0;go_wp2;go_ret;exact EE.out
theorem next_ok {s:Tn}(hs:Str s):IntKind.i64.wrap (s.next+1)=s.next+1:=IntWalk.i64_in _ ⟨by have:=hs.nx;omega,by have:=hs.nx;omega⟩
theorem place_good (T:Nat)(F L:Nat->Prop)(s:Tn)(c:Cm)(w:World)(h:TA w T F L s)(hs:Str s)(hS:Sums s)(hL:Rk.Laid w)(hF0:¬F 8)(hE:s.evs.length<=800000)(he:orderE s c=0) :
  Calls Tryz.prog 88 #[turnP T,cmV c] w (Ends w T F L (placeR s c)):=by
 have mixed:Tryz.prog.follows .mixedOrders=true:=by kernel_rfl
 obtain⟨W,hW⟩:∃W,W=w.alloc (cmO c):=⟨_,rfl⟩;have b0:Below w.heap.size w W:=by rw [hW];exact below_alloc w _
 have eB:W.heap[w.heap.size]? = some (cmO c):=by rw [hW];exact heap_alloc_new w _
 have OO:=orderOf_any T F L s c W (h.below b0) hs;rw [if_pos he,he] at OO;have OH:=hide OO;have HW:=hide hW;have B0:=hide b0;have hok:=order_ok he;obtain⟨R,hR⟩:∃R,R=placeR s c:=⟨_,rfl⟩;rw [<- hR];unfold placeR at hR;rw [if_pos he] at hR;have hoid:oid (orderO s c)=s.next:=rfl;have hoac:oac (orderO s c)=c.ac:=rfl;have hosd:osd (orderO s c)=osd c.o:=rfl;obtain⟨k,hk⟩:∃k:Nat,c.mkt=k:=⟨c.mkt.toNat,by have:=hasM_iff.1 hok.2.2.2.1;omega⟩;have hkm:k<s.mkts.length:=by have:=hasM_iff.1 hok.2.2.2.1;omega
 have hsd:osd (orderO s c)=1\/osd (orderO s c) = -1:=by rw [hosd];exact okOrder_sd (o:=(s.next,c.ac,c.o.2.2)) hok.1
 obtain⟨o,ho⟩:∃o,o=orderO s c:=⟨_,rfl⟩;rw [<- ho] at OH hR hoid hoac hsd;rw [hk] at hR;have HID:Hid (hasA s.accs (oac o)=true):=by rw [hoac];exact hok.2.2.1
 have HNX:Hid (¬s.next=100000):=hok.2.2.2.2.1;have HOI:=hide hoid;have HSD:=hide hsd;have HKM:=hide hkm;have HS:=hide hs;have HSu:=hide hS;have HL:=hide hL;have HF0:=hide hF0;have HE:=hide hE;have HR:=hide hR;have TAW:=hide (h.below b0);have NFB:Hid (∀b,w.heap.size<=b->¬F b):=fun b hb f=>by have:=h.lt _ f;omega
 obtain⟨kind,ac,mkt,n,⟨o1,o2,o3,o4,o5⟩,how,red⟩:=c;obtain⟨oi,oa,sd,pr,qt⟩:=o;dsimp only at hk;subst hk;dsimp only [oid,oac,osd] at hoid hoac;try dsimp only at eB
 try dsimp only at OH
 try dsimp only at HW
 try dsimp only at HR
 have EB:=hide eB;have a:∀i v,_->W.cell? ⟨w.heap.size,i,none⟩=some v:=fun i v hv=>((blk_cell (by exact eB) i).1).trans hv;have a0:=a 0 (.int .i64 kind) rfl;have a1:=a 1 (.int .i64 ac) rfl;have a2:=a 2 (.int .i64 (k:Nat)) rfl;have a3:=a 3 (.int .i64 n) rfl;have a4:=a 4 (.int .i64 o1) rfl;have a5:=a 5 (.int .i64 o2) rfl;have a6:=a 6 (.int .i64 o3) rfl;have a7:=a 7 (.int .i64 o4) rfl;have a8:=a 8 (.int .i64 o5) rfl;have a9:=a 9 (.int .i64 how) rfl;have a10:=a 10 (.bool red) rfl;clear a hs hS hL hF0 hE hW b0 eB h OO hR hok ho hsd hkm hosd he hoid hoac;go_enter Tryz.func88,Tryz.ntmps88;go_wp2_with (rw [<- HW.out]);refine OH.out.mono ?_;rintro e W1 ⟨rfl,b1⟩;have B1:=hide (B0.out.trans (b1.mono B0.out.size));have E1:=hide (blk_below EB.out b1);have TA1:=hide (TAW.out.below b1);clear a0 a1 a2 a3 a4 a5 a6 a7 a8 a9 a10 b1 HW EB TAW OH B0;clear W;-- the order's own block,and the next number
 obtain⟨X0,hX0⟩:∃X0,X0=W1.alloc (odO (oi,oa,sd,pr,qt)):=⟨_,rfl⟩;have b10:Below W1.heap.size W1 X0:=by rw [hX0];exact below_alloc _ _
 have C0:X0.heap[W1.heap.size]? = some (odO (oi,oa,sd,pr,qt)):=by rw [hX0];exact heap_alloc_new W1 _
 have EB0:=blk_below E1.out b10;obtain⟨A,M,va,vm,ve,tv,hrw,hlt⟩:=TA1.out.below b10;have n4:X0.cell? ⟨T,4,none⟩=some (.int .i64 s.next):=by rw [tv.cell];rfl
 have q4:=tv.frozen 4;have hT:¬T=w.heap.size:=fun e=>NFB.out _ (Nat.le_refl _) (by rw [<- e];exact tv.own);have hT1:¬T=W1.heap.size:=fun e=>NFB.out W1.heap.size B1.out.size (by rw [<- e];exact tv.own);have tv1:=tv.setNext (s.next+1);obtain⟨X1,hX1⟩:∃X1,X1=X0.setCell ⟨T,4,none⟩ (.int .i64 (s.next+1)):=⟨_,rfl⟩;rw [<- hX1] at tv1;have bt1:But F X0 X1:=by rw [hX1];exact(But.refl F X0).setCell (p:=⟨T,4,none⟩) (.inl tv.own) _
 have NB:Hid (¬F w.heap.size):=NFB.out _ (Nat.le_refl _);have NC:Hid (¬F W1.heap.size):=NFB.out _ B1.out.size;have EB1:=hide (blk_but EB0 bt1 NB.out);have C1:=hide (blk_but C0 bt1 NC.out);have BT1:Hid (But F w X1):=((But.of_below B1.out).trans (But.of_below b10) (fun _ f=>.inl f)).trans bt1 (fun _ f=>.inl f);have hev1:s.evs.length<=1000000:=by have:=HE.out;omega
 have TE:=hide (tell_any T F { s with next:=s.next+1 } A M va vm ve (evAccepted (k:Nat) oi oa) X1 tv1 hev1);have HRW:=hide hrw;have HLT:Hid (∀b,L b->b<X1.heap.size):=fun b hb=>Nat.lt_of_lt_of_le (hlt b hb) bt1.size;have SZ1:Hid (w.heap.size<X1.heap.size/\W1.heap.size<X1.heap.size):=⟨(Array.getElem?_eq_some_iff.1 EB1.out).1,(Array.getElem?_eq_some_iff.1 C1.out).1⟩;have d2:=(blk_cell EB1.out 2).1;have d0:=(blk_cell C1.out 0).1;have d1:=(blk_cell C1.out 1).1;simp only [List.getElem?_toArray,List.getElem?_cons_zero,List.getElem?_cons_succ] at d0 d1 d2;have hnx:=next_ok HS.out;have HX0:=hide hX0;have HX1:=hide hX1;clear hX0 hX1 b10 C0 EB0 tv tv1 hrw hlt bt1 hev1 E1 TA1;go_wp2_with (first | rw [<- HX0.out] | rw [<- HX1.out]);refine TE.out.mono ?_;rintro e X ⟨rfl,gt,capt,tvt,hgt,btt⟩;obtain⟨G,hG⟩:∃G:Nat->Prop,G=fun b=>F b\/b=gt:=⟨_,rfl⟩;rw [<- hG] at tvt;obtain⟨s2,hs2⟩:∃s2,s2=Tn.tell { s with next:=s.next+1 } (evAccepted (k:Nat) oi oa):=⟨_,rfl⟩;rw [<- hs2] at tvt;have HS2:=hide hs2;have TAX:Hid (TA X T G L s2):=⟨_,_,_,_,_,tvt,HRW.out,fun b hb=>Nat.lt_of_lt_of_le (HLT.out b hb) btt.size⟩;have EBX:=hide (blk_but EB1.out btt NB.out);have CX:=hide (blk_but C1.out btt NC.out);have NGB:∀b,w.heap.size<=b->b<X1.heap.size->¬G b:=fun b hb hb2 f=>by
  rw [hG] at f;rcases f with f | f
  ·exact NFB.out b hb f
  ·rcases hgt with g | g
   ·exact NFB.out b hb (by rw [f];exact g)
   ·omega
 have NBX:Hid (¬G w.heap.size):=NGB _ (Nat.le_refl _) SZ1.out.1;have NCX:Hid (¬G W1.heap.size):=NGB _ B1.out.size SZ1.out.2;have NWX:Hid (Newer w F G):=by rw [hG];exact newer_one (hgt.imp id (fun e=>Nat.le_trans BT1.out.size e))
 have BTX:Hid (But F w X):=BT1.out.trans btt (fun _ f=>.inl f);have LX:=hide (laid_but HL.out BTX.out HF0.out);have NG0:Hid (¬G 8):=newer_not NWX.out HL.out.size HF0.out;have hmk2:s2.mkts=s.mkts:=by rw [hs2];rfl
 have hst2:s2.mkts.length=s.mkts.length:=by rw [hmk2]
 clear tvt hgt btt hG hs2 NGB TE HRW HLT SZ1 HX0 HX1 n4 q4 hT hT1 EB1 C1 BT1 NB NC d0 d1 d2 hnx;clear X0 X1 A M va vm ve;-- the book
 obtain⟨A2,M,va,vm,ve,tv,hrw,hlt⟩:=TAX.out;have hkM:k<M.length:=by rw [tv.lenM,hst2];exact HKM.out
 obtain⟨gm,cm,rfl,hgF,fz,m0,m1,-,-⟩:=tv.atM hkM;have t1:X.cell? ⟨T,1,none⟩=some (.slice (some ⟨gm,0,none⟩) M.length cm):=by rw [tv.cell];rfl
 obtain⟨ov1,ov2,-,-⟩:=tv.eachM _ (List.getElem_mem hkM);have hism:=tv.isMkt hkM;have hms:mktAt s2 k=mktAt s k:=by unfold mktAt;rw [hmk2]
 rw [hms] at hism;have fe1:(mktAt s k).1=mB (M[k]'hkM):=by rw [hism];rfl
 have fe2:(mktAt s k).2.1=mA (M[k]'hkM):=by rw [hism];rfl
 have hRt:=(HS.out.at HKM.out).1;rw [<- fe1] at m0 ov1;rw [<- fe2] at m1 ov2;have CK:Hid (∀Y,Below X.heap.size X Y->_):=fun Y hY=>come_all s k (M[k]'hkM).1.1 (M[k]'hkM).2.1.1 (M[k]'hkM).1.2.1 (M[k]'hkM).2.1.2.1 (oi,oa,sd,pr,qt) how Y (ov1.below hY) (ov2.below hY) hRt;have hkz:(k:Int)<(M.length:Int):=by omega
 generalize (M[k]'hkM).1.1=pb at *;generalize (M[k]'hkM).1.2.1=cb at *;generalize (M[k]'hkM).2.1.1=pa at *;generalize (M[k]'hkM).2.1.2.1=ca at *;have x0:∀Y,Below X.heap.size X Y->Y.cell? ⟨T,1,none⟩=some (.slice (some ⟨gm,0,none⟩) M.length cm):=fun Y hY=>(hY.cell (World.block_lt_of_cell? _ _ t1)).trans t1;have x1:∀Y,Below X.heap.size X Y->Y.cell? ⟨gm,k*4,none⟩=some (.slice pb (mktAt s k).1.length cb):=fun Y hY=>(hY.cell (World.block_lt_of_cell? _ _ m0)).trans m0;have x2:∀Y,Below X.heap.size X Y->Y.cell? ⟨gm,k*4+1,none⟩=some (.slice pa (mktAt s k).2.1.length ca):=fun Y hY=>(hY.cell (World.block_lt_of_cell? _ _ m1)).trans m1;have x3:∀Y,Below X.heap.size X Y->Y.cell? ⟨W1.heap.size,0,none⟩=some (.int .i64 oi):=fun Y hY=>(blk_cell (blk_below CX.out hY) 0).1;have x4:∀Y,Below X.heap.size X Y->Y.cell? ⟨W1.heap.size,1,none⟩=some (.int .i64 oa):=fun Y hY=>(blk_cell (blk_below CX.out hY) 1).1;have x5:∀Y,Below X.heap.size X Y->Y.cell? ⟨W1.heap.size,2,none⟩=some (.int .i64 sd):=fun Y hY=>(blk_cell (blk_below CX.out hY) 2).1;have x6:∀Y,Below X.heap.size X Y->Y.cell? ⟨W1.heap.size,3,none⟩=some (.int .i64 pr):=fun Y hY=>(blk_cell (blk_below CX.out hY) 3).1;have x7:∀Y,Below X.heap.size X Y->Y.cell? ⟨W1.heap.size,4,none⟩=some (.int .i64 qt):=fun Y hY=>(blk_cell (blk_below CX.out hY) 4).1;have x8:∀Y,Below X.heap.size X Y->Y.cell? ⟨w.heap.size,2,none⟩=some (.int .i64 (k:Nat)):=fun Y hY=>(blk_cell (blk_below EBX.out hY) 2).1;have x9:∀Y,Below X.heap.size X Y->Y.cell? ⟨w.heap.size,9,none⟩=some (.int .i64 how):=fun Y hY=>(blk_cell (blk_below EBX.out hY) 9).1;have TV1:=hide tv;have HRW:=hide hrw;have HLT:=hide hlt;have XD:Hid (Below X.heap.size X X.drew):=(Below.refl _ X).drew;have XA:Hid (Below X.heap.size X (X.alloc (.cells #[.slice none 0 0,.slice none 0 0] 94)).drew):=((Below.refl _ X).alloc (Nat.le_refl _) _).drew;have XN3:Hid (∀x,Below (X.alloc (.cells #[.slice none 0 0,.slice none 0 0] 94)).drew.heap.size (X.alloc (.cells #[.slice none 0 0,.slice none 0 0] 94)).drew x->x.heap[X.heap.size]? = some (.cells #[.slice none 0 0,.slice none 0 0] 94 (0,0))):=fun x hx=>(hx.block X.heap.size (by simp)).trans (heap_alloc_new X _);have XN:Hid (∀x,Below (X.alloc (.cells #[.slice none 0 0,.slice none 0 0] 94)).drew.heap.size (X.alloc (.cells #[.slice none 0 0,.slice none 0 0] 94)).drew x->(x.cell? ⟨X.heap.size,0,none⟩=some (.slice none 0 0)/\x.frozen? ⟨X.heap.size,0,none⟩=false)/\(x.cell? ⟨X.heap.size,1,none⟩=some (.slice none 0 0)/\x.frozen? ⟨X.heap.size,1,none⟩=false)):=fun x hx=>⟨kept_new hx 0 rfl,kept_new hx 1 rfl⟩;clear tv hrw hlt fz m0 m1 t1 ov1 ov2 hism fe1 fe2 hRt hms;go_wp2_with fail;go_region_held3 (fun w'=>Below X.heap.size X w') (first | (with_reducible assumption) | (with_reducible exact XD.out) | (with_reducible exact XA.out) | ((with_reducible refine Below.alloc ?_ ?_ _)<;>first | (with_reducible assumption) | exact Below.size (by with_reducible assumption)) | ((with_reducible refine Below.setCell (Below.setCell ?_ ?_ _) ?_ _)<;>first | (with_reducible assumption) | exact Nat.le_refl _)) ((go_at_call 122;refine(CK.out _ ?_).mono ?_;assumption;rintro e w3 ⟨p1,n1,c1,p2,n2',c2',pf,nf,cf,lft,r,rfl,hb3,tp⟩;have TP:=hide tp;have hb3':Below X.heap.size X w3:=Below.trans (by assumption) (hb3.mono (Below.size (by assumption)));clear tp;try (have kn:=(by with_reducible exact XN.out w3 hb3:(w3.cell? ⟨X.heap.size,0,none⟩=some (.slice none 0 0)/\w3.frozen? ⟨X.heap.size,0,none⟩=false)/\(w3.cell? ⟨X.heap.size,1,none⟩=some (.slice none 0 0)/\w3.frozen? ⟨X.heap.size,1,none⟩=false));obtain⟨⟨z0,q0⟩,⟨z1,q1⟩⟩:=kn)));focus
  obtain⟨Y,hY⟩:∃Y,Y=w3.alloc (.cells #[.slice p1 n1 c1,.slice p2 n2' c2'] 94):=⟨_,rfl⟩;rw [<- hY];have EY:Hid (Y.heap[w3.heap.size]? = some (.cells #[.slice p1 n1 c1,.slice p2 n2' c2'] 94 (0,0))):=by show Y.heap[w3.heap.size]? = _;rw [hY];exact heap_alloc_new w3 _
  have BY:Hid (Below X.heap.size X Y):=by rw [hY];exact hb3'.alloc hb3'.size _
  have bw:But (fun _=>False) w3 Y:=by rw [hY];exact .of_below (below_alloc w3 _)
  have TPY:Hid (CameY s k (oi,oa,sd,pr,qt) how Y X.heap.size p1 n1 c1 p2 n2' c2' pf nf lft r):=came_y TP.out bw (fun a ha=>⟨ha,id⟩);have NC:Hid (X.heap.size<=w3.heap.size):=hb3'.size;clear hY hb3 hb3' bw TP x0 x1 x2 x3 x4 x5 x6 x7 x8 x9 XD XA XN CK;generalize w3.heap.size=c13 at *
 rotate_left;focus
  obtain⟨Y,hY⟩:∃Y,Y=(w3.setCell ⟨X.heap.size,0,none⟩ (.slice p1 n1 c1)).setCell ⟨X.heap.size,1,none⟩ (.slice p2 n2' c2'):=⟨_,rfl⟩;rw [<- hY];have eX3:=XN3.out w3 hb3;have EY:Hid (Y.heap[X.heap.size]? = some (.cells #[.slice p1 n1 c1,.slice p2 n2' c2'] 94 (0,0))):=by
   show Y.heap[X.heap.size]? = _;rw [hY];exact heap_set (heap_set eX3 0 _) 1 _
  have BY:Hid (Below X.heap.size X Y):=by rw [hY];exact(hb3'.setCell (p:=⟨X.heap.size,0,none⟩) (Nat.le_refl _) _).setCell (p:=⟨X.heap.size,1,none⟩) (Nat.le_refl _) _
  have bw:But (fun b=>b=X.heap.size) w3 Y:=by rw [hY];exact(but_one w3 ⟨X.heap.size,0,none⟩ _).setCell (p:=⟨X.heap.size,1,none⟩) (.inl rfl) _
  have TPY:Hid (CameY s k (oi,oa,sd,pr,qt) how Y X.heap.size p1 n1 c1 p2 n2' c2' pf nf lft r):=came_y TP.out bw (fun a ha=>⟨by simp at ha;omega,fun e=>by simp at ha;omega⟩);have NC:Hid (X.heap.size<=X.heap.size):=Nat.le_refl _;clear hY hb3 hb3' bw TP z0 z1 q0 q1 x0 x1 x2 x3 x4 x5 x6 x7 x8 x9 XD XA XN XN3 eX3 CK;generalize hc13:X.heap.size=c13 at EY NC ⊢;clear hc13
 all_goals
  rcases TPY.out with⟨he,hr,hn1,hn2,hnf,hl,o1,o2,fr,z1,z2,z3⟩ | ⟨he,hr⟩
  ·have hcr:cameR s (k:Nat) (oi,oa,sd,pr,qt) how=s2.setB k (comeB (mktAt s k).1 (mktAt s k).2.1 (oi,oa,sd,pr,qt) how) (comeA (mktAt s k).1 (mktAt s k).2.1 (oi,oa,sd,pr,qt) how):=by
    unfold cameR;rw [Int.toNat_natCast,HS2.out]
   have hRt:R=match fillsR (k:Nat) false (takeT (mktAt s k).1 (mktAt s k).2.1 (oi,oa,sd,pr,qt)).2.1 (cameR s (k:Nat) (oi,oa,sd,pr,qt) how) with | .ok t=>if red=true then .ok (goneIf t (k:Nat) (oi,oa,sd,pr,qt) lft) else if readyWithE (goneIf t (k:Nat) (oi,oa,sd,pr,qt) lft) (k:Nat) (oi,oa,sd,pr,qt)=0 then .ok (goneIf t (k:Nat) (oi,oa,sd,pr,qt) lft) else .error (readyWithE (goneIf t (k:Nat) (oi,oa,sd,pr,qt) lft) (k:Nat) (oi,oa,sd,pr,qt)) | .error e=>.error e:=by
    have:=HR.out;unfold placeO at this;rw [Int.toNat_natCast,if_pos he,<- hl] at this;exact this
   have HRT:=hide hRt;have hfok:=come_fok HS.out HKM.out he HID.out;have hcf:=came_facts HS.out HSu.out HKM.out he HOI.out HNX.out HID.out;have hce:(cameR s (k:Nat) (oi,oa,sd,pr,qt) how).evs.length=s.evs.length+1:=by
    unfold cameR;simp [Tn.setB,Tn.setM,Tn.tell]
   have tvY:=TV1.out.below BY.out;have offG:∀{α:Type} {p:Option Addr} (l:List α),(∀a,p=some a->X.heap.size<=a.block)->Off G p l:=fun l hp=>.inr fun x hx f=>by have:=hp x hx;have:=TV1.out.lt _ f;omega
   have offL:∀{α:Type} {p:Option Addr} (l:List α),(∀a,p=some a->X.heap.size<=a.block)->Off L p l:=fun l hp=>.inr fun x hx f=>by have:=hp x hx;have:=HLT.out _ f;omega
   obtain⟨gm',cm',e',hgG,fz,m0,m1,-,-⟩:=tvY.atM hkM;cases e'
   have t1:Y.cell? ⟨T,1,none⟩=some (.slice (some ⟨gm,0,none⟩) M.length cm):=by rw [tvY.cell];rfl
   have f0:=fz (k*4);have f1:=fz (k*4+1);have y0:=(blk_cell EY.out 0).1;have y1:=(blk_cell EY.out 1).1;have EBY:=hide (blk_below EBX.out BY.out);have CY:=hide (blk_below CX.out BY.out);have y2:=(blk_cell EBY.out 2).1;simp only [List.getElem?_toArray,List.getElem?_cons_zero,List.getElem?_cons_succ] at y0 y1 y2;have PB:=tvY.putBook hkM o1 o2 (offG _ z1) (offG _ z2);rw [<- hn1,<- hn2] at PB;have BZ:Hid (But F w (((Y.setCell ⟨gm,k*4,none⟩ (.slice p1 n1 c1)).setCell ⟨gm,k*4+1,none⟩ (.slice p2 n2' c2')).drew)):=But.drew (((BTX.out.trans (But.of_below (F:=F) BY.out) (fun _ f=>.inl f)).setCell (p:=⟨gm,k*4,none⟩) (NWX.out _ hgG) _).setCell (p:=⟨gm,k*4+1,none⟩) (NWX.out _ hgG) _);have BYZ:Hid (But G Y (((Y.setCell ⟨gm,k*4,none⟩ (.slice p1 n1 c1)).setCell ⟨gm,k*4+1,none⟩ (.slice p2 n2' c2')).drew)):=But.drew (((But.refl G Y).setCell (p:=⟨gm,k*4,none⟩) (.inl hgG) _).setCell (p:=⟨gm,k*4+1,none⟩) (.inl hgG) _);have TZ:Hid (TA (((Y.setCell ⟨gm,k*4,none⟩ (.slice p1 n1 c1)).setCell ⟨gm,k*4+1,none⟩ (.slice p2 n2' c2')).drew) T G L (cameR s (k:Nat) (oi,oa,sd,pr,qt) how)):=by
    show TA _ T G L _;rw [hcr];exact⟨_,_,_,_,_,PB.below (Below.refl _ _).drew,HRW.out.setM k (offL _ z1) (offL _ z2),fun b hb=>Nat.lt_of_lt_of_le (HLT.out b hb) (Nat.le_trans BY.out.size BYZ.out.size)⟩
   have FL:=hide (fill_fee T G L _ k pf nf cf _ _ TZ.out hcf.1 (by rw [hcf.2.2];exact HKM.out) hfok.1 (by have:=HE.out;have:=hfok.2;rw [hce];omega) hnf.symm (frow_but fr BYZ.out (offG _ z3)) (offG _ z3));have EBZ:=hide (blk_but EBY.out BYZ.out NBX.out);have CZ:=hide (blk_but CY.out BYZ.out NCX.out);have LZ:=hide (laid_but (laid_but LX.out (But.of_below (F:=G) BY.out) NG0.out) BYZ.out NG0.out);have hXZ:X.heap.size<=(((Y.setCell ⟨gm,k*4,none⟩ (.slice p1 n1 c1)).setCell ⟨gm,k*4+1,none⟩ (.slice p2 n2' c2')).drew).heap.size:=Nat.le_trans BY.out.size BYZ.out.size;have SZ:=hide hXZ;obtain⟨Z,hZ⟩:∃Z,Z=((Y.setCell ⟨gm,k*4,none⟩ (.slice p1 n1 c1)).setCell ⟨gm,k*4+1,none⟩ (.slice p2 n2' c2')).drew:=⟨_,rfl⟩;rw [<- hZ] at BZ TZ FL EBZ CZ LZ SZ;have HZ:=hide hZ;have HCE:=hide hce;have HFOK:=hide hfok;have HCF:=hide hcf;have HCO:=hide he;subst hr;clear hcr hRt hfok hcf hce tvY offG offL hgG fz PB BYZ hZ he hl hn1 hn2 hnf o1 o2 fr z1 z2 z3 TPY hXZ EY;go_wp2_with fail;go_region;rw [<- HZ.out];clear HZ t1 m0 m1 f0 f1 y0 y1;have y2:=(blk_cell EBZ.out 2).1;simp only [List.getElem?_toArray,List.getElem?_cons_zero,List.getElem?_cons_succ] at y2;go_wp2_with fail;refine FL.out.mono ?_;rintro e V1 (⟨u,hu,rfl,G1,tA1,nG1,bG1⟩ | ⟨r,hr,rfl,hr0,hb⟩)
   ·have hus:=fills_facts k false _ _ u hu HCF.out.1 (by rw [HCF.out.2.2];exact HKM.out) (place_fills HS.out HKM.out HCO.out HID.out);have hev:u.evs.length<=1000000:=by
     rw [hus.evs,List.length_append,List.length_map,HCE.out];have:=HE.out;have:=HFOK.out.2;omega
    have HR5:Hid (R=if red=true then .ok (goneIf u (k:Nat) (oi,oa,sd,pr,qt) lft) else if readyWithE (goneIf u (k:Nat) (oi,oa,sd,pr,qt) lft) (k:Nat) (oi,oa,sd,pr,qt)=0 then .ok (goneIf u (k:Nat) (oi,oa,sd,pr,qt) lft) else .error (readyWithE (goneIf u (k:Nat) (oi,oa,sd,pr,qt) lft) (k:Nat) (oi,oa,sd,pr,qt))):=by
     have:=HRT.out;rw [hu] at this;exact this
    have EBV:=hide (blk_but EBZ.out bG1 NBX.out);have CV:=hide (blk_but CZ.out bG1 NCX.out);have LV:=hide (laid_but LZ.out bG1 NG0.out);have NG1:Hid (Newer w F G1):=fun b hb=>by
     rcases nG1 b hb with g | g
     ·exact NWX.out b g
     ·exact .inr (Nat.le_trans BZ.out.size g)
    have NG10:Hid (¬G1 8):=newer_not nG1 LZ.out.size NG0.out;have BV1:Hid (But F w V1):=BZ.out.trans bG1 (fun b g=>NWX.out b g);have NB1:Hid (¬G1 w.heap.size):=newer_not nG1 (Array.getElem?_eq_some_iff.1 EBZ.out).1 NBX.out;have NC1:Hid (¬G1 W1.heap.size):=newer_not nG1 (Array.getElem?_eq_some_iff.1 CZ.out).1 NCX.out;have HUM:Hid (k<u.mkts.length):=by
     show k<u.mkts.length;rw [(by simpa using congrArg List.length hus.kin.bks:u.mkts.length=(cameR s (k:Nat) (oi,oa,sd,pr,qt) how).mkts.length),HCF.out.2.2];exact HKM.out
    have HUI:Hid (hasA u.accs oa=true):=by
     show hasA u.accs oa=true;rw [has_ids hus.kin.ids];exact HID.out
    have HUS:=hide hus.str;have TA1:=hide tA1;clear hus bG1 nG1 tA1 hu FL EBZ CZ LZ SZ BZ TZ y2;by_cases hlf:0<lft;focus
     have hg:goneIf u (k:Nat) (oi,oa,sd,pr,qt) lft=u.tell (evGone (k:Nat) oi oa lft):=by unfold goneIf;rw [if_pos hlf]
     rw [hg] at HR5;obtain⟨A3,M3,va3,vm3,ve3,tv3,hrw3,hlt3⟩:=TA1.out;have GN:=hide (gone_any T G1 u A3 M3 va3 vm3 ve3 (k:Nat) lft (oi,oa,sd,pr,qt) V1 tv3 hev);have HRW3:=hide hrw3;have HLT3:=hide hlt3
    rotate_left;focus
     have hg:goneIf u (k:Nat) (oi,oa,sd,pr,qt) lft=u:=by unfold goneIf;rw [if_neg hlf]
     rw [hg] at HR5;have RW:=hide (readyWith_any T _ L _ k (oi,oa,sd,pr,qt) V1 TA1.out HUS.out LV.out HUM.out HUI.out HSD.out);have ST:Hid (∀V',Below V1.heap.size V1 V'->Stepped w T F L u V'):=fun V' hV'=>⟨_,TA1.out.below hV',NG1.out,BV1.out.trans (But.of_below (F:=F) hV') (fun _ f=>.inl f)⟩;have hlf':lft<=0:=by omega
     clear hg hev;have x10:=(blk_cell EBV.out 10).1
    rotate_left;all_goals
     have x2:=(blk_cell EBV.out 2).1;have y0:=(blk_cell CV.out 0).1;have y1:=(blk_cell CV.out 1).1;have y2:=(blk_cell CV.out 2).1;have y3:=(blk_cell CV.out 3).1;have y4:=(blk_cell CV.out 4).1
    ·simp only [List.getElem?_toArray,List.getElem?_cons_zero,List.getElem?_cons_succ] at x2 y0 y1 y2 y3 y4;clear hg tv3 hrw3 hlt3 hev;go_wp2_with fail;refine GN.out.mono ?_;rintro e V2 ⟨rfl,g,cap,tv4,hgg,b4⟩;have TA2:TA V2 T (fun b=>G1 b\/b=g) L (u.tell (evGone (k:Nat) oi oa lft)):=⟨_,_,_,_,_,tv4,HRW3.out,fun b hb=>Nat.lt_of_lt_of_le (HLT3.out b hb) b4.size⟩;have NG2:Newer w F (fun b=>G1 b\/b=g):=by
      rintro b (hb | rfl)
      ·exact NG1.out b hb
      ·rcases hgg with h | h
       ·exact NG1.out _ h
       ·exact .inr (Nat.le_trans BV1.out.size h)
     have BV2:Hid (But F w V2):=BV1.out.trans b4 (fun b g=>NG1.out b g);have EBV2:=hide (blk_but EBV.out b4 NB1.out);have CV2:=hide (blk_but CV.out b4 NC1.out);have LV2:=laid_but LV.out b4 NG10.out;have RW:=hide (readyWith_any T _ L _ k (oi,oa,sd,pr,qt) V2 TA2 (HUS.out.tell _) LV2 HUM.out HUI.out HSD.out);have ST:Hid (∀V',Below V2.heap.size V2 V'->Stepped w T F L (u.tell (evGone (k:Nat) oi oa lft)) V'):=fun V' hV'=>⟨_,TA2.below hV',NG2,BV2.out.trans (But.of_below (F:=F) hV') (fun _ f=>.inl f)⟩;clear x2 y0 y1 y2 y3 y4 GN TA2 NG2 b4 tv4 hgg LV2 hlf;have x10:=(blk_cell EBV2.out 10).1;have x2:=(blk_cell EBV2.out 2).1;have y0:=(blk_cell CV2.out 0).1;have y1:=(blk_cell CV2.out 1).1;have y2:=(blk_cell CV2.out 2).1;have y3:=(blk_cell CV2.out 3).1;have y4:=(blk_cell CV2.out 4).1;simp only [List.getElem?_toArray,List.getElem?_cons_zero,List.getElem?_cons_succ] at x2 x10 y0 y1 y2 y3 y4
     cases red
     ·have HR6:Hid (R=if readyWithE (u.tell (evGone (k:Nat) oi oa lft)) (k:Nat) (oi,oa,sd,pr,qt)=0 then .ok (u.tell (evGone (k:Nat) oi oa lft)) else .error (readyWithE (u.tell (evGone (k:Nat) oi oa lft)) (k:Nat) (oi,oa,sd,pr,qt))):=HR5.out;obtain⟨re,hre⟩:∃re,re=readyWithE (u.tell (evGone (k:Nat) oi oa lft)) (k:Nat) (oi,oa,sd,pr,qt):=⟨_,rfl⟩;rw [<- hre] at RW HR6;have EE:Hid (∀V',Below V2.heap.size V2 V'->Ends w T F L R (.returned (.int .i64 re)) V'):=fun V' hV'=>by
       have hst:=ST.out V' hV';by_cases h0:re=0
       ·refine .inl ⟨_,by have:=HR6.out;rw [if_pos h0] at this;exact this,by rw [h0],hst⟩
       ·refine .inr ⟨re,by have:=HR6.out;rw [if_neg h0] at this;exact this,rfl,h0,BV2.out.trans (But.of_below hV') (fun _ f=>.inl f)⟩
      clear HR5 HR6 hre HRT;go_wp2_with fail;refine RW.out.mono ?_;rintro e V' ⟨rfl,bV'⟩;have EE':=hide (EE.out V' bV');clear EE bV';go_wp2;go_ret;exact EE'.out
     ·have EE:Hid (Ends w T F L R (.returned (.int .i64 0)) V2):=.inl ⟨_,HR5.out,rfl,ST.out V2 (Below.refl _ _)⟩;clear HR5 RW HRT;go_wp2;go_ret;exact EE.out
    ·simp only [List.getElem?_toArray,List.getElem?_cons_zero,List.getElem?_cons_succ] at x2 x10 y0 y1 y2 y3 y4
     cases red
     ·have HR6:Hid (R=if readyWithE u (k:Nat) (oi,oa,sd,pr,qt)=0 then .ok u else .error (readyWithE u (k:Nat) (oi,oa,sd,pr,qt))):=HR5.out;obtain⟨re,hre⟩:∃re,re=readyWithE u (k:Nat) (oi,oa,sd,pr,qt):=⟨_,rfl⟩;rw [<- hre] at RW HR6;have EE:Hid (∀V',Below V1.heap.size V1 V'->Ends w T F L R (.returned (.int .i64 re)) V'):=fun V' hV'=>by
       have hst:=ST.out V' hV';by_cases h0:re=0
       ·refine .inl ⟨_,by have:=HR6.out;rw [if_pos h0] at this;exact this,by rw [h0],hst⟩
       ·refine .inr ⟨re,by have:=HR6.out;rw [if_neg h0] at this;exact this,rfl,h0,BV1.out.trans (But.of_below hV') (fun _ f=>.inl f)⟩
      clear HR5 HR6 hre HRT;go_wp2_with fail;refine RW.out.mono ?_;rintro e V' ⟨rfl,bV'⟩;have EE':=hide (EE.out V' bV');clear EE bV';go_wp2;go_ret;exact EE'.out
     ·have EE:Hid (Ends w T F L R (.returned (.int .i64 0)) V1):=.inl ⟨_,HR5.out,rfl,ST.out V1 (Below.refl _ _)⟩;clear HR5 RW HRT;go_wp2;go_ret;exact EE.out
   ·have EE:Hid (Ends w T F L R (.returned (.int .i64 r)) V1):=.inr ⟨r,by have:=HRT.out;rw [hr] at this;exact this,rfl,hr0,BZ.out.trans hb (fun b g=>NWX.out b g)⟩;clear FL hr hb;go_wp2;go_ret;exact EE.out
  ·have EE:Hid (Ends w T F L R (.returned (.int .i64 r)) Y):=by
    refine .inr ⟨r,?_,rfl,by rw [hr];exact he,BTX.out.trans (But.of_below (F:=F) BY.out) (fun _ f=>.inl f)⟩;have:=HR.out;unfold placeO at this;rw [Int.toNat_natCast,if_neg he] at this;rw [hr];exact this
   have hr0:¬r=0:=by rw [hr];exact he
   clear he hr TPY;go_wp2;go_ret;exact EE.out
theorem place_any (T:Nat)(F L:Nat->Prop)(s:Tn)(c:Cm)(w:World)(h:TA w T F L s)(hs:Str s)(hS:Sums s)(hL:Rk.Laid w)(hF0:¬F 8)(hE:s.evs.length<=800000) :
  Calls Tryz.prog 88 #[turnP T,cmV c] w (Ends w T F L (placeR s c)):=by
 by_cases he:orderE s c=0
 ·exact place_good T F L s c w h hs hS hL hF0 hE he
 ·exact place_bad T F L s c w h hs he
end Go.Proofs.YthdjfhnhjiageaaGreatDoor.Vn
