import Derived.Test.YthdjfhnhjiageaaGreatDoorG24
set_option maxHeartbeats 8000000
set_option maxRecDepth 100000
namespace Go.Proofs.YthdjfhnhjiageaaGreatDoor.Vn
open Go.RowKit Num Fix AcP FuP Bk Rm Ac Go.Sort Go.Maps Mix RkP
theorem others_step {s u:Tn}{k:Nat}{id sd pr q x:Int}(hs:Str s)(hS:Sums s)(hid:hasA s.accs id=true)(hp:posOf s.accs k id = -sd*q)(hsd:sd=1\/sd = -1)(hq:0<q)(hx:x=min q (sd*posAt (accAt s (mostOf k sd s)) k))
  (hu:tradeR s k (0,0,(accAt s (mostOf k sd s)).1,id,sd,pr,x) 0=.ok u) :
  SFact s (u.tell (evClosed k (accAt s (mostOf k sd s)).1 (0,0,(accAt s (mostOf k sd s)).1,id,sd,pr,x)))/\posOf (u.tell (evClosed k (accAt s (mostOf k sd s)).1 (0,0,(accAt s (mostOf k sd s)).1,id,sd,pr,x))).accs k id = -sd*(q - x)/\u.evs=s.evs:=by
 obtain⟨m1,m2⟩:=most_pos hs hS hid hp hsd hq;have hma:=has_at m1;have hmp:=posOf_at hs.srt m1 k;generalize (accAt s (mostOf k sd s)).1=mid at *;rw [<- hmp] at m2 hx;have hne:¬mid=id:=by
  intro e;rw [e,hp] at m2;rcases hsd with rfl | rfl<;>omega
 have A:=trade_facts hu hs hma hid (Int.le_refl 0);rw [Int.toNat_natCast] at A;refine⟨tell_fact2 A hS (evClosed k mid (0,0,mid,id,sd,pr,x)) (.inr ⟨mid,rfl⟩),?_,A.evs⟩;show posOf u.accs k id=_;rw [A.onep,if_pos rfl,hp];unfold filPos;dsimp only;rw [if_pos rfl,if_neg hne,Int.mul_sub,Int.neg_mul,Int.neg_mul];omega
structure OInv (w:World) (T:Nat) (F L:Nat->Prop) (mk:Nat) (id sd pr:Int) (R:Res) (wr:World) (B:Nat) (s:Tn) (q:Int) (n:Nat) (G:Nat->Prop):Prop where
 ta:TA wr T G (fun b=>L b\/b=B) s
 nw:Newer w F G
 bt:But F w wr
 st:Str s
 su:Sums s
 hm:mk<s.mkts.length
 hid:hasA s.accs id=true
 ps:posOf s.accs mk id = -sd*q
 q0:0<=q
 q1:q<=1000
 ev:s.evs.length+q.toNat<=1000000
 fu:q.toNat<=n
 all:othersR mk id sd pr n q s=R
 nG:¬G B
 lt:B<wr.heap.size
 blk:∃c0,wr.heap[B]? = some (.cells #[c0,.int .i64 id,.int .i64 sd,.int .i64 pr,.int .i64 q] 26 (0,0))
def leftAt (B:Nat) (w:World):Nat:=(intOf ((w.cell? ⟨B,4,none⟩).getD (.int .i64 0))).toNat
theorem blk_cell {w:World}{B:Nat}{cs:Array Value}{t:TypeId}(h:w.heap[B]? = some (.cells cs t (0,0)))(i:Nat):w.cell? ⟨B,i,none⟩=cs[i]?/\w.frozen? ⟨B,i,none⟩=false:=by
 constructor
 ·simp [World.cell?,h]
 ·simp [World.frozen?,h]
theorem ven_cells {w:World}{B:Nat}{v0 v1 v2 v3 v4 v5 v6:Value}{t:TypeId}(h:w.heap[B]? = some (.cells #[v0,v1,v2,v3,v4,v5,v6] t (0,0))) :
  w.cell? ⟨B,0,none⟩=some v0/\w.cell? ⟨B,1,none⟩=some v1/\w.cell? ⟨B,2,none⟩=some v2/\w.cell? ⟨B,3,none⟩=some v3/\w.cell? ⟨B,4,none⟩=some v4/\w.cell? ⟨B,5,none⟩=some v5/\w.cell? ⟨B,6,none⟩=some v6 :=
 ⟨(blk_cell h 0).1,(blk_cell h 1).1,(blk_cell h 2).1,(blk_cell h 3).1,(blk_cell h 4).1,(blk_cell h 5).1,(blk_cell h 6).1⟩
theorem ven_opq {w:World}{B:Nat}{v0 v1 v2 v3 v4 v5 v6:Value}{t:TypeId}(h:w.heap[B]? = some (.cells #[v0,v1,v2,v3,v4,v5,v6] t (0,0))) :
  ((∃u,w.cell? ⟨B,0,none⟩=some u)/\w.frozen? ⟨B,0,none⟩=false)/\((∃u,w.cell? ⟨B,1,none⟩=some u)/\w.frozen? ⟨B,1,none⟩=false)/\((∃u,w.cell? ⟨B,2,none⟩=some u)/\w.frozen? ⟨B,2,none⟩=false)/\((∃u,w.cell? ⟨B,3,none⟩=some u)/\w.frozen? ⟨B,3,none⟩=false)/\((∃u,w.cell? ⟨B,4,none⟩=some u)/\w.frozen? ⟨B,4,none⟩=false)/\((∃u,w.cell? ⟨B,5,none⟩=some u)/\w.frozen? ⟨B,5,none⟩=false)/\((∃u,w.cell? ⟨B,6,none⟩=some u)/\w.frozen? ⟨B,6,none⟩=false) :=
 ⟨⟨⟨_,(blk_cell h 0).1⟩,(blk_cell h 0).2⟩,⟨⟨_,(blk_cell h 1).1⟩,(blk_cell h 1).2⟩,⟨⟨_,(blk_cell h 2).1⟩,(blk_cell h 2).2⟩,⟨⟨_,(blk_cell h 3).1⟩,(blk_cell h 3).2⟩,⟨⟨_,(blk_cell h 4).1⟩,(blk_cell h 4).2⟩,⟨⟨_,(blk_cell h 5).1⟩,(blk_cell h 5).2⟩,⟨⟨_,(blk_cell h 6).1⟩,(blk_cell h 6).2⟩⟩
theorem blk_but {F:Nat->Prop}{w w':World}{B:Nat}{o:Obj}(h:w.heap[B]? = some o)(hb:But F w w')(hF:¬F B):w'.heap[B]? = some o:=(hb.block B (Array.getElem?_eq_some_iff.1 h).1 hF).trans h
theorem blk_below {w w':World}{B:Nat}{o:Obj}(h:w.heap[B]? = some o)(hb:Below w.heap.size w w'):w'.heap[B]? = some o:=(hb.block B (Array.getElem?_eq_some_iff.1 h).1).trans h
theorem others_any (T:Nat)(F L:Nat->Prop)(s:Tn)(mk:Nat)(o:Odr)(w:World)(h:TA w T F L s)(hs:Str s)(hS:Sums s)(hmk:mk<s.mkts.length)(hid:hasA s.accs (oac o)=true)(hsd:osd o=1\/osd o = -1)(hq0:0<=oqt o)(hq1:oqt o<=1000)(hp:posOf s.accs mk (oac o) = -(osd o)*oqt o)(hev:s.evs.length<=900000) :
  Calls Tryz.prog 211 #[turnP T,.int .i64 (mk:Nat),odrV o] w (Ends w T F L (othersR mk (oac o) (osd o) (opr o) (oqt o).toNat (oqt o) s)):=by
 have mixed:Tryz.prog.follows .mixedOrders=true:=by kernel_rfl
 obtain⟨c0',id,sd,pr,q0⟩:=o;dsimp only [oac,osd,oqt,opr] at hid hsd hq0 hq1 hp ⊢;obtain⟨R,hR⟩:∃R,R=othersR mk id sd pr q0.toNat q0 s:=⟨_,rfl⟩;rw [<- hR];obtain⟨W,hW⟩:∃W,W=w.alloc (.cells #[.int .i64 c0',.int .i64 id,.int .i64 sd,.int .i64 pr,.int .i64 q0] 26):=⟨_,rfl⟩;have b0:Below w.heap.size w W:=by rw [hW];exact below_alloc w _
 have hWs:W.heap.size=w.heap.size+1:=by rw [hW];simp
 have hT:=h.lt T h.own;have I0:Hid (OInv w T F L mk id sd pr R W w.heap.size s q0 q0.toNat F):=⟨h.more b0 (Nat.le_refl _) (by omega),newer_refl _ _,.of_below b0,hs,hS,hmk,hid,hp,hq0,hq1,by omega,Nat.le_refl _,hR.symm,fun f=>by have:=h.lt _ f;omega,by omega,⟨.int .i64 c0',by rw [hW];exact heap_alloc_new w _⟩⟩;have HSD:=hide hsd;have HW:=hide hW;generalize hB:w.heap.size=B at I0;have HB:=hide hB;have GB:Hid (w.heap.size<=B):=by show w.heap.size<=B;omega
 clear h hs hS hmk hid hsd hq0 hq1 hp hev hR hW b0 hWs hB;go_enter Tryz.func211,Tryz.ntmps211;go_wp2_with (rw [<- HW.out]);rw [HB.out];clear HW
 go_loopw [7] (fun _ wr=>∃(s:Tn) (q:Int) (n:Nat) (G:Nat->Prop),Hid (OInv w T F L mk id sd pr R wr B s q n G)) (fun _ wr=>leftAt B wr)
 case atStart=>exact⟨_,_,_,_,I0⟩
 case round =>
  clear I0;obtain⟨s,q,n',G,I⟩:=hrel;obtain⟨c0,hblk⟩:=I.out.blk;have EB0:=hide hblk;have g1:=(blk_cell hblk 1).1;have g2:=(blk_cell hblk 2).1;have g3:=(blk_cell hblk 3).1;have g4:=(blk_cell hblk 4).1;simp only [List.getElem?_toArray,List.getElem?_cons_zero,List.getElem?_cons_succ] at g1 g2 g3 g4;have HLO:Hid (leftAt B wr=q.toNat):=by
   show leftAt B wr=q.toNat;unfold leftAt;rw [g4];rfl
  by_cases hq:0<q
  ·obtain⟨n,hn⟩:∃n,n'=n+1:=⟨n' - 1,by have:=I.out.fu;omega⟩;subst hn;have FU:Hid (q.toNat<=n+1):=I.out.fu;obtain⟨m1,m2⟩:=most_pos I.out.st I.out.su I.out.hid I.out.ps HSD.out hq;have MO:=hide (mostOf_any T G _ s mk sd wr I.out.ta I.out.st I.out.hm HSD.out);have hall:=I.out.all;unfold othersR at hall;rw [if_pos hq] at hall;obtain⟨mid,hmid⟩:∃mid,mid=(accAt s (mostOf mk sd s)).1:=⟨_,rfl⟩;obtain⟨pm,hpm⟩:∃pm,pm=posAt (accAt s (mostOf mk sd s)) mk:=⟨_,rfl⟩;obtain⟨y,hy⟩:∃y,sd*pm=y:=⟨_,rfl⟩;obtain⟨x,hx⟩:∃x,x=min q y:=⟨_,rfl⟩;rw [<- hmid,<- hpm,hy,<- hx] at hall;have HX:Hid (x=min q (sd*posAt (accAt s (mostOf mk sd s)) mk)):=by show x=_;rw [<- hpm,hy];exact hx
   have HMID:=hide hmid;have HALL:Hid (R=match tradeR s mk (0,0,mid,id,sd,pr,x) 0 with | .ok t=>othersR mk id sd pr n (q - x) (t.tell (evClosed mk mid (0,0,mid,id,sd,pr,x))) | .error e=>.error e):=hall.symm;rw [<- hpm,hy] at m2;have XB:Hid (1<=x/\x<=q):=by show 1<=x/\x<=q;omega
   obtain⟨A,M,va,vm,ve,tv,-,-⟩:=I.out.ta;obtain⟨k,hk⟩:∃k,k=mostOf mk sd s:=⟨_,rfl⟩;rw [<- hk] at MO m1 hpm hmid;have hkA:k<A.length:=by rw [tv.lenA];exact m1
   obtain⟨ga,ca,rfl,-,-,-,-,k0,k1,k2⟩:=tv.atA hkA;have t0:wr.cell? ⟨T,0,none⟩=some (.slice (some ⟨ga,0,none⟩) A.length ca):=by rw [tv.cell];rfl
   obtain⟨pb,po,pe,pl,pc,px1,px2⟩:=tv.posn I.out.st I.out.hm hkA;rw [<- hpm] at pc px1 px2;rw [pe] at k2;have hmid2:(A[k]'hkA).id=mid:=by rw [hmid,tv.isAcc hkA]
   rw [hmid2] at k0;have hyb:=sg_bd HSD.out px1 px2;rw [hy] at hyb;obtain⟨hy1,hy2⟩:=hyb;have wy:IntKind.i64.wrap y=y:=IntWalk.i64_in y ⟨by omega,by omega⟩;have hxmin:min q y=x:=hx.symm;generalize (A[k]'hkA).bal=i2 at *;generalize (A[k]'hkA).n=n1 at *;generalize (A[k]'hkA).c=n2 at *;have plz:(mk:Int)<(n1:Int):=by omega
   have hkz:(k:Int)<(A.length:Int):=by omega
   clear hall hpm hmid hx hk tv pe hmid2 hblk;go_wp2_with fail;refine MO.out.mono ?_;rintro e W1 ⟨rfl,b1⟩;have u0:=(b1.cell (World.block_lt_of_cell? _ _ t0)).trans t0;have j0:=(b1.cell (World.block_lt_of_cell? _ _ k0)).trans k0;have j1:=(b1.cell (World.block_lt_of_cell? _ _ k1)).trans k1;have j2:=(b1.cell (World.block_lt_of_cell? _ _ k2)).trans k2;have j3:=(b1.cell (World.block_lt_of_cell? _ _ pc)).trans pc;have jB:=blk_below EB0.out b1;have B1:=hide b1;clear t0 k0 k1 k2 pc g1 g2 g3 g4 b1 MO;obtain⟨W2,hW2⟩:∃W2,W2=W1.alloc (accO mid i2 (some ⟨pb,po,none⟩) n1 n2):=⟨_,rfl⟩;have bb2:Below W1.heap.size W1 W2:=by rw [hW2];exact below_alloc W1 _
   have e8:W2.heap[W1.heap.size]? = some (.cells #[.int .i64 mid,.int .i64 i2,.slice (some ⟨pb,po,none⟩) n1 n2] 89 (0,0)):=by rw [hW2];exact heap_alloc_new W1 _
   have eB:=blk_below jB bb2;have r1:∀Y,Below W2.heap.size W2 Y->Y.cell? ⟨W1.heap.size,0,none⟩=some (.int .i64 mid):=fun Y hY=>(blk_cell (blk_below e8 hY) 0).1;have r2:∀Y,Below W2.heap.size W2 Y->Y.cell? ⟨W1.heap.size,2,none⟩=some (.slice (some ⟨pb,po,none⟩) n1 n2):=fun Y hY=>(blk_cell (blk_below e8 hY) 2).1;have r3:∀Y,Below W2.heap.size W2 Y->Y.cell? ⟨B,1,none⟩=some (.int .i64 id):=fun Y hY=>(blk_cell (blk_below eB hY) 1).1;have r4:∀Y,Below W2.heap.size W2 Y->Y.cell? ⟨B,2,none⟩=some (.int .i64 sd):=fun Y hY=>(blk_cell (blk_below eB hY) 2).1;have r5:∀Y,Below W2.heap.size W2 Y->Y.cell? ⟨B,3,none⟩=some (.int .i64 pr):=fun Y hY=>(blk_cell (blk_below eB hY) 3).1;have r6:∀Y,Below W2.heap.size W2 Y->Y.cell? ⟨B,4,none⟩=some (.int .i64 q):=fun Y hY=>(blk_cell (blk_below eB hY) 4).1;have r7:∀Y,Below W2.heap.size W2 Y->Y.cell? ⟨pb,po+mk,none⟩=some (.int .i64 pm):=fun Y hY=>by have e:=(bb2.cell (World.block_lt_of_cell? _ _ j3)).trans j3;exact(hY.cell (World.block_lt_of_cell? _ _ e)).trans e
   have HW2:=hide hW2;have BB2:=hide bb2;have E80:=hide e8;have EB1:=hide eB;have WD:Hid (Below W2.heap.size W2 W2.drew):=(Below.refl _ W2).drew;have L80:Hid (W1.heap.size<W2.heap.size):=by show W1.heap.size<W2.heap.size;rw [hW2];simp
   have BJ:=(blk_cell jB 2).1;simp only [List.getElem?_toArray,List.getElem?_cons_zero,List.getElem?_cons_succ] at BJ;clear hW2 bb2 e8 eB jB;go_wp2_with (rw [<- HW2.out]);have WA:Hid (Below W2.heap.size W2 (W2.alloc (.cells #[.int .i64 0,.int .i64 0,.int .i64 0,.int .i64 0,.int .i64 0,.int .i64 0,.int .i64 0] 62)).drew):=((Below.refl _ W2).alloc (Nat.le_refl _) _).drew;have WF:Hid (Below W2.heap.size W2 (W2.alloc (.cells #[.int .i64 0,.int .i64 0,.int .i64 mid,.int .i64 id,.int .i64 sd,.int .i64 pr,.int .i64 x] 62)).drew):=((Below.refl _ W2).alloc (Nat.le_refl _) _).drew;go_region_held3 (fun w'=>Below W2.heap.size W2 w') (first | (with_reducible assumption) | (with_reducible exact WD.out) | (with_reducible exact WA.out) | (with_reducible exact WF.out)) (fail);rotate_left;all_goals
    obtain⟨V,hV⟩:∃V,V=(W2.alloc (.cells #[.int .i64 0,.int .i64 0,.int .i64 mid,.int .i64 id,.int .i64 sd,.int .i64 pr,.int .i64 x] 62)).drew:=⟨_,rfl⟩;rw [<- hV];have bV:Below W2.heap.size W2 V:=by rw [hV];exact WF.out
    have E8:Hid (V.heap[W1.heap.size]? = some (.cells #[.int .i64 mid,.int .i64 i2,.slice (some ⟨pb,po,none⟩) n1 n2] 89 (0,0))):=blk_below E80.out bV;have E9:Hid (V.heap[W2.heap.size]? = some (.cells #[.int .i64 0,.int .i64 0,.int .i64 mid,.int .i64 id,.int .i64 sd,.int .i64 pr,.int .i64 x] 62 (0,0))):=by
     show V.heap[W2.heap.size]? = _;rw [hV];exact heap_alloc_new W2 _
    have EB:Hid (V.heap[B]? = some (.cells #[c0,.int .i64 id,.int .i64 sd,.int .i64 pr,.int .i64 q] 26 (0,0))):=blk_below EB1.out bV;have BRV:Hid (Below wr.heap.size wr V):=B1.out.trans ((BB2.out.trans (bV.mono BB2.out.size)).mono B1.out.size);have L8:Hid (W1.heap.size<V.heap.size):=Nat.lt_of_lt_of_le L80.out bV.size;have L9:Hid (W2.heap.size<V.heap.size):=by show W2.heap.size<V.heap.size;rw [hV];simp
    have LB:Hid (B<V.heap.size):=Nat.lt_of_lt_of_le I.out.lt BRV.out.size;have N8:Hid (¬G W1.heap.size):=fun g=>by have:=I.out.ta.lt _ g;have:=B1.out.size;omega
    have N9:Hid (¬G W2.heap.size):=fun g=>by have:=I.out.ta.lt _ g;have:=B1.out.size;have:=L80.out;omega
    have BW2:Hid (But F w V):=I.out.bt.next BRV.out;have SW2:Hid (w.heap.size<=V.heap.size):=BW2.out.size;have TR:=hide (trade_any T G _ s mk (0,0,mid,id,sd,pr,x) 0 V (I.out.ta.below BRV.out) I.out.st (by rw [HMID.out];exact has_at (most_pos I.out.st I.out.su I.out.hid I.out.ps HSD.out hq).1) I.out.hid (Int.le_refl 0) (by decide) (by have:=XB.out;have:=I.out.q1;rcases HSD.out with e | e<;>(rw [e];dsimp only;omega)) (by have:=XB.out;have:=I.out.q1;rcases HSD.out with e | e<;>(rw [e];dsimp only;omega)));have v0:=(blk_cell E9.out 0).1;have v1:=(blk_cell E9.out 1).1;have v2:=(blk_cell E9.out 2).1;have v3:=(blk_cell E9.out 3).1;have v4:=(blk_cell E9.out 4).1;have v5:=(blk_cell E9.out 5).1;have v6:=(blk_cell E9.out 6).1;simp only [List.getElem?_toArray,List.getElem?_cons_zero,List.getElem?_cons_succ] at v0 v1 v2 v3 v4 v5 v6;clear hV bV r1 r2 r3 r4 r5 r6 r7 WA WF WD E80 EB1 u0 j0 j1 j2 j3 BJ HW2 L80;generalize W1.heap.size=c8 at *;generalize W2.heap.size=c9 at *;go_wp2_with fail;refine TR.out.mono ?_;rintro e W3 (⟨u,hu,rfl,G1,tA1,nG1,bG1⟩ | ⟨r,hr,rfl,hr0,hb⟩)
    ·obtain⟨sf,ps,ev⟩:=others_step (pr:=pr) I.out.st I.out.su I.out.hid I.out.ps HSD.out hq HX.out (by rw [<- HMID.out];exact hu);rw [<- HMID.out] at sf ps;have d8:=blk_but E8.out bG1 N8.out;have d9:=blk_but E9.out bG1 N9.out;have dB:=blk_but EB.out bG1 I.out.nG;have N91:Hid (¬G1 c9):=newer_not nG1 L9.out N9.out;have NB1:Hid (¬G1 B):=newer_not nG1 LB.out I.out.nG;have LB1:Hid (B<W3.heap.size):=Nat.lt_of_lt_of_le LB.out bG1.size;have NW1:Hid (Newer w F G1):=fun b hb=>by
      rcases nG1 b hb with g | g
      ·exact I.out.nw b g
      ·exact .inr (Nat.le_trans SW2.out g)
     have BW3:Hid (But F w W3):=BW2.out.trans bG1 (fun b g=>I.out.nw b g);have HR2:Hid (othersR mk id sd pr n (q - x) (u.tell (evClosed mk mid (0,0,mid,id,sd,pr,x)))=R):=by
      have:=HALL.out;rw [hu] at this;exact this.symm
     obtain⟨A,M,va,vm,ve,tv,hrw,hlt⟩:=tA1;have HRW:=hide hrw;have HLT:=hide hlt;have EV1:Hid (u.evs.length<=1000000):=by show u.evs.length<=1000000;rw [ev];have:=I.out.ev;omega
     have TE:=hide (tell_any T G1 u A M va vm ve (evClosed mk mid (0,0,mid,id,sd,pr,x)) W3 tv EV1.out);have p0:=(blk_cell d8 0).1;have r0:=(blk_cell d9 0).1;have r1:=(blk_cell d9 1).1;have r2:=(blk_cell d9 2).1;have r3:=(blk_cell d9 3).1;have r4:=(blk_cell d9 4).1;have r5:=(blk_cell d9 5).1;have r6:=(blk_cell d9 6).1;simp only [List.getElem?_toArray,List.getElem?_cons_zero,List.getElem?_cons_succ] at p0 r0 r1 r2 r3 r4 r5 r6;have SF:=hide sf;have PS:=hide ps;have EV:=hide ev;have D9:=hide d9;have DB:=hide dB;clear tv sf ps ev d8 d9 dB bG1 nG1 hu TR hrw hlt v0 v1 v2 v3 v4 v5 v6;go_wp2_with fail;refine TE.out.mono ?_;rintro e W4 ⟨rfl,g',cap',tv4,hg4,bt4⟩;have f9:=blk_but D9.out bt4 N91.out;have fB:=blk_but DB.out bt4 NB1.out;have r6:=(blk_cell f9 6).1;have b4:=(blk_cell fB 4).1;have z4:=(blk_cell fB 4).2;simp only [List.getElem?_toArray,List.getElem?_cons_zero,List.getElem?_cons_succ] at r6 b4;have NW2:Hid (Newer w F (fun b=>G1 b\/b=g')):=fun b hb=>by
      rcases hb with hb | rfl
      ·exact NW1.out b hb
      ·rcases hg4 with g | g
       ·exact NW1.out _ g
       ·exact .inr (Nat.le_trans BW3.out.size g)
     have NB2:Hid (¬(G1 B\/B=g')):=by
      rintro (g | g)
      ·exact NB1.out g
      ·rcases hg4 with h | h
       ·exact NB1.out (by rw [g];exact h)
       ·have:=LB1.out;omega
     have IN:Hid (OInv w T F L mk id sd pr R (W4.setCell ⟨B,4,none⟩ (.int .i64 (q - x))) B (u.tell (evClosed mk mid (0,0,mid,id,sd,pr,x))) (q - x) n (fun b=>G1 b\/b=g')):=by
      have hbx:But (fun b=>b=B) W4 (W4.setCell ⟨B,4,none⟩ (.int .i64 (q - x))):=but_one W4 ⟨B,4,none⟩ _;have hx1:=XB.out;refine⟨⟨_,_,_,_,_,tv4.apart hbx (fun b e=>by rw [e];exact NB2.out) (fun a ha=>off_mono (HRW.out.a a ha) (fun b e=>.inr e)) (fun m hm=>⟨off_mono (HRW.out.m m hm).1 (fun b e=>.inr e),off_mono (HRW.out.m m hm).2 (fun b e=>.inr e)⟩),HRW.out,fun b hb=>?_⟩,NW2.out,?_,SF.out.str,SF.out.sums,by rw [SF.out.len];exact I.out.hm,by rw [has_ids SF.out.ids];exact I.out.hid,PS.out,by omega,by have:=I.out.q1;omega,?_,by have:=FU.out;omega,HR2.out,NB2.out,?_,⟨c0,heap_set fB 4 _⟩⟩
      ·have:=HLT.out b hb;have:=bt4.size;simp [World.setCell];omega
      ·exact(BW3.out.trans bt4 (fun b g=>NW1.out b g)).setCell (p:=⟨B,4,none⟩) (.inr GB.out) _
      ·show (u.evs++[_]).length+(q - x).toNat<=1000000;rw [List.length_append,EV.out,List.length_singleton];have:=I.out.ev;omega
      ·show B<(W4.setCell ⟨B,4,none⟩ (.int .i64 (q - x))).heap.size;have:=bt4.size;have:=LB1.out;simp [World.setCell];omega
     have hqx:-1000<=q - x/\q - x<=1000:=by have:=XB.out;have:=I.out.q1;omega
     obtain⟨hqx1,hqx2⟩:=hqx;have LE:Hid (leftAt B (W4.setCell ⟨B,4,none⟩ (.int .i64 (q - x)))=(q - x).toNat):=by
      show _=_;unfold leftAt;rw [World.cell?_setCell_same _ _ _ b4];rfl
     have LO:Hid (leftAt B wr=q.toNat):=HLO;clear tv4 hg4 bt4 TE HR2 p0 r0 r1 r2 r3 r4 r5 f9 fB;go_wp2;go_roundw
     case rel=>exact⟨_,_,_,_,IN⟩
     case measure =>
      have:=XB.out;rw [LE.out,LO.out];omega
    ·have EE:Hid (Ends w T F L R (.returned (.int .i64 r)) W3):=.inr ⟨r,by have:=HALL.out;rw [hr] at this;exact this,rfl,hr0,BW2.out.trans hb (fun b g=>I.out.nw b g)⟩;clear TR hr hb;go_wp2;go_ret;exact EE.out
  ·have EE:Hid (Ends w T F L R (.returned (.int .i64 0)) wr):=by
    have hall:=I.out.all
    have h0:othersR mk id sd pr n' q s=.ok s:=by
     cases n' with
     |zero=>rfl
     |succ n=>unfold othersR;rw [if_neg hq]
    rw [h0] at hall;exact .inl ⟨s,hall.symm,rfl,G,I.out.ta.less (fun b hb=>.inl hb),I.out.nw,I.out.bt⟩
   clear g1 g2 g3 hblk;go_wp2;go_ret;exact EE.out
end Go.Proofs.YthdjfhnhjiageaaGreatDoor.Vn
