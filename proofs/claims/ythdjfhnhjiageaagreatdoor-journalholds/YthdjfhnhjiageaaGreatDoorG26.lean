import Derived.Test.YthdjfhnhjiageaaGreatDoorG25
set_option maxHeartbeats 8000000
set_option maxRecDepth 100000
namespace Go.Proofs.YthdjfhnhjiageaaGreatDoor.Vn
open Go.RowKit Num Fix AcP FuP Bk Rm Ac Go.Sort Go.Maps Mix RkP
theorem take_fok {s:Tn}(hs:Str s){k:Nat}(hk:k<s.mkts.length){o:Odr}(ho:okOrder o=0)(hid:hasA s.accs (oac o)=true):FOk s (takeT (mktAt s k).1 (mktAt s k).2.1 o).2.1/\(takeT (mktAt s k).1 (mktAt s k).2.1 o).2.1.length<=40:=by
 obtain⟨f1,f2,f3,-⟩:=take_fills (hs.at hk).1 ho;have hsd:=okOrder_sd ho;have hpq:=okOrder_pq ho
 have hsum:∀(F:List Fil),(∀f,f∈F->1<=f.2.2.2.2.2.2)->∀f,f∈F->f.2.2.2.2.2.2<=sumQ F:=by
  intro F;induction F with
  |nil=>intro _ f hf;cases hf
  |cons g F ih =>
   intro h1 f hf;have hnn:0<=sumQ F:=by
    have:∀(F:List Fil),(∀f,f∈F->1<=f.2.2.2.2.2.2)->0<=sumQ F:=by
     intro F;induction F with
     |nil=>intro _;simp [sumQ]
     |cons g F ih =>
      intro h;have:=ih (fun f hf=>h f (by simp [hf]));have:=h g (by simp);unfold sumQ fqt at *;simp only [List.map_cons,List.sum_cons];omega
    exact this F (fun f hf=>h1 f (by simp [hf]))
   have hg:=h1 g (by simp);have e:sumQ (g::F)=g.2.2.2.2.2.2+sumQ F:=by unfold sumQ fqt;simp
   rcases List.mem_cons.1 hf with rfl | hf
   ·rw [e];omega
   ·have:=ih (fun f hf=>h1 f (by simp [hf])) f hf;rw [e];omega
 constructor
 ·intro f hf;obtain⟨x,hx,e1,e2,e3,e4,e5,e6⟩:=f1 f hf;have hq:=hsum _ (fun g hg=>by obtain⟨x,-,-,-,-,-,r,-⟩:=f1 g hg;exact r) f hf;refine⟨by rw [e1];exact((hs.at hk).2.2.2 x hx).1,by rw [e2];exact hid,by omega,?_,?_⟩
  ·rw [e3];rcases hsd with e | e<;>(rw [e];omega)
  ·rw [e3];rcases hsd with e | e<;>(rw [e];omega)
 ·have hr:=(hs.at hk).1.few;have:=takes_few o (if osd o=1 then (mktAt s k).2.1 else (mktAt s k).1) (oqt o);have hT:(takeT (mktAt s k).1 (mktAt s k).2.1 o).2.1=(takes o (oqt o) (if osd o=1 then (mktAt s k).2.1 else (mktAt s k).1)).2.1:=rfl;rw [hT];refine Nat.le_trans this ?_;split<;>omega
theorem FOk.same {s t:Tn}{F:List Fil}(h:FOk s F)(e:t.accs.map (·.1)=s.accs.map (·.1)):FOk t F:=fun f hf=>by
 have:=h f hf;rw [has_ids e,has_ids e];exact this
theorem take_all (p p':Option Addr)(c c':Nat)(bids asks:List Odr)(o:Odr)(w:World)(h:OV w p c bids)(h':OV w p' c' asks)(hR:Right bids asks) :
  Calls Tryz.prog 161 #[.agg #[.slice p bids.length c,.slice p' asks.length c'],odrV o] w fun e w'=>∃p1 n1 c1 p2 n2 c2 pf nf cf l m r,e=.returned (.tuple #[.agg #[.slice p1 n1 c1,.slice p2 n2 c2],.slice pf nf cf,.int .i64 l,.bool m,.int .i64 r])/\Below w.heap.size w w' /\
   ((takeErr bids asks o=0/\r=0/\n1=(takeB bids asks o).length/\n2=(takeA bids asks o).length/\nf=(takeT bids asks o).2.1.length/\l=(takeT bids asks o).2.2.1/\OV w' p1 c1 (takeB bids asks o)/\OV w' p2 c2 (takeA bids asks o)/\FRow w' pf (takeT bids asks o).2.1/\(∀a,p1=some a->w.heap.size<=a.block)/\(∀a,p2=some a->w.heap.size<=a.block)/\(∀a,pf=some a->w.heap.size<=a.block))\/(¬takeErr bids asks o=0/\r=takeErr bids asks o)):=by
 have hfew:=book_few hR;by_cases he:takeErr bids asks o=0
 ·refine(take_any p p' c c' bids asks o w h h' hR (takeErr_zero.1 he).2).mono ?_;rintro e w' ⟨p1,c1,p2,c2,vF,rfl,o1,o2,oF,hb,z1,z2⟩;obtain⟨pf,cf,rfl,fr,z3⟩:=own_frow oF;exact⟨p1,_,c1,p2,_,c2,pf,_,cf,_,_,_,rfl,hb,.inl ⟨he,rfl,rfl,rfl,rfl,rfl,o1,o2,fr,z1,z2,z3⟩⟩
 ·obtain⟨a,ac,sd,pr,q⟩:=o;refine(take_bad p p' c c' bids asks a ac sd pr q w h.row h'.row (by omega) (by omega) he).mono ?_;rintro e w' ⟨rfl,hb⟩;exact⟨none,0,0,none,0,0,none,0,0,0,false,_,rfl,hb,.inr ⟨he,rfl⟩⟩
def TakenY (s:Tn) (k:Nat) (o:Odr) (Y:World) (B:Nat) (p1:Option Addr) (n1 c1:Nat) (p2:Option Addr) (n2 c2:Nat) (pf:Option Addr) (nf:Nat) (l r:Int):Prop :=
 (takeErr (mktAt s k).1 (mktAt s k).2.1 o=0/\r=0/\n1=(takeB (mktAt s k).1 (mktAt s k).2.1 o).length/\n2=(takeA (mktAt s k).1 (mktAt s k).2.1 o).length/\nf=(takeT (mktAt s k).1 (mktAt s k).2.1 o).2.1.length/\l=(takeT (mktAt s k).1 (mktAt s k).2.1 o).2.2.1/\OV Y p1 c1 (takeB (mktAt s k).1 (mktAt s k).2.1 o)/\OV Y p2 c2 (takeA (mktAt s k).1 (mktAt s k).2.1 o)/\FRow Y pf (takeT (mktAt s k).1 (mktAt s k).2.1 o).2.1/\(∀a,p1=some a->B<=a.block)/\(∀a,p2=some a->B<=a.block)/\(∀a,pf=some a->B<=a.block))\/(¬takeErr (mktAt s k).1 (mktAt s k).2.1 o=0/\r=takeErr (mktAt s k).1 (mktAt s k).2.1 o)
theorem taken_y {s:Tn}{k:Nat}{o:Odr}{w3 Y:World}{B C:Nat}{p1:Option Addr}{n1 c1:Nat}{p2:Option Addr}{n2 c2:Nat}{pf:Option Addr}{nf:Nat}{l r:Int}{D:Nat->Prop}(h:TakenY s k o w3 C p1 n1 c1 p2 n2 c2 pf nf l r)(hb:But D w3 Y)(hC:∀a,C<=a->B<=a/\¬D a):TakenY s k o Y B p1 n1 c1 p2 n2 c2 pf nf l r:=by
 rcases h with⟨he,hr,hn1,hn2,hnf,hl,o1,o2,fr,z1,z2,z3⟩ | h
 ·exact .inl ⟨he,hr,hn1,hn2,hnf,hl,ov_but o1 hb (.inr fun x hx=>(hC _ (z1 x hx)).2),ov_but o2 hb (.inr fun x hx=>(hC _ (z2 x hx)).2),frow_but fr hb (.inr fun x hx=>(hC _ (z3 x hx)).2),fun a ha=>(hC _ (z1 a ha)).1,fun a ha=>(hC _ (z2 a ha)).1,fun a ha=>(hC _ (z3 a ha)).1⟩
 ·exact .inr h
theorem sumQ_pos:∀(F:List Fil),(∀f,f∈F->1<=f.2.2.2.2.2.2)->0<=sumQ F
 |[],_=>by simp [sumQ]
 |g::F,h=>by
  have:=sumQ_pos F (fun f hf=>h f (by simp [hf]));have:=h g (by simp);unfold sumQ fqt at *;simp only [List.map_cons,List.sum_cons];omega
theorem closeIn_any (T:Nat)(F L:Nat->Prop)(s:Tn)(i k:Nat)(pm:Option Addr)(n2 c2:Nat)(marks:List Int)(w:World)(h:TA w T F L s)(hs:Str s)(hS:Sums s)(hi:i<s.accs.length)(hk:k<s.mkts.length)(hmr:Row w pm marks)(hml:marks.length=n2)(hev:s.evs.length<=800000) :
  Calls Tryz.prog 178 #[turnP T,.int .i64 (i:Nat),.int .i64 (k:Nat),.slice pm n2 c2] w (Ends w T F L (closeInR s i k marks)):=by
 have mixed:Tryz.prog.follows .mixedOrders=true:=by kernel_rfl
 have TA0:=hide h;obtain⟨A,M,va,vm,ve,tv,-,-⟩:=h;have hkA:i<A.length:=by rw [tv.lenA];exact hi
 obtain⟨ga,ca,rfl,-,-,-,-,k0,k1,k2⟩:=tv.atA hkA;have t0:w.cell? ⟨T,0,none⟩=some (.slice (some ⟨ga,0,none⟩) A.length ca):=by rw [tv.cell];rfl
 obtain⟨pb,po,pe,pl,pc,px1,px2⟩:=tv.posn hs hk hkA;have hmem:=(tv.each _ (List.getElem_mem hkA)).1;have hisa:=tv.isAcc hkA;obtain⟨R,hR⟩:∃R,R=closeInR s i k marks:=⟨_,rfl⟩;rw [<- hR];unfold closeInR at hR;generalize hAA:(A[i]'hkA)=a at *;obtain⟨aid,bal,ap,an,ac,pos⟩:=a;dsimp only at k0 k1 k2 pe pl hmem hisa;rw [pe] at k2 hmem;rw [hisa] at hR pc px1 px2;dsimp only at hR;have BK:Hid (∀Y,Below w.heap.size w Y->_):=fun Y hY=>bankrupt_any aid bal (some ⟨pb,po,none⟩) pm an ac n2 c2 pos marks (k:Nat) Y hmem.len hml (by have:=hmem.few;dsimp only at this;omega) (row_below hmem.row hY) (row_below hmr hY);obtain⟨pr,hpr⟩:∃pr,pr=(bankR aid bal pos marks k).1:=⟨_,rfl⟩;obtain⟨be,hbe⟩:∃be,be=(bankR aid bal pos marks k).2:=⟨_,rfl⟩;rw [<- hpr,<- hbe] at hR BK;obtain⟨px,hpx⟩:∃px,px=posAt (aid,bal,pos) k:=⟨_,rfl⟩;rw [<- hpx] at pc px1 px2;have HPX:=hide hpx;have HISA:=hide hisa;have HS:=hide hs;have HSu:=hide hS;have HKM:=hide hk;have HEV:=hide hev;have HR:=hide hR;have HI:=hide hi;have HID:Hid (hasA s.accs aid=true):=by
  have:=has_at hi;rw [hisa] at this;exact this
 have POS:Hid (posOf s.accs k aid=px):=by
  show posOf s.accs k aid=px;rw [hpx];have:=posOf_at hs.srt hi k;rw [hisa] at this;exact this
 have hiz:(i:Int)<(A.length:Int):=by omega
 have plz:(k:Int)<(an:Int):=by omega
 clear hR hs hS hk hev hpr hbe hpx hisa hmem hml hmr hi tv pe hAA;go_enter Tryz.func178,Tryz.ntmps178;obtain⟨W1,hW1⟩:∃W1,W1=w.alloc (accO aid bal (some ⟨pb,po,none⟩) an ac):=⟨_,rfl⟩;have bb1:Below w.heap.size w W1:=by rw [hW1];exact below_alloc w _
 have e9:W1.heap[w.heap.size]? = some (.cells #[.int .i64 aid,.int .i64 bal,.slice (some ⟨pb,po,none⟩) an ac] 89 (0,0)):=by rw [hW1];exact heap_alloc_new w _
 have BK1:=hide (BK.out W1 bb1);have HW1:=hide hW1;have BB1:=hide bb1;have E9:=hide e9;have v0:=(blk_cell e9 0).1;have v1:=(blk_cell e9 1).1;have v2:=(blk_cell e9 2).1;simp only [List.getElem?_toArray,List.getElem?_cons_zero,List.getElem?_cons_succ] at v0 v1 v2;have pc1:=(bb1.cell (World.block_lt_of_cell? _ _ pc)).trans pc;clear hW1 bb1 e9 BK;go_wp2_with (rw [<- HW1.out]);refine BK1.out.mono ?_;rintro e W2 ⟨rfl,b2⟩;have B2:=hide (BB1.out.trans (b2.mono BB1.out.size));have E92:=hide (blk_below E9.out b2);have pc2:=(b2.cell (World.block_lt_of_cell? _ _ pc1)).trans pc1;clear v0 v1 v2 pc1 b2 BK1 HW1 t0 k0 k1 k2 pc;by_cases hbe:be=0
 ·have HR1:Hid (R=closeInO s k (closeO (aid,bal,pos) k pr)):=by
   have:=HR.out;rw [if_pos hbe] at this;exact this
  subst hbe;clear HR;have r0:∀Y,Below W2.heap.size W2 Y->Y.cell? ⟨w.heap.size,0,none⟩=some (.int .i64 aid):=fun Y hY=>(blk_cell (blk_below E92.out hY) 0).1;have r2:∀Y,Below W2.heap.size W2 Y->Y.cell? ⟨w.heap.size,2,none⟩=some (.slice (some ⟨pb,po,none⟩) an ac):=fun Y hY=>(blk_cell (blk_below E92.out hY) 2).1;have r3:∀Y,Below W2.heap.size W2 Y->Y.cell? ⟨pb,po+k,none⟩=some (.int .i64 px):=fun Y hY=>(hY.cell (World.block_lt_of_cell? _ _ pc2)).trans pc2;have WD:Hid (Below W2.heap.size W2 W2.drew):=(Below.refl _ W2).drew;have WA:Hid (Below W2.heap.size W2 (W2.alloc (.cells #[.int .i64 0,.int .i64 0,.int .i64 0,.int .i64 0,.int .i64 0] 26)).drew):=((Below.refl _ W2).alloc (Nat.le_refl _) _).drew;have WF:Hid (Below W2.heap.size W2 (W2.alloc (.cells #[.int .i64 100000,.int .i64 aid,.int .i64 (-1),.int .i64 pr,.int .i64 px] 26)).drew):=((Below.refl _ W2).alloc (Nat.le_refl _) _).drew;go_wp2_with fail;go_region_held3 (fun w'=>Below W2.heap.size W2 w') (first | (with_reducible assumption) | (with_reducible exact WD.out) | (with_reducible exact WA.out) | (with_reducible exact WF.out)) (fail);obtain⟨X,hX⟩:∃X,X=(W2.alloc (.cells #[.int .i64 100000,.int .i64 aid,.int .i64 (-1),.int .i64 pr,.int .i64 px] 26)).drew:=⟨_,rfl⟩;rw [<- hX];have eX:X.heap[W2.heap.size]? = some (.cells #[.int .i64 100000,.int .i64 aid,.int .i64 (-1),.int .i64 pr,.int .i64 px] 26 (0,0)):=by rw [hX];exact heap_alloc_new W2 _
  have BX:Below w.heap.size w X:=by rw [hX];exact B2.out.trans (WF.out.mono B2.out.size)
  have GE12:Hid (w.heap.size<=W2.heap.size):=B2.out.size;clear hX r0 r2 r3 WD WA WF pc2 E92;generalize W2.heap.size=c12 at *;by_cases hneg:px<0;focus
   have g4:=(blk_cell eX 4).1;have f2:=(blk_cell eX 2).2;have f4:=(blk_cell eX 4).2;have g2:=(blk_cell eX 2).1;simp only [List.getElem?_toArray,List.getElem?_cons_zero,List.getElem?_cons_succ] at g2 g4;have hX2:=heap_set (heap_set eX 2 (.int .i64 1)) 4 (.int .i64 (-px));have BX2:=(BX.setCell (p:=⟨c12,2,none⟩) GE12.out (.int .i64 1)).setCell (p:=⟨c12,4,none⟩) GE12.out (.int .i64 (-px));obtain⟨X2,hX2e⟩:∃X2,X2=(X.setCell ⟨c12,2,none⟩ (.int .i64 1)).setCell ⟨c12,4,none⟩ (.int .i64 (-px)):=⟨_,rfl⟩;rw [<- hX2e] at hX2 BX2;have HX2:=hide hX2e;have HX2':=hide hX2;have HBX2:=hide BX2;clear hX2e eX hX2 BX2;go_wp2_with (rw [<- HX2.out]);have EX:Hid (X2.heap[c12]? = some (.cells #[.int .i64 100000,.int .i64 aid,.int .i64 1,.int .i64 pr,.int .i64 (-px)] 26 (0,0))):=HX2'.out;have BX:=HBX2.out;have hco:closeO (aid,bal,pos) k pr=(100000,aid,1,pr,-px):=by unfold closeO;rw [<- HPX.out,if_pos hneg]
   rw [hco] at HR1;have HP:Hid (posOf s.accs k aid = -(1:Int) * -px):=by
    show posOf s.accs k aid = -(1:Int) * -px;rw [POS.out];omega
   clear HX2 HX2' HBX2 hco g2 g4 f2 f4;obtain⟨X,hXX⟩:∃X,X=X2:=⟨_,rfl⟩;subst hXX
  rotate_left;focus
   have g4:=(blk_cell eX 4).1;simp only [List.getElem?_toArray,List.getElem?_cons_zero,List.getElem?_cons_succ] at g4;have EX:=hide eX;have hco:closeO (aid,bal,pos) k pr=(100000,aid,-1,pr,px):=by unfold closeO;rw [<- HPX.out,if_neg hneg]
   rw [hco] at HR1;have HP:Hid (posOf s.accs k aid = -(-1:Int)*px):=by
    show posOf s.accs k aid = -(-1:Int)*px;rw [POS.out];omega
   clear hco eX;go_wp2_with fail
  rotate_left;all_goals
   have IW:=hide BX;have ta1:TA X T F (fun b=>L b\/b=c12) s:=TA0.out.more IW.out GE12.out (Array.getElem?_eq_some_iff.1 EX.out).1;obtain⟨A2,M,va,vm,ve,tv,hrw,hlt⟩:=ta1;have hkM:k<M.length:=by rw [tv.lenM];exact HKM.out
   obtain⟨gm,cm,rfl,hgF,fz,m0,m1,-,-⟩:=tv.atM hkM;have t1:X.cell? ⟨T,1,none⟩=some (.slice (some ⟨gm,0,none⟩) M.length cm):=by rw [tv.cell];rfl
   obtain⟨o1,o2,-,-⟩:=tv.eachM _ (List.getElem_mem hkM);have hism:=tv.isMkt hkM;have fe1:(mktAt s k).1=mB (M[k]'hkM):=by rw [hism];rfl
   have fe2:(mktAt s k).2.1=mA (M[k]'hkM):=by rw [hism];rfl
   have hR:=(HS.out.at HKM.out).1
  focus
   have TK:Hid (∀Y,Below X.heap.size X Y->_):=fun Y hY=>take_all (M[k]'hkM).1.1 (M[k]'hkM).2.1.1 (M[k]'hkM).1.2.1 (M[k]'hkM).2.1.2.1 (mB (M[k]'hkM)) (mA (M[k]'hkM)) (100000,aid,1,pr,-px) Y (o1.below hY) (o2.below hY) (by rw [<- fe1,<- fe2];exact hR)
  rotate_left;focus
   have TK:Hid (∀Y,Below X.heap.size X Y->_):=fun Y hY=>take_all (M[k]'hkM).1.1 (M[k]'hkM).2.1.1 (M[k]'hkM).1.2.1 (M[k]'hkM).2.1.2.1 (mB (M[k]'hkM)) (mA (M[k]'hkM)) (100000,aid,-1,pr,px) Y (o1.below hY) (o2.below hY) (by rw [<- fe1,<- fe2];exact hR)
  rotate_left;all_goals
   rw [<- fe1] at TK m0;rw [<- fe2] at TK m1;have hkz:(k:Int)<(M.length:Int):=by omega
   generalize (M[k]'hkM).1.1=pb at *;generalize (M[k]'hkM).1.2.1=cb at *;generalize (M[k]'hkM).2.1.1=pa at *;generalize (M[k]'hkM).2.1.2.1=ca at *;have x0:∀Y,Below X.heap.size X Y->Y.cell? ⟨T,1,none⟩=some (.slice (some ⟨gm,0,none⟩) M.length cm):=fun Y hY=>(hY.cell (World.block_lt_of_cell? _ _ t1)).trans t1;have x1:∀Y,Below X.heap.size X Y->Y.cell? ⟨gm,k*4,none⟩=some (.slice pb (mktAt s k).1.length cb):=fun Y hY=>(hY.cell (World.block_lt_of_cell? _ _ m0)).trans m0;have x2:∀Y,Below X.heap.size X Y->Y.cell? ⟨gm,k*4+1,none⟩=some (.slice pa (mktAt s k).2.1.length ca):=fun Y hY=>(hY.cell (World.block_lt_of_cell? _ _ m1)).trans m1;have x3:∀Y,Below X.heap.size X Y->Y.cell? ⟨c12,0,none⟩=some (.int .i64 100000):=fun Y hY=>(blk_cell (blk_below EX.out hY) 0).1;have x4:∀Y,Below X.heap.size X Y->Y.cell? ⟨c12,1,none⟩=some (.int .i64 aid):=fun Y hY=>(blk_cell (blk_below EX.out hY) 1).1
  focus
   have x5:∀Y,Below X.heap.size X Y->Y.cell? ⟨c12,2,none⟩=some (.int .i64 (1)):=fun Y hY=>(blk_cell (blk_below EX.out hY) 2).1
  rotate_left;focus
   have x5:∀Y,Below X.heap.size X Y->Y.cell? ⟨c12,2,none⟩=some (.int .i64 (-1)):=fun Y hY=>(blk_cell (blk_below EX.out hY) 2).1
  rotate_left;all_goals
   have x6:∀Y,Below X.heap.size X Y->Y.cell? ⟨c12,3,none⟩=some (.int .i64 pr):=fun Y hY=>(blk_cell (blk_below EX.out hY) 3).1
  focus
   have x7:∀Y,Below X.heap.size X Y->Y.cell? ⟨c12,4,none⟩=some (.int .i64 (-px)):=fun Y hY=>(blk_cell (blk_below EX.out hY) 4).1
  rotate_left;focus
   have x7:∀Y,Below X.heap.size X Y->Y.cell? ⟨c12,4,none⟩=some (.int .i64 (px)):=fun Y hY=>(blk_cell (blk_below EX.out hY) 4).1
  rotate_left;all_goals
   have TV1:=hide tv;have HRW:=hide hrw;have HLT:=hide hlt;have HGF:=hide hgF;have XD:Hid (Below X.heap.size X X.drew):=(Below.refl _ X).drew;have XA:Hid (Below X.heap.size X (X.alloc (.cells #[.slice none 0 0,.slice none 0 0] 94)).drew):=((Below.refl _ X).alloc (Nat.le_refl _) _).drew;have XN3:Hid (∀x,Below (X.alloc (.cells #[.slice none 0 0,.slice none 0 0] 94)).drew.heap.size (X.alloc (.cells #[.slice none 0 0,.slice none 0 0] 94)).drew x->x.heap[X.heap.size]? = some (.cells #[.slice none 0 0,.slice none 0 0] 94 (0,0))):=fun x hx=>(hx.block X.heap.size (by simp)).trans (heap_alloc_new X _);have XN:Hid (∀x,Below (X.alloc (.cells #[.slice none 0 0,.slice none 0 0] 94)).drew.heap.size (X.alloc (.cells #[.slice none 0 0,.slice none 0 0] 94)).drew x->(x.cell? ⟨X.heap.size,0,none⟩=some (.slice none 0 0)/\x.frozen? ⟨X.heap.size,0,none⟩=false)/\(x.cell? ⟨X.heap.size,1,none⟩=some (.slice none 0 0)/\x.frozen? ⟨X.heap.size,1,none⟩=false)):=fun x hx=>⟨kept_new hx 0 rfl,kept_new hx 1 rfl⟩;clear tv hrw hlt hgF fz m0 m1 t1 o1 o2 hism fe1 fe2 hR;go_wp2_with fail
  ·go_region_held3 (fun w'=>Below X.heap.size X w') (first | (with_reducible assumption) | (with_reducible exact XD.out) | (with_reducible exact XA.out) | ((with_reducible refine Below.alloc ?_ ?_ _)<;>first | (with_reducible assumption) | exact Below.size (by with_reducible assumption)) | ((with_reducible refine Below.setCell (Below.setCell ?_ ?_ _) ?_ _)<;>first | (with_reducible assumption) | exact Nat.le_refl _)) ((go_at_call 161;refine(TK.out _ ?_).mono ?_;assumption;rintro e w3 ⟨p1,n1,c1,p2,n2',c2',pf,nf,cf,lft,met,r,rfl,hb3,tp⟩;have TP:=hide tp;have hb3':Below X.heap.size X w3:=Below.trans (by assumption) (hb3.mono (Below.size (by assumption)));clear tp;try (have kn:=(by with_reducible exact XN.out w3 hb3:(w3.cell? ⟨X.heap.size,0,none⟩=some (.slice none 0 0)/\w3.frozen? ⟨X.heap.size,0,none⟩=false)/\(w3.cell? ⟨X.heap.size,1,none⟩=some (.slice none 0 0)/\w3.frozen? ⟨X.heap.size,1,none⟩=false));obtain⟨⟨z0,q0⟩,⟨z1,q1⟩⟩:=kn)));focus
    obtain⟨Y,hY⟩:∃Y,Y=w3.alloc (.cells #[.slice p1 n1 c1,.slice p2 n2' c2'] 94):=⟨_,rfl⟩;rw [<- hY];have EY:Hid (Y.heap[w3.heap.size]? = some (.cells #[.slice p1 n1 c1,.slice p2 n2' c2'] 94 (0,0))):=by show Y.heap[w3.heap.size]? = _;rw [hY];exact heap_alloc_new w3 _
    have BY:Hid (Below X.heap.size X Y):=by rw [hY];exact hb3'.alloc hb3'.size _
    have bw:But (fun _=>False) w3 Y:=by rw [hY];exact .of_below (below_alloc w3 _)
    have TPY:Hid (TakenY s k (100000,aid,1,pr,-px) Y X.heap.size p1 n1 c1 p2 n2' c2' pf nf lft r):=taken_y TP.out bw (fun a ha=>⟨ha,id⟩);have NC:Hid (X.heap.size<=w3.heap.size):=hb3'.size;clear hY hb3 hb3' bw TP x0 x1 x2 x3 x4 x5 x6 x7 XD XA XN TK;generalize w3.heap.size=c13 at *
   rotate_left;focus
    obtain⟨Y,hY⟩:∃Y,Y=(w3.setCell ⟨X.heap.size,0,none⟩ (.slice p1 n1 c1)).setCell ⟨X.heap.size,1,none⟩ (.slice p2 n2' c2'):=⟨_,rfl⟩;rw [<- hY];have eX3:=XN3.out w3 hb3;have EY:Hid (Y.heap[X.heap.size]? = some (.cells #[.slice p1 n1 c1,.slice p2 n2' c2'] 94 (0,0))):=by
     show Y.heap[X.heap.size]? = _;rw [hY];exact heap_set (heap_set eX3 0 _) 1 _
    have BY:Hid (Below X.heap.size X Y):=by rw [hY];exact(hb3'.setCell (p:=⟨X.heap.size,0,none⟩) (Nat.le_refl _) _).setCell (p:=⟨X.heap.size,1,none⟩) (Nat.le_refl _) _
    have bw:But (fun b=>b=X.heap.size) w3 Y:=by rw [hY];exact(but_one w3 ⟨X.heap.size,0,none⟩ _).setCell (p:=⟨X.heap.size,1,none⟩) (.inl rfl) _
    have TPY:Hid (TakenY s k (100000,aid,1,pr,-px) Y X.heap.size p1 n1 c1 p2 n2' c2' pf nf lft r):=taken_y TP.out bw (fun a ha=>⟨by simp at ha;omega,fun e=>by simp at ha;omega⟩);have NC:Hid (X.heap.size<=X.heap.size):=Nat.le_refl _;clear hY hb3 hb3' bw TP z0 z1 q0 q1 x0 x1 x2 x3 x4 x5 x6 x7 XD XA XN XN3 eX3 TK;generalize hc13:X.heap.size=c13 at EY NC ⊢;clear hc13
   all_goals
    rcases TPY.out with⟨he,hr,hn1,hn2,hnf,hl,o1,o2,fr,z1,z2,z3⟩ | ⟨he,hr⟩
    ·have ho:=(takeErr_zero.1 he).2;have hRt:R=match fillsR k true (takeT (mktAt s k).1 (mktAt s k).2.1 (100000,aid,1,pr,-px)).2.1 (s.setB k (takeB (mktAt s k).1 (mktAt s k).2.1 (100000,aid,1,pr,-px)) (takeA (mktAt s k).1 (mktAt s k).2.1 (100000,aid,1,pr,-px))) with | .ok t=>othersR k aid (1) pr (takeT (mktAt s k).1 (mktAt s k).2.1 (100000,aid,1,pr,-px)).2.2.1.toNat (takeT (mktAt s k).1 (mktAt s k).2.1 (100000,aid,1,pr,-px)).2.2.1 t | .error e=>.error e:=by
      have:=HR1.out;unfold closeInO at this;rw [if_pos he] at this;exact this
     have HRT:=hide hRt;have hfok:=take_fok HS.out HKM.out ho HID.out;have hstr:=take_str HS.out HKM.out ho;have htf:=take_fact HS.out HSu.out HKM.out ho;have tvY:=TV1.out.below BY.out;have offF:∀{α:Type} {p:Option Addr} (l:List α),(∀a,p=some a->X.heap.size<=a.block)->Off F p l:=fun l hp=>.inr fun x hx f=>by have:=hp x hx;have:=TV1.out.lt _ f;omega
     have offL:∀{α:Type} {p:Option Addr} (l:List α),(∀a,p=some a->X.heap.size<=a.block)->Off (fun b=>L b\/b=c12) p l:=fun l hp=>.inr fun x hx f=>by have:=hp x hx;have:=HLT.out _ f;omega
     obtain⟨gm',cm',e',hgF,fz,m0,m1,-,-⟩:=tvY.atM hkM;cases e'
     have t1:Y.cell? ⟨T,1,none⟩=some (.slice (some ⟨gm,0,none⟩) M.length cm):=by rw [tvY.cell];rfl
     have f0:=fz (k*4);have f1:=fz (k*4+1);have y0:=(blk_cell EY.out 0).1;have y1:=(blk_cell EY.out 1).1;simp only [List.getElem?_toArray,List.getElem?_cons_zero,List.getElem?_cons_succ] at y0 y1;have PB:=tvY.putBook hkM o1 o2 (offF _ z1) (offF _ z2);rw [<- hn1,<- hn2] at PB;have BZ:Hid (But F w (((Y.setCell ⟨gm,k*4,none⟩ (.slice p1 n1 c1)).setCell ⟨gm,k*4+1,none⟩ (.slice p2 n2' c2')).drew)):=But.drew (((But.of_below (BX.trans (BY.out.mono BX.size))).setCell (p:=⟨gm,k*4,none⟩) (.inl hgF) _).setCell (p:=⟨gm,k*4+1,none⟩) (.inl hgF) _);have BYZ:Hid (But F Y (((Y.setCell ⟨gm,k*4,none⟩ (.slice p1 n1 c1)).setCell ⟨gm,k*4+1,none⟩ (.slice p2 n2' c2')).drew)):=But.drew (((But.refl F Y).setCell (p:=⟨gm,k*4,none⟩) (.inl hgF) _).setCell (p:=⟨gm,k*4+1,none⟩) (.inl hgF) _);have NF12:Hid (¬F c12):=fun f=>by have:=TA0.out.lt _ f;have:=GE12.out;omega
     have TZ:Hid (TA (((Y.setCell ⟨gm,k*4,none⟩ (.slice p1 n1 c1)).setCell ⟨gm,k*4+1,none⟩ (.slice p2 n2' c2')).drew) T F (fun b=>L b\/b=c12) (s.setB k (takeB (mktAt s k).1 (mktAt s k).2.1 (100000,aid,1,pr,-px)) (takeA (mktAt s k).1 (mktAt s k).2.1 (100000,aid,1,pr,-px)))):=⟨_,_,_,_,_,PB.below (Below.refl _ _).drew,HRW.out.setM k (offL _ z1) (offL _ z2),fun b hb=>Nat.lt_of_lt_of_le (HLT.out b hb) (Nat.le_trans BY.out.size BYZ.out.size)⟩;have FL:=hide (fill_free T F (fun b=>L b\/b=c12) _ k pf nf cf _ _ TZ.out hstr (by rw [htf.len];exact HKM.out) (hfok.1.same rfl) (by have:=HEV.out;have:=hfok.2;show s.evs.length+_<=_;omega) hnf.symm (frow_but fr BYZ.out (offF _ z3)) (offF _ z3));have EZ:Hid ((((Y.setCell ⟨gm,k*4,none⟩ (.slice p1 n1 c1)).setCell ⟨gm,k*4+1,none⟩ (.slice p2 n2' c2')).drew).heap[c12]? = some (.cells #[.int .i64 100000,.int .i64 aid,.int .i64 (1),.int .i64 pr,.int .i64 (-px)] 26 (0,0))):=blk_but (blk_below EX.out BY.out) BYZ.out NF12.out;have hkz:(k:Int)<(M.length:Int):=by omega
     have HE:=hide he;have HO:=hide ho;have HLL:=hide hl;have HFOK:=hide hfok;obtain⟨Z,hZ⟩:∃Z,Z=((Y.setCell ⟨gm,k*4,none⟩ (.slice p1 n1 c1)).setCell ⟨gm,k*4+1,none⟩ (.slice p2 n2' c2')).drew:=⟨_,rfl⟩;rw [<- hZ] at BZ TZ FL EZ;have HZ:=hide hZ;subst hr;clear hRt hfok hstr htf tvY offF offL hgF fz PB BYZ hZ he ho hl hn1 hn2 hnf o1 o2 fr z1 z2 z3 TPY;go_wp2_with fail;go_region;rw [<- HZ.out];clear HZ t1 m0 m1 f0 f1 y0 y1;go_wp2_with fail;refine FL.out.mono ?_;rintro e V1 (⟨u,hu,rfl,G1,tA1,nG1,bG1⟩ | ⟨r,hr,rfl,hr0,hb⟩)
     ·have hpre:=taken_pre HS.out HSu.out HKM.out HO.out HID.out HP.out hu;have hus:=fills_facts k true _ _ u hu (take_str HS.out HKM.out HO.out) (by rw [(take_fact HS.out HSu.out HKM.out HO.out).len];exact HKM.out) (fun f hf=>by have:=HFOK.out.1 f hf;exact⟨this.1,this.2.1,this.2.2.1.1,this.2.2.1.2⟩);have hev:u.evs.length<=900000:=by
       rw [hus.evs,List.length_append,List.length_map];have:=HEV.out;have:=HFOK.out.2;show s.evs.length+_<=_;omega
      obtain⟨sf,l0,ps,-⟩:=hpre;have hlq:=(take_fills (HS.out.at HKM.out).1 HO.out).2.1;have hq1:(takeT (mktAt s k).1 (mktAt s k).2.1 (100000,aid,1,pr,-px)).2.2.1<=1000:=by
       have:=(okOrder_pq HO.out).2.2.2;have hs0:0<=sumQ (takeT (mktAt s k).1 (mktAt s k).2.1 (100000,aid,1,pr,-px)).2.1:=by
        have:=(take_fills (HS.out.at HKM.out).1 HO.out).1;exact sumQ_pos _ (fun f hf=>by obtain⟨x,-,-,-,-,-,r,-⟩:=this f hf;exact r)
       omega
      have hR3:R=othersR k aid (1) pr lft.toNat lft u:=by
       have:=HRT.out;rw [hu] at this;rw [HLL.out];exact this
      rw [<- HLL.out] at l0 ps hq1;have eV:=blk_but EZ.out bG1 NF12.out;have NG12:Hid (¬G1 c12):=newer_not nG1 (Array.getElem?_eq_some_iff.1 EZ.out).1 NF12.out;have NW1:Hid (Newer w F G1):=fun b hb=>(nG1 b hb).imp id (Nat.le_trans BZ.out.size);have BV1:Hid (But F w V1):=BZ.out.trans bG1 (fun b g=>.inl g);obtain⟨A3,M3,va3,vm3,ve3,tv3,hrw3,hlt3⟩:=tA1;have tv4:=tv3.apart (but_one V1 ⟨c12,4,none⟩ (.int .i64 lft)) (fun b e=>by rw [e];exact NG12.out) (fun a ha=>off_mono (hrw3.a a ha) (fun b e=>.inr e)) (fun m hm=>⟨off_mono (hrw3.m m hm).1 (fun b e=>.inr e),off_mono (hrw3.m m hm).2 (fun b e=>.inr e)⟩);have TV4:Hid (TA (V1.setCell ⟨c12,4,none⟩ (.int .i64 lft)) T G1 L u):=⟨_,_,_,_,_,tv4,⟨fun x hx=>off_mono (hrw3.a x hx) (fun b e=>.inl e),fun x hx=>⟨off_mono (hrw3.m x hx).1 (fun b e=>.inl e),off_mono (hrw3.m x hx).2 (fun b e=>.inl e)⟩⟩,fun b hb=>by have:=hlt3 b (.inl hb);simpa [World.setCell] using this⟩;have OT:=hide (others_any T G1 L u k (100000,aid,1,pr,lft) _ TV4.out sf.str sf.sums (by rw [sf.len];exact HKM.out) (by rw [has_ids sf.ids];exact HID.out) (by first | exact .inl rfl | exact .inr rfl) l0 hq1 ps hev);have BV2:Hid (But F w (V1.setCell ⟨c12,4,none⟩ (.int .i64 lft))):=BV1.out.setCell (p:=⟨c12,4,none⟩) (.inr GE12.out) _;have eV2:=heap_set eV 4 (.int .i64 lft);obtain⟨V2,hV2⟩:∃V2,V2=V1.setCell ⟨c12,4,none⟩ (.int .i64 lft):=⟨_,rfl⟩;rw [<- hV2] at OT BV2 eV2;have HV2:=hide hV2;have g4:=(blk_cell eV 4).1;have q4:=(blk_cell eV 4).2;have w0:=(blk_cell eV2 0).1;have w1:=(blk_cell eV2 1).1;have w2:=(blk_cell eV2 2).1;have w3':=(blk_cell eV2 3).1;have w4:=(blk_cell eV2 4).1;simp only [List.getElem?_toArray,List.getElem?_cons_zero,List.getElem?_cons_succ,List.setIfInBounds_toArray,List.set_cons_succ,List.set_cons_zero] at g4 w0 w1 w2 w3' w4;have OT':Hid (Calls Tryz.prog 211 #[turnP T,.int .i64 (k:Nat),odrV (100000,aid,1,pr,lft)] V2 (Ends V2 T G1 L R)):=by
       rw [hR3];exact OT.out
      clear hV2 hu hus hev hlq sf l0 ps hR3 tv3 tv4 hrw3 hlt3 TV4 eV eV2 bG1 nG1 FL OT hq1;go_wp2_with (rw [<- HV2.out]);refine OT'.out.mono ?_;rintro e V3 hE;have EE:=hide (ends_on NW1.out BV2.out hE);rcases hE with⟨t,hR3,rfl,-⟩ | ⟨r,hR3,rfl,hr0,-⟩
      ·go_wp2;go_ret;exact EE.out
      ·go_wp2;go_ret;exact EE.out
     ·have EE:Hid (Ends w T F L R (.returned (.int .i64 r)) V1):=.inr ⟨r,by have:=HRT.out;rw [hr] at this;exact this,rfl,hr0,BZ.out.trans hb (fun b g=>.inl g)⟩;clear FL hr hb;go_wp2;go_ret;exact EE.out
    ·have EE:Hid (Ends w T F L R (.returned (.int .i64 r)) Y):=by
      refine .inr ⟨r,?_,rfl,by rw [hr];exact he,.of_below (BX.trans (BY.out.mono BX.size))⟩;have:=HR1.out;unfold closeInO at this;rw [if_neg he] at this;rw [hr];exact this
     have hr0:¬r=0:=by rw [hr];exact he
     clear he hr TPY;go_wp2;go_ret;exact EE.out
  ·go_region_held3 (fun w'=>Below X.heap.size X w') (first | (with_reducible assumption) | (with_reducible exact XD.out) | (with_reducible exact XA.out) | ((with_reducible refine Below.alloc ?_ ?_ _)<;>first | (with_reducible assumption) | exact Below.size (by with_reducible assumption)) | ((with_reducible refine Below.setCell (Below.setCell ?_ ?_ _) ?_ _)<;>first | (with_reducible assumption) | exact Nat.le_refl _)) ((go_at_call 161;refine(TK.out _ ?_).mono ?_;assumption;rintro e w3 ⟨p1,n1,c1,p2,n2',c2',pf,nf,cf,lft,met,r,rfl,hb3,tp⟩;have TP:=hide tp;have hb3':Below X.heap.size X w3:=Below.trans (by assumption) (hb3.mono (Below.size (by assumption)));clear tp;try (have kn:=(by with_reducible exact XN.out w3 hb3:(w3.cell? ⟨X.heap.size,0,none⟩=some (.slice none 0 0)/\w3.frozen? ⟨X.heap.size,0,none⟩=false)/\(w3.cell? ⟨X.heap.size,1,none⟩=some (.slice none 0 0)/\w3.frozen? ⟨X.heap.size,1,none⟩=false));obtain⟨⟨z0,q0⟩,⟨z1,q1⟩⟩:=kn)));focus
    obtain⟨Y,hY⟩:∃Y,Y=w3.alloc (.cells #[.slice p1 n1 c1,.slice p2 n2' c2'] 94):=⟨_,rfl⟩;rw [<- hY];have EY:Hid (Y.heap[w3.heap.size]? = some (.cells #[.slice p1 n1 c1,.slice p2 n2' c2'] 94 (0,0))):=by show Y.heap[w3.heap.size]? = _;rw [hY];exact heap_alloc_new w3 _
    have BY:Hid (Below X.heap.size X Y):=by rw [hY];exact hb3'.alloc hb3'.size _
    have bw:But (fun _=>False) w3 Y:=by rw [hY];exact .of_below (below_alloc w3 _)
    have TPY:Hid (TakenY s k (100000,aid,-1,pr,px) Y X.heap.size p1 n1 c1 p2 n2' c2' pf nf lft r):=taken_y TP.out bw (fun a ha=>⟨ha,id⟩);have NC:Hid (X.heap.size<=w3.heap.size):=hb3'.size;clear hY hb3 hb3' bw TP x0 x1 x2 x3 x4 x5 x6 x7 XD XA XN TK;generalize w3.heap.size=c13 at *
   rotate_left;focus
    obtain⟨Y,hY⟩:∃Y,Y=(w3.setCell ⟨X.heap.size,0,none⟩ (.slice p1 n1 c1)).setCell ⟨X.heap.size,1,none⟩ (.slice p2 n2' c2'):=⟨_,rfl⟩;rw [<- hY];have eX3:=XN3.out w3 hb3;have EY:Hid (Y.heap[X.heap.size]? = some (.cells #[.slice p1 n1 c1,.slice p2 n2' c2'] 94 (0,0))):=by
     show Y.heap[X.heap.size]? = _;rw [hY];exact heap_set (heap_set eX3 0 _) 1 _
    have BY:Hid (Below X.heap.size X Y):=by rw [hY];exact(hb3'.setCell (p:=⟨X.heap.size,0,none⟩) (Nat.le_refl _) _).setCell (p:=⟨X.heap.size,1,none⟩) (Nat.le_refl _) _
    have bw:But (fun b=>b=X.heap.size) w3 Y:=by rw [hY];exact(but_one w3 ⟨X.heap.size,0,none⟩ _).setCell (p:=⟨X.heap.size,1,none⟩) (.inl rfl) _
    have TPY:Hid (TakenY s k (100000,aid,-1,pr,px) Y X.heap.size p1 n1 c1 p2 n2' c2' pf nf lft r):=taken_y TP.out bw (fun a ha=>⟨by simp at ha;omega,fun e=>by simp at ha;omega⟩);have NC:Hid (X.heap.size<=X.heap.size):=Nat.le_refl _;clear hY hb3 hb3' bw TP z0 z1 q0 q1 x0 x1 x2 x3 x4 x5 x6 x7 XD XA XN XN3 eX3 TK;generalize hc13:X.heap.size=c13 at EY NC ⊢;clear hc13
   all_goals
    rcases TPY.out with⟨he,hr,hn1,hn2,hnf,hl,o1,o2,fr,z1,z2,z3⟩ | ⟨he,hr⟩
    ·have ho:=(takeErr_zero.1 he).2;have hRt:R=match fillsR k true (takeT (mktAt s k).1 (mktAt s k).2.1 (100000,aid,-1,pr,px)).2.1 (s.setB k (takeB (mktAt s k).1 (mktAt s k).2.1 (100000,aid,-1,pr,px)) (takeA (mktAt s k).1 (mktAt s k).2.1 (100000,aid,-1,pr,px))) with | .ok t=>othersR k aid (-1) pr (takeT (mktAt s k).1 (mktAt s k).2.1 (100000,aid,-1,pr,px)).2.2.1.toNat (takeT (mktAt s k).1 (mktAt s k).2.1 (100000,aid,-1,pr,px)).2.2.1 t | .error e=>.error e:=by
      have:=HR1.out;unfold closeInO at this;rw [if_pos he] at this;exact this
     have HRT:=hide hRt;have hfok:=take_fok HS.out HKM.out ho HID.out;have hstr:=take_str HS.out HKM.out ho;have htf:=take_fact HS.out HSu.out HKM.out ho;have tvY:=TV1.out.below BY.out;have offF:∀{α:Type} {p:Option Addr} (l:List α),(∀a,p=some a->X.heap.size<=a.block)->Off F p l:=fun l hp=>.inr fun x hx f=>by have:=hp x hx;have:=TV1.out.lt _ f;omega
     have offL:∀{α:Type} {p:Option Addr} (l:List α),(∀a,p=some a->X.heap.size<=a.block)->Off (fun b=>L b\/b=c12) p l:=fun l hp=>.inr fun x hx f=>by have:=hp x hx;have:=HLT.out _ f;omega
     obtain⟨gm',cm',e',hgF,fz,m0,m1,-,-⟩:=tvY.atM hkM;cases e'
     have t1:Y.cell? ⟨T,1,none⟩=some (.slice (some ⟨gm,0,none⟩) M.length cm):=by rw [tvY.cell];rfl
     have f0:=fz (k*4);have f1:=fz (k*4+1);have y0:=(blk_cell EY.out 0).1;have y1:=(blk_cell EY.out 1).1;simp only [List.getElem?_toArray,List.getElem?_cons_zero,List.getElem?_cons_succ] at y0 y1;have PB:=tvY.putBook hkM o1 o2 (offF _ z1) (offF _ z2);rw [<- hn1,<- hn2] at PB;have BZ:Hid (But F w (((Y.setCell ⟨gm,k*4,none⟩ (.slice p1 n1 c1)).setCell ⟨gm,k*4+1,none⟩ (.slice p2 n2' c2')).drew)):=But.drew (((But.of_below (BX.trans (BY.out.mono BX.size))).setCell (p:=⟨gm,k*4,none⟩) (.inl hgF) _).setCell (p:=⟨gm,k*4+1,none⟩) (.inl hgF) _);have BYZ:Hid (But F Y (((Y.setCell ⟨gm,k*4,none⟩ (.slice p1 n1 c1)).setCell ⟨gm,k*4+1,none⟩ (.slice p2 n2' c2')).drew)):=But.drew (((But.refl F Y).setCell (p:=⟨gm,k*4,none⟩) (.inl hgF) _).setCell (p:=⟨gm,k*4+1,none⟩) (.inl hgF) _);have NF12:Hid (¬F c12):=fun f=>by have:=TA0.out.lt _ f;have:=GE12.out;omega
     have TZ:Hid (TA (((Y.setCell ⟨gm,k*4,none⟩ (.slice p1 n1 c1)).setCell ⟨gm,k*4+1,none⟩ (.slice p2 n2' c2')).drew) T F (fun b=>L b\/b=c12) (s.setB k (takeB (mktAt s k).1 (mktAt s k).2.1 (100000,aid,-1,pr,px)) (takeA (mktAt s k).1 (mktAt s k).2.1 (100000,aid,-1,pr,px)))):=⟨_,_,_,_,_,PB.below (Below.refl _ _).drew,HRW.out.setM k (offL _ z1) (offL _ z2),fun b hb=>Nat.lt_of_lt_of_le (HLT.out b hb) (Nat.le_trans BY.out.size BYZ.out.size)⟩;have FL:=hide (fill_free T F (fun b=>L b\/b=c12) _ k pf nf cf _ _ TZ.out hstr (by rw [htf.len];exact HKM.out) (hfok.1.same rfl) (by have:=HEV.out;have:=hfok.2;show s.evs.length+_<=_;omega) hnf.symm (frow_but fr BYZ.out (offF _ z3)) (offF _ z3));have EZ:Hid ((((Y.setCell ⟨gm,k*4,none⟩ (.slice p1 n1 c1)).setCell ⟨gm,k*4+1,none⟩ (.slice p2 n2' c2')).drew).heap[c12]? = some (.cells #[.int .i64 100000,.int .i64 aid,.int .i64 (-1),.int .i64 pr,.int .i64 (px)] 26 (0,0))):=blk_but (blk_below EX.out BY.out) BYZ.out NF12.out;have hkz:(k:Int)<(M.length:Int):=by omega
     have HE:=hide he;have HO:=hide ho;have HLL:=hide hl;have HFOK:=hide hfok;obtain⟨Z,hZ⟩:∃Z,Z=((Y.setCell ⟨gm,k*4,none⟩ (.slice p1 n1 c1)).setCell ⟨gm,k*4+1,none⟩ (.slice p2 n2' c2')).drew:=⟨_,rfl⟩;rw [<- hZ] at BZ TZ FL EZ;have HZ:=hide hZ;subst hr;clear hRt hfok hstr htf tvY offF offL hgF fz PB BYZ hZ he ho hl hn1 hn2 hnf o1 o2 fr z1 z2 z3 TPY;go_wp2_with fail;go_region;rw [<- HZ.out];clear HZ t1 m0 m1 f0 f1 y0 y1;go_wp2_with fail;refine FL.out.mono ?_;rintro e V1 (⟨u,hu,rfl,G1,tA1,nG1,bG1⟩ | ⟨r,hr,rfl,hr0,hb⟩)
     ·have hpre:=taken_pre HS.out HSu.out HKM.out HO.out HID.out HP.out hu;have hus:=fills_facts k true _ _ u hu (take_str HS.out HKM.out HO.out) (by rw [(take_fact HS.out HSu.out HKM.out HO.out).len];exact HKM.out) (fun f hf=>by have:=HFOK.out.1 f hf;exact⟨this.1,this.2.1,this.2.2.1.1,this.2.2.1.2⟩);have hev:u.evs.length<=900000:=by
       rw [hus.evs,List.length_append,List.length_map];have:=HEV.out;have:=HFOK.out.2;show s.evs.length+_<=_;omega
      obtain⟨sf,l0,ps,-⟩:=hpre;have hlq:=(take_fills (HS.out.at HKM.out).1 HO.out).2.1;have hq1:(takeT (mktAt s k).1 (mktAt s k).2.1 (100000,aid,-1,pr,px)).2.2.1<=1000:=by
       have:=(okOrder_pq HO.out).2.2.2;have hs0:0<=sumQ (takeT (mktAt s k).1 (mktAt s k).2.1 (100000,aid,-1,pr,px)).2.1:=by
        have:=(take_fills (HS.out.at HKM.out).1 HO.out).1;exact sumQ_pos _ (fun f hf=>by obtain⟨x,-,-,-,-,-,r,-⟩:=this f hf;exact r)
       omega
      have hR3:R=othersR k aid (-1) pr lft.toNat lft u:=by
       have:=HRT.out;rw [hu] at this;rw [HLL.out];exact this
      rw [<- HLL.out] at l0 ps hq1;have eV:=blk_but EZ.out bG1 NF12.out;have NG12:Hid (¬G1 c12):=newer_not nG1 (Array.getElem?_eq_some_iff.1 EZ.out).1 NF12.out;have NW1:Hid (Newer w F G1):=fun b hb=>(nG1 b hb).imp id (Nat.le_trans BZ.out.size);have BV1:Hid (But F w V1):=BZ.out.trans bG1 (fun b g=>.inl g);obtain⟨A3,M3,va3,vm3,ve3,tv3,hrw3,hlt3⟩:=tA1;have tv4:=tv3.apart (but_one V1 ⟨c12,4,none⟩ (.int .i64 lft)) (fun b e=>by rw [e];exact NG12.out) (fun a ha=>off_mono (hrw3.a a ha) (fun b e=>.inr e)) (fun m hm=>⟨off_mono (hrw3.m m hm).1 (fun b e=>.inr e),off_mono (hrw3.m m hm).2 (fun b e=>.inr e)⟩);have TV4:Hid (TA (V1.setCell ⟨c12,4,none⟩ (.int .i64 lft)) T G1 L u):=⟨_,_,_,_,_,tv4,⟨fun x hx=>off_mono (hrw3.a x hx) (fun b e=>.inl e),fun x hx=>⟨off_mono (hrw3.m x hx).1 (fun b e=>.inl e),off_mono (hrw3.m x hx).2 (fun b e=>.inl e)⟩⟩,fun b hb=>by have:=hlt3 b (.inl hb);simpa [World.setCell] using this⟩;have OT:=hide (others_any T G1 L u k (100000,aid,-1,pr,lft) _ TV4.out sf.str sf.sums (by rw [sf.len];exact HKM.out) (by rw [has_ids sf.ids];exact HID.out) (by first | exact .inl rfl | exact .inr rfl) l0 hq1 ps hev);have BV2:Hid (But F w (V1.setCell ⟨c12,4,none⟩ (.int .i64 lft))):=BV1.out.setCell (p:=⟨c12,4,none⟩) (.inr GE12.out) _;have eV2:=heap_set eV 4 (.int .i64 lft);obtain⟨V2,hV2⟩:∃V2,V2=V1.setCell ⟨c12,4,none⟩ (.int .i64 lft):=⟨_,rfl⟩;rw [<- hV2] at OT BV2 eV2;have HV2:=hide hV2;have g4:=(blk_cell eV 4).1;have q4:=(blk_cell eV 4).2;have w0:=(blk_cell eV2 0).1;have w1:=(blk_cell eV2 1).1;have w2:=(blk_cell eV2 2).1;have w3':=(blk_cell eV2 3).1;have w4:=(blk_cell eV2 4).1;simp only [List.getElem?_toArray,List.getElem?_cons_zero,List.getElem?_cons_succ,List.setIfInBounds_toArray,List.set_cons_succ,List.set_cons_zero] at g4 w0 w1 w2 w3' w4;have OT':Hid (Calls Tryz.prog 211 #[turnP T,.int .i64 (k:Nat),odrV (100000,aid,-1,pr,lft)] V2 (Ends V2 T G1 L R)):=by
       rw [hR3];exact OT.out
      clear hV2 hu hus hev hlq sf l0 ps hR3 tv3 tv4 hrw3 hlt3 TV4 eV eV2 bG1 nG1 FL OT hq1;go_wp2_with (rw [<- HV2.out]);refine OT'.out.mono ?_;rintro e V3 hE;have EE:=hide (ends_on NW1.out BV2.out hE);rcases hE with⟨t,hR3,rfl,-⟩ | ⟨r,hR3,rfl,hr0,-⟩
      ·go_wp2;go_ret;exact EE.out
      ·go_wp2;go_ret;exact EE.out
     ·have EE:Hid (Ends w T F L R (.returned (.int .i64 r)) V1):=.inr ⟨r,by have:=HRT.out;rw [hr] at this;exact this,rfl,hr0,BZ.out.trans hb (fun b g=>.inl g)⟩;clear FL hr hb;go_wp2;go_ret;exact EE.out
    ·have EE:Hid (Ends w T F L R (.returned (.int .i64 r)) Y):=by
      refine .inr ⟨r,?_,rfl,by rw [hr];exact he,.of_below (BX.trans (BY.out.mono BX.size))⟩;have:=HR1.out;unfold closeInO at this;rw [if_neg he] at this;rw [hr];exact this
     have hr0:¬r=0:=by rw [hr];exact he
     clear he hr TPY;go_wp2;go_ret;exact EE.out
 ·have EE:Hid (Ends w T F L R (.returned (.int .i64 be)) W2):=.inr ⟨be,by have:=HR.out;rw [if_neg hbe] at this;exact this,rfl,hbe,.of_below B2.out⟩;clear HR;go_wp2;go_ret;exact EE.out
end Go.Proofs.YthdjfhnhjiageaaGreatDoor.Vn
