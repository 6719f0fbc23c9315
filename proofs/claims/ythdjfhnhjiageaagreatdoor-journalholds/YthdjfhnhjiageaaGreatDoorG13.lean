import Derived.Test.YthdjfhnhjiageaaGreatDoorG12
set_option maxHeartbeats 8000000
set_option maxRecDepth 100000
namespace Go.Proofs.YthdjfhnhjiageaaGreatDoor.Bk
open Go.RowKit Go.Sort Go.Maps Mix
theorem grown_refl (w:World)(r:Option Nat):w.grownBy w r:=⟨rfl,rfl,rfl,Nat.le_refl _,fun _ _ _=>rfl⟩
theorem grown_trans {a b c:World}{r:Option Nat}(h:a.grownBy b r)(k:b.grownBy c r):a.grownBy c r :=
 ⟨k.os.trans h.os,k.tape.trans h.tape,k.output.trans h.output,Nat.le_trans h.size k.size,fun i hi hr=>(k.block i (Nat.lt_of_lt_of_le hi h.size) hr).trans (h.block i hi hr)⟩
theorem grown_set {a b:World}{g o:Nat}(h:a.grownBy b (some g))(v:Value):a.grownBy (b.setCell ⟨g,o,none⟩ v) (some g) :=
 ⟨h.os,h.tape,h.output,by have:=h.size;simpa [World.setCell] using this,fun i hi hr=>(Below.heap_setCell b ⟨g,o,none⟩ v i (fun e=>hr (by rw [e]))).trans (h.block i hi hr)⟩
theorem grown_cell {a b:World}{r:Option Nat}(h:a.grownBy b r){x:Addr}{v:Value}(hr:some x.block≠r)(hx:a.cell? x=some v):b.cell? x=some v :=
 (World.cell?_of_block (h.block x.block (World.block_lt_of_cell? _ _ hx) hr)).trans hx
structure KT (W0:World) (g cap n:Nat) (o:Odr) (q0:Int) (xs:List Odr) (wr:World) (p:Option Addr) (j:Nat) (Y:List Odr) (F:List Fil) (left:Int) (vF:Value):Prop where
 grown:W0.grownBy wr (some g)
 own:∃ys,OwnG wr g cap ys/\ys.length=n/\ys.drop j=Y
 ptr:Y≠[]->p=some ⟨g,j*5,none⟩
 blk:∀a,p=some a->a.block=g
 nn:p≠none
 fills:wr.ownsRow W0.heap.size 62 7 vF F.length (flatF F)
 few:F.length+Y.length<=n+1/\(0<left->F.length+Y.length<=n)
 t:TInv o q0 xs F left Y
theorem drop_len {ys:List Odr}{j n:Nat}{Y:List Odr}(hl:ys.length=n)(hd:ys.drop j=Y):Y.length=n - j:=by rw [<- hd,List.length_drop,hl]
theorem KT.ov {W0:World}{g cap n:Nat}{o:Odr}{q0:Int}{xs:List Odr}{wr:World}{p:Option Addr}{j:Nat}{Y:List Odr}{F:List Fil}{left:Int}{vF:Value}(h:KT W0 g cap n o q0 xs wr p j Y F left vF)(x:World)(hb:Below wr.heap.size wr x):OV x p (cap - j) Y:=by
 obtain⟨ys,ho,hl,hd⟩:=h.own;have hyl:=drop_len hl hd;refine⟨?_,fun e=>absurd e h.nn,by have:=ho.1;omega⟩;by_cases hY:Y=[]
 ·exact .inl hY
 ·rw [h.ptr hY];refine .inr ⟨g,j*5,rfl,?_⟩;have:=orow_drop (ownG_cells ho) j;rw [hd] at this;intro i hi k v hv;have h1:=this i hi k v hv;rw [Nat.zero_add] at h1;exact(hb.cell (World.block_lt_of_cell? _ _ h1)).trans h1
theorem KT.cells {W0:World}{g cap n:Nat}{o:Odr}{q0:Int}{xs:List Odr}{wr:World}{p:Option Addr}{j:Nat}{x:Odr}{Y:List Odr}{F:List Fil}{left:Int}{vF:Value}(h:KT W0 g cap n o q0 xs wr p j (x::Y) F left vF) :
  wr.cell? ⟨g,j*5,none⟩=some (.int .i64 (oid x))/\wr.cell? ⟨g,j*5+1,none⟩=some (.int .i64 (oac x))/\wr.cell? ⟨g,j*5+2,none⟩=some (.int .i64 (osd x))/\wr.cell? ⟨g,j*5+3,none⟩=some (.int .i64 (opr x))/\wr.cell? ⟨g,j*5+4,none⟩=some (.int .i64 (oqt x)):=by
 have hov:=h.ov wr (Below.refl _ _);rcases hov.row with e | ⟨b,off,e,hc⟩
 ·cases e
 ·rw [h.ptr (by simp)] at e
  cases e
  have:=orow_cells hc (j:=0) (by simp);simpa using this
theorem grown_of_below {a b:World}(h:Below a.heap.size a b)(r:Option Nat):a.grownBy b r:=⟨h.os,h.tape,h.output,h.size,fun k hk _=>h.block k hk⟩
theorem grown_first {a b c:World}{r:Option Nat}(h:Below a.heap.size a b)(k:b.grownBy c r):a.grownBy c r:=grown_trans (grown_of_below h r) k
theorem KT.done {w W0:World}{g cap n:Nat}{o:Odr}{q0:Int}{xs:List Odr}{wr:World}{p:Option Addr}{j:Nat}{Y:List Odr}{F:List Fil}{left:Int}{vF:Value}{T:List Odr × List Fil × Int × Bool}{m:Bool}(h:KT W0 g cap n o q0 xs wr p j Y F left vF)
  (hT:T=takes o q0 xs) (hs:takes o left Y=(Y,[],left,m)) (hb:Below w.heap.size w W0):T=(Y,F,left,m)/\OV wr p (cap - j) Y/\wr.ownsRow w.heap.size 62 7 vF F.length (flatF F)/\w.grownBy wr (some g) :=
 ⟨hT.trans (h.t.stop hs),h.ov wr (Below.refl _ _),own_base h.fills hb.size,grown_first hb h.grown⟩
theorem KT.drew {W0:World}{g cap n:Nat}{o:Odr}{q0:Int}{xs:List Odr}{wr:World}{p:Option Addr}{j:Nat}{Y:List Odr}{F:List Fil}{left:Int}{vF:Value}(h:KT W0 g cap n o q0 xs wr p j Y F left vF)(k:Nat):KT W0 g cap n o q0 xs (wr.drewN k) p j Y F left vF :=
 ⟨⟨h.grown.os,h.grown.tape,h.grown.output,h.grown.size,h.grown.block⟩,h.own,h.ptr,h.blk,h.nn,h.fills,h.few,h.t⟩
def Sev (x:World) (t:Nat):Prop:=∃u0 u1 u2 u3 u4 u5 u6,x.heap[t]? = some (.cells #[u0,u1,u2,u3,u4,u5,u6] 62 (0,0))
theorem sev_below {x y:World}{t:Nat}(h:Sev x t)(hb:Below x.heap.size x y):Sev y t:=by
 obtain⟨u0,u1,u2,u3,u4,u5,u6,h⟩:=h;exact⟨u0,u1,u2,u3,u4,u5,u6,(hb.block t (Array.getElem?_eq_some_iff.1 h).1).trans h⟩
theorem sev_facts {x:World}{t:Nat}(h:Sev x t):(∃u0 u1 u2 u3 u4 u5 u6,x.cell? ⟨t,0,none⟩=some u0/\x.cell? ⟨t,1,none⟩=some u1/\x.cell? ⟨t,2,none⟩=some u2/\x.cell? ⟨t,3,none⟩=some u3/\x.cell? ⟨t,4,none⟩=some u4/\x.cell? ⟨t,5,none⟩=some u5/\x.cell? ⟨t,6,none⟩=some u6) /\
  x.frozen? ⟨t,0,none⟩=false/\x.frozen? ⟨t,1,none⟩=false/\x.frozen? ⟨t,2,none⟩=false/\x.frozen? ⟨t,3,none⟩=false/\x.frozen? ⟨t,4,none⟩=false/\x.frozen? ⟨t,5,none⟩=false/\x.frozen? ⟨t,6,none⟩=false:=by
 obtain⟨u0,u1,u2,u3,u4,u5,u6,h⟩:=h;refine⟨⟨u0,u1,u2,u3,u4,u5,u6,?_,?_,?_,?_,?_,?_,?_⟩,?_,?_,?_,?_,?_,?_,?_⟩<;>simp [World.cell?,World.frozen?,h]
abbrev sevAt (x:World) (t:Nat) (f:Fil):World:=((((((x.setCell ⟨t,0,none⟩ (.int .i64 f.1)).setCell ⟨t,1,none⟩ (.int .i64 f.2.1)).setCell ⟨t,2,none⟩ (.int .i64 f.2.2.1)).setCell ⟨t,3,none⟩ (.int .i64 f.2.2.2.1)).setCell ⟨t,4,none⟩ (.int .i64 f.2.2.2.2.1)).setCell ⟨t,5,none⟩ (.int .i64 f.2.2.2.2.2.1)).setCell ⟨t,6,none⟩ (.int .i64 f.2.2.2.2.2.2)
theorem sev_set {x:World}{t:Nat}(h:Sev x t)(f:Fil):(sevAt x t f).heap[t]? = some (.cells (encF f).toArray 62 (0,0)):=by
 obtain⟨u0,u1,u2,u3,u4,u5,u6,h⟩:=h;simp [sevAt,World.setCell,Array.getElem?_modify,h,encF]
theorem sev_below_set {B t:Nat}{w x:World}(h:Below B w x)(ht:B<=t)(f:Fil):Below B w (sevAt x t f):=((((((h.setCell ht _).setCell ht _).setCell ht _).setCell ht _).setCell ht _).setCell ht _).setCell ht _
structure FNext (wq:World) (t9:Nat) (x:World) (f:Fil):Prop where
 bel:Below wq.heap.size wq x
 ge:wq.heap.size<=t9
 blk:x.heap[t9]? = some (.cells (encF f).toArray 62 (0,0))
theorem FNext.cells {wq x:World}{t9:Nat}{f:Fil}(h:FNext wq t9 x f):x.cell? ⟨t9,0,none⟩=some (.int .i64 f.1)/\x.cell? ⟨t9,1,none⟩=some (.int .i64 f.2.1)/\x.cell? ⟨t9,2,none⟩=some (.int .i64 f.2.2.1)/\x.cell? ⟨t9,3,none⟩=some (.int .i64 f.2.2.2.1)/\x.cell? ⟨t9,4,none⟩=some (.int .i64 f.2.2.2.2.1)/\x.cell? ⟨t9,5,none⟩=some (.int .i64 f.2.2.2.2.2.1)/\x.cell? ⟨t9,6,none⟩=some (.int .i64 f.2.2.2.2.2.2):=by
 have hb:=h.blk;refine⟨?_,?_,?_,?_,?_,?_,?_⟩<;>simp [World.cell?,hb,encF]
theorem KT.filled {W0:World}{g cap n:Nat}{o:Odr}{q0:Int}{xs:List Odr}{wq:World}{p:Option Addr}{j:Nat}{Y:List Odr}{F:List Fil}{left:Int}{vF:Value}(h:KT W0 g cap n o q0 xs wq p j Y F left vF){t9:Nat}{x5:World}{f:Fil}(hx:FNext wq t9 x5 f)(hg0:g<W0.heap.size) :
  ∀w1,(x5.alloc (.cells (encF f).toArray 62)).grownBy w1 vF.ownBlock->W0.grownBy w1 (some g)/\(∃ys,OwnG w1 g cap ys/\ys.length=n/\ys.drop j=Y)/\w1.cell? ⟨t9,6,none⟩=some (.int .i64 f.2.2.2.2.2.2):=by
 intro w1 hg;obtain⟨ys,ho,hl,hd⟩:=h.own;have hgq:=ownG_lt ho;have hlt:=fun k hk=>h.fills.lt k hk;have hbl:∀k,k<wq.heap.size->some k≠vF.ownBlock->w1.heap[k]? = wq.heap[k]?:=fun k hk hne=>by
  have hx5:=hx.bel.size;rw [hg.block k (by simp;omega) hne,Below.heap_alloc _ _ _ (by omega)];exact hx.bel.block k hk
 have hgb:some g≠vF.ownBlock:=fun e=>by
  obtain⟨h1,h2⟩:=hlt g e.symm;omega
 refine⟨⟨?_,?_,?_,?_,?_⟩,⟨ys,?_,hl,hd⟩,?_⟩
 ·exact hg.os.trans (hx.bel.os.trans h.grown.os)
 ·exact hg.tape.trans (hx.bel.tape.trans h.grown.tape)
 ·exact hg.output.trans (hx.bel.output.trans h.grown.output)
 ·have e1:=hg.size;have e2:(x5.alloc (.cells (encF f).toArray 62)).heap.size=x5.heap.size+1:=by simp
  have e3:=hx.bel.size;have e4:=h.grown.size;omega
 ·intro k hk hne;have hks:=h.grown.size;rw [hbl k (by omega) (fun e=>by have:=(hlt k e.symm).1;omega)];exact h.grown.block k hk hne
 ·obtain⟨h0,cur,h1,h2⟩:=ho;exact⟨h0,cur,(hbl g hgq hgb).trans h1,h2⟩
 ·have hb9:t9<x5.heap.size:=(Array.getElem?_eq_some_iff.1 hx.blk).1;have e:w1.heap[t9]? = x5.heap[t9]?:=by
   rw [hg.block t9 (by simp;omega) (fun e=>by have:=(hlt t9 e.symm).2;have:=hx.ge;omega),Below.heap_alloc _ _ _ hb9]
  exact(World.cell?_of_block (a:=⟨t9,6,none⟩) e).trans hx.cells.2.2.2.2.2.2
theorem flat_set4:∀(ys:List Odr)(i:Nat)(x:Odr)(Y:List Odr)(qq:Int),ys.drop i=x::Y->flat (ys.set i (less x qq))=(flat ys).set (i*5+4) (.int .i64 (oqt x - qq))/\(ys.set i (less x qq)).drop i=less x qq::Y
 |[],i,x,Y,qq,h=>by simp at h
 |y::ys,0,x,Y,qq,h=>by
  simp only [List.drop_zero] at h;cases h
  constructor
  ·simp [flat_cons,enc,less]
  ·simp
 |y::ys,i+1,x,Y,qq,h=>by
  rw [List.drop_succ_cons] at h;obtain⟨h1,h2⟩:=flat_set4 ys i x Y qq h
  constructor
  ·rw [List.set_cons_succ,flat_cons,flat_cons,h1,show (i+1)*5+4=5+(i*5+4) by omega,set5]
  ·rw [List.set_cons_succ,List.drop_succ_cons];exact h2
def OwnJ (w:World) (g cap n j:Nat) (Y:List Odr):Prop:=∃ys,OwnG w g cap ys/\ys.length=n/\ys.drop j=Y
theorem ownJ_head {w:World}{g cap n j:Nat}{x:Odr}{Y:List Odr}(h:OwnJ w g cap n j (x::Y)):w.cell? ⟨g,j*5+4,none⟩=some (.int .i64 (oqt x))/\w.frozen? ⟨g,j*5+4,none⟩=false/\j<n:=by
 obtain⟨ys,ho,hl,hd⟩:=h;have hj:j<ys.length:=by
  rcases Nat.lt_or_ge j ys.length with e | e
  ·exact e
  ·rw [List.drop_eq_nil_of_le e] at hd;cases hd
 have hyj:ys[j]! = x:=by
  have:=List.drop_eq_getElem_cons hj;rw [hd] at this;rw [getElem!_pos ys j hj];exact(List.cons.inj this).1.symm
 have hc:=(orow_cells (ownG_cells ho) hj).2.2.2.2;rw [hyj,Nat.zero_add] at hc;exact⟨hc,(ownG_some ho (by have:=ho.1;omega)).2,by omega⟩
theorem ownJ_less {w:World}{g cap n j:Nat}{x:Odr}{Y:List Odr}(h:OwnJ w g cap n j (x::Y))(qq:Int):OwnJ (w.setCell ⟨g,j*5+4,none⟩ (.int .i64 (oqt x - qq))) g cap n j (less x qq::Y):=by
 obtain⟨ys,ho,hl,hd⟩:=h;obtain⟨f1,f2⟩:=flat_set4 ys j x Y qq hd;obtain⟨h0,cur,h1,h2,h3⟩:=ho;refine⟨ys.set j (less x qq),⟨by rw [List.length_set];exact h0,cur.setIfInBounds (j*5+4) (.int .i64 (oqt x - qq)),?_,by simpa using h2,?_⟩,by rw [List.length_set];exact hl,f2⟩
 ·simp [World.setCell,Array.getElem?_modify,h1]
 ·rw [List.length_set,f1,<- h3];simp [List.take_set]
theorem ownJ_next {w:World}{g cap n j:Nat}{x:Odr}{Y:List Odr}(h:OwnJ w g cap n j (x::Y)):OwnJ w g cap n (j+1) Y:=by
 obtain⟨ys,ho,hl,hd⟩:=h;refine⟨ys,ho,hl,?_⟩;have:=congrArg List.tail hd;rwa [List.tail_drop] at this
theorem takeFrom_own (g cap:Nat)(xs:List Odr)(a ac sd pr q:Int)(w:World)(h:OwnG w g cap xs)(hn:xs.length<=1000)(hx:∀x,x∈xs->1<=oqt x/\oqt x<=1000)(hq:0<=q)(hq2:q<=1000) :
  Calls Tryz.prog 196 #[.slice (some ⟨g,0,none⟩) xs.length cap,.agg #[.int .i64 a,.int .i64 ac,.int .i64 sd,.int .i64 pr,.int .i64 q]] w fun e w' =>
   ∃p c vF,e=.returned (.tuple #[.slice p (takes (a,ac,sd,pr,q) q xs).1.length c,vF,.int .i64 (takes (a,ac,sd,pr,q) q xs).2.2.1,.bool (takes (a,ac,sd,pr,q) q xs).2.2.2])/\OV w' p c (takes (a,ac,sd,pr,q) q xs).1 /\
    w'.ownsRow w.heap.size 62 7 vF (takes (a,ac,sd,pr,q) q xs).2.1.length (flatF (takes (a,ac,sd,pr,q) q xs).2.1)/\w.grownBy w' (some g)/\(∀ad,p=some ad->ad.block=g):=by
 have mixed:Tryz.prog.follows .mixedOrders=true:=by kernel_rfl
 obtain⟨i0,hi,hz0,hz1,hz2⟩:=info_parts Tryz.infoF;have hgw:=ownG_lt h;obtain⟨n,hxn⟩:∃n,xs.length=n:=⟨_,rfl⟩;rw [hxn] at hn;rw [hxn];have hcap:n<=cap:=by rw [<- hxn];exact h.1
 have O:=hide h;have TS:=hide (TInv.start (o:=(a,ac,sd,pr,q)) hq hx);have N:=hide hxn;obtain⟨T,hT⟩:∃T,T=takes (a,ac,sd,pr,q) q xs:=⟨_,rfl⟩;rw [<- hT];have HT:=hide hT;clear h hx hxn hT;go_enter Tryz.func196,Tryz.ntmps196;go_wp2_with fail;refine(crossing_any _ _ _ _ _ _).mono ?_;rintro e W0 ⟨fid,rfl,XF,rfl⟩;obtain⟨W0,hW0⟩:∃W0,W0=(w.alloc (.cells #[.int .i64 a,.int .i64 ac,.int .i64 sd,.int .i64 pr,.int .i64 q] 26)).alloc (.cells #[.int .i64 a,.int .i64 ac,.int .i64 sd,.int .i64 pr,.int .i64 q] 26):=⟨_,rfl⟩;have bw:=((Below.refl w.heap.size w).alloc (Nat.le_refl _) (.cells #[.int .i64 a,.int .i64 ac,.int .i64 sd,.int .i64 pr,.int .i64 q] 26)).alloc (by simp) (.cells #[.int .i64 a,.int .i64 ac,.int .i64 sd,.int .i64 pr,.int .i64 q] 26);rw [<- hW0] at bw;have B0:=hide bw;have d0:W0.cell? ⟨w.heap.size,0,none⟩=some (.int .i64 a):=by rw [hW0];exact cell_alloc (new_cell _ _ _ _ _ rfl) _
 have d1:W0.cell? ⟨w.heap.size,1,none⟩=some (.int .i64 ac):=by rw [hW0];exact cell_alloc (new_cell _ _ _ _ _ rfl) _
 have d2:W0.cell? ⟨w.heap.size,2,none⟩=some (.int .i64 sd):=by rw [hW0];exact cell_alloc (new_cell _ _ _ _ _ rfl) _
 have d3:W0.cell? ⟨w.heap.size,3,none⟩=some (.int .i64 pr):=by rw [hW0];exact cell_alloc (new_cell _ _ _ _ _ rfl) _
 have d4:W0.cell? ⟨w.heap.size,4,none⟩=some (.int .i64 q):=by rw [hW0];exact cell_alloc (new_cell _ _ _ _ _ rfl) _
 have d5:Hid (W0.cell? ⟨w.heap.size+1,3,none⟩=some (.int .i64 pr)):=by rw [hW0];exact new_cell2 _ _ _ _ _ _ rfl
 have OW:=hide (ownG_below O.out bw hgw);have ST:Hid (KT W0 g cap n (a,ac,sd,pr,q) q xs W0 (some ⟨g,0,none⟩) 0 xs [] q (.slice none 0 0)):=by
  refine⟨grown_refl _ _,⟨xs,OW.out,N.out,rfl⟩,fun _=>by simp,fun a ha=>by cases ha;rfl,by simp,World.ownsRow_nil _ _ _ _,?_,TS.out⟩;rw [N.out];simp
 have eg:=XF.enters;have XT:=hide XF.tells;have EW:=hide hW0;clear bw hW0 OW O TS XF;go_wp2;rw [<- EW.out];clear EW;have D0:=hide d0;have D1:=hide d1;have D2:=hide d2;have D3:=hide d3;have D4:=hide d4;clear d0 d1 d2 d3 d4
 have DC:Hid (∀wr,W0.grownBy wr (some g)->wr.cell? ⟨w.heap.size,0,none⟩=some (.int .i64 a)/\wr.cell? ⟨w.heap.size,1,none⟩=some (.int .i64 ac)/\wr.cell? ⟨w.heap.size,2,none⟩=some (.int .i64 sd)/\wr.cell? ⟨w.heap.size,3,none⟩=some (.int .i64 pr)/\wr.cell? ⟨w.heap.size,4,none⟩=some (.int .i64 q)/\wr.cell? ⟨w.heap.size+1,3,none⟩=some (.int .i64 pr)):=fun wr hg =>
  ⟨grown_cell hg (by simp;omega) D0.out,grown_cell hg (by simp;omega) D1.out,grown_cell hg (by simp;omega) D2.out,grown_cell hg (by simp;omega) D3.out,grown_cell hg (by simp;omega) D4.out,grown_cell hg (by simp;omega) d5.out⟩
 clear D0 D1 D2 D3 D4 d5
 go_loopw [0,5,6] (fun l f t wr=>∃(p:Option Addr) (j m:Nat) (Y:List Odr) (F:List Fil) (left:Int),l=.slice p m (cap - j)/\t=.int .i64 left/\Hid (Y.length=m)/\Hid (KT W0 g cap n (a,ac,sd,pr,q) q xs wr p j Y F left f)) (fun l _ t _=>sliceLen l+(intOf t).toNat)
 case atStart=>exact⟨some ⟨g,0,none⟩,0,n,xs,[],q,rfl,rfl,N,ST⟩
 case round =>
  clear ST;obtain⟨p,j,m,Y,F,left,rfl,rfl,M,K⟩:=hrel;obtain⟨c0,c1,c2,c3,c4,c5⟩:=DC.out wr K.out.grown;have XC:=hide (fun price=>XT.out price _ _ c5);have hl2:=Int.le_trans K.out.t.le hq2;by_cases hl:0<left
  ·cases Y with
   |nil =>
    have hm0:m=0:=M.out.symm;subst hm0;go_wp2;obtain⟨rfl,q1,q2,q3⟩:=K.out.done HT.out (takes_nil _ _) B0.out;refine bodyPost_ret (v:=.tuple #[.slice p 0 (cap - j),u5,.int .i64 left,.bool false]) (by simp [results,Tryz.results196,go_sem]) rfl ⟨p,cap - j,u5,?_,q1,q2,q3,K.out.blk⟩;first | rfl | rw [<- M.out]
   |cons x Y =>
    have hm1:(0:Int)<(m:Int):=by rw [<- M.out];simp
    obtain⟨e0,e1,e2,e3,e4⟩:=K.out.cells;have hp:p=some ⟨g,j*5,none⟩:=K.out.ptr (by simp);subst hp;by_cases hxe:xes (a,ac,sd,pr,q) (opr x)=true
    ·by_cases hac:oac x=ac;focus
      have hcb:(oac x == ac)=true:=by simp [hac]
      have hxo:=takes_own (o:=(a,ac,sd,pr,q)) (l:=Y) hl hxe hac;have HO:=hide hxo;clear hxo
     rotate_left;focus
      have hcb:(oac x == ac)=false:=by simp [hac]
     rotate_left;all_goals
      go_wp2_with fail;refine(XC.out _).mono ?_;rintro e w' ⟨rfl,hw'⟩;rw [hw'];clear hw' w';rw [hxe];go_wp2_with fail;go_quiet (fail)
     ·have K2:Hid (KT W0 g cap n (a,ac,sd,pr,q) q xs (wr.drewN nq) (some ⟨g,j*5,none⟩) j (x::Y) F left u5):=hide (K.out.drew nq);clear K;have K:=K2;clear K2 e0 e1 e2 e3 e4 c0 c1 c2 c3 c4 c5;go_wp2;obtain⟨rfl,q1,q2,q3⟩:=K.out.done HT.out (HO.out) B0.out;refine bodyPost_ret (v:=.tuple #[.slice (some ⟨g,j*5,none⟩) m (cap - j),u5,.int .i64 left,.bool true]) (by simp [results,Tryz.results196,go_sem]) rfl ⟨(some ⟨g,j*5,none⟩),cap - j,u5,?_,q1,q2,q3,K.out.blk⟩;first | rfl | rw [<- M.out]
     ·obtain⟨wq,hwq⟩:∃wq,wq=wr.drewN nq:=⟨_,rfl⟩;have K2:Hid (KT W0 g cap n (a,ac,sd,pr,q) q xs wq (some ⟨g,j*5,none⟩) j (x::Y) F left u5):=by rw [hwq];exact hide (K.out.drew nq)
      rw [<- hwq];clear K XC e0 e1 e2 e3 e4 c0 c1 c2 c3 c4 c5 hwq nq wr;have K:=K2;clear K2;have HXE:=hide hxe;have HAC:=hide hac;clear hxe hac hcb;have hqx:=K.out.t.qty x (by simp);obtain⟨xa,xac,xsd,xpr,xq⟩:=x;dsimp only [oid,oac,osd,opr,oqt] at hqx;obtain⟨c0,c1,c2,c3,c4,c5⟩:=DC.out wq K.out.grown;obtain⟨e0,e1,e2,e3,e4⟩:=K.out.cells;dsimp only [oid,oac,osd,opr,oqt] at e0 e1 e2 e3 e4;obtain⟨C,hCC⟩:∃C:World->Prop,C=(fun x=>Below wq.heap.size wq x):=⟨_,rfl⟩;have CR:Hid (∀x,C x↔Below wq.heap.size wq x):=fun x=>by rw [hCC]
      have C0:Hid (C { wq with drawn:=wq.drawn+1 }):=by rw [hCC];exact below_drawn wq
      have hC:∀z:InC C,∀ad v,wq.cell? ad=some v->z.w.cell? ad=some v:=fun z ad v hv=>(((CR.out z.w).1 z.h).cell (World.block_lt_of_cell? _ _ hv)).trans hv;have k0:=fun z=>hC z _ _ c0;have k1:=fun z=>hC z _ _ c1;have k2:=fun z=>hC z _ _ c2;have k3:=fun z=>hC z _ _ c3;have k4:=fun z=>hC z _ _ c4;have i0':=fun z=>hC z _ _ e0;have i1:=fun z=>hC z _ _ e1;have i2:=fun z=>hC z _ _ e2;have i3:=fun z=>hC z _ _ e3;have i4:=fun z=>hC z _ _ e4;clear hC hCC c0 c1 c2 c3 c4 c5 e0 e1 e2 e3 e4;obtain⟨qq,hqq⟩:∃v,v=min xq left:=⟨_,rfl⟩;obtain⟨f,hf⟩:∃f,f=fillOf (xa,xac,xsd,xpr,xq) (a,ac,sd,pr,q) qq:=⟨_,rfl⟩;have HF:=hide hf;have F6:Hid (f.2.2.2.2.2.2=qq):=by rw [hf];rfl
      have FC:=fun W=>fill_any xa xac xsd xpr xq a ac sd pr q qq W;rw [<- hf] at FC;clear hf;go_wp2_with fail;refine wp_region_tree (.still 0 (.still 1 (.still 2 (.still 3 (.still 4 (.still 5 (.still 6 (.still 7 (.still 8 (.still 9 (.fork 10 (.main 11 (.main 12 .done)) 11 (.main 10 (.main 12 .done))))))))))))) C mixed (by kernel_rfl) C0.out ?_;repeat (refine mixT_still (by rfl) ?_;go_big_quiet_step (exact rfl);refine wpQuiet_nil ?_)
      rw [<- hqq];have HQ:=hide hqq;have hq1:1<=qq/\qq<=left/\qq<=xq:=by omega
      obtain⟨hq1,hq2',hq3⟩:=hq1;clear hqq;refine mixT_fork (by rfl) (by rfl) ?_ ?_;focus
       rintro ⟨x1,hx1⟩;dsimp only;have bx1:=hide ((CR.out x1).1 hx1);go_wp2_with fail;refine(FC _).mono ?_;rintro e w2' ⟨rfl,b2⟩;go_wp2;refine⟨C,(CR.out _).2 (bx1.out.trans (b2.mono bx1.out.size)),fun x hx=>hx,?_⟩;clear b2 bx1 hx1 x1 w2';refine mixT_main (by rfl) ?_;rintro ⟨x2,hx2⟩;dsimp only;have hx2':=hide ((CR.out x2).1 hx2);go_wp2;have al:=(Below.refl x2.heap.size x2).alloc (Nat.le_refl _) (.cells #[.int .i64 0,.int .i64 0,.int .i64 0,.int .i64 0,.int .i64 0,.int .i64 0,.int .i64 0] 62);refine⟨fun x=>C x/\Sev x x2.heap.size,⟨(CR.out _).2 (hx2'.out.trans (al.mono hx2'.out.size)),⟨_,_,_,_,_,_,_,heap_alloc_new _ _⟩⟩,fun x hx=>hx.1,?_⟩;have ge9:Hid (wq.heap.size<=x2.heap.size):=hx2'.out.size;generalize x2.heap.size=t9 at ge9 ⊢;clear al hx2' hx2 x2;obtain⟨C2,hC2⟩:∃C2:World->Prop,C2=(fun x=>C x/\Sev x t9):=⟨_,rfl⟩;rw [<- hC2];have K2:Hid (∀x,C2 x↔C x/\Sev x t9):=fun x=>by rw [hC2]
       clear hC2
      rotate_left;focus
       rintro ⟨x1,hx1⟩;dsimp only;have hx1':=hide ((CR.out x1).1 hx1);go_wp2;have al:=(Below.refl x1.heap.size x1).alloc (Nat.le_refl _) (.cells #[.int .i64 0,.int .i64 0,.int .i64 0,.int .i64 0,.int .i64 0,.int .i64 0,.int .i64 0] 62);refine⟨fun x=>C x/\Sev x x1.heap.size,⟨(CR.out _).2 (hx1'.out.trans (al.mono hx1'.out.size)),⟨_,_,_,_,_,_,_,heap_alloc_new _ _⟩⟩,fun x hx=>hx.1,?_⟩;have ge9:Hid (wq.heap.size<=x1.heap.size):=hx1'.out.size;generalize x1.heap.size=t9 at ge9 ⊢;clear al hx1' hx1 x1;obtain⟨C2,hC2⟩:∃C2:World->Prop,C2=(fun x=>C x/\Sev x t9):=⟨_,rfl⟩;rw [<- hC2];have K2:Hid (∀x,C2 x↔C x/\Sev x t9):=fun x=>by rw [hC2]
       clear hC2;refine mixT_main (by rfl) ?_;rintro ⟨x2,hx2⟩;dsimp only;have hx2':=hide ((K2.out x2).1 hx2);have bx2:=hide ((CR.out x2).1 hx2'.out.1);go_wp2_with fail;refine(FC _).mono ?_;rintro e w2' ⟨rfl,b2⟩;go_wp2;refine⟨C2,(K2.out _).2 ⟨(CR.out _).2 (bx2.out.trans (b2.mono bx2.out.size)),sev_below hx2'.out.2 b2⟩,fun x hx=>hx,?_⟩;clear b2 bx2 hx2' hx2 x2 w2'
      all_goals
       refine mixT_main (by rfl) ?_;rintro ⟨x3,hx3⟩;dsimp only;obtain⟨z1,z2⟩:=(K2.out x3).1 hx3;have v1:=(CR.out x3).1 z1;obtain⟨⟨u0,u1,u2,u3,u4',u5',u6,t0,t1,t2,t3,t4,t5,t6⟩,s0,s1,s2,s3,s4,s5,s6⟩:=sev_facts z2;have S1:=hide (sev_set z2 f);have S2:Hid (C2 (sevAt x3 t9 f)):=(K2.out _).2 ⟨(CR.out _).2 (sev_below_set v1 ge9.out f),⟨_,_,_,_,_,_,_,S1.out⟩⟩;clear z1 z2 v1 hx3;go_wp2;refine⟨fun x=>C2 x/\x.heap[t9]? = some (.cells (encF f).toArray 62 (0,0)),⟨S2.out,S1.out⟩,fun x hx=>hx.1,?_⟩;clear S1 S2 t0 t1 t2 t3 t4 t5 t6 s0 s1 s2 s3 s4 s5 s6 x3;refine mixT_end ?_;rintro ⟨x5,hx5⟩;dsimp only;have NX:Hid (FNext wq t9 x5 f):=⟨(CR.out x5).1 ((K2.out x5).1 hx5.1).1,ge9.out,hx5.2⟩;clear hx5 K2 C2 ge9 CR C0 k0 k1 k2 k3 k4 i0' i1 i2 i3 i4 C;obtain⟨y0,y1,y2,y3,y4,y5,y6⟩:=NX.out.cells;have bxa:=NX.out.bel.alloc NX.out.bel.size (.cells (encF f).toArray 62);have OF:=hide (own_below K.out.fills bxa);have NW:Hid (∀jj u,(encF f)[jj]? = some u->(x5.alloc (.cells (encF f).toArray 62)).cell? ((⟨x5.heap.size,0,none⟩:Addr).add jj)=some u):=fun jj u hu=>by
        rw [add_lit,Nat.zero_add];exact new_cell x5 (encF f).toArray _ jj u (by simpa using hu)
       have hFn:F.length<=1001:=by have:=K.out.few.1;omega
       have hbs:W0.heap.size<=(x5.alloc (.cells (encF f).toArray 62)).heap.size:=Nat.le_trans K.out.grown.size bxa.size;have FL:=K.out.filled NX.out (Nat.lt_of_lt_of_le hgw B0.out.size);simp only [F6.out] at FL;clear bxa;go_wp2_with (at_builtin;refine wpList_append_own _ rfl _ _ 183 rfl W0.heap.size 62 i0 (filV noFil) 7 56 Tryz.underlying183 hi hz0 hz1 hz2 rfl (by decide) _ F.length (flatF F) rfl OF.out ⟨x5.heap.size,0,none⟩ 1 1 (encF f) rfl rfl NW.out (encF_cell f) (by unfold maxLen;omega) (by omega) hbs ?_;intro v' w1 hown1 hgrow1 hnil1;have hfl:=FL w1 hgrow1;have z6:=hfl.2.2;clear y0 y1 y2 y3 y4 y5 y6);have OJ:Hid (OwnJ w1 g cap n j ((xa,xac,xsd,xpr,xq)::Y)):=hfl.2.1;have G1:=hide hfl.1;obtain⟨j4,j5,j6⟩:=ownJ_head OJ.out;dsimp only [oqt] at j4;have OL:=hide (ownJ_less OJ.out qq);dsimp only [oqt] at OL;have OF1:=hide hown1;clear hfl FL hown1 hgrow1 hnil1 OF NW hbs NX;go_region;obtain⟨w2,hw2⟩:∃w2,w2=(w1.setCell ⟨g,j*5+4,none⟩ (.int .i64 (xq - qq))).drew:=⟨_,rfl⟩;rw [<- hw2];have OL2:Hid (OwnJ w2 g cap n j (less (xa,xac,xsd,xpr,xq) qq::Y)):=by rw [hw2];exact OL.out
       have G2:Hid (W0.grownBy w2 (some g)):=by
        rw [hw2];have:=grown_set (o:=j*5+4) G1.out (.int .i64 (xq - qq));exact⟨this.os,this.tape,this.output,this.size,this.block⟩
       have OF2:Hid (w2.ownsRow W0.heap.size 62 7 v' (F.length+1) (flatF F++encF f)):=by
        rw [hw2];exact ownsRow_setCell_below OF1.out (Nat.lt_of_lt_of_le hgw B0.out.size) _
       have OF3:Hid (w2.ownsRow W0.heap.size 62 7 v' (F++[f]).length (flatF (F++[f]))):=by
        rw [List.length_append,flatF_append,flatF_one];exact OF2
       have r4:=(ownJ_head OL2.out).1;dsimp only [oqt,less] at r4;have hm:Y.length+1=m:=M.out;have hjl:Hid (Y.length+1=n - j):=by
        obtain⟨ys,_,hl',hd'⟩:=K.out.own;exact drop_len hl' hd'
       clear hw2 OL OF1 OF2 G1 OJ j4 j5 z6;by_cases hqt:xq<=left
       ·have hqe:Hid (qq=xq):=by have:=HQ.out;show qq=xq;omega
        have hz:xq - qq=0:=by have:=hqe.out;omega
        rw [hz] at r4;have hs:=fun x=>slice_from (p:=some ⟨g,j*5,none⟩) (n:=m) (c:=cap - j) (k:=1) (by omega) x;rw [Option.map_some,add_lit] at hs;obtain⟨p1,hp1⟩:∃p1,p1=(if cap - j=1 then some (⟨g,j*5,none⟩:Addr) else some ⟨g,j*5+1*5,none⟩):=⟨_,rfl⟩;rw [<- hp1] at hs;have HP:=hide hp1;clear hp1;have NK:Hid (KT W0 g cap n (a,ac,sd,pr,q) q xs w2 p1 (j+1) Y (F++[f]) (left - qq) v'):=by
         refine⟨G2.out,ownJ_next OL2.out,?_,?_,?_,OF3.out,?_,?_⟩
         ·intro hY;have hp1:=HP.out;have:0<Y.length:=List.length_pos_iff.2 hY;have:=hjl.out;rw [if_neg (by omega)] at hp1;rw [hp1];congr 2;omega
         ·intro ad ha;have hp1:=HP.out;rw [hp1] at ha;split at ha<;>cases ha<;>rfl
         ·have hp1:=HP.out;rw [hp1];split<;>simp
         ·have:=K.out.few.2 hl;simp only [List.length_cons] at this;rw [List.length_append,List.length_singleton];omega
         ·have:=K.out.t.full hl HXE.out HAC.out hqt;rw [HF.out,hqe.out];exact this
        have e1:Hid (cap - j-1=cap - (j+1)):=by show cap - j-1=cap - (j+1);omega
        rw [e1.out] at hs;have hs':∀x,Sem.run Tryz.prog (Instr.sliceAt 92 (.slice (some ⟨g,j*5,none⟩) m (cap - j)) (some (.int .i64 1)) none none) x=.ok (.slice p1 (m-1) (cap - (j+1))) x:=hs;clear hs hz;go_wp2;go_roundw
        case rel=>exact⟨p1,j+1,m-1,Y,F++[f],left - qq,rfl,rfl,by show Y.length=m-1;omega,NK⟩
        case measure=>simp [sliceLen,intOf];omega
       ·have hqe:Hid (qq=left):=by have:=HQ.out;show qq=left;omega
        have hz:(xq - qq == 0)=false:=by have:=hqe.out;simp;omega
        have NK:Hid (KT W0 g cap n (a,ac,sd,pr,q) q xs w2 (some ⟨g,j*5,none⟩) j (less (xa,xac,xsd,xpr,xq) qq::Y) (F++[f]) (left - qq) v'):=by
         refine⟨G2.out,OL2.out,fun _=>rfl,fun ad ha=>by cases ha;rfl,by simp,OF3.out,?_,?_⟩
         ·have:=K.out.few.2 hl;have:=hqe.out;simp only [List.length_cons] at *;rw [List.length_append,List.length_singleton];omega
         ·have:=K.out.t.part hl HXE.out HAC.out hqt;rw [HF.out,hqe.out,Int.sub_self];exact this
        go_wp2;go_roundw
        case rel=>exact⟨_,j,m,_,F++[f],left - qq,rfl,rfl,by show Y.length+1=m;omega,NK⟩
        case measure=>simp [sliceLen,intOf];omega
    ·have hxf:xes (a,ac,sd,pr,q) (opr x)=false:=by simpa using hxe
     go_wp2_with fail;refine(XC.out _).mono ?_;rintro e w' ⟨rfl,hw'⟩;rw [hw'];clear hw' w';rw [hxf];go_wp2;obtain⟨rfl,q1,q2,q3⟩:=K.out.done HT.out (takes_stop (fun e=>hxe e.2)) B0.out;refine bodyPost_ret (v:=.tuple #[.slice (some ⟨g,j*5,none⟩) m (cap - j),u5,.int .i64 left,.bool false]) (by simp [results,Tryz.results196,go_sem]) rfl ⟨(some ⟨g,j*5,none⟩),cap - j,u5,?_,q1,q2,q3,K.out.blk⟩;first | rfl | rw [<- M.out]
  ·go_wp2;obtain⟨rfl,q1,q2,q3⟩:=K.out.done HT.out (takes_zero _ (by omega)) B0.out;refine bodyPost_ret (v:=.tuple #[.slice p m (cap - j),u5,.int .i64 left,.bool false]) (by simp [results,Tryz.results196,go_sem]) rfl ⟨p,cap - j,u5,?_,q1,q2,q3,K.out.blk⟩;first | rfl | rw [<- M.out]
end Go.Proofs.YthdjfhnhjiageaaGreatDoor.Bk
