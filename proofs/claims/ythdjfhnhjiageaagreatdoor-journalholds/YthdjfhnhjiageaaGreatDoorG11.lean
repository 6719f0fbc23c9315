import Derived.Test.YthdjfhnhjiageaaGreatDoorG10
set_option maxHeartbeats 8000000
set_option maxRecDepth 100000
namespace Go.Proofs.YthdjfhnhjiageaaGreatDoor.Bk
open Go.RowKit Go.Sort Go.Maps Mix
def Five (x:World) (t:Nat):Prop:=∃u0 u1 u2 u3 u4,x.heap[t]? = some (.cells #[u0,u1,u2,u3,u4] 26 (0,0))
theorem five_below {x y:World}{t:Nat}(h:Five x t)(hb:Below x.heap.size x y):Five y t:=by
 obtain⟨u0,u1,u2,u3,u4,h⟩:=h;exact⟨u0,u1,u2,u3,u4,(hb.block t (Array.getElem?_eq_some_iff.1 h).1).trans h⟩
theorem five_lt {x:World}{t:Nat}(h:Five x t):t<x.heap.size:=by
 obtain⟨_,_,_,_,_,h⟩:=h;exact(Array.getElem?_eq_some_iff.1 h).1
theorem five_facts {x:World}{t:Nat}(h:Five x t):(∃u0 u1 u2 u3 u4,x.cell? ⟨t,0,none⟩=some u0/\x.cell? ⟨t,1,none⟩=some u1/\x.cell? ⟨t,2,none⟩=some u2/\x.cell? ⟨t,3,none⟩=some u3/\x.cell? ⟨t,4,none⟩=some u4) /\
  x.frozen? ⟨t,0,none⟩=false/\x.frozen? ⟨t,1,none⟩=false/\x.frozen? ⟨t,2,none⟩=false/\x.frozen? ⟨t,3,none⟩=false/\x.frozen? ⟨t,4,none⟩=false:=by
 obtain⟨u0,u1,u2,u3,u4,h⟩:=h;refine⟨⟨u0,u1,u2,u3,u4,?_,?_,?_,?_,?_⟩,?_,?_,?_,?_,?_⟩<;>simp [World.cell?,World.frozen?,h]
abbrev five (x:World) (t:Nat) (v0 v1 v2 v3 v4:Value):World:=((((x.setCell ⟨t,0,none⟩ v0).setCell ⟨t,1,none⟩ v1).setCell ⟨t,2,none⟩ v2).setCell ⟨t,3,none⟩ v3).setCell ⟨t,4,none⟩ v4
theorem five_heap {x:World}{t:Nat}(h:Five x t)(v0 v1 v2 v3 v4:Value):(five x t v0 v1 v2 v3 v4).heap[t]? = some (.cells #[v0,v1,v2,v3,v4] 26 (0,0)):=by
 obtain⟨u0,u1,u2,u3,u4,h⟩:=h;simp [five,World.setCell,Array.getElem?_modify,h]
theorem five_set {x:World}{t:Nat}(h:Five x t)(v0 v1 v2 v3 v4:Value):(five x t v0 v1 v2 v3 v4).cell? ⟨t,0,none⟩=some v0/\(five x t v0 v1 v2 v3 v4).cell? ⟨t,1,none⟩=some v1/\(five x t v0 v1 v2 v3 v4).cell? ⟨t,2,none⟩=some v2/\(five x t v0 v1 v2 v3 v4).cell? ⟨t,3,none⟩=some v3/\(five x t v0 v1 v2 v3 v4).cell? ⟨t,4,none⟩=some v4:=by
 have h1:=five_heap h v0 v1 v2 v3 v4;refine⟨?_,?_,?_,?_,?_⟩<;>simp only [World.cell?,h1]<;>simp
theorem five_below_set {B t:Nat}{w x:World}(h:Below B w x)(ht:B<=t)(v0 v1 v2 v3 v4:Value):Below B w (five x t v0 v1 v2 v3 v4):=((((h.setCell ht _).setCell ht _).setCell ht _).setCell ht _).setCell ht _
theorem five_made (w:World)(o1:Obj)(u0 u1 u2 u3 u4:Value):Five ((w.alloc o1).alloc (.cells #[u0,u1,u2,u3,u4] 26)) (w.heap.size+1) :=
 ⟨u0,u1,u2,u3,u4,by have:=heap_alloc_new (w.alloc o1) (.cells #[u0,u1,u2,u3,u4] 26);simpa using this⟩
theorem box2_a {w W:World}{cs:Array Value}{t:TypeId}{o2:Obj}(hb:Below ((w.alloc (.cells cs t)).alloc o2).heap.size ((w.alloc (.cells cs t)).alloc o2) W){i:Nat}{v:Value}(h:cs[i]? = some v):W.cell? ⟨w.heap.size,i,none⟩=some v:=by
 have:=cell_alloc (new_cell w cs t i v h) o2;exact(hb.cell (World.block_lt_of_cell? _ _ this)).trans this
def findO (bids asks:List Odr) (id:Int):Odr:=if bookErr bids asks=0 then (findIn id bids asks).getD noOdr else noOdr
def findE (bids asks:List Odr) (id:Int):Int:=if bookErr bids asks=0 then (findIn id bids asks).elim 5 (fun _=>0) else bookErr bids asks
theorem idx2_0 (u v:Value)(w:World):Sem.run Tryz.prog (Instr.index 146 (.agg #[u,v]) (.int .i64 0)) w=.ok u w:=by
 have h1:=Tryz.underlying146;have h2:=Tryz.sizeOf92;have h3:=Tryz.isAgg92;simp [Instr.index,go_sem,h2,h3,run_underlying h1,asIntOf]
theorem idx2_1 (u v:Value)(w:World):Sem.run Tryz.prog (Instr.index 146 (.agg #[u,v]) (.int .i64 1)) w=.ok v w:=by
 have h1:=Tryz.underlying146;have h2:=Tryz.sizeOf92;have h3:=Tryz.isAgg92;simp [Instr.index,go_sem,h2,h3,run_underlying h1,asIntOf]
theorem find_any (p p':Option Addr)(c c':Nat)(bids asks:List Odr)(id:Int)(w:World)(h:ORow w p bids)(h':ORow w p' asks)(hn:bids.length<=140737488351232)(hn':asks.length<=140737488351232) :
  Calls Tryz.prog 167 #[.agg #[.slice p bids.length c,.slice p' asks.length c'],.int .i64 id] w fun e w' =>
   e=.returned (.tuple #[odrV (findO bids asks id),.int .i64 (findE bids asks id)])/\Below w.heap.size w w':=by
 have hb0:∀o1 o2,Below w.heap.size w ((w.alloc o1).alloc o2):=fun o1 o2=>((Below.refl _ w).alloc (Nat.le_refl _) _).alloc (by simp) _;have H:=hide h;have H':=hide h';obtain⟨nb,hnb⟩:∃n,bids.length=n:=⟨_,rfl⟩;obtain⟨na,hna⟩:∃n,asks.length=n:=⟨_,rfl⟩;have CK:Hid (∀W,Below w.heap.size w W->Calls Tryz.prog 112 #[.agg #[.slice p nb c,.slice p' na c']] W fun e w'=>e=.returned (.int .i64 (bookErr bids asks))/\Below W.heap.size W w'):=fun W hW=>by
  have:=check_any p p' c c' bids asks W (orow_below h hW) (orow_below h' hW) hn hn';rw [hnb,hna] at this;exact this
 have IB:Hid (∀W B,Below w.heap.size w W->W.cell? ⟨B,0,none⟩=some (.int .i64 id)->Calls Tryz.prog 202 #[.slice p nb c,idFn B] W fun e w'=>e=.returned (.int .i64 (idxAt id bids 0))/\Below W.heap.size W w'):=fun W B hW hB=>by
  have:=indexFunc_any p c bids id B W hn (orow_below h hW) hB;rw [hnb] at this;exact this
 have IA:Hid (∀W B,Below w.heap.size w W->W.cell? ⟨B,0,none⟩=some (.int .i64 id)->Calls Tryz.prog 202 #[.slice p' na c',idFn B] W fun e w'=>e=.returned (.int .i64 (idxAt id asks 0))/\Below W.heap.size W w'):=fun W B hW hB=>by
  have:=indexFunc_any p' c' asks id B W hn' (orow_below h' hW) hB;rw [hna] at this;exact this
 rw [hnb,hna];rw [hnb] at hn;rw [hna] at hn';have NB:=hide hnb;have NA:=hide hna;clear h h' hnb hna;have FO:Hid (¬bookErr bids asks=0->findO bids asks id=noOdr/\findE bids asks id=bookErr bids asks):=fun hb=>by unfold findO findE;rw [if_neg hb,if_neg hb];exact⟨rfl,rfl⟩
 have FS:Hid (∀o,bookErr bids asks=0->findIn id bids asks=some o->findO bids asks id=o/\findE bids asks id=0):=fun o hb hf=>by unfold findO findE;rw [if_pos hb,if_pos hb,hf];exact⟨rfl,rfl⟩
 have FN:Hid (bookErr bids asks=0->findIn id bids asks=none->findO bids asks id=noOdr/\findE bids asks id=5):=fun hb hf=>by unfold findO findE;rw [if_pos hb,if_pos hb,hf];exact⟨rfl,rfl⟩
 generalize findO bids asks id=fo at FO FS FN ⊢;generalize findE bids asks id=fe at FO FS FN ⊢;go_enter Tryz.func167,Tryz.ntmps167;go_wp2_with fail;refine(CK.out _ (hb0 _ _)).mono ?_;rintro e W ⟨rfl,hb⟩;have BW:=hide ((hb0 _ _).trans (hb.mono (by simp;omega)));have T:=hide (five_below (five_made _ _ _ _ _ _ _) hb);have e0:W.cell? ⟨w.heap.size,0,none⟩=some (.slice p nb c):=box2_a hb rfl;have e1:W.cell? ⟨w.heap.size,1,none⟩=some (.slice p' na c'):=box2_a hb rfl;clear hb hb0 CK;by_cases hbk:bookErr bids asks=0
 ·have FS':=hide (fun o=>FS.out o hbk);have FN':=hide (FN.out hbk);rw [hbk];clear FO FS FN hbk;have x0:=idx2_0 (.slice p nb c) (.slice p' na c');have x1:=idx2_1 (.slice p nb c) (.slice p' na c');have hW1:Hid (∀x,Below W.heap.size W x->Below w.heap.size w x):=fun x hx=>BW.out.trans (hx.mono BW.out.size);go_wp2;refine wp_loop_rounds 3 ?_;rw [rounds_succ];go_wp2_with fail;refine(hasID_any _ _).mono ?_;rintro e w1 ⟨rfl,rfl⟩;go_wp2_with fail;refine(IB.out _ _ (hW1.out _ ((Below.refl _ _).alloc (Nat.le_refl _) _)) (new_cell _ _ _ _ _ rfl)).mono ?_;rintro e w2 ⟨rfl,hb2⟩;have B2:=hide (((Below.refl _ W).alloc (Nat.le_refl _) (.cells #[.int .i64 id] 3)).trans (hb2.mono (by simp)));clear hb2;rcases idxAt_ways id bids 0 with⟨i1,i2,i3⟩ | ⟨j,hj,i1,i2,_⟩
  ·rw [i1];clear i3;go_wp2_with fail;rw [rounds_succ];go_wp2_with fail;refine(hasID_any _ _).mono ?_;rintro e w3 ⟨rfl,rfl⟩;have B3:=hide (B2.out.trans (((Below.refl _ w2).alloc (Nat.le_refl _) (.cells #[.int .i64 id] 3)).mono B2.out.size));go_wp2_with fail;refine(IA.out _ _ (hW1.out _ B3.out) (new_cell _ _ _ _ _ rfl)).mono ?_;rintro e w4 ⟨rfl,hb4⟩;have B4:=hide (B3.out.trans (hb4.mono B3.out.size));have T4:=hide (five_below T.out B4.out);obtain⟨⟨u0,u1,u2,u3,u4,t0,t1,t2,t3,t4⟩,r0,r1,r2,r3,r4⟩:=five_facts T4.out;have BX4:=hide (hW1.out _ B4.out);clear hb4 B3 B2 T;rcases idxAt_ways id asks 0 with⟨k1,k2,k3⟩ | ⟨j,hj,k1,k2,_⟩
   ·rw [k1];have HF:=FN'.out (by unfold findIn;rw [List.find?_append,i2,k2];rfl);have HE:=hide (show Ending.returned (.tuple #[odrV fo,.int .i64 fe])=Ending.returned (.tuple #[odrV noOdr,.int .i64 5]) by rw [HF.1,HF.2]);clear HF k3;go_wp2_with fail;rw [rounds_succ];go_wp2;obtain⟨s0,s1,s2,s3,s4⟩:=five_set T4.out (.int .i64 0) (.int .i64 0) (.int .i64 0) (.int .i64 0) (.int .i64 0);refine bodyPost_ret (v:=.tuple #[odrV noOdr,.int .i64 5]) (by simp [results,Tryz.results167,go_sem,s0,s1,s2,s3,s4]) rfl ⟨HE.out.symm,five_below_set BX4.out (by omega) _ _ _ _ _⟩
   ·rw [k1];simp only [Nat.zero_add];rcases H'.out with hh | ⟨b,off,rfl,hc⟩
    ·rw [hh] at hj;exact absurd hj (by simp)
    ·have hbl:b<w.heap.size:=World.block_lt_of_cell? w _ (hc j hj 0 _ rfl);have CX:=hide (fun (x:World) (hx:Below w.heap.size w x)=>orow_cells (w:=x) (b:=b) (off:=off) (xs:=asks) (fun j hj i v hv=>(hx.cell hbl).trans (hc j hj i v hv)) hj);have HF:=FS'.out asks[j]! (by unfold findIn;rw [List.find?_append,i2,k2];rfl);generalize asks[j]! = y at CX HF;obtain⟨a,ac,sd,pr,q⟩:=y;dsimp only [oid,oac,osd,opr,oqt] at CX;have HE:=hide (show Ending.returned (.tuple #[odrV fo,.int .i64 fe])=Ending.returned (.tuple #[odrV (a,ac,sd,pr,q),.int .i64 0]) by rw [HF.1,HF.2]);have hjn:(j:Int)<(na:Int):=by rw [<- NA.out];omega
     clear HF hc;obtain⟨c0,c1,c2,c3,c4⟩:=CX.out w4 BX4.out;go_wp2;obtain⟨s0,s1,s2,s3,s4⟩:=five_set T4.out (.int .i64 a) (.int .i64 ac) (.int .i64 sd) (.int .i64 pr) (.int .i64 q);refine bodyPost_ret (v:=.tuple #[odrV (a,ac,sd,pr,q),.int .i64 0]) (by simp [results,Tryz.results167,go_sem,s0,s1,s2,s3,s4]) rfl ⟨HE.out.symm,five_below_set BX4.out (by omega) _ _ _ _ _⟩
  ·rw [i1];simp only [Nat.zero_add];have T4:=hide (five_below T.out B2.out);obtain⟨⟨u0,u1,u2,u3,u4,t0,t1,t2,t3,t4⟩,r0,r1,r2,r3,r4⟩:=five_facts T4.out;have BX4:=hide (hW1.out _ B2.out);clear B2 T;rcases H.out with hh | ⟨b,off,rfl,hc⟩
   ·rw [hh] at hj;exact absurd hj (by simp)
   ·have hbl:b<w.heap.size:=World.block_lt_of_cell? w _ (hc j hj 0 _ rfl);have CX:=hide (fun (x:World) (hx:Below w.heap.size w x)=>orow_cells (w:=x) (b:=b) (off:=off) (xs:=bids) (fun j hj i v hv=>(hx.cell hbl).trans (hc j hj i v hv)) hj);have HF:=FS'.out bids[j]! (by unfold findIn;rw [List.find?_append,i2];rfl);generalize bids[j]! = y at CX HF;obtain⟨a,ac,sd,pr,q⟩:=y;dsimp only [oid,oac,osd,opr,oqt] at CX;have HE:=hide (show Ending.returned (.tuple #[odrV fo,.int .i64 fe])=Ending.returned (.tuple #[odrV (a,ac,sd,pr,q),.int .i64 0]) by rw [HF.1,HF.2]);have hjn:(j:Int)<(nb:Int):=by rw [<- NB.out];omega
    clear HF hc;obtain⟨c0,c1,c2,c3,c4⟩:=CX.out w2 BX4.out;go_wp2;obtain⟨s0,s1,s2,s3,s4⟩:=five_set T4.out (.int .i64 a) (.int .i64 ac) (.int .i64 sd) (.int .i64 pr) (.int .i64 q);refine bodyPost_ret (v:=.tuple #[odrV (a,ac,sd,pr,q),.int .i64 0]) (by simp [results,Tryz.results167,go_sem,s0,s1,s2,s3,s4]) rfl ⟨HE.out.symm,five_below_set BX4.out (by omega) _ _ _ _ _⟩
 ·obtain⟨h1,h2⟩:=FO.out hbk;have HE:=hide (show Ending.returned (.tuple #[odrV fo,.int .i64 fe])=Ending.returned (.tuple #[odrV noOdr,.int .i64 (bookErr bids asks)]) by rw [h1,h2]);clear h1 h2;generalize bookErr bids asks=eb at hbk HE ⊢;obtain⟨⟨u0,u1,u2,u3,u4,t0,t1,t2,t3,t4⟩,r0,r1,r2,r3,r4⟩:=five_facts T.out;clear FO FS FN IB IA;go_wp2;obtain⟨s0,s1,s2,s3,s4⟩:=five_set T.out (.int .i64 0) (.int .i64 0) (.int .i64 0) (.int .i64 0) (.int .i64 0);refine bodyPost_ret (v:=.tuple #[odrV noOdr,.int .i64 eb]) (by simp [results,Tryz.results167,go_sem,s0,s1,s2,s3,s4]) rfl ⟨HE.out.symm,five_below_set BW.out (by omega) _ _ _ _ _⟩
theorem neqO:NeqAt Tryz.prog 26 (fun x=>.agg (enc x).toArray) (fun x y=>decide (x=y)):=by
 refine⟨fun x y w=>?_,GuardAt.agg _ (by kernel_rfl)⟩;have u3:=Tryz.underlying3;have a3:=Tryz.isAgg3;have z3:=Tryz.sizeOf3;have hS:Tryz.prog.underlying 26=some (.struct (Tryz.prog.fieldsOf 26)):=by kernel_rfl
 have hp:Tryz.prog.stoodInHeld 26=false:=by kernel_rfl
 obtain⟨a,b,c,d,q⟩:=x;obtain⟨a',b',c',d',q'⟩:=y;simp only [enc,oid,oac,osd,opr,oqt];rw [run_neq_struct,show (10000:Nat)=9999+1 from rfl,run_equalIn_agg w 9999 26 _ _ hS hp];simp only [Program.fieldsOf,Tryz.underlying26];go_simp;by_cases h1:a=a'<;>by_cases h2:b=b'<;>by_cases h3:c=c'<;>by_cases h4:d=d'<;>by_cases h5:q=q'<;>simp [h1,h2,h3,h4,h5]
theorem allEq_same:∀xs ys:List Odr,Lib.allEq (fun x y=>decide (x=y)) xs ys=decide (xs=ys)
 |[],[]=>by simp [Lib.allEq]
 |[],y::ys=>by simp [Lib.allEq]
 |x::xs,[]=>by simp [Lib.allEq]
 |x::xs,y::ys=>by
  simp only [Lib.allEq,allEq_same xs ys,List.cons.injEq];by_cases h1:x=y<;>by_cases h2:xs=ys<;>simp [h1,h2]
theorem equal_len (p p':Option Addr)(n m c c':Nat)(w:World)(h:n≠m) :
  Calls Tryz.prog 93 #[.slice p n c,.slice p' m c'] w fun e w'=>e=.returned (.bool false)/\∃k,w'=w.drewN k:=by
 have hnm:¬(n:Int)=(m:Int):=by omega
 have hb:((n:Int) == (m:Int))=false:=by simp;omega
 go_enter Tryz.func93,Tryz.ntmps93;go_wp2;go_ret;exact⟨rfl,0,rfl⟩
theorem equal_none (p p':Option Addr)(c c':Nat)(w:World) :
  Calls Tryz.prog 93 #[.slice p 0 c,.slice p' 0 c'] w fun e w'=>e=.returned (.bool true)/\∃k,w'=w.drewN k:=by
 go_enter Tryz.func93,Tryz.ntmps93;go_wp2;refine wp_loop_rounds 1 ?_;rw [rounds_succ];go_wp2;go_ret;exact⟨rfl,0,rfl⟩
theorem equal_any (p p':Option Addr)(c c':Nat)(xs ys:List Odr)(w:World)(h:ORow w p xs)(h':ORow w p' ys)(hn:xs.length<=140737488351232)(hn':ys.length<=140737488351232) :
  Calls Tryz.prog 93 #[.slice p xs.length c,.slice p' ys.length c'] w fun e w'=>e=.returned (.bool (decide (xs=ys)))/\∃k,w'=w.drewN k:=by
 by_cases hl:xs.length=ys.length
 ·by_cases hx:xs=[]
  ·subst hx;have hy:ys=[]:=List.eq_nil_of_length_eq_zero (by simpa using hl.symm);subst hy;exact equal_none p p' c c' w
  ·have hy:ys≠[]:=fun e=>hx (List.eq_nil_of_length_eq_zero (by rw [hl,e];rfl));rcases h with h | ⟨b,off,rfl,hc⟩
   ·exact absurd h hx
   ·rcases h' with h' | ⟨b',off',rfl,hc'⟩
    ·exact absurd h' hy
    ·have hcon:=AnyQ.slices_Equal Tryz.equalB 5 Tryz.isAgg26 Tryz.sizeOf26 enc enc_length (fun x y=>decide (x=y)) neqO b off xs.length c b' off' ys.length c' xs ys w (Nat.le_refl _) (Nat.le_refl _) (by omega) (by omega) hc hc';rw [List.take_length,List.take_length,allEq_same] at hcon;exact hcon
 ·have:=equal_len p p' xs.length ys.length c c' w hl;rw [decide_eq_false (fun e=>hl (by rw [e]))];exact this
theorem same_any (p p' r r':Option Addr)(c c' d d':Nat)(b1 a1 b2 a2:List Odr)(w:World)(h:ORow w p b1)(h':ORow w p' a1)(k:ORow w r b2)(k':ORow w r' a2)
  (n1:b1.length<=140737488351232) (n2:a1.length<=140737488351232) (n3:b2.length<=140737488351232) (n4:a2.length<=140737488351232) :
  Calls Tryz.prog 68 #[.agg #[.slice p b1.length c,.slice p' a1.length c'],.agg #[.slice r b2.length d,.slice r' a2.length d']] w fun e w'=>e=.returned (.bool (decide (b1=b2/\a1=a2)))/\Below w.heap.size w w':=by
 have hb0:∀o1 o2,Below w.heap.size w ((w.alloc o1).alloc o2):=fun o1 o2=>((Below.refl _ w).alloc (Nat.le_refl _) _).alloc (by simp) _;have E1:=hide (fun W hW=>equal_any p r c d b1 b2 W (orow_below h hW) (orow_below k hW) n1 n3);have E2:=hide (fun W hW=>equal_any p' r' c' d' a1 a2 W (orow_below h' hW) (orow_below k' hW) n2 n4);clear h h' k k';generalize b1.length=l1 at E1 n1 ⊢;generalize a1.length=l2 at E2 n2 ⊢;generalize b2.length=l3 at E1 n3 ⊢;generalize a2.length=l4 at E2 n4 ⊢;by_cases hb:b1=b2
 ·rw [decide_eq_true hb] at E1;rw [show decide (b1=b2/\a1=a2)=decide (a1=a2) by simp [hb]];generalize decide (a1=a2)=t at E2 ⊢;go_enter Tryz.func68,Tryz.ntmps68;go_wp2_with fail;refine(E1.out _ (hb0 _ _)).mono ?_;rintro e w1 ⟨rfl,k1,rfl⟩;go_wp2_with fail;refine(E2.out _ ?_).mono ?_
  ·exact(hb0 _ _).trans ⟨rfl,rfl,rfl,Nat.le_refl _,fun _ _=>rfl⟩
  rintro e w2 ⟨rfl,k2,rfl⟩;go_wp2;go_ret;exact⟨rfl,(hb0 _ _).trans ⟨rfl,rfl,rfl,Nat.le_refl _,fun _ _=>rfl⟩⟩
 ·rw [decide_eq_false hb] at E1;rw [decide_eq_false (fun e=>hb e.1)];go_enter Tryz.func68,Tryz.ntmps68;go_wp2_with fail;refine(E1.out _ (hb0 _ _)).mono ?_;rintro e w1 ⟨rfl,k1,rfl⟩;go_wp2;go_ret;exact⟨rfl,(hb0 _ _).trans ⟨rfl,rfl,rfl,Nat.le_refl _,fun _ _=>rfl⟩⟩
def OwnG (w:World) (g cap:Nat) (ys:List Odr):Prop:=ys.length<=cap/\∃cur,w.heap[g]? = some (.cells cur 26 (0,0))/\cur.size=cap*5/\cur.toList.take (ys.length*5)=flat ys
theorem ownG_lt {w:World}{g cap:Nat}{ys:List Odr}(h:OwnG w g cap ys):g<w.heap.size:=by
 obtain⟨_,_,h,_⟩:=h;exact(Array.getElem?_eq_some_iff.1 h).1
theorem ownG_below {w w':World}{S g cap:Nat}{ys:List Odr}(h:OwnG w g cap ys)(hb:Below S w w')(hg:g<S):OwnG w' g cap ys:=by
 obtain⟨h0,cur,h1,h2⟩:=h;exact⟨h0,cur,(hb.block g hg).trans h1,h2⟩
theorem ownG_cells {w:World}{g cap:Nat}{ys:List Odr}(h:OwnG w g cap ys):∀j,j<ys.length->∀i v,(enc ys[j]!)[i]? = some v->w.cell? ⟨g,0+j*5+i,none⟩=some v:=by
 obtain⟨h0,cur,h1,h2,h3⟩:=h;refine cells_flat fun j u hu=>?_;rw [<- h3,List.getElem?_take] at hu;split at hu
 ·rw [Nat.zero_add];simp only [World.cell?,h1];simpa using hu
 ·cases hu
theorem ownG_some {w:World}{g cap:Nat}{ys:List Odr}(h:OwnG w g cap ys){k:Nat}(hk:k<cap*5):(w.cell? ⟨g,k,none⟩).isSome=true/\w.frozen? ⟨g,k,none⟩=false:=by
 obtain⟨h0,cur,h1,h2,h3⟩:=h;simp [World.cell?,World.frozen?,h1,h2,hk]
theorem set5 (x:Odr)(l:List Value)(k:Nat)(v:Value):(enc x++l).set (5+k) v=enc x++l.set k v:=by
 rw [List.set_append_right _ _ (by rw [enc_length];omega),enc_length,Nat.add_sub_cancel_left]
theorem flat_set:∀(ys:List Odr)(i:Nat)(y:Odr),i<ys.length->flat (ys.set i y)=(((((flat ys).set (i*5) (.int .i64 y.1)).set (i*5+1) (.int .i64 y.2.1)).set (i*5+2) (.int .i64 y.2.2.1)).set (i*5+3) (.int .i64 y.2.2.2.1)).set (i*5+4) (.int .i64 y.2.2.2.2)
 |[],i,y,h=>absurd h (by simp)
 |x::ys,0,y,h=>by simp [flat_cons,enc]
 |x::ys,i+1,y,h=>by
  rw [List.set_cons_succ,flat_cons,flat_cons,flat_set ys i y (by simpa using h)];rw [show (i+1)*5=5+i*5 by omega,show 5+i*5+1=5+(i*5+1) by omega,show 5+i*5+2=5+(i*5+2) by omega,show 5+i*5+3=5+(i*5+3) by omega,show 5+i*5+4=5+(i*5+4) by omega];rw [set5,set5,set5,set5,set5]
abbrev fiveAt (x:World) (g i:Nat) (y:Odr):World:=((((x.setCell ⟨g,i*5,none⟩ (.int .i64 y.1)).setCell ⟨g,i*5+1,none⟩ (.int .i64 y.2.1)).setCell ⟨g,i*5+2,none⟩ (.int .i64 y.2.2.1)).setCell ⟨g,i*5+3,none⟩ (.int .i64 y.2.2.2.1)).setCell ⟨g,i*5+4,none⟩ (.int .i64 y.2.2.2.2)
theorem ownG_set {w:World}{g cap i:Nat}{ys:List Odr}(h:OwnG w g cap ys)(hi:i<ys.length)(y:Odr):OwnG (fiveAt w g i y) g cap (ys.set i y):=by
 obtain⟨h0,cur,h1,h2,h3⟩:=h;refine⟨by rw [List.length_set];exact h0,(((((cur.setIfInBounds (i*5) (.int .i64 y.1)).setIfInBounds (i*5+1) (.int .i64 y.2.1)).setIfInBounds (i*5+2) (.int .i64 y.2.2.1)).setIfInBounds (i*5+3) (.int .i64 y.2.2.2.1)).setIfInBounds (i*5+4) (.int .i64 y.2.2.2.2)),?_,by simpa using h2,?_⟩
 ·simp [fiveAt,World.setCell,Array.getElem?_modify,h1]
 ·rw [List.length_set,flat_set ys i y hi,<- h3];simp [List.take_set]
theorem fiveAt_below {B g i:Nat}{w x:World}(h:Below B w x)(hg:B<=g)(y:Odr):Below B w (fiveAt x g i y):=((((h.setCell hg _).setCell hg _).setCell hg _).setCell hg _).setCell hg _
theorem fiveAt_other {x:World}{g i:Nat}{y:Odr}{a:Addr}(h:a.block≠g):(fiveAt x g i y).cell? a=x.cell? a:=by
 have:∀(w:World) (o:Nat) (v:Value),(w.setCell ⟨g,o,none⟩ v).cell? a=w.cell? a:=fun w o v=>World.cell?_of_block (Below.heap_setCell w ⟨g,o,none⟩ v a.block h);simp only [fiveAt,this]
theorem setCells_heap (g:Nat):∀(vs:List Value)(o:Nat)(w:World)(cur:Array Value)(t:TypeId),w.heap[g]? = some (.cells cur t (0,0)) ->
  ∃cur',(w.setCells g o vs).heap[g]? = some (.cells cur' t (0,0))/\cur'.size=cur.size/\∀k,k<=o->cur'.toList.take k=cur.toList.take k
 |[],o,w,cur,t,h=>⟨cur,h,rfl,fun _ _=>rfl⟩
 |v::r,o,w,cur,t,h=>by
  obtain⟨cur',h1,h2,h3⟩:=setCells_heap g r (o+1) (w.setCell ⟨g,o,none⟩ v) (cur.setIfInBounds o v) t (by simp [World.setCell,Array.getElem?_modify,h]);refine⟨cur',h1,by simpa using h2,fun k hk=>?_⟩;rw [h3 k (by omega)];simp only [Array.toList_setIfInBounds];rw [List.take_set,List.set_eq_of_length_le (by simp;omega)]
theorem setCells_below {B g:Nat}(hg:B<=g){a:World}:∀(vs:List Value)(o:Nat)(w:World),Below B a w->Below B a (w.setCells g o vs)
 |[],_,_,h=>h
 |v::r,o,_,h=>setCells_below hg r (o+1) _ (h.setCell hg v)
theorem ownG_clear {w:World}{g cap:Nat}{ys:List Odr}(h:OwnG w g cap ys)(i:Nat)(hi:i<=ys.length)(vs:List Value):OwnG (w.setCells g (i*5) vs) g cap (ys.take i):=by
 obtain⟨h0,cur,h1,h2,h3⟩:=h;obtain⟨cur',k1,k2,k3⟩:=setCells_heap g vs (i*5) w cur _ h1;have hl:(ys.take i).length=i:=by rw [List.length_take];omega
 refine⟨by rw [hl];omega,cur',k1,by rw [k2,h2],?_⟩;rw [hl,k3 _ (Nat.le_refl _)];have e:flat ys=flat (ys.take i)++flat (ys.drop i):=by rw [<- flat_append,List.take_append_drop]
 have e2:(flat ys).take (i*5)=flat (ys.take i):=by
  rw [e,List.take_append_of_le_length (by rw [flat_length,hl];exact Nat.le_refl _),List.take_of_length_le (by rw [flat_length,hl];exact Nat.le_refl _)]
 have h4:=congrArg (List.take (i*5)) h3;rw [List.take_take,Nat.min_eq_left (by omega),e2] at h4;exact h4
theorem run_clear5 (w:World)(g cap:Nat)(ys:List Odr)(h:OwnG w g cap ys)(i n c ty:Nat)(hn:i<n)(hc:n<=cap) :
  (Builtin.clear_ #[92] ty #[.slice (some ⟨g,i*5,none⟩) (n - i) c]).run Tryz.prog w=.ok (.tuple #[]) (w.setCells g (i*5) (List.replicate ((n - i)*5) (.int .i64 0))):=by
 have hv:∀w,(zeroValue 26).run Tryz.prog w=.ok (odrV noOdr) w:=Tryz.zeroValue26;have hzc:(Builtin.zeroCells (odrV noOdr).cells (n - i)).toList=List.replicate ((n - i)*5) (.int .i64 0):=by
  rw [show (odrV noOdr).cells = #[.int .i64 0,.int .i64 0,.int .i64 0,.int .i64 0,.int .i64 0] from rfl];simp only [Builtin.zeroCells,Array.toList_map,Array.toList_range];apply List.ext_getElem
  ·simp
  ·intro k h1 h2;simp only [List.getElem_map,List.getElem_range,List.getElem_replicate];have hk:k % 5<5:=Nat.mod_lt _ (by decide);show (#[.int .i64 0,.int .i64 0,.int .i64 0,.int .i64 0,.int .i64 0]:Array Value)[k % 5]! = .int .i64 0;generalize k % 5=r at hk;match r,hk with
   |0,_=>rfl
   |1,_=>rfl
   |2,_=>rfl
   |3,_=>rfl
   |4,_=>rfl
 have hst:=run_storeCells_cells (P:=Tryz.prog) g (i*5) (List.replicate ((n - i)*5) (.int .i64 0)) 0 w
  (by intro j hj;rw [List.length_replicate] at hj;exact(ownG_some h (by omega)).1)
  (by intro j hj;rw [List.length_replicate] at hj;exact(ownG_some h (by omega)).2)
  (by intro v hv';rw [List.eq_of_mem_replicate hv'];rfl)
 simp only [Nat.add_zero] at hst;generalize hm:n - i=m at hzc hst ⊢;obtain⟨k,rfl⟩:∃k,m=k+1:=⟨m-1,by omega⟩;simp [Builtin.clear_,run_underlying Tryz.underlying92,hv,hzc,hst]
structure KInv (id:Int) (xs:List Odr) (i j:Nat) (ys:List Odr):Prop where
 len:ys.length=xs.length
 kept:ys.take i=without id (xs.take j)
 rest:ys.drop j=xs.drop j
 lt:i<j
 le:j<=xs.length
theorem KInv.at {id:Int}{xs ys:List Odr}{i j:Nat}(h:KInv id xs i j ys)(hj:j<xs.length):ys[j]! = xs[j]!:=by
 have h1:=drop_at (xs:=ys) (k:=j) (by rw [h.len];exact hj);have h2:=drop_at (xs:=xs) (k:=j) hj;rw [h.rest,h2] at h1;exact(List.cons.inj h1).1.symm
theorem KInv.next {id:Int}{xs ys:List Odr}{i j:Nat}(h:KInv id xs i j ys):ys.drop (j+1)=xs.drop (j+1):=by
 have:=congrArg List.tail h.rest;rwa [List.tail_drop,List.tail_drop] at this
theorem KInv.skip {id:Int}{xs ys:List Odr}{i j:Nat}(h:KInv id xs i j ys)(hj:j<xs.length)(he:hasId id xs[j]! = true):KInv id xs i (j+1) ys:=by
 refine⟨h.len,?_,h.next,by have:=h.lt;omega,hj⟩;rw [take_at hj,h.kept];unfold without;rw [List.filter_append,List.filter_cons,he];simp
theorem KInv.keep {id:Int}{xs ys:List Odr}{i j:Nat}(h:KInv id xs i j ys)(hj:j<xs.length)(he:hasId id xs[j]! = false):KInv id xs (i+1) (j+1) (ys.set i xs[j]!):=by
 have hi:=h.lt;have hl:=h.len;refine⟨by rw [List.length_set];exact hl,?_,?_,by omega,hj⟩
 ·rw [take_at hj];unfold without;rw [List.filter_append,List.filter_cons,he];have hk:=h.kept;unfold without at hk;rw [<- hk,List.take_add_one,List.take_set_of_le (Nat.le_refl _),List.getElem?_set_self (by omega)];simp
 ·rw [List.drop_set_of_lt (by omega)];exact h.next
theorem KInv.start {id:Int}{xs:List Odr}{k:Nat}(hk:k<xs.length)(h1:xs.take k=(xs.take k).filter (fun x=>!hasId id x))(he:hasId id xs[k]! = true):KInv id xs k (k+1) xs:=by
 refine⟨rfl,?_,rfl,by omega,hk⟩;rw [take_at hk];unfold without;rw [List.filter_append,List.filter_cons,he,<- h1];simp
theorem KInv.done {id:Int}{xs ys:List Odr}{i:Nat}(h:KInv id xs i xs.length ys):ys.take i=without id xs/\i=(without id xs).length:=by
 have hk:=h.kept;rw [List.take_length] at hk;refine⟨hk,?_⟩;rw [<- hk,List.length_take,h.len];have:=h.lt;omega
theorem deleteFunc_own (g cap:Nat)(xs:List Odr)(id:Int)(bx:Nat)(w:World)(h:OwnG w g cap xs)(hn:xs.length<=1000)(hid:w.cell? ⟨bx,0,none⟩=some (.int .i64 id))(hne:bx≠g) :
  Calls Tryz.prog 205 #[.slice (some ⟨g,0,none⟩) xs.length cap,idFn bx] w fun e w' =>
   e=.returned (.slice (some ⟨g,0,none⟩) (without id xs).length cap)/\OwnG w' g cap (without id xs)/\Below g w w':=by
 have eg:∀args w,(callFunc 222 args).run Tryz.prog w=.ok (.enter 222 args) w:=enters_of Tryz.func222 (by kernel_rfl) rfl;have hcon:=indexFunc_any (some ⟨g,0,none⟩) cap xs id bx w (by omega) (.inr ⟨g,0,rfl,ownG_cells h⟩) hid;have hgw:=ownG_lt h;have O:=hide h;have HI:=hide hid;have hcap:=h.1;clear h hid;obtain⟨n,hxn⟩:∃n,xs.length=n:=⟨_,rfl⟩;rw [hxn] at hcon hn hcap;rw [hxn];have N:=hide hxn;clear hxn;rcases idxAt_ways id xs 0 with⟨i1,i2,i3⟩ | ⟨k0,hk0,i1,i2,i4⟩
 ·have hw:Hid (without id xs=xs):=without_none (fun hm=>by obtain⟨x,hx,e⟩:=List.mem_map.1 hm;exact i3 x hx e);rw [i1] at hcon;rw [hw.out,N.out];clear i1 i2 i3;go_enter Tryz.func205,Tryz.ntmps205;go_wp2_with (go_at_call 202;refine hcon.mono ?_;rintro e w1 ⟨rfl,hb1⟩);go_ret;exact⟨rfl,ownG_below O.out hb1 hgw,hb1.mono (Nat.le_of_lt hgw)⟩
 ·rw [i1] at hcon;rw [Nat.zero_add] at hcon;have hit:hasId id xs[k0]! = true:=List.find?_some i2;have ST:=hide (KInv.start hk0 i4 hit);have hkn:k0<n:=by rw [<- N.out];exact hk0
  clear i1 i2 i4 hit hk0;go_enter Tryz.func205,Tryz.ntmps205;go_wp2_with fail;refine hcon.mono ?_;rintro e w1 ⟨rfl,hb1⟩;have BW1:=hide (hb1.mono (Nat.le_of_lt hgw));have O1:=hide (ownG_below O.out hb1 hgw);have HI1:Hid (w1.cell? ⟨bx,0,none⟩=some (.int .i64 id)):=hide ((hb1.cell (World.block_lt_of_cell? _ _ HI.out)).trans HI.out);have hk1:((k0:Int) == -1)=false:=by simp
  clear hcon hb1 O HI;go_wp2
  go_loopw [5,6] (fun s5 s6 wr=>∃(i j:Nat) (ys:List Odr),s5=.int .i64 i/\s6=.int .i64 j/\Hid (KInv id xs i j ys)/\Hid (OwnG wr g cap ys)/\Hid (wr.cell? ⟨bx,0,none⟩=some (.int .i64 id))/\Hid (Below g w wr)) (fun _ j _=>n - (intOf j).toNat)
  case atStart=>exact⟨k0,k0+1,xs,rfl,by go_num,ST,O1,HI1,BW1⟩
  case round =>
   obtain⟨i,j,ys,rfl,rfl,K,OW,HB,BW⟩:=hrel;have hij:=K.out.lt;have hjn:j<=n:=by rw [<- N.out];exact K.out.le
   have hyl:Hid (ys.length=n):=K.out.len.trans N.out;by_cases hlt:j<n
   ·have hltz:(j:Int)<(n:Int):=by omega
    have hjx:j<xs.length:=by rw [N.out];exact hlt
    obtain⟨c0,c1,c2,c3,c4⟩:=orow_cells (ownG_cells OW.out) (j:=j) (by rw [hyl.out];exact hlt);simp only [Nat.zero_add] at c0 c1 c2 c3 c4;have hat:=K.out.at hjx;rw [hat] at c0 c1 c2 c3 c4;have KK:=hide (K.out.keep hjx);have KS:=hide (K.out.skip hjx);clear hat;generalize xs[j]! = x at c0 c1 c2 c3 c4 KK KS;obtain⟨a,ac,sd,pr,q⟩:=x;dsimp only [oid,oac,osd,opr,oqt] at c0 c1 c2 c3 c4;go_wp2_with fail;refine(hasID1_any _ _ _ _ _ id bx _ (cell_alloc HB.out _)).mono ?_;rintro e x7 ⟨rfl,q1,os1,hw⟩;have hgr:=ownG_lt OW.out;have B7:Hid (Below wr.heap.size wr x7):=by rw [hw];exact box_below _ _ _ _
    have O7:=hide (ownG_below OW.out B7.out hgr);have HB7:=hide ((B7.out.cell (World.block_lt_of_cell? _ _ HB.out)).trans HB.out);have e0:x7.cell? ⟨wr.heap.size,0,none⟩=some (.int .i64 a):=by rw [hw];exact box_cell _ _ _ _ _ _ _ rfl
    have e1:x7.cell? ⟨wr.heap.size,1,none⟩=some (.int .i64 ac):=by rw [hw];exact box_cell _ _ _ _ _ _ _ rfl
    have e2:x7.cell? ⟨wr.heap.size,2,none⟩=some (.int .i64 sd):=by rw [hw];exact box_cell _ _ _ _ _ _ _ rfl
    have e3:x7.cell? ⟨wr.heap.size,3,none⟩=some (.int .i64 pr):=by rw [hw];exact box_cell _ _ _ _ _ _ _ rfl
    have e4:x7.cell? ⟨wr.heap.size,4,none⟩=some (.int .i64 q):=by rw [hw];exact box_cell _ _ _ _ _ _ _ rfl
    have BB:=hide (BW.out.trans (B7.out.mono (Nat.le_of_lt hgr)));clear hw c0 c1 c2 c3 c4
    cases hh:hasId id (a,ac,sd,pr,q) with
    |true =>
     have K1:=hide (KS.out hh);clear KK KS e0 e1 e2 e3 e4;go_wp2;go_roundw
     case rel=>exact⟨i,j+1,ys,rfl,by go_num,K1,O7,HB7,BB⟩
     case measure=>simp [intOf];omega
    |false =>
     have K1:=hide (KK.out hh);have hiy:i<ys.length:=by rw [hyl.out];omega
     have O8:=hide (ownG_set O7.out hiy (a,ac,sd,pr,q));have hiz:(i:Int)<(n:Int):=by omega
     obtain⟨d0,f0⟩:=ownG_some O7.out (k:=i*5) (by omega);obtain⟨d1,f1⟩:=ownG_some O7.out (k:=i*5+1) (by omega);obtain⟨d2,f2⟩:=ownG_some O7.out (k:=i*5+2) (by omega);obtain⟨d3,f3⟩:=ownG_some O7.out (k:=i*5+3) (by omega);obtain⟨d4,f4⟩:=ownG_some O7.out (k:=i*5+4) (by omega);obtain⟨u0,d0⟩:=Option.isSome_iff_exists.1 d0;obtain⟨u1,d1⟩:=Option.isSome_iff_exists.1 d1;obtain⟨u2,d2⟩:=Option.isSome_iff_exists.1 d2;obtain⟨u3,d3⟩:=Option.isSome_iff_exists.1 d3;obtain⟨u4,d4⟩:=Option.isSome_iff_exists.1 d4;clear KK KS;go_wp2;go_roundw
     case rel =>
      refine⟨i+1,j+1,ys.set i (a,ac,sd,pr,q),by go_num,by go_num,K1,?_,?_,?_⟩
      ·exact O8
      ·exact(fiveAt_other (i:=i) (y:=(a,ac,sd,pr,q)) hne).trans HB7.out
      ·exact fiveAt_below (i:=i) BB.out (Nat.le_refl _) (a,ac,sd,pr,q)
     case measure=>simp [intOf];omega
   ·have hj':j=n:=by omega
    subst hj';have hdone:Hid (ys.take i=without id xs/\i=(without id xs).length):=by have:=K.out;rw [<- N.out] at this;exact this.done
    have hcl:=fun ty=>run_clear5 wr g cap ys OW.out i j (cap - i) ty (by omega) hcap;have hs1:=fun x=>slice_from (p:=some ⟨g,0,none⟩) (n:=j) (c:=cap) (k:=i) (by omega) x;have hs2:=fun x=>slice_to (p:=some ⟨g,0,none⟩) (n:=j) (c:=cap) (k:=i) (by omega) x;rw [if_neg (by omega),Option.map_some,add_lit,Nat.zero_add] at hs1;have OC:=hide (ownG_clear OW.out i (by rw [hyl.out];omega) (List.replicate ((j - i)*5) (.int .i64 0)));have BC:=hide (setCells_below (Nat.le_refl g) (List.replicate ((j - i)*5) (.int .i64 0)) (i*5) wr BW.out);go_wp2;go_ret;refine⟨?_,?_,BC.out⟩
    ·rw [<- hdone.out.2];rfl
    ·have:=OC.out;rw [hdone.out.1] at this;exact this
theorem deleteFunc_none (f:Value)(w:World):Calls Tryz.prog 205 #[.slice none 0 0,f] w fun e w'=>e=.returned (.slice none 0 0)/\w'=w:=by
 go_enter Tryz.func205,Tryz.ntmps205;go_wp2_with (go_at_call 202;refine(indexFunc_none _ _ _ _).mono ?_;rintro e w1 ⟨rfl,rfl⟩);go_ret;exact⟨rfl,rfl⟩
theorem without_any (p:Option Addr)(c:Nat)(xs:List Odr)(id:Int)(w:World)(h:OV w p c xs)(hn:xs.length<=1000) :
  Calls Tryz.prog 169 #[.slice p xs.length c,.int .i64 id] w fun e w'=>∃v,e=.returned v/\w'.ownsRow w.heap.size 26 5 v (without id xs).length (flat (without id xs))/\Below w.heap.size w w':=by
 have CO:=copyOf_any p c xs w h (by omega);generalize hL:without id xs=L;have HL:=hide hL;clear h hL;obtain⟨n,hxn⟩:∃n,xs.length=n:=⟨_,rfl⟩;rw [hxn];have N:=hide hxn;rw [show (Calls Tryz.prog 199 #[.slice p xs.length c])=(Calls Tryz.prog 199 #[.slice p n c]) by rw [hxn]] at CO;clear hxn;go_enter Tryz.func169,Tryz.ntmps169;go_wp2_with fail;refine CO.mono ?_;rintro e w1 ⟨v,rfl,hown,hb1⟩;have B1:=hide hb1;rcases hown.2 with⟨rfl,h0⟩ | ⟨g,cap,cur,rfl,hg,hcur,hnc,hmx,hsz,htk⟩
 ·have hx:xs=[]:=List.eq_nil_of_length_eq_zero h0;have hL0:L=[]:=by rw [<- HL.out,hx];rfl
  clear CO hown hb1 h0;go_wp2_with (first | (go_at_call 203;refine(hasID_any _ _).mono ?_;rintro e w2 ⟨rfl,rfl⟩) | (go_at_call 205;refine(deleteFunc_none _ _).mono ?_;rintro e w3 ⟨rfl,rfl⟩));go_ret;refine⟨_,rfl,?_,B1.out.alloc B1.out.size _⟩;rw [hL0];exact World.ownsRow_nil _ _ _ _
 ·have OG:Hid (OwnG w1 g cap xs):=⟨hnc,cur,hcur,hsz,htk⟩;have hgl:=ownG_lt OG.out;have MX:=hide hmx;clear CO hown hb1 hcur hnc hsz htk hmx;go_wp2_with fail;refine(hasID_any _ _).mono ?_;rintro e w2 ⟨rfl,rfl⟩;have OG2:=hide (ownG_below OG.out ((Below.refl w1.heap.size w1).alloc (Nat.le_refl _) (.cells #[.int .i64 id] 3)) hgl);have DF:=deleteFunc_own g cap xs id w1.heap.size (w1.alloc (.cells #[.int .i64 id] 3)) OG2.out hn (new_cell _ _ _ _ _ rfl) (by omega);rw [N.out,HL.out] at DF;go_wp2_with fail;rw [N.out];refine DF.mono ?_;rintro e w3 ⟨rfl,hog,hb3⟩;have B3:=hide ((B1.out.alloc B1.out.size (.cells #[.int .i64 id] 3)).trans (hb3.mono hg));have OG3:=hide hog;clear DF hog hb3;go_wp2;go_ret;refine⟨_,rfl,?_,B3.out⟩;obtain⟨q0,cur3,q1,q2,q3⟩:=OG3.out;exact⟨flat_length L,.inr ⟨g,cap,cur3,rfl,hg,q1,q0,MX.out,q2,q3⟩⟩
theorem made3_two (w:World)(o1 o3:Obj)(u0 u1:Value):Two (((w.alloc o1).alloc (.cells #[u0,u1] 94)).alloc o3) (w.heap.size+1):=by
 have h1:((w.alloc o1).alloc (.cells #[u0,u1] 94)).heap[w.heap.size+1]? = some (.cells #[u0,u1] 94 (0,0)):=by
  have:=heap_alloc_new (w.alloc o1) (.cells #[u0,u1] 94);simpa using this
 exact⟨u0,u1,(Below.heap_alloc _ o3 _ (by simp)).trans h1⟩
theorem made3_five (w:World)(o1 o2:Obj)(u0 u1 u2 u3 u4:Value):Five (((w.alloc o1).alloc o2).alloc (.cells #[u0,u1,u2,u3,u4] 26)) (w.heap.size+1+1) :=
 ⟨u0,u1,u2,u3,u4,by have:=heap_alloc_new ((w.alloc o1).alloc o2) (.cells #[u0,u1,u2,u3,u4] 26);simpa using this⟩
theorem set_other (x:World){t:Nat}{a:Addr}(h:a.block≠t)(o:Nat)(v:Value):(x.setCell ⟨t,o,none⟩ v).cell? a=x.cell? a:=World.cell?_of_block (Below.heap_setCell x ⟨t,o,none⟩ v a.block h)
theorem five_two {x:World}{t s:Nat}(h:Five x s)(hne:s≠t)(v0 v1:Value):Five ((x.setCell ⟨t,0,none⟩ v0).setCell ⟨t,1,none⟩ v1) s:=by
 obtain⟨u0,u1,u2,u3,u4,h⟩:=h;exact⟨u0,u1,u2,u3,u4,(Below.heap_setCell _ ⟨t,1,none⟩ v1 s hne).trans ((Below.heap_setCell x ⟨t,0,none⟩ v0 s hne).trans h)⟩
theorem five_other {x:World}{t:Nat}{a:Addr}(h:a.block≠t)(u0 u1 u2 u3 u4:Value):(five x t u0 u1 u2 u3 u4).cell? a=x.cell? a:=by
 simp only [five];rw [set_other _ h,set_other _ h,set_other _ h,set_other _ h,set_other _ h]
theorem two_five {x:World}{t s:Nat}(h:Two x t)(hne:t≠s)(u0 u1 u2 u3 u4:Value):Two (five x s u0 u1 u2 u3 u4) t:=by
 obtain⟨v0,v1,h⟩:=h;exact⟨v0,v1,(Below.heap_setCell _ ⟨s,4,none⟩ u4 t hne).trans ((Below.heap_setCell _ ⟨s,3,none⟩ u3 t hne).trans ((Below.heap_setCell _ ⟨s,2,none⟩ u2 t hne).trans ((Below.heap_setCell _ ⟨s,1,none⟩ u1 t hne).trans ((Below.heap_setCell x ⟨s,0,none⟩ u0 t hne).trans h))))⟩
theorem five_again {x:World}{t:Nat}(h:Five x t)(u0 u1 u2 u3 u4:Value):Five (five x t u0 u1 u2 u3 u4) t:=⟨u0,u1,u2,u3,u4,five_heap h u0 u1 u2 u3 u4⟩
theorem five_ownsRow {x:World}{t B n:Nat}{v:Value}{xs:List Value}(h:x.ownsRow B 26 5 v n xs)(hB:t<B)(u0 u1 u2 u3 u4:Value):(five x t u0 u1 u2 u3 u4).ownsRow B 26 5 v n xs :=
 ownsRow_setCell_below (ownsRow_setCell_below (ownsRow_setCell_below (ownsRow_setCell_below (ownsRow_setCell_below h hB u0) hB u1) hB u2) hB u3) hB u4
theorem five_size (x:World)(t:Nat)(u0 u1 u2 u3 u4:Value):(five x t u0 u1 u2 u3 u4).heap.size=x.heap.size:=by simp [five,World.setCell]
theorem two_size (x:World)(t:Nat)(u0 u1:Value):((x.setCell ⟨t,0,none⟩ u0).setCell ⟨t,1,none⟩ u1).heap.size=x.heap.size:=by simp [World.setCell]
structure RM (W:World) (t:Nat) (o:Odr) (t7:Nat) (x:World):Prop where
 bel:Below t W x
 sz:W.heap.size<=x.heap.size
 two:Two x t
 fiv:Five x (t+1)
 ord:∀i v,(enc o)[i]? = some v->x.cell? ⟨t7,i,none⟩=some v
theorem rm_shut {W:World}{t:Nat}{o:Odr}{t7:Nat}:Shut (RM W t o t7):=fun x y hx hy=>by
 have ht:=five_lt hx.fiv;exact⟨hx.bel.trans (hy.mono (by omega)),Nat.le_trans hx.sz hy.size,two_below hx.two hy,five_below hx.fiv hy,fun i v hv=>(hy.cell (World.block_lt_of_cell? _ _ (hx.ord i v hv))).trans (hx.ord i v hv)⟩
theorem rm_two {W x:World}{t t7:Nat}{o:Odr}(h:RM W t o t7 x)(h7:t7≠t)(v0 v1:Value):RM W t o t7 ((x.setCell ⟨t,0,none⟩ v0).setCell ⟨t,1,none⟩ v1) :=
 ⟨two_below_set h.bel (Nat.le_refl _) _ _,by rw [two_size];exact h.sz,two_again h.two _ _,five_two h.fiv (by omega) _ _,fun i v hv=>by rw [set_other _ h7,set_other _ h7];exact h.ord i v hv⟩
theorem rm_five {W x:World}{t t7:Nat}{o:Odr}(h:RM W t o t7 x)(h7:t7≠t+1)(u0 u1 u2 u3 u4:Value):RM W t o t7 (five x (t+1) u0 u1 u2 u3 u4) :=
 ⟨five_below_set h.bel (by omega) _ _ _ _ _,by rw [five_size];exact h.sz,two_five h.two (by omega) _ _ _ _ _,five_again h.fiv _ _ _ _ _,fun i v hv=>by rw [five_other h7];exact h.ord i v hv⟩
abbrev RemovePost (w:World) (X Y:List Odr) (o:Odr) (e:Ending) (w':World):Prop :=
 ∃p1 c1 p2 c2,e=.returned (.tuple #[.agg #[.slice p1 X.length c1,.slice p2 Y.length c2],odrV o,.int .i64 0])/\OV w' p1 c1 X/\OV w' p2 c2 Y/\Below w.heap.size w w'/\(∀a,p1=some a->w.heap.size<=a.block)/\(∀a,p2=some a->w.heap.size<=a.block)
theorem remove_bad (p p':Option Addr)(c c':Nat)(bids asks:List Odr)(id:Int)(w:World)(h:ORow w p bids)(h':ORow w p' asks)(hn:bids.length<=140737488351232)(hn':asks.length<=140737488351232)
  (he:¬findE bids asks id=0) :
  Calls Tryz.prog 127 #[.agg #[.slice p bids.length c,.slice p' asks.length c'],.int .i64 id] w fun e w' =>
   e=.returned (.tuple #[.agg #[.slice none 0 0,.slice none 0 0],odrV noOdr,.int .i64 (findE bids asks id)])/\Below w.heap.size w w':=by
 have hb0:∀o1 o2 o3,Below w.heap.size w (((w.alloc o1).alloc o2).alloc o3):=fun o1 o2 o3=>(((Below.refl _ w).alloc (Nat.le_refl _) _).alloc (by simp) _).alloc (by simp;omega) _;have FI:=hide (fun W hW=>find_any p p' c c' bids asks id W (orow_below h hW) (orow_below h' hW) hn hn');clear h h';generalize findE bids asks id=fe at he FI ⊢;generalize findO bids asks id=fo at FI;obtain⟨a,ac,sd,pr,q⟩:=fo;go_enter Tryz.func127,Tryz.ntmps127;go_wp2_with fail;refine(FI.out _ (hb0 _ _ _)).mono ?_;rintro e W ⟨rfl,hb⟩;have BW:=hide ((hb0 _ _ _).trans (hb.mono (by simp;omega)));have T:=hide (two_below (made3_two _ _ _ _ _) hb);have F:=hide (five_below (made3_five _ _ _ _ _ _ _ _) hb);clear hb hb0 FI;have B1:=hide (BW.out.alloc BW.out.size (.cells #[.int .i64 a,.int .i64 ac,.int .i64 sd,.int .i64 pr,.int .i64 q] 26));have T1:=hide (two_below T.out ((Below.refl W.heap.size W).alloc (Nat.le_refl _) (.cells #[.int .i64 a,.int .i64 ac,.int .i64 sd,.int .i64 pr,.int .i64 q] 26)));have F1:=hide (five_below F.out ((Below.refl W.heap.size W).alloc (Nat.le_refl _) (.cells #[.int .i64 a,.int .i64 ac,.int .i64 sd,.int .i64 pr,.int .i64 q] 26)));clear BW T F;obtain⟨u0,u1,t0,t1,t2,t3⟩:=two_facts T1.out;obtain⟨⟨v0,v1,v2,v3,v4,g0,g1,g2,g3,g4⟩,r0,r1,r2,r3,r4⟩:=five_facts F1.out;have hne:w.heap.size+1+1≠w.heap.size+1:=by omega
 go_wp2;have F2:=five_two F1.out hne (.slice none 0 0) (.slice none 0 0);obtain⟨s0,s1,s2,s3,s4⟩:=five_set F2 (.int .i64 0) (.int .i64 0) (.int .i64 0) (.int .i64 0) (.int .i64 0);obtain⟨q0,q1⟩:=two_set T1.out (.slice none 0 0) (.slice none 0 0);have y0:=(five_other (x:=((W.alloc (.cells #[.int .i64 a,.int .i64 ac,.int .i64 sd,.int .i64 pr,.int .i64 q] 26)).setCell ⟨w.heap.size+1,0,none⟩ (.slice none 0 0)).setCell ⟨w.heap.size+1,1,none⟩ (.slice none 0 0)) (t:=w.heap.size+1+1) (a:=⟨w.heap.size+1,0,none⟩) hne.symm (.int .i64 0) (.int .i64 0) (.int .i64 0) (.int .i64 0) (.int .i64 0)).trans q0;have y1:=(five_other (x:=((W.alloc (.cells #[.int .i64 a,.int .i64 ac,.int .i64 sd,.int .i64 pr,.int .i64 q] 26)).setCell ⟨w.heap.size+1,0,none⟩ (.slice none 0 0)).setCell ⟨w.heap.size+1,1,none⟩ (.slice none 0 0)) (t:=w.heap.size+1+1) (a:=⟨w.heap.size+1,1,none⟩) hne.symm (.int .i64 0) (.int .i64 0) (.int .i64 0) (.int .i64 0) (.int .i64 0)).trans q1;have BF:=five_below_set (two_below_set B1.out (t:=w.heap.size+1) (by omega) (.slice none 0 0) (.slice none 0 0)) (t:=w.heap.size+1+1) (by omega) (.int .i64 0) (.int .i64 0) (.int .i64 0) (.int .i64 0) (.int .i64 0);simp only [five] at s0 s1 s2 s3 s4 y0 y1 BF;generalize (((((((W.alloc (.cells #[.int .i64 a,.int .i64 ac,.int .i64 sd,.int .i64 pr,.int .i64 q] 26)).setCell ⟨w.heap.size+1,0,none⟩ (.slice none 0 0)).setCell ⟨w.heap.size+1,1,none⟩ (.slice none 0 0)).setCell ⟨w.heap.size+1+1,0,none⟩ (.int .i64 0)).setCell ⟨w.heap.size+1+1,1,none⟩ (.int .i64 0)).setCell ⟨w.heap.size+1+1,2,none⟩ (.int .i64 0)).setCell ⟨w.heap.size+1+1,3,none⟩ (.int .i64 0)).setCell ⟨w.heap.size+1+1,4,none⟩ (.int .i64 0)=WF at s0 s1 s2 s3 s4 y0 y1 BF ⊢;refine bodyPost_ret (v:=.tuple #[.agg #[.slice none 0 0,.slice none 0 0],odrV noOdr,.int .i64 fe]) (by simp [results,Tryz.results127,go_sem,s0,s1,s2,s3,s4,y0,y1]) rfl ⟨rfl,BF⟩
theorem remove_ok (p p':Option Addr)(c c':Nat)(bids asks:List Odr)(id:Int)(w:World)(h:OV w p c bids)(h':OV w p' c' asks)(hR:Right bids asks)(o:Odr)(hf:findIn id bids asks=some o) :
  Calls Tryz.prog 127 #[.agg #[.slice p bids.length c,.slice p' asks.length c'],.int .i64 id] w (RemovePost w (without id bids) (without id asks) o):=by
 have mixed:Tryz.prog.follows .mixedOrders=true:=by kernel_rfl
 have hb0:∀o1 o2 o3,Below w.heap.size w (((w.alloc o1).alloc o2).alloc o3):=fun o1 o2 o3=>(((Below.refl _ w).alloc (Nat.le_refl _) _).alloc (by simp) _).alloc (by simp;omega) _;have hl:=hR.few;have hE:findE bids asks id=0:=by unfold findE;rw [if_pos (bookErr_zero.2 hR),hf];rfl
 have hO:findO bids asks id=o:=by unfold findO;rw [if_pos (bookErr_zero.2 hR),hf];rfl
 obtain⟨nb,hnb⟩:∃n,bids.length=n:=⟨_,rfl⟩;obtain⟨na,hna⟩:∃n,asks.length=n:=⟨_,rfl⟩;have FI:Hid (∀W,Below w.heap.size w W->Calls Tryz.prog 167 #[.agg #[.slice p nb c,.slice p' na c'],.int .i64 id] W fun e w'=>e=.returned (.tuple #[odrV o,.int .i64 0])/\Below W.heap.size W w'):=fun W hW=>by
  have:=find_any p p' c c' bids asks id W (orow_below h.row hW) (orow_below h'.row hW) (by omega) (by omega);rw [hE,hO,hnb,hna] at this;exact this
 have WB:Hid (∀W,Below w.heap.size w W->Calls Tryz.prog 169 #[.slice p nb c,.int .i64 id] W fun e w'=>∃v,e=.returned v/\w'.ownsRow W.heap.size 26 5 v (without id bids).length (flat (without id bids))/\Below W.heap.size W w'):=fun W hW=>by
  rw [<- hnb];exact without_any p c bids id W (h.below hW) (by omega)
 have WA:Hid (∀W,Below w.heap.size w W->Calls Tryz.prog 169 #[.slice p' na c',.int .i64 id] W fun e w'=>∃v,e=.returned v/\w'.ownsRow W.heap.size 26 5 v (without id asks).length (flat (without id asks))/\Below W.heap.size W w'):=fun W hW=>by
  rw [<- hna];exact without_any p' c' asks id W (h'.below hW) (by omega)
 rw [hnb,hna];generalize without id bids=X at WB ⊢;generalize without id asks=Y at WA ⊢;clear h h' hR hf hE hO hl hnb hna;obtain⟨a,ac,sd,pr,q⟩:=o;go_enter Tryz.func127,Tryz.ntmps127;go_wp2_with fail;refine(FI.out _ (hb0 _ _ _)).mono ?_;rintro e W ⟨rfl,hb⟩;have BW:=hide ((hb0 _ _ _).trans (hb.mono (by simp;omega)));have T:=hide (two_below (made3_two _ _ _ _ _) hb);have F:=hide (five_below (made3_five _ _ _ _ _ _ _ _) hb);have e0:W.cell? ⟨w.heap.size,0,none⟩=some (.slice p nb c):=box3_a hb rfl;have e1:W.cell? ⟨w.heap.size,1,none⟩=some (.slice p' na c'):=box3_a hb rfl;clear hb hb0 FI;have BA:=(Below.refl W.heap.size W).alloc (Nat.le_refl _) (.cells #[.int .i64 a,.int .i64 ac,.int .i64 sd,.int .i64 pr,.int .i64 q] 26);have tW:Hid (w.heap.size+1+1<W.heap.size):=five_lt F.out;obtain⟨W1,hW1⟩:∃W1,W1=W.alloc (.cells #[.int .i64 a,.int .i64 ac,.int .i64 sd,.int .i64 pr,.int .i64 q] 26):=⟨_,rfl⟩;have R0:Hid (RM W1 (w.heap.size+1) (a,ac,sd,pr,q) W.heap.size { W1 with drawn:=W1.drawn+1 }):=by
  have hx:RM W1 (w.heap.size+1) (a,ac,sd,pr,q) W.heap.size W1:=by
   rw [hW1];exact⟨Below.refl _ _,Nat.le_refl _,two_below T.out BA,five_below F.out BA,fun i v hv=>new_cell _ _ _ _ _ (by simpa [enc] using hv)⟩
  exact rm_shut _ _ hx (below_drawn W1)
 have BW1:Hid (Below w.heap.size w W1):=by rw [hW1];exact BW.out.alloc BW.out.size _
 have f0:W1.cell? ⟨w.heap.size,0,none⟩=some (.slice p nb c):=by rw [hW1];exact cell_alloc e0 _
 have f1:W1.cell? ⟨w.heap.size,1,none⟩=some (.slice p' na c'):=by rw [hW1];exact cell_alloc e1 _
 have sW1:Hid (W.heap.size<W1.heap.size):=by rw [hW1];exact(by simp:W.heap.size<(W.alloc (.cells #[.int .i64 a,.int .i64 ac,.int .i64 sd,.int .i64 pr,.int .i64 q] 26)).heap.size)
 obtain⟨t7,ht7⟩:∃t7,t7=W.heap.size:=⟨_,rfl⟩;rw [<- ht7] at R0 sW1 tW;go_wp2_with fail;rw [<- ht7,<- hW1];clear BA T F BW e0 e1 hW1 ht7;obtain⟨C,hCC⟩:∃C,C=RM W1 (w.heap.size+1) (a,ac,sd,pr,q) t7:=⟨_,rfl⟩;have CR:Hid (∀x,C x->RM W1 (w.heap.size+1) (a,ac,sd,pr,q) t7 x):=fun x hx=>by rw [hCC] at hx;exact hx
 have CQ:Hid (∀x,RM W1 (w.heap.size+1) (a,ac,sd,pr,q) t7 x->C x):=fun x hx=>by rw [hCC];exact hx
 have CS:Hid (Shut C):=by rw [hCC];exact rm_shut
 have hC:∀p1:InC C,∀a v,a.block<w.heap.size+1->W1.cell? a=some v->p1.w.cell? a=some v:=fun p1 a v ha hv=>((CR.out p1.w p1.h).bel.cell ha).trans hv;have g0:=fun p1=>hC p1 ⟨w.heap.size,0,none⟩ _ (by simp) f0;have g1:=fun p1=>hC p1 ⟨w.heap.size,1,none⟩ _ (by simp) f1;have l0:=fun p1:InC C=>(CR.out p1.w p1.h).ord 0 _ rfl;have l1:=fun p1:InC C=>(CR.out p1.w p1.h).ord 1 _ rfl;have l2:=fun p1:InC C=>(CR.out p1.w p1.h).ord 2 _ rfl;have l3:=fun p1:InC C=>(CR.out p1.w p1.h).ord 3 _ rfl;have l4:=fun p1:InC C=>(CR.out p1.w p1.h).ord 4 _ rfl;dsimp only [oid,oac,osd,opr,oqt] at l0 l1 l2 l3 l4;clear hC hCC f0 f1;refine wp_region_mix [(0,true),(1,true),(2,true),(4,true),(5,true),(6,true),(9,true),(3,false),(7,false),(8,true),(10,false),(11,false),(12,true)] C mixed (by kernel_rfl) (CQ.out _ R0.out) ?_;repeat (refine mix_still (by rfl) ?_;go_big_quiet_step (exact rfl);refine wpQuiet_nil ?_)
 refine mix_main (by rfl) ?_;rintro ⟨x1,hx1⟩;dsimp only;have cr1:=CR.out x1 hx1;have bx1:=BW1.out.trans (cr1.bel.mono (by omega));have hcon:=WB.out x1 bx1;have hsz1:Hid ((w.heap.size+1+1+1)<=x1.heap.size):=Nat.le_trans (Nat.succ_le_of_lt (Nat.lt_trans tW.out sW1.out)) cr1.sz;have HX1:=hide hx1;clear cr1 bx1;go_wp2_with (go_at_call 169;refine hcon.mono ?_;rintro e w1 ⟨v1,rfl,hown1,hb1⟩);have hown1':=own_base hown1 hsz1.out;obtain⟨p1,c1,rfl,-,-⟩:=own_ov hown1';refine⟨Owning C (w.heap.size+1+1+1) (.slice p1 X.length c1) X,⟨CS.out x1 w1 HX1.out hb1,hown1'⟩,fun x hx=>hx.1,?_⟩;have CS1:=hide (owning_shut CS.out (w.heap.size+1+1+1) (.slice p1 X.length c1) X);have K1:Hid (∀x,Owning C (w.heap.size+1+1+1) (.slice p1 X.length c1) X x↔C x/\x.ownsRow (w.heap.size+1+1+1) 26 5 (.slice p1 X.length c1) X.length (flat X)):=fun x=>Iff.rfl;generalize Owning C (w.heap.size+1+1+1) (.slice p1 X.length c1) X=C1 at CS1 K1 ⊢;clear hcon hown1 hown1' hb1 w1 HX1 hsz1 g0 g1 l0 l1 l2 l3 l4;refine mix_main (by rfl) ?_;rintro ⟨x2,hx2⟩;dsimp only;have cr2:=CR.out x2 ((K1.out x2).1 hx2).1;have bx2:=BW1.out.trans (cr2.bel.mono (by omega));have hcon:=WA.out x2 bx2;have hsz2:Hid ((w.heap.size+1+1+1)<=x2.heap.size):=Nat.le_trans (Nat.succ_le_of_lt (Nat.lt_trans tW.out sW1.out)) cr2.sz;have HX2:=hide hx2;clear cr2 bx2;go_wp2_with (go_at_call 169;refine hcon.mono ?_;rintro e w2 ⟨v2,rfl,hown2,hb2⟩);have hown2':=own_base hown2 hsz2.out;obtain⟨p2,c2,rfl,-,-⟩:=own_ov hown2';refine⟨Owning C1 (w.heap.size+1+1+1) (.slice p2 Y.length c2) Y,⟨CS1.out x2 w2 HX2.out hb2,hown2'⟩,fun x hx=>hx.1,?_⟩;have K2:Hid (∀x,Owning C1 (w.heap.size+1+1+1) (.slice p2 Y.length c2) Y x↔C1 x/\x.ownsRow (w.heap.size+1+1+1) 26 5 (.slice p2 Y.length c2) Y.length (flat Y)):=fun x=>Iff.rfl;generalize Owning C1 (w.heap.size+1+1+1) (.slice p2 Y.length c2) Y=C2 at K2 ⊢;clear hcon hown2 hown2' hb2 w2 HX2 hsz2;repeat (refine mix_still (by rfl) ?_;go_big_quiet_step (exact rfl);refine wpQuiet_nil ?_)
 refine mix_main (by rfl) ?_;rintro ⟨x3,hx3⟩;dsimp only;obtain⟨y1,y2⟩:=(K2.out x3).1 hx3;obtain⟨z1,z2⟩:=(K1.out x3).1 y1;have cr3:=CR.out x3 z1;obtain⟨u0,u1,t0,t1,t2,t3⟩:=two_facts cr3.two;have h7:t7≠w.heap.size+1:=by have:=tW.out;omega
 have S1:=hide (two_set cr3.two (.slice p1 X.length c1) (.slice p2 Y.length c2));have S2:=hide (CQ.out _ (rm_two cr3 h7 (.slice p1 X.length c1) (.slice p2 Y.length c2)));have S3:=hide (two_ownsRow z2 (t:=w.heap.size+1) (by omega) (.slice p1 X.length c1) (.slice p2 Y.length c2));have S4:=hide (two_ownsRow y2 (t:=w.heap.size+1) (by omega) (.slice p1 X.length c1) (.slice p2 Y.length c2));clear y1 y2 z1 z2 cr3;go_wp2;refine⟨fun x=>C2 x/\x.cell? ⟨w.heap.size+1,0,none⟩=some (.slice p1 X.length c1)/\x.cell? ⟨w.heap.size+1,1,none⟩=some (.slice p2 Y.length c2),⟨(K2.out _).2 ⟨(K1.out _).2 ⟨S2.out,S3.out⟩,S4.out⟩,S1.out.1,S1.out.2⟩,fun x hx=>hx.1,?_⟩;obtain⟨C3,hC3⟩:∃C3:World->Prop,C3=(fun x=>C2 x/\x.cell? ⟨w.heap.size+1,0,none⟩=some (.slice p1 X.length c1)/\x.cell? ⟨w.heap.size+1,1,none⟩=some (.slice p2 Y.length c2)):=⟨_,rfl⟩;rw [<- hC3];have K3:Hid (∀x,C3 x↔C2 x/\x.cell? ⟨w.heap.size+1,0,none⟩=some (.slice p1 X.length c1)/\x.cell? ⟨w.heap.size+1,1,none⟩=some (.slice p2 Y.length c2)):=fun x=>by rw [hC3]
 clear hC3 S1 S2 S3 S4 t0 t1 t2 t3 hx3;refine mix_main (by rfl) ?_;rintro ⟨x4,hx4⟩;dsimp only;obtain⟨k2,s0,s1⟩:=(K3.out x4).1 hx4;obtain⟨y1,y2⟩:=(K2.out x4).1 k2;obtain⟨z1,z2⟩:=(K1.out x4).1 y1;have cr4:=CR.out x4 z1;obtain⟨⟨v0,v1,v2,v3,v4,m0,m1,m2,m3,m4⟩,r0,r1,r2,r3,r4⟩:=five_facts cr4.fiv;have h8:t7≠w.heap.size+1+1:=by have:=tW.out;omega
 have h9:(w.heap.size+1:Nat)≠w.heap.size+1+1:=by omega
 have S1:=hide (five_set cr4.fiv (.int .i64 a) (.int .i64 ac) (.int .i64 sd) (.int .i64 pr) (.int .i64 q));have S2:=hide (CQ.out _ (rm_five cr4 h8 (.int .i64 a) (.int .i64 ac) (.int .i64 sd) (.int .i64 pr) (.int .i64 q)));have S3:=hide (five_ownsRow z2 (t:=w.heap.size+1+1) (by omega) (.int .i64 a) (.int .i64 ac) (.int .i64 sd) (.int .i64 pr) (.int .i64 q));have S4:=hide (five_ownsRow y2 (t:=w.heap.size+1+1) (by omega) (.int .i64 a) (.int .i64 ac) (.int .i64 sd) (.int .i64 pr) (.int .i64 q));have S5:=hide ((five_other (x:=x4) (t:=w.heap.size+1+1) (a:=⟨w.heap.size+1,0,none⟩) h9 (.int .i64 a) (.int .i64 ac) (.int .i64 sd) (.int .i64 pr) (.int .i64 q)).trans s0);have S6:=hide ((five_other (x:=x4) (t:=w.heap.size+1+1) (a:=⟨w.heap.size+1,1,none⟩) h9 (.int .i64 a) (.int .i64 ac) (.int .i64 sd) (.int .i64 pr) (.int .i64 q)).trans s1);clear k2 s0 s1 y1 y2 z1 z2 cr4;go_wp2;refine⟨fun x=>C3 x/\x.cell? ⟨w.heap.size+1+1,0,none⟩=some (.int .i64 a)/\x.cell? ⟨w.heap.size+1+1,1,none⟩=some (.int .i64 ac)/\x.cell? ⟨w.heap.size+1+1,2,none⟩=some (.int .i64 sd)/\x.cell? ⟨w.heap.size+1+1,3,none⟩=some (.int .i64 pr)/\x.cell? ⟨w.heap.size+1+1,4,none⟩=some (.int .i64 q),⟨(K3.out _).2 ⟨(K2.out _).2 ⟨(K1.out _).2 ⟨S2.out,S3.out⟩,S4.out⟩,S5.out,S6.out⟩,S1.out⟩,fun x hx=>hx.1,?_⟩;obtain⟨C4,hC4⟩:∃C4:World->Prop,C4=(fun x=>C3 x/\x.cell? ⟨w.heap.size+1+1,0,none⟩=some (.int .i64 a)/\x.cell? ⟨w.heap.size+1+1,1,none⟩=some (.int .i64 ac)/\x.cell? ⟨w.heap.size+1+1,2,none⟩=some (.int .i64 sd)/\x.cell? ⟨w.heap.size+1+1,3,none⟩=some (.int .i64 pr)/\x.cell? ⟨w.heap.size+1+1,4,none⟩=some (.int .i64 q)):=⟨_,rfl⟩;rw [<- hC4];have K4:Hid (∀x,C4 x↔C3 x/\x.cell? ⟨w.heap.size+1+1,0,none⟩=some (.int .i64 a)/\x.cell? ⟨w.heap.size+1+1,1,none⟩=some (.int .i64 ac)/\x.cell? ⟨w.heap.size+1+1,2,none⟩=some (.int .i64 sd)/\x.cell? ⟨w.heap.size+1+1,3,none⟩=some (.int .i64 pr)/\x.cell? ⟨w.heap.size+1+1,4,none⟩=some (.int .i64 q)):=fun x=>by rw [hC4]
 clear hC4 S1 S2 S3 S4 S5 S6 m0 m1 m2 m3 m4 r0 r1 r2 r3 r4 hx4;repeat (refine mix_still (by rfl) ?_;go_big_quiet_step (exact rfl);refine wpQuiet_nil ?_)
 refine mix_end ?_;rintro ⟨x5,hx5⟩;dsimp only;obtain⟨k3,n0,n1,n2,n3,n4⟩:=(K4.out x5).1 hx5;obtain⟨k2,s0,s1⟩:=(K3.out x5).1 k3;obtain⟨y1,y2⟩:=(K2.out x5).1 k2;obtain⟨z1,z2⟩:=(K1.out x5).1 y1;have bx5:=hide (BW1.out.trans ((CR.out x5 z1).bel.mono (by omega)));obtain⟨p3,c3,ev1,ov1,ob1⟩:=own_ov z2;obtain⟨p4,c4,ev2,ov2,ob2⟩:=own_ov y2;cases ev1;cases ev2;have OV1:=hide ov1;have OV2:=hide ov2;have OB1:=hide ob1;have OB2:=hide ob2;clear k2 k3 y1 y2 z1 z2 ov1 ov2 ob1 ob2
 go_wp2;refine bodyPost_ret (v:=.tuple #[.agg #[.slice p1 X.length c1,.slice p2 Y.length c2],odrV (a,ac,sd,pr,q),.int .i64 0]) (by simp [results,Tryz.results127,go_sem,s0,s1,n0,n1,n2,n3,n4]) rfl ⟨p1,c1,p2,c2,rfl,OV1.out,OV2.out,bx5.out,fun a ha=>by have:=(OB1.out a ha).1;omega,fun a ha=>by have:=(OB2.out a ha).1;omega⟩
end Go.Proofs.YthdjfhnhjiageaaGreatDoor.Bk
