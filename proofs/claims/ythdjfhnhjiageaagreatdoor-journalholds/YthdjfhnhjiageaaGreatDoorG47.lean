import Derived.Test.YthdjfhnhjiageaaGreatDoorG46
set_option maxHeartbeats 8000000
set_option maxRecDepth 100000
namespace Go.Proofs.YthdjfhnhjiageaaGreatDoor.Tx
open Go.RowKit Go.Lib Go.Sort Mix
theorem idxFrom_bd (x:Bs):∀(l:List Bs)(k:Nat),-1<=idxFrom x k l/\idxFrom x k l<=k+l.length
 |[],k=>by unfold idxFrom;simp only [List.length_nil];omega
 |y::l,k=>by
  unfold idxFrom;have:=idxFrom_bd x l (k+1);split
  ·simp only [List.length_cons];omega
  ·simp only [List.length_cons];omega
theorem idxW_bd (l:List Bs)(hl:l.length=8)(x:Bs):-1<=idxW l x/\idxW l x<=8:=by
 have:=idxFrom_bd x l 0;unfold idxW;omega
theorem num_fits (l:Bs):i64 (numB l):=by
 unfold numB i64
 cases h:atoiAll l with
 |ok v=>exact atoiAll_bounds h
 |«syntax»=>dsimp only;omega
 |range=>dsimp only;unfold atoiSat;split<;>omega
theorem guessW_fits (ws:List Bs):(guessW ws).fits:=by
 have n1:=num_fits (ws.getD 1 []);have n2:=num_fits (ws.getD 2 []);have n4:=num_fits (ws.getD 4 []);have n5:=num_fits (ws.getD 5 []);have k0:=idxW_bd kindsL rfl (ws.getD 0 []);have k3:=idxW_bd sidesL rfl (ws.getD 3 []);have k6:=idxW_bd howsL rfl (ws.getD 6 []);have z:i64 0:=by unfold i64;omega
 have hk:i64 (idxW kindsL (ws.getD 0 [])):=by unfold i64;omega
 have hs:i64 (idxW sidesL (ws.getD 3 [])-1):=by unfold i64;omega
 have hh:i64 (idxW howsL (ws.getD 6 [])):=by unfold i64;omega
 unfold guessW;split
 ·exact⟨hk,n1,z,n2,z,z,z,z,z,z⟩
 ·split
  ·exact⟨hk,z,n1,n2,z,z,z,z,z,z⟩
  ·split
   ·exact⟨hk,n1,n2,z,z,z,hs,n5,n4,hh⟩
   ·exact⟨hk,z,z,z,z,z,z,z,z,z⟩
def po0 (k x y:Int):Cd->Prop:=fun c=>∃a b d e f,c = ⟨k,x,y,0,a,b,d,e,f,0,false⟩
def pr0 (k x y sj p q:Int):Cd->Prop:=fun c=>∃a b,c = ⟨k,x,y,0,0,0,sj,p,q,a,b⟩
def pr1 (k x y sj p q hj:Int):Cd->Prop:=fun c=>∃b,c = ⟨k,x,y,0,0,0,sj,p,q,hj,b⟩
theorem guess_any (s:Bs)(hs:s.length<=20000)(w:World)(E:Env w) :
  Calls Tryz.prog 73 #[sV s] w fun e w'=>e=.returned (cdV (guessC s))/\Below w.heap.size w w':=by
 have sh:∀i,((splitW s).getD i []).length<=281474976710656:=fun i=>by have:=word_short s i;omega
 have hl1:=sh 1;have hl2:=sh 2;have hl4:=sh 4;have hl5:=sh 5;have he:eightW (splitW s)=[(splitW s).getD 0 [],(splitW s).getD 1 [],(splitW s).getD 2 [],(splitW s).getD 3 [],(splitW s).getD 4 [],(splitW s).getD 5 [],(splitW s).getD 6 [],(splitW s).getD 7 []]:=rfl;obtain⟨g,hg⟩:∃g,g=guessC s:=⟨_,rfl⟩;rw [<- hg];unfold guessC guessW at hg;have k3:=idxW_bd sidesL rfl ((splitW s).getD 3 []);have hw:IntKind.i64.wrap (idxW sidesL ((splitW s).getD 3 [])-1)=idxW sidesL ((splitW s).getD 3 [])-1:=IntWalk.i64_in _ ⟨by omega,by omega⟩;have hrb:((splitW s).getD 7 [] == wReduce)=decide ((splitW s).getD 7 []=wReduce):=by
  by_cases h:(splitW s).getD 7 []=wReduce
  ·rw [h];decide
  ·rw [decide_eq_false h];exact beq_false_of_ne h
 generalize (splitW s).getD 0 []=l0 at *;generalize (splitW s).getD 1 []=l1 at *;generalize (splitW s).getD 2 []=l2 at *;generalize (splitW s).getD 3 []=l3 at *;generalize (splitW s).getD 4 []=l4 at *;generalize (splitW s).getD 5 []=l5 at *;generalize (splitW s).getD 6 []=l6 at *;generalize (splitW s).getD 7 []=l7 at *;generalize decide (l7=wReduce)=rb at *;obtain⟨kd,hk⟩:∃kd,idxW kindsL l0=kd:=⟨_,rfl⟩;obtain⟨sj0,HS0⟩:∃sj0,Hid (idxW sidesL l3=sj0):=⟨_,rfl⟩;obtain⟨hj,HJ⟩:∃hj,Hid (idxW howsL l6=hj):=⟨_,rfl⟩;obtain⟨sj,hj1⟩:∃sj,sj=sj0-1:=⟨_,rfl⟩;rw [HS0.out] at hg hw;rw [hk,HJ.out,<- hj1] at hg;have hsj:IntKind.i64.wrap (sj0-1)=sj:=by rw [hj1];exact hw
 have HG:=hide hg;clear sh k3 hg hw hj1;have mixed:Tryz.prog.follows .mixedOrders=true:=by kernel_rfl
 obtain⟨W,hW⟩:∃W,W=(w.alloc (cdO noCd)).alloc (.cells #[sV [],sV [],sV [],sV [],sV [],sV [],sV [],sV []] 99):=⟨_,rfl⟩;have HW:=hide hW;have hsz:W.heap.size=w.heap.size+1+1:=by rw [hW];simp
 have RT:Hid (CdAt W w.heap.size noCd):=by
  show W.heap[w.heap.size]? = _;rw [hW,Below.heap_alloc _ _ _ (by simp)];exact heap_alloc_new w _
 have LT:LAt W (w.heap.size+1) [[],[],[],[],[],[],[],[]]:=by
  show W.heap[w.heap.size+1]? = _;rw [hW];have:=heap_alloc_new (w.alloc (cdO noCd)) (.cells #[sV [],sV [],sV [],sV [],sV [],sV [],sV [],sV []] 99);simp only [World.size_alloc] at this;exact this
 have BW:Hid (Below w.heap.size w W):=by rw [hW];exact((Below.refl _ w).alloc (Nat.le_refl _) _).alloc (by simp) _
 have SP:=hide (split_any s hs W.drew);have CP:=copied (X:=(W.alloc (.cells ((splitW s).map sV).toArray 9)).drew) (lb:=w.heap.size+1) (N:=w.heap.size+1+1) (ws:=splitW s) (lat_below LT ((Below.refl _ W).alloc (Nat.le_refl _) _).drew) (fun j v hv=>by
  rw [<- hsz];exact new_cell W _ _ j v (by simpa using hv)) 3
 obtain⟨X,hrun,LX,BX⟩:=CP;have hb1:=BX w.heap.size w ((BW.out.alloc (by omega) _).drew) (by omega);have hb2:=BX (w.heap.size+1) W (((Below.refl _ W).alloc (by omega) _).drew) (Nat.le_refl _);rw [he] at LX;have GI:Hid (GIn w X [l0,l1,l2,l3,l4,l5,l6,l7]):=⟨hb1,by show X.heap[w.heap.size]? = _;rw [hb2.block _ (by omega)];exact RT.out,LX,by have:=hb2.size;omega⟩;have EX:=hide (E.below hb1);clear hW BX hb1 hb2 RT LT BW LX E he;go_enter Tryz.func73,Tryz.ntmps73;go_wp2_with (rw [<- HW.out]);go_region_law (first | (refine step_copy_eq rfl (.tmp 5) (.tmp 7) 76 76 rfl (.slice (some ⟨w.heap.size+1,0,none⟩) 8 8) (.slice (some ⟨w.heap.size+1+1,0,none⟩) (splitW s).length (splitW s).length) (by rfl) (by rfl) hrun ?_) | (go_simp;refine SP.out.mono ?_;rintro e w' ⟨rfl,hw'⟩;rw [hw'];clear hw';dsimp only));clear hrun SP HW hsz;clear W;generalize (splitW s).length.min 8=cn;generalize (splitW s).length=sn;have hC:∀q:InC (fun x=>Below X.heap.size X x),Below X.heap.size X q.w:=fun q=>q.h;have CX:Hid (∀x,Below X.heap.size X x->Below X.heap.size X x):=fun _ h=>h;have CS:Hid (∀x y,Below X.heap.size X x->Below x.heap.size x y->Below X.heap.size X y):=fun x y hx hy=>onward hx hy;have C0:Hid (Below X.heap.size X X.drew):=(Below.refl _ X).drew;have k0:∀q:InC (fun x=>Below X.heap.size X x),q.w.cell? ⟨w.heap.size+1,0,none⟩=some (sV l0):=fun q=>lat_cell (lat_below GI.out.l q.h) 0 rfl;have K1:Hid (∀x,Below X.heap.size X x->_):=fun x (_:Below X.heap.size X x)=>kinds_any x;have K2:Hid (∀x,Below X.heap.size X x->_):=fun x (_:Below X.heap.size X x)=>find_any [] wDeposit wWithdraw wPlace wCancel wIndex wFund wSweep (l0) x;have e1:idxW [[],wDeposit,wWithdraw,wPlace,wCancel,wIndex,wFund,wSweep] (l0)=kd:=hk;rw [e1] at K2;obtain⟨C,hCC⟩:∃C,C=(fun x=>Below X.heap.size X x):=⟨_,rfl⟩;have CX1:Hid (∀x,C x->Below X.heap.size X x):=by rw [hCC];exact fun _ h=>h
 have XC:Hid (∀x,Below X.heap.size X x->C x):=by rw [hCC];exact fun _ h=>h
 have CS1:Hid (∀x y,C x->Below x.heap.size x y->C y):=by rw [hCC];exact CS.out
 have C01:Hid (C X.drew):=by rw [hCC];exact C0.out
 have k01:∀q:InC C,q.w.cell? ⟨w.heap.size+1,0,none⟩=some (sV l0):=fun q=>k0 ⟨q.w,CX1.out _ q.h⟩;have K11:=hide (fun x (hx:C x)=>K1.out x (CX1.out x hx));have K21:=hide (fun x (hx:C x)=>K2.out x (CX1.out x hx));clear CX CS C0 k0 K1 K2 hC hCC e1 hk;have CX:=CX1;have CS:=CS1;have C0:=C01;have k0:=k01;have K1:=K11;have K2:=K21;clear CX1 CS1 C01 k01 K11 K21;go_upto_region 3 with fail;go_cut [4] from 5 (fun cp wx=>∃bk,cp=.pointer (some ⟨bk,0,none⟩)/\Hid (X.heap.size<=bk/\AtP X bk (fun c=>c = ⟨kd,0,0,0,0,0,0,0,0,0,false⟩) wx))
 case first =>
  refine wp_region_tree (.still 1 (.still 2 (.fork 0 (.fork 3 (.still 4 (.main 5 (.main 6 .done))) 5 (.main 3 (.still 4 (.main 6 .done)))) 5 (.main 0 (.main 3 (.still 4 (.main 6 .done))))))) C mixed (by kernel_rfl) C0.out ?_;repeat (refine mixT_still (by rfl) ?_;go_big_quiet_step (exact rfl);refine wpQuiet_nil ?_)
  clear k0;refine mixT_fork (by rfl) (by rfl) ?_ ?_;focus
   rintro ⟨x1,hx1⟩;go_wp2_with (go_at_call 47;refine(K1.out x1 hx1).mono ?_;rintro e w' ⟨rfl,hb'⟩);refine⟨_,CS.out x1 _ hx1 hb',fun _ h=>h,?_⟩;clear hb' hx1;clear x1;try clear w'
   refine mixT_fork (by rfl) (by rfl) ?_ ?_;focus
    rintro ⟨x1,hx1⟩;go_wp2_with (go_at_call 99;refine(K2.out x1 hx1).mono ?_;rintro e w' ⟨rfl,hb'⟩);refine⟨_,CS.out x1 _ hx1 hb',fun _ h=>h,?_⟩;clear hb' hx1;clear x1;try clear w'
    repeat (refine mixT_still (by rfl) ?_;go_big_quiet_step (exact rfl);refine wpQuiet_nil ?_)
    refine mixT_main (by rfl) ?_;rintro ⟨x1,hx1⟩;go_wp2;refine⟨AtP X x1.heap.size (fun _=>True),⟨CS.out x1 _ hx1 (below_alloc x1 _) |> CX.out _,noCd,trivial,heap_alloc_new x1 _⟩,fun x hx=>XC.out x hx.1,?_⟩;obtain⟨bk,hbk⟩:∃bk,bk=x1.heap.size:=⟨_,rfl⟩;rw [<- hbk];have HBK:Hid (X.heap.size<=bk):=by rw [hbk];exact(CX.out _ hx1).size
    clear hbk hx1;clear x1;have CS1:=hide (atP_shut X bk (fun _=>True));have L1:Hid (∀x,AtP X bk (fun _=>True) x->_):=fun x hx=>K1.out x (XC.out x hx.1);have L2:Hid (∀x,AtP X bk (fun _=>True) x->_):=fun x hx=>K2.out x (XC.out x hx.1);clear CS;have CS:=CS1;clear CS1
   rotate_left;focus
    rintro ⟨x1,hx1⟩;go_wp2;refine⟨AtP X x1.heap.size (fun _=>True),⟨CS.out x1 _ hx1 (below_alloc x1 _) |> CX.out _,noCd,trivial,heap_alloc_new x1 _⟩,fun x hx=>XC.out x hx.1,?_⟩;obtain⟨bk,hbk⟩:∃bk,bk=x1.heap.size:=⟨_,rfl⟩;rw [<- hbk];have HBK:Hid (X.heap.size<=bk):=by rw [hbk];exact(CX.out _ hx1).size
    clear hbk hx1;clear x1;have CS1:=hide (atP_shut X bk (fun _=>True));have L1:Hid (∀x,AtP X bk (fun _=>True) x->_):=fun x hx=>K1.out x (XC.out x hx.1);have L2:Hid (∀x,AtP X bk (fun _=>True) x->_):=fun x hx=>K2.out x (XC.out x hx.1);clear CS;have CS:=CS1;clear CS1;refine mixT_main (by rfl) ?_;rintro ⟨x1,hx1⟩;go_wp2_with (go_at_call 99;refine(L2.out x1 hx1).mono ?_;rintro e w' ⟨rfl,hb'⟩);refine⟨_,CS.out x1 _ hx1 hb',fun _ h=>h,?_⟩;clear hb' hx1;clear x1;try clear w'
    repeat (refine mixT_still (by rfl) ?_;go_big_quiet_step (exact rfl);refine wpQuiet_nil ?_)
  rotate_left 2;focus
   rintro ⟨x1,hx1⟩;go_wp2;refine⟨AtP X x1.heap.size (fun _=>True),⟨CS.out x1 _ hx1 (below_alloc x1 _) |> CX.out _,noCd,trivial,heap_alloc_new x1 _⟩,fun x hx=>XC.out x hx.1,?_⟩;obtain⟨bk,hbk⟩:∃bk,bk=x1.heap.size:=⟨_,rfl⟩;rw [<- hbk];have HBK:Hid (X.heap.size<=bk):=by rw [hbk];exact(CX.out _ hx1).size
   clear hbk hx1;clear x1;have CS1:=hide (atP_shut X bk (fun _=>True));have L1:Hid (∀x,AtP X bk (fun _=>True) x->_):=fun x hx=>K1.out x (XC.out x hx.1);have L2:Hid (∀x,AtP X bk (fun _=>True) x->_):=fun x hx=>K2.out x (XC.out x hx.1);clear CS;have CS:=CS1;clear CS1;refine mixT_main (by rfl) ?_;rintro ⟨x1,hx1⟩;go_wp2_with (go_at_call 47;refine(L1.out x1 hx1).mono ?_;rintro e w' ⟨rfl,hb'⟩);refine⟨_,CS.out x1 _ hx1 hb',fun _ h=>h,?_⟩;clear hb' hx1;clear x1;try clear w'
   refine mixT_main (by rfl) ?_;rintro ⟨x1,hx1⟩;go_wp2_with (go_at_call 99;refine(L2.out x1 hx1).mono ?_;rintro e w' ⟨rfl,hb'⟩);refine⟨_,CS.out x1 _ hx1 hb',fun _ h=>h,?_⟩;clear hb' hx1;clear x1;try clear w'
   repeat (refine mixT_still (by rfl) ?_;go_big_quiet_step (exact rfl);refine wpQuiet_nil ?_)
  all_goals
   refine mixT_main (by rfl) ?_;rintro ⟨x1,hb1,cc,-,at1⟩;dsimp only;have A1:=hide at1;have B1:=hide hb1;obtain⟨d0,d1,d2,d3,d4,d5,d6,d7,d8,d9,d10⟩:=cc;obtain⟨c0,c1,c2,c3,c4,c5,c6,c7,c8,c9,c10⟩:=cd_all at1;obtain⟨f0,f1,f2,f3,f4,f5,f6,f7,f8,f9,f10⟩:=cd_frz at1;clear at1 hb1;go_wp2;refine⟨AtP X bk (fun c=>c = ⟨kd,0,0,0,0,0,0,0,0,0,false⟩),⟨putCd_below (r:=bk) B1.out HBK.out ⟨kd,0,0,0,0,0,0,0,0,0,false⟩,_,rfl,putCd_at (r:=bk) A1.out ⟨kd,0,0,0,0,0,0,0,0,0,false⟩⟩,atP_mono (fun _ _=>trivial),?_⟩;clear A1 B1 c0 c1 c2 c3 c4 c5 c6 c7 c8 c9 c10 f0 f1 f2 f3 f4 f5 f6 f7 f8 f9 f10 CS L1 L2;clear d0 d1 d2 d3 d4 d5 d6 d7 d8 d9 d10;clear x1;refine mixT_end ?_;rintro ⟨Y,hY⟩;dsimp only;have AY:=hide hY;clear hY;go_wp2_with fail;go_meet;exact⟨bk,rfl,HBK.out,AY.out⟩
 case rest =>
  obtain⟨bk,rfl,hcut⟩:=hcut;have HBK:=hide hcut.out.1;have AY:=hide hcut.out.2;clear hcut CX XC CS C0 k0 K1 K2;obtain⟨Y,hY⟩:∃Y,Y=wc:=⟨_,rfl⟩;rw [<- hY] at AY ⊢;clear hY;have c00:Y.cell? ⟨bk,0,none⟩=some (.int .i64 kd):=by
   obtain⟨hb1,cc,hcc,at1⟩:=AY.out;rw [hcc] at at1;exact(cd_all at1).1
  go_upto_block 0 with fail;go_cut [] from 5 (fun wx=>Hid (AtP X bk (fun c=>c=g) wx))
  case first =>
   by_cases hA:kd=1\/kd=2\/kd=4
   ·have HR:Hid (g = ⟨kd,numB l1,0,numB l2,0,0,0,0,0,0,false⟩):=by show g=_;rw [HG.out,if_pos hA]
    rcases hA with h | h | h;all_goals
     have b:=eqT h;try have b1:¬kd=1:=by omega
     try have b2:¬kd=2:=by omega
     clear h;have CS:Hid (∀x y,AtP X bk (fun c=>∃a b,c = ⟨kd,a,0,b,0,0,0,0,0,0,false⟩) x->Below x.heap.size x y->AtP X bk (fun c=>∃a b,c = ⟨kd,a,0,b,0,0,0,0,0,0,false⟩) y):=atP_shut X bk _;have C0:Hid (AtP X bk (fun c=>∃a b,c = ⟨kd,a,0,b,0,0,0,0,0,0,false⟩) Y.drew):=CS.out Y _ (atP_mono (fun c hc=>⟨_,_,hc⟩) Y AY.out) (Below.refl _ Y).drew;have q1:∀q:InC (AtP X bk (fun c=>∃a b,c = ⟨kd,a,0,b,0,0,0,0,0,0,false⟩)),q.w.cell? ⟨w.heap.size+1,1,none⟩=some (sV l1):=fun q=>lat_cell (lat_below GI.out.l q.h.1) 1 rfl;have q2:∀q:InC (AtP X bk (fun c=>∃a b,c = ⟨kd,a,0,b,0,0,0,0,0,0,false⟩)),q.w.cell? ⟨w.heap.size+1,2,none⟩=some (sV l2):=fun q=>lat_cell (lat_below GI.out.l q.h.1) 2 rfl;have N1:Hid (∀x,AtP X bk (fun c=>∃a b,c = ⟨kd,a,0,b,0,0,0,0,0,0,false⟩) x->_):=fun x hx=>number_any l1 hl1 x (EX.out.below hx.1);have N2:Hid (∀x,AtP X bk (fun c=>∃a b,c = ⟨kd,a,0,b,0,0,0,0,0,0,false⟩) x->_):=fun x hx=>number_any l2 hl2 x (EX.out.below hx.1);go_wp2_with fail;refine wp_region_mix [(0,true),(1,true),(3,true),(4,true),(2,false),(6,true),(5,false),(7,false),(8,true),(9,false)] (AtP X bk (fun c=>∃a b,c = ⟨kd,a,0,b,0,0,0,0,0,0,false⟩)) mixed (by kernel_rfl) C0.out ?_;repeat (refine mix_still (by rfl) ?_;go_big_quiet_step (exact rfl);refine wpQuiet_nil ?_)
     refine mix_main (by rfl) ?_;rintro ⟨x1,hx1⟩;go_wp2_with (go_at_call 100;refine(N1.out x1 hx1).mono ?_;rintro e w' ⟨rfl,hb'⟩);refine⟨_,CS.out x1 _ hx1 hb',fun _ h=>h,?_⟩;clear hb' hx1;clear x1;try clear w'
     repeat (refine mix_still (by rfl) ?_;go_big_quiet_step (exact rfl);refine wpQuiet_nil ?_)
     refine mix_main (by rfl) ?_;rintro ⟨x1,hx1⟩;go_wp2_with (go_at_call 100;refine(N2.out x1 hx1).mono ?_;rintro e w' ⟨rfl,hb'⟩);refine⟨_,CS.out x1 _ hx1 hb',fun _ h=>h,?_⟩;clear hb' hx1;clear x1;try clear w'
     refine mix_main (by rfl) ?_;rintro ⟨x1,hb1,cc,⟨a,b,rfl⟩,at1⟩;dsimp only;have A1:=hide at1;have B1:=hide hb1;have ci:=cd_cells at1 (Below.refl _ x1) 1 rfl;simp only [List.getElem_toArray,List.getElem_cons_zero,List.getElem_cons_succ] at ci;have fi:=cd_frozen at1 1;clear at1 hb1;go_wp2;refine⟨AtP X bk (fun c=>∃b,c = ⟨kd,numB l1,0,b,0,0,0,0,0,0,false⟩),⟨B1.out.setCell (p:=⟨bk,1,none⟩) HBK.out _,_,⟨_,rfl⟩,cdAt_ac A1.out _⟩,atP_mono (fun c ⟨b,h⟩=>⟨_,b,h⟩),?_⟩;clear A1 B1 ci fi;clear x1;repeat (refine mix_still (by rfl) ?_;go_big_quiet_step (exact rfl);refine wpQuiet_nil ?_)
     refine mix_main (by rfl) ?_;rintro ⟨x1,hb1,cc,⟨b,rfl⟩,at1⟩;dsimp only;have A1:=hide at1;have B1:=hide hb1;have ci:=cd_cells at1 (Below.refl _ x1) 3 rfl;simp only [List.getElem_toArray,List.getElem_cons_zero,List.getElem_cons_succ] at ci;have fi:=cd_frozen at1 3;clear at1 hb1;go_wp2;refine⟨AtP X bk (fun c=>c = ⟨kd,numB l1,0,numB l2,0,0,0,0,0,0,false⟩),⟨B1.out.setCell (p:=⟨bk,3,none⟩) HBK.out _,_,rfl,cdAt_n A1.out _⟩,atP_mono (fun c h=>⟨_,h⟩),?_⟩;clear A1 B1 ci fi;clear x1;try clear c00
     refine mix_end ?_;rintro ⟨Y2,hY2⟩;dsimp only;have AY2:=hide hY2;clear hY2 AY CS C0;try clear N1 N2 q1 q2
     clear Y;obtain⟨Y,hYY⟩:∃Y,Y=Y2:=⟨_,rfl⟩;subst hYY;have AY:=AY2;clear AY2;go_wp2_with fail;go_meet;show AtP _ _ _ _;rw [HR.out];exact AY.out
   have b1:¬kd=1:=by omega
   have b2:¬kd=2:=by omega
   have b4:¬kd=4:=by omega
   by_cases hB:kd=5\/kd=6
   ·have HR:Hid (g = ⟨kd,0,numB l1,numB l2,0,0,0,0,0,0,false⟩):=by show g=_;rw [HG.out,if_neg hA,if_pos hB]
    rcases hB with h | h;all_goals
     have b:=eqT h;try have b5:¬kd=5:=by omega
     clear h hA;have CS:Hid (∀x y,AtP X bk (fun c=>∃a b,c = ⟨kd,0,a,b,0,0,0,0,0,0,false⟩) x->Below x.heap.size x y->AtP X bk (fun c=>∃a b,c = ⟨kd,0,a,b,0,0,0,0,0,0,false⟩) y):=atP_shut X bk _;have C0:Hid (AtP X bk (fun c=>∃a b,c = ⟨kd,0,a,b,0,0,0,0,0,0,false⟩) Y.drew):=CS.out Y _ (atP_mono (fun c hc=>⟨_,_,hc⟩) Y AY.out) (Below.refl _ Y).drew;have q1:∀q:InC (AtP X bk (fun c=>∃a b,c = ⟨kd,0,a,b,0,0,0,0,0,0,false⟩)),q.w.cell? ⟨w.heap.size+1,1,none⟩=some (sV l1):=fun q=>lat_cell (lat_below GI.out.l q.h.1) 1 rfl;have q2:∀q:InC (AtP X bk (fun c=>∃a b,c = ⟨kd,0,a,b,0,0,0,0,0,0,false⟩)),q.w.cell? ⟨w.heap.size+1,2,none⟩=some (sV l2):=fun q=>lat_cell (lat_below GI.out.l q.h.1) 2 rfl;have N1:Hid (∀x,AtP X bk (fun c=>∃a b,c = ⟨kd,0,a,b,0,0,0,0,0,0,false⟩) x->_):=fun x hx=>number_any l1 hl1 x (EX.out.below hx.1);have N2:Hid (∀x,AtP X bk (fun c=>∃a b,c = ⟨kd,0,a,b,0,0,0,0,0,0,false⟩) x->_):=fun x hx=>number_any l2 hl2 x (EX.out.below hx.1);go_wp2_with fail;refine wp_region_mix [(0,true),(1,true),(3,true),(4,true),(2,false),(6,true),(5,false),(7,false),(8,true),(9,false)] (AtP X bk (fun c=>∃a b,c = ⟨kd,0,a,b,0,0,0,0,0,0,false⟩)) mixed (by kernel_rfl) C0.out ?_;repeat (refine mix_still (by rfl) ?_;go_big_quiet_step (exact rfl);refine wpQuiet_nil ?_)
     refine mix_main (by rfl) ?_;rintro ⟨x1,hx1⟩;go_wp2_with (go_at_call 100;refine(N1.out x1 hx1).mono ?_;rintro e w' ⟨rfl,hb'⟩);refine⟨_,CS.out x1 _ hx1 hb',fun _ h=>h,?_⟩;clear hb' hx1;clear x1;try clear w'
     repeat (refine mix_still (by rfl) ?_;go_big_quiet_step (exact rfl);refine wpQuiet_nil ?_)
     refine mix_main (by rfl) ?_;rintro ⟨x1,hx1⟩;go_wp2_with (go_at_call 100;refine(N2.out x1 hx1).mono ?_;rintro e w' ⟨rfl,hb'⟩);refine⟨_,CS.out x1 _ hx1 hb',fun _ h=>h,?_⟩;clear hb' hx1;clear x1;try clear w'
     refine mix_main (by rfl) ?_;rintro ⟨x1,hb1,cc,⟨a,b,rfl⟩,at1⟩;dsimp only;have A1:=hide at1;have B1:=hide hb1;have ci:=cd_cells at1 (Below.refl _ x1) 2 rfl;simp only [List.getElem_toArray,List.getElem_cons_zero,List.getElem_cons_succ] at ci;have fi:=cd_frozen at1 2;clear at1 hb1;go_wp2;refine⟨AtP X bk (fun c=>∃b,c = ⟨kd,0,numB l1,b,0,0,0,0,0,0,false⟩),⟨B1.out.setCell (p:=⟨bk,2,none⟩) HBK.out _,_,⟨_,rfl⟩,cdAt_mkt A1.out _⟩,atP_mono (fun c ⟨b,h⟩=>⟨_,b,h⟩),?_⟩;clear A1 B1 ci fi;clear x1;repeat (refine mix_still (by rfl) ?_;go_big_quiet_step (exact rfl);refine wpQuiet_nil ?_)
     refine mix_main (by rfl) ?_;rintro ⟨x1,hb1,cc,⟨b,rfl⟩,at1⟩;dsimp only;have A1:=hide at1;have B1:=hide hb1;have ci:=cd_cells at1 (Below.refl _ x1) 3 rfl;simp only [List.getElem_toArray,List.getElem_cons_zero,List.getElem_cons_succ] at ci;have fi:=cd_frozen at1 3;clear at1 hb1;go_wp2;refine⟨AtP X bk (fun c=>c = ⟨kd,0,numB l1,numB l2,0,0,0,0,0,0,false⟩),⟨B1.out.setCell (p:=⟨bk,3,none⟩) HBK.out _,_,rfl,cdAt_n A1.out _⟩,atP_mono (fun c h=>⟨_,h⟩),?_⟩;clear A1 B1 ci fi;clear x1;try clear c00
     refine mix_end ?_;rintro ⟨Y2,hY2⟩;dsimp only;have AY2:=hide hY2;clear hY2 AY CS C0;try clear N1 N2 q1 q2
     clear Y;obtain⟨Y,hYY⟩:∃Y,Y=Y2:=⟨_,rfl⟩;subst hYY;have AY:=AY2;clear AY2;go_wp2_with fail;go_meet;show AtP _ _ _ _;rw [HR.out];exact AY.out
   have b5:¬kd=5:=by omega
   have b6:¬kd=6:=by omega
   by_cases h:kd=3
   ·have HR:Hid (g = ⟨kd,numB l1,numB l2,0,0,0,sj,numB l5,numB l4,hj,rb⟩):=by show g=_;rw [HG.out,if_neg hA,if_neg hB,if_pos h]
    have b:=eqT h;clear h hA hB;have CS:Hid (∀x y,AtP X bk (fun c=>∃a b,c = ⟨kd,a,b,0,0,0,0,0,0,0,false⟩) x->Below x.heap.size x y->AtP X bk (fun c=>∃a b,c = ⟨kd,a,b,0,0,0,0,0,0,0,false⟩) y):=atP_shut X bk _;have C0:Hid (AtP X bk (fun c=>∃a b,c = ⟨kd,a,b,0,0,0,0,0,0,0,false⟩) Y.drew):=CS.out Y _ (atP_mono (fun c hc=>⟨_,_,hc⟩) Y AY.out) (Below.refl _ Y).drew;have q1:∀q:InC (AtP X bk (fun c=>∃a b,c = ⟨kd,a,b,0,0,0,0,0,0,0,false⟩)),q.w.cell? ⟨w.heap.size+1,1,none⟩=some (sV l1):=fun q=>lat_cell (lat_below GI.out.l q.h.1) 1 rfl;have q2:∀q:InC (AtP X bk (fun c=>∃a b,c = ⟨kd,a,b,0,0,0,0,0,0,0,false⟩)),q.w.cell? ⟨w.heap.size+1,2,none⟩=some (sV l2):=fun q=>lat_cell (lat_below GI.out.l q.h.1) 2 rfl;have N1:Hid (∀x,AtP X bk (fun c=>∃a b,c = ⟨kd,a,b,0,0,0,0,0,0,0,false⟩) x->_):=fun x hx=>number_any l1 hl1 x (EX.out.below hx.1);have N2:Hid (∀x,AtP X bk (fun c=>∃a b,c = ⟨kd,a,b,0,0,0,0,0,0,0,false⟩) x->_):=fun x hx=>number_any l2 hl2 x (EX.out.below hx.1);go_wp2_with fail;refine wp_region_mix [(0,true),(1,true),(3,true),(4,true),(2,false),(6,true),(5,false),(7,false),(8,true),(9,false)] (AtP X bk (fun c=>∃a b,c = ⟨kd,a,b,0,0,0,0,0,0,0,false⟩)) mixed (by kernel_rfl) C0.out ?_;repeat (refine mix_still (by rfl) ?_;go_big_quiet_step (exact rfl);refine wpQuiet_nil ?_)
    refine mix_main (by rfl) ?_;rintro ⟨x1,hx1⟩;go_wp2_with (go_at_call 100;refine(N1.out x1 hx1).mono ?_;rintro e w' ⟨rfl,hb'⟩);refine⟨_,CS.out x1 _ hx1 hb',fun _ h=>h,?_⟩;clear hb' hx1;clear x1;try clear w'
    repeat (refine mix_still (by rfl) ?_;go_big_quiet_step (exact rfl);refine wpQuiet_nil ?_)
    refine mix_main (by rfl) ?_;rintro ⟨x1,hx1⟩;go_wp2_with (go_at_call 100;refine(N2.out x1 hx1).mono ?_;rintro e w' ⟨rfl,hb'⟩);refine⟨_,CS.out x1 _ hx1 hb',fun _ h=>h,?_⟩;clear hb' hx1;clear x1;try clear w'
    refine mix_main (by rfl) ?_;rintro ⟨x1,hb1,cc,⟨a,b,rfl⟩,at1⟩;dsimp only;have A1:=hide at1;have B1:=hide hb1;have ci:=cd_cells at1 (Below.refl _ x1) 1 rfl;simp only [List.getElem_toArray,List.getElem_cons_zero,List.getElem_cons_succ] at ci;have fi:=cd_frozen at1 1;clear at1 hb1;go_wp2;refine⟨AtP X bk (fun c=>∃b,c = ⟨kd,numB l1,b,0,0,0,0,0,0,0,false⟩),⟨B1.out.setCell (p:=⟨bk,1,none⟩) HBK.out _,_,⟨_,rfl⟩,cdAt_ac A1.out _⟩,atP_mono (fun c ⟨b,h⟩=>⟨_,b,h⟩),?_⟩;clear A1 B1 ci fi;clear x1;repeat (refine mix_still (by rfl) ?_;go_big_quiet_step (exact rfl);refine wpQuiet_nil ?_)
    refine mix_main (by rfl) ?_;rintro ⟨x1,hb1,cc,⟨b,rfl⟩,at1⟩;dsimp only;have A1:=hide at1;have B1:=hide hb1;have ci:=cd_cells at1 (Below.refl _ x1) 2 rfl;simp only [List.getElem_toArray,List.getElem_cons_zero,List.getElem_cons_succ] at ci;have fi:=cd_frozen at1 2;clear at1 hb1;go_wp2;refine⟨AtP X bk (fun c=>c = ⟨kd,numB l1,numB l2,0,0,0,0,0,0,0,false⟩),⟨B1.out.setCell (p:=⟨bk,2,none⟩) HBK.out _,_,rfl,cdAt_mkt A1.out _⟩,atP_mono (fun c h=>⟨_,h⟩),?_⟩;clear A1 B1 ci fi;clear x1;try clear c00
    refine mix_end ?_;rintro ⟨Y2,hY2⟩;dsimp only;have AY2:=hide hY2;clear hY2 AY CS C0;try clear N1 N2 q1 q2
    clear Y;obtain⟨Y,hYY⟩:∃Y,Y=Y2:=⟨_,rfl⟩;subst hYY;have AY:=AY2;clear AY2;have CS:Hid (∀x y,AtP X bk (po0 kd (numB l1) (numB l2)) x->Below x.heap.size x y->AtP X bk (po0 kd (numB l1) (numB l2)) y):=atP_shut X bk _;have C0:Hid (AtP X bk (po0 kd (numB l1) (numB l2)) Y.drew):=CS.out Y _ (atP_mono (fun c hc=>⟨_,_,_,_,_,hc⟩) Y AY.out) (Below.refl _ Y).drew;have q1:∀q:InC (AtP X bk (po0 kd (numB l1) (numB l2))),q.w.cell? ⟨w.heap.size+1,3,none⟩=some (sV l3):=fun q=>lat_cell (lat_below GI.out.l q.h.1) 3 rfl;have q2:∀q:InC (AtP X bk (po0 kd (numB l1) (numB l2))),q.w.cell? ⟨w.heap.size+1,4,none⟩=some (sV l4):=fun q=>lat_cell (lat_below GI.out.l q.h.1) 4 rfl;have q3:∀q:InC (AtP X bk (po0 kd (numB l1) (numB l2))),q.w.cell? ⟨w.heap.size+1,5,none⟩=some (sV l5):=fun q=>lat_cell (lat_below GI.out.l q.h.1) 5 rfl;have N1:Hid (∀x,AtP X bk (po0 kd (numB l1) (numB l2)) x->_):=fun x hx=>number_any l4 hl4 x (EX.out.below hx.1);have N2:Hid (∀x,AtP X bk (po0 kd (numB l1) (numB l2)) x->_):=fun x hx=>number_any l5 hl5 x (EX.out.below hx.1);have N3:Hid (∀x,AtP X bk (po0 kd (numB l1) (numB l2)) x->_):=fun x (_:AtP X bk (po0 kd (numB l1) (numB l2)) x)=>sides_any x;have N4:Hid (∀x,AtP X bk (po0 kd (numB l1) (numB l2)) x->_):=fun x (_:AtP X bk (po0 kd (numB l1) (numB l2)) x)=>find_any wSell [] wBuy [] [] [] [] [] l3 x;have e3:idxW [wSell,[],wBuy,[],[],[],[],[]] l3=sj0:=HS0.out;rw [e3] at N4;clear e3;go_wp2_with fail;refine wp_region_mix [(1,true),(2,true),(5,true),(6,true),(8,true),(9,true),(0,false),(3,false),(4,true),(7,false),(10,false),(11,true),(12,true),(13,false)] (AtP X bk (po0 kd (numB l1) (numB l2))) mixed (by kernel_rfl) C0.out ?_;repeat (refine mix_still (by rfl) ?_;go_big_quiet_step (exact rfl);refine wpQuiet_nil ?_)
    refine mix_main (by rfl) ?_;rintro ⟨x1,hx1⟩;go_wp2_with (go_at_call 70;refine(N3.out x1 hx1).mono ?_;rintro e w' ⟨rfl,hb'⟩);refine⟨_,CS.out x1 _ hx1 hb',fun _ h=>h,?_⟩;clear hb' hx1;clear x1;try clear w'
    refine mix_main (by rfl) ?_;rintro ⟨x1,hx1⟩;go_wp2_with (go_at_call 99;refine(N4.out x1 hx1).mono ?_;rintro e w' ⟨rfl,hb'⟩);refine⟨_,CS.out x1 _ hx1 hb',fun _ h=>h,?_⟩;clear hb' hx1;clear x1;try clear w'
    repeat (refine mix_still (by rfl) ?_;go_big_quiet_step (exact rfl);refine wpQuiet_nil ?_)
    refine mix_main (by rfl) ?_;rintro ⟨x1,hx1⟩;go_wp2_with (go_at_call 100;refine(N1.out x1 hx1).mono ?_;rintro e w' ⟨rfl,hb'⟩);refine⟨_,CS.out x1 _ hx1 hb',fun _ h=>h,?_⟩;clear hb' hx1;clear x1;try clear w'
    refine mix_main (by rfl) ?_;rintro ⟨x1,hx1⟩;go_wp2_with (go_at_call 100;refine(N2.out x1 hx1).mono ?_;rintro e w' ⟨rfl,hb'⟩);refine⟨_,CS.out x1 _ hx1 hb',fun _ h=>h,?_⟩;clear hb' hx1;clear x1;try clear w'
    repeat (refine mix_still (by rfl) ?_;go_big_quiet_step (exact rfl);refine wpQuiet_nil ?_)
    refine mix_main (by rfl) ?_;rintro ⟨x1,hb1,cc,⟨a,b,d,e,f,rfl⟩,at1⟩;dsimp only;have A1:=hide at1;have B1:=hide hb1;obtain⟨-,-,-,-,c4,c5,c6,c7,c8,-,-⟩:=cd_all at1;obtain⟨-,-,-,-,f4,f5,f6,f7,f8,-,-⟩:=cd_frz at1;clear at1 hb1;go_wp2;refine⟨AtP X bk (fun c=>c = ⟨kd,numB l1,numB l2,0,0,0,sj,numB l5,numB l4,0,false⟩),⟨((((B1.out.setCell (p:=⟨bk,4,none⟩) HBK.out _).setCell (p:=⟨bk,5,none⟩) HBK.out _).setCell (p:=⟨bk,6,none⟩) HBK.out _).setCell (p:=⟨bk,7,none⟩) HBK.out _).setCell (p:=⟨bk,8,none⟩) HBK.out _,_,rfl,cdAt_o A1.out _ _ _ _ _⟩,atP_mono (fun c h=>⟨_,_,_,_,_,h⟩),?_⟩;clear A1 B1 c4 c5 c6 c7 c8 f4 f5 f6 f7 f8 N3 N4 q3;clear x1;refine mix_end ?_;rintro ⟨Y2,hY2⟩;dsimp only;have AY2:=hide hY2;clear hY2 AY CS C0;try clear N1 N2 q1 q2
    clear Y;obtain⟨Y,hYY⟩:∃Y,Y=Y2:=⟨_,rfl⟩;subst hYY;have AY:=AY2;clear AY2;have CS:Hid (∀x y,AtP X bk (pr0 kd (numB l1) (numB l2) sj (numB l5) (numB l4)) x->Below x.heap.size x y->AtP X bk (pr0 kd (numB l1) (numB l2) sj (numB l5) (numB l4)) y):=atP_shut X bk _;have C0:Hid (AtP X bk (pr0 kd (numB l1) (numB l2) sj (numB l5) (numB l4)) Y.drew):=CS.out Y _ (atP_mono (fun c hc=>⟨_,_,hc⟩) Y AY.out) (Below.refl _ Y).drew;have q1:∀q:InC (AtP X bk (pr0 kd (numB l1) (numB l2) sj (numB l5) (numB l4))),q.w.cell? ⟨w.heap.size+1,6,none⟩=some (sV l6):=fun q=>lat_cell (lat_below GI.out.l q.h.1) 6 rfl;have q2:∀q:InC (AtP X bk (pr0 kd (numB l1) (numB l2) sj (numB l5) (numB l4))),q.w.cell? ⟨w.heap.size+1,7,none⟩=some (sV l7):=fun q=>lat_cell (lat_below GI.out.l q.h.1) 7 rfl;have N1:Hid (∀x,AtP X bk (pr0 kd (numB l1) (numB l2) sj (numB l5) (numB l4)) x->_):=fun x (_:AtP X bk (pr0 kd (numB l1) (numB l2) sj (numB l5) (numB l4)) x)=>hows_any x;have N2:Hid (∀x,AtP X bk (pr0 kd (numB l1) (numB l2) sj (numB l5) (numB l4)) x->_):=fun x (_:AtP X bk (pr0 kd (numB l1) (numB l2) sj (numB l5) (numB l4)) x)=>find_any [] wLimit wNow wWhole wPost [] [] [] l6 x;have e3:idxW [[],wLimit,wNow,wWhole,wPost,[],[],[]] l6=hj:=HJ.out;rw [e3] at N2;clear e3;go_wp2_with fail;refine wp_region_mix [(1,true),(2,true),(4,true),(5,true),(6,true),(0,false),(3,false),(7,true),(8,false),(9,true),(10,false)] (AtP X bk (pr0 kd (numB l1) (numB l2) sj (numB l5) (numB l4))) mixed (by kernel_rfl) C0.out ?_;repeat (refine mix_still (by rfl) ?_;go_big_quiet_step (exact rfl);refine wpQuiet_nil ?_)
    refine mix_main (by rfl) ?_;rintro ⟨x1,hx1⟩;go_wp2_with (go_at_call 69;refine(N1.out x1 hx1).mono ?_;rintro e w' ⟨rfl,hb'⟩);refine⟨_,CS.out x1 _ hx1 hb',fun _ h=>h,?_⟩;clear hb' hx1;clear x1;try clear w'
    refine mix_main (by rfl) ?_;rintro ⟨x1,hx1⟩;go_wp2_with (go_at_call 99;refine(N2.out x1 hx1).mono ?_;rintro e w' ⟨rfl,hb'⟩);refine⟨_,CS.out x1 _ hx1 hb',fun _ h=>h,?_⟩;clear hb' hx1;clear x1;try clear w'
    repeat (refine mix_still (by rfl) ?_;go_big_quiet_step (exact rfl);refine wpQuiet_nil ?_)
    refine mix_main (by rfl) ?_;rintro ⟨x1,hb1,cc,⟨a,b,rfl⟩,at1⟩;dsimp only;have A1:=hide at1;have B1:=hide hb1;have ci:=cd_cells at1 (Below.refl _ x1) 9 rfl;simp only [List.getElem_toArray,List.getElem_cons_zero,List.getElem_cons_succ] at ci;have fi:=cd_frozen at1 9;clear at1 hb1;go_wp2;refine⟨AtP X bk (pr1 kd (numB l1) (numB l2) sj (numB l5) (numB l4) hj),⟨B1.out.setCell (p:=⟨bk,9,none⟩) HBK.out _,_,⟨_,rfl⟩,cdAt_how A1.out _⟩,atP_mono (fun c ⟨b,h⟩=>⟨_,b,h⟩),?_⟩;clear A1 B1 ci fi;clear x1;repeat (refine mix_still (by rfl) ?_;go_big_quiet_step (exact rfl);refine wpQuiet_nil ?_)
    refine mix_main (by rfl) ?_;rintro ⟨x1,hb1,cc,⟨b,rfl⟩,at1⟩;dsimp only;have A1:=hide at1;have B1:=hide hb1;have ci:=cd_cells at1 (Below.refl _ x1) 10 rfl;simp only [List.getElem_toArray,List.getElem_cons_zero,List.getElem_cons_succ] at ci;have fi:=cd_frozen at1 10;clear at1 hb1;go_wp2;refine⟨AtP X bk (fun c=>c = ⟨kd,numB l1,numB l2,0,0,0,sj,numB l5,numB l4,hj,rb⟩),⟨B1.out.setCell (p:=⟨bk,10,none⟩) HBK.out _,_,rfl,cdAt_red A1.out _⟩,atP_mono (fun c h=>⟨_,h⟩),?_⟩;clear A1 B1 ci fi;clear x1;refine mix_end ?_;rintro ⟨Y2,hY2⟩;dsimp only;have AY2:=hide hY2;clear hY2 AY CS C0;try clear N1 N2 q1 q2
    clear Y;obtain⟨Y,hYY⟩:∃Y,Y=Y2:=⟨_,rfl⟩;subst hYY;have AY:=AY2;clear AY2;go_wp2_with fail;go_meet;show AtP _ _ _ _;rw [HR.out];exact AY.out
   ·have HR:Hid (g = ⟨kd,0,0,0,0,0,0,0,0,0,false⟩):=by show g=_;rw [HG.out,if_neg hA,if_neg hB,if_neg h]
    clear hA hB;go_wp2_with fail;go_meet;show AtP _ _ _ _;rw [HR.out];exact AY.out
  case rest =>
   clear AY c00;have AY:=hcut;clear hcut;clear Y;obtain⟨Y,hY⟩:∃Y,Y=wc:=⟨_,rfl⟩;rw [<- hY] at AY ⊢;clear hY;obtain⟨gk,ga,gm,gn,gi,go,gs,gp,gq,gh,gr⟩:=g;obtain⟨hb1,cc,hcc,at1⟩:=AY.out;rw [hcc] at at1;have rt:=cdAt_below GI.out.ret hb1;have B1:=hide (onward GI.out.low hb1);have R1:=hide rt;obtain⟨c0,c1,c2,c3,c4,c5,c6,c7,c8,c9,c10⟩:=cd_all at1;obtain⟨r0,r1,r2,r3,r4,r5,r6,r7,r8,r9,r10⟩:=cd_all rt;obtain⟨f0,f1,f2,f3,f4,f5,f6,f7,f8,f9,f10⟩:=cd_frz rt;clear rt at1 hb1 AY hcc HG;go_wp2;obtain⟨Z,hZ⟩:∃Z,Z=putCd Y w.heap.size ⟨gk,ga,gm,gn,gi,go,gs,gp,gq,gh,gr⟩:=⟨_,rfl⟩;have ZA:CdAt Z w.heap.size ⟨gk,ga,gm,gn,gi,go,gs,gp,gq,gh,gr⟩:=by rw [hZ];exact putCd_at R1.out _
   have ZB:Below w.heap.size w Z:=by rw [hZ];exact putCd_below B1.out (Nat.le_refl _) _
   change bodyPost _ _ _ _ _ (putCd Y w.heap.size ⟨gk,ga,gm,gn,gi,go,gs,gp,gq,gh,gr⟩);rw [<- hZ];obtain⟨z0,z1,z2,z3,z4,z5,z6,z7,z8,z9,z10⟩:=cd_all ZA;refine bodyPost_ret (v:=cdV ⟨gk,ga,gm,gn,gi,go,gs,gp,gq,gh,gr⟩) (by simp [results,Tryz.results73,go_sem,z0,z1,z2,z3,z4,z5,z6,z7,z8,z9,z10]) rfl ⟨rfl,ZB⟩
theorem parse_long (s:Bs)(hs:20000<s.length)(w:World):Calls Tryz.prog 52 #[sV s] w fun e w'=>e=.returned (.tuple #[cdV noCd,.int .i64 2])/\Below w.heap.size w w':=by
 have hz:(20000:Int)<(s.length:Int):=by omega
 go_enter Tryz.func52,Tryz.ntmps52;go_wp2;refine bodyPost_ret (v:=.tuple #[cdV noCd,.int .i64 2]) (by simp [results,Tryz.results52,go_sem]) rfl ?_;exact⟨rfl,below_alloc w _⟩
theorem parse_short (s:Bs)(c:Cd)(pb:Bs)(pe:Int)(R:Cd)(er:Int)(hR:(pe=0/\pb=s/\R=c/\er=0)\/((¬pe=0\/pe=0/\(pb == s)=false)/\R=noCd/\er=1))(hs:s.length<=20000)(w:World)
  (GU:∀W,Below w.heap.size w W->Calls Tryz.prog 73 #[sV s] W fun e w'=>e=.returned (cdV c)/\Below W.heap.size W w')
  (PR:∀W,Below w.heap.size w W->Calls Tryz.prog 27 #[cdV c] W fun e w'=>e=.returned (.tuple #[sV pb,.int .i64 pe])/\Below W.heap.size W w') :
  Calls Tryz.prog 52 #[sV s] w fun e w'=>e=.returned (.tuple #[cdV R,.int .i64 er])/\Below w.heap.size w w':=by
 have hz:(s.length:Int)<=20000:=by omega
 have hz2:¬(20000:Int)<(s.length:Int):=by omega
 obtain⟨W,hW⟩:∃W,W=w.alloc (cdO noCd):=⟨_,rfl⟩;have BW:Hid (Below w.heap.size w W):=by rw [hW];exact below_alloc w _
 have RT:Hid (CdAt W w.heap.size noCd):=by show W.heap[w.heap.size]? = _;rw [hW];exact heap_alloc_new w _
 have HW:=hide hW;have G1:=hide (GU W BW.out);have P1:=hide PR;clear GU PR hW hs;go_enter Tryz.func52,Tryz.ntmps52;go_wp2_with (rw [<- HW.out]);refine G1.out.mono ?_;rintro e X ⟨rfl,hb⟩;have RX:=hide (cdAt_below RT.out hb);have BX:=hide (onward BW.out hb);clear G1 hb RT BW HW;clear W;obtain⟨kind,ac,mkt,n,oi,oa,sd,pr,qt,how,red⟩:=c;obtain⟨Y,hY⟩:∃Y,Y=X.alloc (cdO ⟨kind,ac,mkt,n,oi,oa,sd,pr,qt,how,red⟩):=⟨_,rfl⟩;have AY:CdAt Y X.heap.size ⟨kind,ac,mkt,n,oi,oa,sd,pr,qt,how,red⟩:=by show Y.heap[X.heap.size]? = _;rw [hY];exact heap_alloc_new X _
 have bY:Below X.heap.size X Y:=by rw [hY];exact below_alloc X _
 have RY:=hide (cdAt_below RX.out bY);have BY:=hide (onward BX.out bY);have PY:=hide (P1.out Y BY.out);have HY:=hide hY;have AYH:=hide AY;obtain⟨c0,c1,c2,c3,c4,c5,c6,c7,c8,c9,c10⟩:=cd_all AY;clear hY bY RX BX P1 AY;go_wp2_with (rw [<- HY.out]);refine PY.out.mono ?_;rintro e Z0 ⟨rfl,hb⟩;have AZ:=cdAt_below AYH.out hb;have RZ:=cdAt_below RY.out hb;have BZ:=hide (onward BY.out hb);have RZH:=hide RZ;clear hb PY c0 c1 c2 c3 c4 c5 c6 c7 c8 c9 c10 AYH RY BY HY;clear Y;generalize X.heap.size=bk at *;obtain⟨g0,g1,g2,g3,g4,g5,g6,g7,g8,g9,g10⟩:=cd_all RZ;obtain⟨h0,h1,h2,h3,h4,h5,h6,h7,h8,h9,h10⟩:=cd_frz RZ;obtain⟨c0,c1,c2,c3,c4,c5,c6,c7,c8,c9,c10⟩:=cd_all AZ;clear RZ AZ;rcases hR with⟨rfl,rfl,rfl,rfl⟩ | ⟨h | ⟨rfl,h⟩,rfl,rfl⟩
 ·go_wp2;obtain⟨Z,hZ⟩:∃Z,Z=putCd Z0 w.heap.size ⟨kind,ac,mkt,n,oi,oa,sd,pr,qt,how,red⟩:=⟨_,rfl⟩;have ZA:CdAt Z w.heap.size ⟨kind,ac,mkt,n,oi,oa,sd,pr,qt,how,red⟩:=by rw [hZ];exact putCd_at RZH.out _
  have ZB:Below w.heap.size w Z:=by rw [hZ];exact putCd_below BZ.out (Nat.le_refl _) _
  change bodyPost _ _ _ _ _ (putCd Z0 w.heap.size ⟨kind,ac,mkt,n,oi,oa,sd,pr,qt,how,red⟩);rw [<- hZ];obtain⟨z0,z1,z2,z3,z4,z5,z6,z7,z8,z9,z10⟩:=cd_all ZA;refine bodyPost_ret (v:=.tuple #[cdV ⟨kind,ac,mkt,n,oi,oa,sd,pr,qt,how,red⟩,.int .i64 0]) (by simp [results,Tryz.results52,go_sem,z0,z1,z2,z3,z4,z5,z6,z7,z8,z9,z10]) rfl ⟨rfl,ZB⟩
 rotate_left;all_goals
  go_wp2;obtain⟨Z,hZ⟩:∃Z,Z=putCd Z0 w.heap.size noCd:=⟨_,rfl⟩;have ZA:CdAt Z w.heap.size noCd:=by rw [hZ];exact putCd_at RZH.out _
  have ZB:Below w.heap.size w Z:=by rw [hZ];exact putCd_below BZ.out (Nat.le_refl _) _
  change bodyPost _ _ _ _ _ (putCd Z0 w.heap.size noCd);rw [<- hZ];obtain⟨z0,z1,z2,z3,z4,z5,z6,z7,z8,z9,z10⟩:=cd_all ZA;refine bodyPost_ret (v:=.tuple #[cdV noCd,.int .i64 1]) (by simp [results,Tryz.results52,go_sem,z0,z1,z2,z3,z4,z5,z6,z7,z8,z9,z10]) rfl ⟨rfl,ZB⟩
theorem parse_any (s:Bs)(w:World)(E:Env w):Calls Tryz.prog 52 #[sV s] w fun e w'=>e=.returned (.tuple #[cdV (parseC s).1,.int .i64 (parseC s).2])/\Below w.heap.size w w':=by
 unfold parseC;by_cases hs:20000<s.length
 ·rw [if_pos hs];exact parse_long s hs w
 ·rw [if_neg hs];have hs':s.length<=20000:=by omega
  have hf:(guessC s).fits:=guessW_fits _;have GU:=fun W hW=>guess_any s hs' W (E.below hW);have PR:=fun W hW=>print_any (guessC s) W hf (E.below hW);refine parse_short s (guessC s) _ _ _ _ ?_ hs' w GU PR;unfold printS;by_cases hc:checkC (guessC s)=0
  ·rw [if_pos hc];by_cases hp:printC (guessC s)=s
   ·rw [if_pos ⟨hc,hp⟩];exact .inl ⟨hc,hp,rfl,rfl⟩
   ·rw [if_neg (fun h=>hp h.2)];exact .inr ⟨.inr ⟨hc,beq_false_of_ne hp⟩,rfl,rfl⟩
  ·rw [if_neg hc,if_neg (fun h=>hc h.1)];exact .inr ⟨.inl hc,rfl,rfl⟩
end Go.Proofs.YthdjfhnhjiageaaGreatDoor.Tx
