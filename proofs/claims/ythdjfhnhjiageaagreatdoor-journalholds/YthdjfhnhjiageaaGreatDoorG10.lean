import Derived.Test.YthdjfhnhjiageaaGreatDoorG09
set_option maxHeartbeats 8000000
set_option maxRecDepth 100000
namespace Go.Proofs.YthdjfhnhjiageaaGreatDoor.Bk
open Go.RowKit Go.Sort Go.Maps Mix
theorem own_below {w w':World}{B:Nat}{e:TypeId}{s:Nat}{v:Value}{n:Nat}{xs:List Value}(h:w.ownsRow B e s v n xs)(hb:Below w.heap.size w w'):w'.ownsRow B e s v n xs:=by
 refine⟨h.1,?_⟩;rcases h.2 with h | ⟨g,cap,cur,h1,h2,h3,h4⟩
 ·exact .inl h
 ·exact .inr ⟨g,cap,cur,h1,h2,(hb.block g (Array.getElem?_eq_some_iff.1 h3).1).trans h3,h4⟩
theorem own_base {w:World}{B B':Nat}{e:TypeId}{s:Nat}{v:Value}{n:Nat}{xs:List Value}(h:w.ownsRow B e s v n xs)(hB:B'<=B):w.ownsRow B' e s v n xs:=by
 refine⟨h.1,?_⟩;rcases h.2 with h | ⟨g,cap,cur,h1,h2,h3⟩
 ·exact .inl h
 ·exact .inr ⟨g,cap,cur,h1,Nat.le_trans hB h2,h3⟩
theorem with1_any (b off n c B0 B1 i:Nat)(xs:List Odr)(a ac sd pr q:Int)(w:World)(hi:i<n)(hn:xs.length=n)
  (hc:∀j,j<xs.length->∀i v,(enc xs[j]!)[i]? = some v->w.cell? ⟨b,off+j*5+i,none⟩=some v) (h0:w.cell? ⟨B0,0,none⟩=some (.slice (some ⟨b,off,none⟩) n c))
  (k0:w.cell? ⟨B1,0,none⟩=some (.int .i64 a)) (k1:w.cell? ⟨B1,1,none⟩=some (.int .i64 ac)) (k2:w.cell? ⟨B1,2,none⟩=some (.int .i64 sd)) (k3:w.cell? ⟨B1,3,none⟩=some (.int .i64 pr)) (k4:w.cell? ⟨B1,4,none⟩=some (.int .i64 q)) :
  Calls Tryz.prog 220 #[.int .i64 i,.pointer (some ⟨B0,0,none⟩),.pointer (some ⟨B1,0,none⟩)] w fun e w'=>e=.returned (.bool (!ahead xs[i]! (a,ac,sd,pr,q)))/\∃k os,w'=grow (w.drewN k) os:=by
 have mixed:Tryz.prog.follows .mixedOrders=true:=by kernel_rfl
 obtain⟨c0,c1,c2,c3,c4⟩:=orow_cells hc (j:=i) (by omega);generalize xs[i]! = x at c0 c1 c2 c3 c4 ⊢;obtain⟨a',ac',sd',pr',q'⟩:=x;dsimp only [oid,oac,osd,opr,oqt] at c0 c1 c2 c3 c4;have g0:=fun n os=>cell_grown (World.block_lt_of_cell? _ _ h0) h0 n os;have l0:=fun n os=>cell_grown (World.block_lt_of_cell? _ _ k0) k0 n os;have l1:=fun n os=>cell_grown (World.block_lt_of_cell? _ _ k1) k1 n os;have l2:=fun n os=>cell_grown (World.block_lt_of_cell? _ _ k2) k2 n os;have l3:=fun n os=>cell_grown (World.block_lt_of_cell? _ _ k3) k3 n os;have l4:=fun n os=>cell_grown (World.block_lt_of_cell? _ _ k4) k4 n os;have m0:=fun n os=>cell_grown (World.block_lt_of_cell? _ _ c0) c0 n os;have m1:=fun n os=>cell_grown (World.block_lt_of_cell? _ _ c1) c1 n os;have m2:=fun n os=>cell_grown (World.block_lt_of_cell? _ _ c2) c2 n os;have m3:=fun n os=>cell_grown (World.block_lt_of_cell? _ _ c3) c3 n os;have m4:=fun n os=>cell_grown (World.block_lt_of_cell? _ _ c4) c4 n os;have hiz:(i:Int)<(n:Int):=by omega
 clear hc h0 k0 k1 k2 k3 k4 c0 c1 c2 c3 c4 hn;go_enter Tryz.func220,Tryz.ntmps220;go_wp2_with fail;refine wp_region_quiet_grown (by assumption) (by kernel_rfl) ?_;repeat (go_big_quiet_step (first | (go_at_call 191;refine Calls.grown_of (ahead_grow _ _ _ _ _ _ _ _ _ _ _))))
 refine wpQuiet_nil ?_;intro _ hwq;obtain⟨⟨nq,osq⟩,hwq'⟩:=hwq;subst hwq';go_wp2;go_ret;exact⟨rfl,_,_,rfl⟩
theorem place_count (xs:List Odr)(o:Odr):(List.range xs.length).countP (fun i=>!!ahead xs[i]! o)=place xs o:=by
 have:=Go.Lib.countP_range xs.toArray (fun x=>ahead x o);simp only [List.size_toArray] at this;unfold place;rw [<- this];refine List.countP_congr fun i hi=>?_;rw [Bool.not_not];simp only [List.mem_range] at hi;rw [getElem!_pos xs i hi,getElem!_pos xs.toArray i (by simpa using hi)];simp
theorem search_some (b off c B0 B1:Nat)(xs:List Odr)(a ac sd pr q:Int)(w:World)(hn:xs.length<=140737488351232)(hs:∀i j,i<=j->j<xs.length->ahead xs[j]! (a,ac,sd,pr,q)=true->ahead xs[i]! (a,ac,sd,pr,q)=true)
  (hc:∀j,j<xs.length->∀i v,(enc xs[j]!)[i]? = some v->w.cell? ⟨b,off+j*5+i,none⟩=some v) (h0:w.cell? ⟨B0,0,none⟩=some (.slice (some ⟨b,off,none⟩) xs.length c))
  (k0:w.cell? ⟨B1,0,none⟩=some (.int .i64 a)) (k1:w.cell? ⟨B1,1,none⟩=some (.int .i64 ac)) (k2:w.cell? ⟨B1,2,none⟩=some (.int .i64 sd)) (k3:w.cell? ⟨B1,3,none⟩=some (.int .i64 pr)) (k4:w.cell? ⟨B1,4,none⟩=some (.int .i64 q)) :
  Calls Tryz.prog 113 #[.int .i64 xs.length,.func (.func 220) #[] #[.pointer (some ⟨B0,0,none⟩),.pointer (some ⟨B1,0,none⟩)]] w fun e w'=>e=.returned (.int .i64 (place xs (a,ac,sd,pr,q):Nat))/\Below w.heap.size w w':=by
 have eg:∀args w,(callFunc 220 args).run Tryz.prog w=.ok (.enter 220 args) w:=enters_of Tryz.func220 (by kernel_rfl) rfl
 have hcon:=Any.sort_Search Tryz.searchB 220 #[.pointer (some ⟨B0,0,none⟩),.pointer (some ⟨B1,0,none⟩)] xs.length (fun i=>!ahead xs[i]! (a,ac,sd,pr,q)) w eg (by omega)
  (fun m os i hi=>with1_any b off xs.length c B0 B1 i xs a ac sd pr q (grow (w.drewN m) os) hi rfl
   (fun j hj i v hv=>cell_grown (World.block_lt_of_cell? _ _ (hc j hj i v hv)) (hc j hj i v hv) m os)
   (cell_grown (World.block_lt_of_cell? _ _ h0) h0 m os) (cell_grown (World.block_lt_of_cell? _ _ k0) k0 m os) (cell_grown (World.block_lt_of_cell? _ _ k1) k1 m os) (cell_grown (World.block_lt_of_cell? _ _ k2) k2 m os)
   (cell_grown (World.block_lt_of_cell? _ _ k3) k3 m os) (cell_grown (World.block_lt_of_cell? _ _ k4) k4 m os))
  (fun i j hij hj hp=>by
   cases e:ahead xs[j]! (a,ac,sd,pr,q) with
   |false=>rfl
   |true=>rw [hs i j hij hj e] at hp;cases hp)
 rw [place_count] at hcon;refine hcon.mono ?_;rintro e w' ⟨rfl,q1,os1,rfl⟩;exact⟨rfl,grow_below _ _ _⟩
theorem search_none (f:Value)(w:World):Calls Tryz.prog 113 #[.int .i64 0,f] w fun e w'=>e=.returned (.int .i64 0)/\Below w.heap.size w w':=by
 go_enter Tryz.func113,Tryz.ntmps113;go_wp2;refine wp_loop_rounds 1 ?_;rw [rounds_succ];go_wp2;go_ret;exact⟨rfl,Below.refl _ _⟩
theorem laid_joined (xs:List Odr)(o:Odr)(p1 p2 p3:Option Addr)(c1 c2 c3:Nat):joined [(p1,c1,xs.take (place xs o)),(p2,c2,[o]),(p3,c3,xs.drop (place xs o))]=laid xs o:=by
 simp [joined,laid]
theorem orow_take {w:World}{b off:Nat}{xs:List Odr}(hc:∀j,j<xs.length->∀i v,(enc xs[j]!)[i]? = some v->w.cell? ⟨b,off+j*5+i,none⟩=some v)(k:Nat) :
  ∀j,j<(xs.take k).length->∀i v,(enc (xs.take k)[j]!)[i]? = some v->w.cell? ⟨b,off+j*5+i,none⟩=some v:=by
 intro j hj i v hv;have hj':j<xs.length/\j<k:=by simp at hj;omega
 refine hc j hj'.1 i v ?_;rw [getElem!_pos xs j hj'.1];rw [getElem!_pos (xs.take k) j hj,List.getElem_take] at hv;exact hv
theorem orow_drop {w:World}{b off:Nat}{xs:List Odr}(hc:∀j,j<xs.length->∀i v,(enc xs[j]!)[i]? = some v->w.cell? ⟨b,off+j*5+i,none⟩=some v)(k:Nat) :
  ∀j,j<(xs.drop k).length->∀i v,(enc (xs.drop k)[j]!)[i]? = some v->w.cell? ⟨b,off+k*5+j*5+i,none⟩=some v:=by
 intro j hj i v hv;have hj':k+j<xs.length:=by simp at hj;omega
 have:=hc (k+j) hj' i v ?_
 ·rw [show off+k*5+j*5+i=off+(k+j)*5+i by omega];exact this
 ·rw [getElem!_pos xs (k+j) hj'];rw [getElem!_pos (xs.drop k) j hj,List.getElem_drop] at hv;exact hv
theorem with_end (W w x3:World)(g:Nat)(xs:List Odr)(o:Odr)(p1 p3:Option Addr)(c1 c3 gB:Nat)(hW:Below W.heap.size W x3)(hwW:Below w.heap.size w W)
  (h1:OV x3 p1 c1 (xs.take (place xs o))) (h3:OV x3 p3 c3 (xs.drop (place xs o))) (hg:g<x3.heap.size)
  (k0:x3.cell? ⟨g,0,none⟩=some (.slice p1 (xs.take (place xs o)).length c1)) (k1:x3.cell? ⟨g,1,none⟩=some (.slice (some ⟨gB,0,none⟩) 1 1)) (k2:x3.cell? ⟨g,2,none⟩=some (.slice p3 (xs.drop (place xs o)).length c3))
  (hO:∀i v,(enc o)[i]? = some v->x3.cell? ⟨gB,i,none⟩=some v) (hn:(xs.length+1)*40<=140737488351232) :
  Calls Tryz.prog 221 #[.slice (some ⟨g,0,none⟩) 3 3] x3 fun e w'=>∃v,e=.returned v/\w'.ownsRow w.heap.size 26 5 v (laid xs o).length (flat (laid xs o))/\Below x3.heap.size x3 w':=by
 have hov:OV x3 (some ⟨gB,0,none⟩) 1 [o]:=⟨.inr ⟨gB,0,rfl,fun j hj i v hv=>by
  have:j=0:=by simpa using hj
  subst this;simpa using hO i v hv⟩,(fun h=>by cases h),Nat.le_refl _⟩
 have hcon:=concat_any g 3 [(p1,c1,xs.take (place xs o)),(some ⟨gB,0,none⟩,1,[o]),(p3,c3,xs.drop (place xs o))] x3
  (fun j hj=>by
   match j,hj with
   |0,_=>exact k0
   |1,_=>exact k1
   |2,_=>exact k2)
  (fun j hj=>by
   match j,hj with
   |0,_=>exact h1
   |1,_=>exact hov
   |2,_=>exact h3)
  hg (by simp) (by rw [laid_joined,length_laid];exact hn)
 rw [laid_joined] at hcon;refine hcon.mono ?_;rintro e w' ⟨v,rfl,hown,hb⟩;exact⟨v,rfl,own_base hown (Nat.le_trans hwW.size hW.size),hb⟩
theorem with_core (p p3:Option Addr)(c c3:Nat)(xs:List Odr)(a ac sd pr q:Int)(w:World)(hn:xs.length<=1000)(pl:Nat)(hpl:place xs (a,ac,sd,pr,q)=pl)(hle:pl<=xs.length)
  (hsearch:∀W,Below w.heap.size w W->W.cell? ⟨w.heap.size,0,none⟩=some (.slice p xs.length c)->W.cell? ⟨w.heap.size+1,0,none⟩=some (.int .i64 a)->W.cell? ⟨w.heap.size+1,1,none⟩=some (.int .i64 ac)->W.cell? ⟨w.heap.size+1,2,none⟩=some (.int .i64 sd)->W.cell? ⟨w.heap.size+1,3,none⟩=some (.int .i64 pr)->W.cell? ⟨w.heap.size+1,4,none⟩=some (.int .i64 q) ->
   Calls Tryz.prog 113 #[.int .i64 xs.length,.func (.func 220) #[] #[.pointer (some ⟨w.heap.size,0,none⟩),.pointer (some ⟨w.heap.size+1,0,none⟩)]] W fun e w'=>e=.returned (.int .i64 (pl:Nat))/\Below W.heap.size W w')
  (h1:∀x,Below w.heap.size w x->OV x p c (xs.take pl)) (h3:∀x,Below w.heap.size w x->OV x p3 c3 (xs.drop pl))
  (hs1:∀x,Sem.run Tryz.prog (Instr.sliceAt 92 (.slice p xs.length c) none (some (.int .i64 (pl:Nat))) none) x=.ok (.slice p pl c) x)
  (hs2:∀x,Sem.run Tryz.prog (Instr.sliceAt 92 (.slice p xs.length c) (some (.int .i64 (pl:Nat))) none none) x=.ok (.slice p3 (xs.length - pl) c3) x) :
  Calls Tryz.prog 198 #[.slice p xs.length c,.agg #[.int .i64 a,.int .i64 ac,.int .i64 sd,.int .i64 pr,.int .i64 q]] w fun e w'=>∃v,e=.returned v/\w'.ownsRow w.heap.size 26 5 v (laid xs (a,ac,sd,pr,q)).length (flat (laid xs (a,ac,sd,pr,q)))/\Below w.heap.size w w':=by
 have mixed:Tryz.prog.follows .mixedOrders=true:=by kernel_rfl
 have HS:=hide hsearch;have H1:=hide h1;have H3:=hide h3;have LT:Hid ((xs.take pl).length=pl):=by rw [List.length_take];exact Nat.min_eq_left hle
 have LD:Hid ((xs.drop pl).length=xs.length - pl):=List.length_drop;clear hsearch h1 h3;have WE:=hide (fun (W x3:World) (g gB:Nat) hW hwW h1 h3 hg k0 k1 k2 hO=>with_end W w x3 g xs (a,ac,sd,pr,q) p p3 c c3 gB hW hwW h1 h3 hg k0 k1 k2 hO (by omega));rw [hpl,LT.out,LD.out] at WE;generalize hL:laid xs (a,ac,sd,pr,q)=L at WE ⊢;generalize hxn:xs.length=n at hn HS hs1 hs2 WE hle ⊢;clear hL hxn hpl LT LD;have hlez:(pl:Int)<=(n:Int):=by omega
 go_enter Tryz.func198,Tryz.ntmps198;go_wp2_with fail;have hb0:Below w.heap.size w ((w.alloc (.cells #[.slice p n c] 92)).alloc (.cells #[.int .i64 a,.int .i64 ac,.int .i64 sd,.int .i64 pr,.int .i64 q] 26)):=((Below.refl _ w).alloc (Nat.le_refl _) _).alloc (by simp) _;refine(HS.out _ hb0 (cell_alloc (new_cell _ _ _ _ _ rfl) _) (new_cell2 _ _ _ _ _ _ rfl) (new_cell2 _ _ _ _ _ _ rfl) (new_cell2 _ _ _ _ _ _ rfl) (new_cell2 _ _ _ _ _ _ rfl) (new_cell2 _ _ _ _ _ _ rfl)).mono ?_;rintro e W ⟨rfl,hb1⟩;have BW:=hide (hb0.trans (hb1.mono (by simp;omega)));have e0:W.cell? ⟨w.heap.size,0,none⟩=some (.slice p n c):=(hb1.cell (by simp;omega)).trans (cell_alloc (new_cell _ _ _ _ _ rfl) _);have f0:W.cell? ⟨w.heap.size+1,0,none⟩=some (.int .i64 a):=(hb1.cell (by simp)).trans (new_cell2 _ _ _ _ _ _ rfl);have f1:W.cell? ⟨w.heap.size+1,1,none⟩=some (.int .i64 ac):=(hb1.cell (by simp)).trans (new_cell2 _ _ _ _ _ _ rfl);have f2:W.cell? ⟨w.heap.size+1,2,none⟩=some (.int .i64 sd):=(hb1.cell (by simp)).trans (new_cell2 _ _ _ _ _ _ rfl);have f3:W.cell? ⟨w.heap.size+1,3,none⟩=some (.int .i64 pr):=(hb1.cell (by simp)).trans (new_cell2 _ _ _ _ _ _ rfl);have f4:W.cell? ⟨w.heap.size+1,4,none⟩=some (.int .i64 q):=(hb1.cell (by simp)).trans (new_cell2 _ _ _ _ _ _ rfl);clear hb0 hb1 HS;have hC:∀p1:InC (fun x=>Below W.heap.size W x),∀x v,W.cell? x=some v->p1.w.cell? x=some v:=fun p1 x v hx=>(p1.h.cell (World.block_lt_of_cell? _ _ hx)).trans hx;generalize hCC:(fun x=>Below W.heap.size W x)=C at hC;have g0:=fun p1=>hC p1 _ _ e0;have l0:=fun p1=>hC p1 _ _ f0;have l1:=fun p1=>hC p1 _ _ f1;have l2:=fun p1=>hC p1 _ _ f2;have l3:=fun p1=>hC p1 _ _ f3;have l4:=fun p1=>hC p1 _ _ f4;have CE:=hide hCC;have CS:Hid (Shut C):=by rw [<- CE.out];exact shut_below W
 have CW:Hid (∀x,C x->Below W.heap.size W x):=fun x hx=>by rw [<- CE.out] at hx;exact hx
 clear hCC hC e0 f0 f1 f2 f3 f4;go_wp2_with fail;refine wp_region_mix [(0,true),(1,true),(2,true),(3,true),(5,true),(6,true),(7,true),(4,false),(8,false),(9,false),(10,true)] C mixed (by kernel_rfl) (by rw [<- CE.out];exact below_drawn W) ?_;repeat (refine mix_still (by rfl) ?_;go_big_quiet_step (exact rfl);refine wpQuiet_nil ?_)
 refine mix_main (by rfl) ?_;rintro ⟨x1,hx1⟩;go_wp2;have hC1:C (x1.alloc (.cells #[.int .i64 a,.int .i64 ac,.int .i64 sd,.int .i64 pr,.int .i64 q] 26)):=CS.out x1 _ hx1 ((Below.refl _ _).alloc (Nat.le_refl _) _);refine⟨From C (x1.alloc (.cells #[.int .i64 a,.int .i64 ac,.int .i64 sd,.int .i64 pr,.int .i64 q] 26)),from_self hC1,fun x hx=>hx.1,?_⟩;have CS1:=hide (from_shut CS.out (x1.alloc (.cells #[.int .i64 a,.int .i64 ac,.int .i64 sd,.int .i64 pr,.int .i64 q] 26)))
 have K1:Hid (∀x,From C (x1.alloc (.cells #[.int .i64 a,.int .i64 ac,.int .i64 sd,.int .i64 pr,.int .i64 q] 26)) x->C x/\∀i v,(enc (a,ac,sd,pr,q))[i]? = some v->x.cell? ⟨x1.heap.size,i,none⟩=some v) :=
  fun x hx=>⟨hx.1,fun i v hv=>from_cell hx (new_cell _ _ _ _ _ (by simpa [enc] using hv))⟩
 generalize From C (x1.alloc (.cells #[.int .i64 a,.int .i64 ac,.int .i64 sd,.int .i64 pr,.int .i64 q] 26))=C1 at CS1 K1 ⊢;generalize x1.heap.size=gB at K1 ⊢;clear g0 l0 l1 l2 l3 l4 hC1 hx1 x1 hs1 hs2;refine mix_main (by rfl) ?_;rintro ⟨x2,hx2⟩;go_wp2;have hC2:C1 (x2.alloc (.cells #[.slice p pl c,.slice (some ⟨gB,0,none⟩) 1 1,.slice p3 (n - pl) c3] 92)):=CS1.out x2 _ hx2 ((Below.refl _ _).alloc (Nat.le_refl _) _);refine⟨From C1 (x2.alloc (.cells #[.slice p pl c,.slice (some ⟨gB,0,none⟩) 1 1,.slice p3 (n - pl) c3] 92)),from_self hC2,fun x hx=>hx.1,?_⟩
 have K2:Hid (∀x,From C1 (x2.alloc (.cells #[.slice p pl c,.slice (some ⟨gB,0,none⟩) 1 1,.slice p3 (n - pl) c3] 92)) x->C1 x/\x.cell? ⟨x2.heap.size,0,none⟩=some (.slice p pl c)/\x.cell? ⟨x2.heap.size,1,none⟩=some (.slice (some ⟨gB,0,none⟩) 1 1)/\x.cell? ⟨x2.heap.size,2,none⟩=some (.slice p3 (n - pl) c3)) :=
  fun x hx=>⟨hx.1,from_cell hx (new_cell _ _ _ _ _ rfl),from_cell hx (new_cell _ _ _ _ _ rfl),from_cell hx (new_cell _ _ _ _ _ rfl)⟩
 have CS2:=hide (from_shut CS1.out (x2.alloc (.cells #[.slice p pl c,.slice (some ⟨gB,0,none⟩) 1 1,.slice p3 (n - pl) c3] 92)));generalize From C1 (x2.alloc (.cells #[.slice p pl c,.slice (some ⟨gB,0,none⟩) 1 1,.slice p3 (n - pl) c3] 92))=C2 at K2 CS2 ⊢;generalize x2.heap.size=g at K2 ⊢;clear hC2 hx2 x2;refine mix_main (by rfl) ?_;rintro ⟨x3,hx3⟩;dsimp only;obtain⟨y1,y2,y3,y4⟩:=K2.out x3 hx3;obtain⟨z1,z2⟩:=K1.out x3 y1;have b3:=CW.out x3 z1;have b4:=BW.out.trans (b3.mono BW.out.size);have hcon:=WE.out W x3 g gB b3 BW.out (H1.out x3 b4) (H3.out x3 b4) (World.block_lt_of_cell? _ _ y2) y2 y3 y4 z2;have HX:=hide hx3;clear y1 y2 y3 y4 z1 z2 b3 b4 hx3;go_wp2_with (go_at_call 221;refine hcon.mono ?_;rintro e w4 ⟨v,rfl,hown,hb⟩);refine⟨fun x=>C2 x/\Below w.heap.size w x/\x.ownsRow w.heap.size 26 5 v L.length (flat L),⟨?_,?_,hown⟩,fun x hx=>hx.1,?_⟩
 ·exact CS2.out x3 w4 HX.out hb
 ·exact BW.out.trans ((CW.out w4 (K1.out w4 (K2.out w4 (CS2.out x3 w4 HX.out hb)).1).1).mono BW.out.size)
 ·generalize hC3:(fun x=>C2 x/\Below w.heap.size w x/\x.ownsRow w.heap.size 26 5 v L.length (flat L))=C3;have E3:=hide hC3;clear hC3;repeat (refine mix_still (by rfl) ?_;go_big_quiet_step (exact rfl);refine wpQuiet_nil ?_)
  refine mix_end ?_;rintro ⟨x5,hx5⟩;dsimp only;rw [<- E3.out] at hx5;have O5:=hide hx5;clear hx5;go_wp2;go_ret;exact⟨_,rfl,O5.out.2.2,O5.out.2.1⟩
theorem slice_to {p:Option Addr}{n c k:Nat}(hk:k<=c)(x:World):Sem.run Tryz.prog (Instr.sliceAt 92 (.slice p n c) none (some (.int .i64 (k:Nat))) none) x=.ok (.slice p k c) x:=by
 have h1:(k:Int)<=(c:Int):=by omega
 go_simp
theorem slice_from {p:Option Addr}{n c k:Nat}(hk:k<=n)(x:World):Sem.run Tryz.prog (Instr.sliceAt 92 (.slice p n c) (some (.int .i64 (k:Nat))) none none) x=.ok (.slice (if c=k then p else p.map (·.add (k*5))) (n - k) (c - k)) x:=by
 have h1:(k:Int)<=(n:Int):=by omega
 go_simp
theorem ov_take {w:World}{p:Option Addr}{c:Nat}{xs:List Odr}(h:OV w p c xs)(k:Nat):OV w p c (xs.take k):=by
 refine⟨?_,h.nil,?_⟩
 ·rcases h.row with rfl | ⟨b,off,rfl,hc⟩
  ·exact .inl (by simp)
  ·exact .inr ⟨b,off,rfl,orow_take hc k⟩
 ·have:=h.cap;rw [List.length_take];omega
theorem ov_drop {w:World}{p:Option Addr}{c:Nat}{xs:List Odr}(h:OV w p c xs)(k:Nat)(hk:k<=xs.length):OV w (if c=k then p else p.map (·.add (k*5))) (c - k) (xs.drop k):=by
 have hcap:=h.cap;refine⟨?_,?_,?_⟩
 ·by_cases hd:xs.length<=k
  ·exact .inl (List.drop_eq_nil_of_le hd)
  ·rcases h.row with rfl | ⟨b,off,rfl,hc⟩
   ·exact absurd (Nat.zero_le k) hd
   ·rw [if_neg (by omega)];refine .inr ⟨b,off+k*5,?_,orow_drop hc k⟩;rw [Option.map_some,add_lit]
 ·intro he;split at he
  ·omega
  ·have:p=none:=by simpa using he
   have:=h.nil this;omega
 ·rw [List.length_drop];omega
theorem ahead_mono {s:Int}{xs:List Odr}{o:Odr}(h:Side s xs):∀i j,i<=j->j<xs.length->ahead xs[j]! o=true->ahead xs[i]! o=true:=by
 intro i j hij hj ha;by_cases e:i=j
 ·subst e;exact ha
 ·have hi:i<xs.length:=by omega
  rw [getElem!_pos xs j hj] at ha;rw [getElem!_pos xs i hi];refine ahead_trans ?_ (List.pairwise_iff_getElem.1 h.srt i j hi hj (by omega)) ha;rw [h.sd _ (List.getElem_mem hi),h.sd _ (List.getElem_mem hj)]
theorem with_any (p:Option Addr)(c:Nat)(xs:List Odr)(a ac sd pr q:Int)(w:World)(h:OV w p c xs)(hn:xs.length<=1000)(s:Int)(hs:Side s xs) :
  Calls Tryz.prog 198 #[.slice p xs.length c,.agg #[.int .i64 a,.int .i64 ac,.int .i64 sd,.int .i64 pr,.int .i64 q]] w fun e w'=>∃v,e=.returned v/\w'.ownsRow w.heap.size 26 5 v (laid xs (a,ac,sd,pr,q)).length (flat (laid xs (a,ac,sd,pr,q)))/\Below w.heap.size w w':=by
 have hle:place xs (a,ac,sd,pr,q)<=xs.length:=List.countP_le_length;have hcap:=h.cap;refine with_core p _ c _ xs a ac sd pr q w hn _ rfl hle ?_ (fun x hx=>ov_take (h.below hx) _) (fun x hx=>ov_drop (h.below hx) _ hle) (fun x=>slice_to (by omega) x) (fun x=>slice_from hle x);intro W hW e0 k0 k1 k2 k3 k4;by_cases hx:xs=[]
 ·subst hx;exact search_none _ W
 ·rcases h.row with hh | ⟨b,off,rfl,hc⟩
  ·exact absurd hh hx
  ·have hbl:b<w.heap.size:=World.block_lt_of_cell? w _ (hc 0 (List.length_pos_iff.2 hx) 0 _ rfl);exact search_some b off c w.heap.size (w.heap.size+1) xs a ac sd pr q W (by omega) (ahead_mono hs) (fun j hj i v hv=>(hW.cell hbl).trans (hc j hj i v hv)) e0 k0 k1 k2 k3 k4
def Two (x:World) (t:Nat):Prop:=∃u0 u1,x.heap[t]? = some (.cells #[u0,u1] 94 (0,0))
theorem two_below {x y:World}{t:Nat}(h:Two x t)(hb:Below x.heap.size x y):Two y t:=by
 obtain⟨u0,u1,h⟩:=h;exact⟨u0,u1,(hb.block t (Array.getElem?_eq_some_iff.1 h).1).trans h⟩
theorem two_facts {x:World}{t:Nat}(h:Two x t):∃u0 u1,x.cell? ⟨t,0,none⟩=some u0/\x.cell? ⟨t,1,none⟩=some u1/\x.frozen? ⟨t,0,none⟩=false/\x.frozen? ⟨t,1,none⟩=false:=by
 obtain⟨u0,u1,h⟩:=h;refine⟨u0,u1,?_,?_,?_,?_⟩<;>simp [World.cell?,World.frozen?,h]
theorem two_made (w:World)(o1 o2:Obj)(u0 u1:Value):Two (((w.alloc o1).alloc o2).alloc (.cells #[u0,u1] 94)) (w.heap.size+1+1) :=
 ⟨u0,u1,by have:=heap_alloc_new ((w.alloc o1).alloc o2) (.cells #[u0,u1] 94);simpa using this⟩
theorem two_set {x:World}{t:Nat}(h:Two x t)(v0 v1:Value):((x.setCell ⟨t,0,none⟩ v0).setCell ⟨t,1,none⟩ v1).cell? ⟨t,0,none⟩=some v0/\((x.setCell ⟨t,0,none⟩ v0).setCell ⟨t,1,none⟩ v1).cell? ⟨t,1,none⟩=some v1:=by
 obtain⟨u0,u1,h⟩:=h;have h1:((x.setCell ⟨t,0,none⟩ v0).setCell ⟨t,1,none⟩ v1).heap[t]? = some (.cells #[v0,v1] 94 (0,0)):=by
  simp [World.setCell,Array.getElem?_modify,h]
 constructor<;>simp [World.cell?,h1]
theorem two_below_set {B t:Nat}{w x:World}(h:Below B w x)(ht:B<=t)(v0 v1:Value):Below B w ((x.setCell ⟨t,0,none⟩ v0).setCell ⟨t,1,none⟩ v1):=(h.setCell ht _).setCell ht _
theorem rest_bad (p p':Option Addr)(c c':Nat)(bids asks:List Odr)(a ac sd pr q:Int)(w:World)(h:ORow w p bids)(h':ORow w p' asks)(hn:bids.length<=140737488351232)(hn':asks.length<=140737488351232)
  (hm:¬mayRest bids asks (a,ac,sd,pr,q)=0) :
  Calls Tryz.prog 163 #[.agg #[.slice p bids.length c,.slice p' asks.length c'],.agg #[.int .i64 a,.int .i64 ac,.int .i64 sd,.int .i64 pr,.int .i64 q]] w fun e w' =>
   e=.returned (.tuple #[.agg #[.slice none 0 0,.slice none 0 0],.int .i64 (mayRest bids asks (a,ac,sd,pr,q))])/\Below w.heap.size w w':=by
 have mixed:Tryz.prog.follows .mixedOrders=true:=by kernel_rfl
 have hb0:∀o1 o2 o3,Below w.heap.size w (((w.alloc o1).alloc o2).alloc o3):=fun o1 o2 o3=>(((Below.refl _ w).alloc (Nat.le_refl _) _).alloc (by simp) _).alloc (by simp;omega) _;have MR:=hide (fun W hW=>mayRest_any p p' c c' bids asks a ac sd pr q W (orow_below h hW) (orow_below h' hW) hn hn');clear h h';generalize mayRest bids asks (a,ac,sd,pr,q)=r at hm MR ⊢;go_enter Tryz.func163,Tryz.ntmps163;go_wp2_with fail;refine(MR.out _ (hb0 _ _ _)).mono ?_;rintro e W ⟨rfl,hb⟩;have BW:=hide ((hb0 _ _ _).trans (hb.mono (by simp;omega)));have T:=hide (two_below (two_made _ _ _ _ _) hb);obtain⟨u0,u1,t0,t1,t2,t3⟩:=two_facts T.out;clear hb hb0 MR;go_wp2;obtain⟨s0,s1⟩:=two_set T.out (.slice none 0 0) (.slice none 0 0);refine bodyPost_ret (v:=.tuple #[.agg #[.slice none 0 0,.slice none 0 0],.int .i64 r]) (by simp [results,Tryz.results163,go_sem,s0,s1]) rfl ⟨rfl,two_below_set BW.out (by omega) _ _⟩
def RC (W:World) (t:Nat):World->Prop:=fun x=>Below t W x/\W.heap.size<=x.heap.size/\Two x t
theorem rc_shut {W:World}{t:Nat}:Shut (RC W t):=fun x y hx hy=>by
 have ht:t<x.heap.size:=by obtain⟨_,_,h⟩:=hx.2.2;exact(Array.getElem?_eq_some_iff.1 h).1
 exact⟨hx.1.trans (hy.mono (Nat.le_of_lt ht)),Nat.le_trans hx.2.1 hy.size,two_below hx.2.2 hy⟩
def Owning (C:World->Prop) (B:Nat) (v:Value) (xs:List Odr):World->Prop:=fun x=>C x/\x.ownsRow B 26 5 v xs.length (flat xs)
theorem owning_shut {C:World->Prop}(h:Shut C)(B:Nat)(v:Value)(xs:List Odr):Shut (Owning C B v xs):=fun x y hx hy=>⟨h x y hx.1 hy,own_below hx.2 hy⟩
theorem two_ownsRow {x:World}{t B n:Nat}{v:Value}{xs:List Value}(h:x.ownsRow B 26 5 v n xs)(hB:t<B)(v0 v1:Value):((x.setCell ⟨t,0,none⟩ v0).setCell ⟨t,1,none⟩ v1).ownsRow B 26 5 v n xs :=
 ownsRow_setCell_below (ownsRow_setCell_below h hB v0) hB v1
theorem two_again {x:World}{t:Nat}(h:Two x t)(v0 v1:Value):Two ((x.setCell ⟨t,0,none⟩ v0).setCell ⟨t,1,none⟩ v1) t:=by
 obtain⟨u0,u1,h⟩:=h;exact⟨v0,v1,by simp [World.setCell,Array.getElem?_modify,h]⟩
theorem rc_set {W x:World}{t:Nat}(h:RC W t x)(v0 v1:Value):RC W t ((x.setCell ⟨t,0,none⟩ v0).setCell ⟨t,1,none⟩ v1) :=
 ⟨two_below_set h.1 (Nat.le_refl _) _ _,by have:=h.2.1;simpa [World.setCell] using this,two_again h.2.2 v0 v1⟩
theorem box3_a {w W:World}{cs:Array Value}{t:TypeId}{o2 o3:Obj}(hb:Below (((w.alloc (.cells cs t)).alloc o2).alloc o3).heap.size (((w.alloc (.cells cs t)).alloc o2).alloc o3) W){i:Nat}{v:Value}(h:cs[i]? = some v):W.cell? ⟨w.heap.size,i,none⟩=some v:=by
 have:=cell_alloc (cell_alloc (new_cell w cs t i v h) o2) o3;exact(hb.cell (World.block_lt_of_cell? _ _ this)).trans this
theorem box3_b {w W:World}{cs:Array Value}{t:TypeId}{o1 o3:Obj}(hb:Below (((w.alloc o1).alloc (.cells cs t)).alloc o3).heap.size (((w.alloc o1).alloc (.cells cs t)).alloc o3) W){i:Nat}{v:Value}(h:cs[i]? = some v):W.cell? ⟨w.heap.size+1,i,none⟩=some v:=by
 have:=cell_alloc (new_cell2 w o1 cs t i v h) o3;exact(hb.cell (World.block_lt_of_cell? _ _ this)).trans this
abbrev RestPost (w:World) (X Y:List Odr) (e:Ending) (w':World):Prop :=
 ∃p1 c1 p2 c2,e=.returned (.tuple #[.agg #[.slice p1 X.length c1,.slice p2 Y.length c2],.int .i64 0])/\OV w' p1 c1 X/\OV w' p2 c2 Y/\Below w.heap.size w w'/\(∀a,p1=some a->w.heap.size<=a.block)/\(∀a,p2=some a->w.heap.size<=a.block)
theorem rest_buy (p p':Option Addr)(c c':Nat)(bids asks:List Odr)(a ac sd pr q:Int)(w:World)(h:OV w p c bids)(h':OV w p' c' asks)(hm:mayRest bids asks (a,ac,sd,pr,q)=0)(hsd:sd=1) :
  Calls Tryz.prog 163 #[.agg #[.slice p bids.length c,.slice p' asks.length c'],.agg #[.int .i64 a,.int .i64 ac,.int .i64 sd,.int .i64 pr,.int .i64 q]] w (RestPost w (laid bids (a,ac,sd,pr,q)) (asks)):=by
 have mixed:Tryz.prog.follows .mixedOrders=true:=by kernel_rfl
 obtain⟨hR,-,-,-,hl,-,-⟩:=mayRest_zero.1 hm;have hb0:∀o1 o2 o3,Below w.heap.size w (((w.alloc o1).alloc o2).alloc o3):=fun o1 o2 o3=>(((Below.refl _ w).alloc (Nat.le_refl _) _).alloc (by simp) _).alloc (by simp;omega) _;obtain⟨nb,hnb⟩:∃n,bids.length=n:=⟨_,rfl⟩;obtain⟨na,hna⟩:∃n,asks.length=n:=⟨_,rfl⟩;have MR:Hid (∀W,Below w.heap.size w W->Calls Tryz.prog 197 #[.agg #[.slice p nb c,.slice p' na c'],.agg #[.int .i64 a,.int .i64 ac,.int .i64 sd,.int .i64 pr,.int .i64 q]] W fun e w'=>e=.returned (.int .i64 0)/\Below W.heap.size W w'):=fun W hW=>by
  have:=mayRest_any p p' c c' bids asks a ac sd pr q W (orow_below h.row hW) (orow_below h'.row hW) (by omega) (by omega);rw [hm,hnb,hna] at this;exact this
 have WI:Hid (∀W,Below w.heap.size w W->Calls Tryz.prog 198 #[.slice p nb c,.agg #[.int .i64 a,.int .i64 ac,.int .i64 sd,.int .i64 pr,.int .i64 q]] W fun e w'=>∃v,e=.returned v/\w'.ownsRow W.heap.size 26 5 v (laid bids (a,ac,sd,pr,q)).length (flat (laid bids (a,ac,sd,pr,q)))/\Below W.heap.size W w'):=fun W hW=>by
  have:=with_any p c bids a ac sd pr q W (h.below hW) (by omega) 1 hR.b;rw [hnb] at this;exact this
 have CO:Hid (∀W,Below w.heap.size w W->Calls Tryz.prog 199 #[.slice p' na c'] W fun e w'=>∃v,e=.returned v/\w'.ownsRow W.heap.size 26 5 v asks.length (flat asks)/\Below W.heap.size W w'):=fun W hW=>by
  rw [<- hna];exact copyOf_any p' c' asks W (h'.below hW) (by omega)
 have hsb:(sd == 1)=true:=by simp [hsd]
 rw [hnb,hna];generalize laid bids (a,ac,sd,pr,q)=X at WI CO ⊢;generalize asks=Y at WI CO ⊢;clear h h' hm hR hl hsd hnb hna;go_enter Tryz.func163,Tryz.ntmps163;go_wp2_with fail;refine(MR.out _ (hb0 _ _ _)).mono ?_;rintro e W ⟨rfl,hb⟩;have BW:=hide ((hb0 _ _ _).trans (hb.mono (by simp;omega)));have T:=hide (two_below (two_made _ _ _ _ _) hb);have e0:W.cell? ⟨w.heap.size,0,none⟩=some (.slice p nb c):=box3_a hb rfl;have e1:W.cell? ⟨w.heap.size,1,none⟩=some (.slice p' na c'):=box3_a hb rfl;have f0:W.cell? ⟨w.heap.size+1,0,none⟩=some (.int .i64 a):=box3_b hb rfl;have f1:W.cell? ⟨w.heap.size+1,1,none⟩=some (.int .i64 ac):=box3_b hb rfl;have f2:W.cell? ⟨w.heap.size+1,2,none⟩=some (.int .i64 sd):=box3_b hb rfl;have f3:W.cell? ⟨w.heap.size+1,3,none⟩=some (.int .i64 pr):=box3_b hb rfl;have f4:W.cell? ⟨w.heap.size+1,4,none⟩=some (.int .i64 q):=box3_b hb rfl;clear hb hb0 MR;have tW:Hid (w.heap.size+1+1<W.heap.size):=by obtain⟨_,_,h⟩:=T.out;exact(Array.getElem?_eq_some_iff.1 h).1
 obtain⟨C,hCC⟩:∃C,C=RC W (w.heap.size+1+1):=⟨_,rfl⟩;have CR:Hid (∀x,C x->RC W (w.heap.size+1+1) x):=fun x hx=>by rw [hCC] at hx;exact hx
 have CQ:Hid (∀x,RC W (w.heap.size+1+1) x->C x):=fun x hx=>by rw [hCC];exact hx
 have CS:Hid (Shut C):=by rw [hCC];exact rc_shut
 have C0:Hid (C { W with drawn:=W.drawn+1 }):=by rw [hCC];exact⟨(below_drawn W).mono (Nat.le_of_lt tW.out),Nat.le_refl _,two_below T.out (below_drawn W)⟩
 have hC:∀p1:InC C,∀a v,a.block<w.heap.size+1+1->W.cell? a=some v->p1.w.cell? a=some v:=fun p1 a v ha hv=>((CR.out p1.w p1.h).1.cell ha).trans hv;have g0:=fun p1=>hC p1 ⟨w.heap.size,0,none⟩ _ (by simp;omega) e0;have g1:=fun p1=>hC p1 ⟨w.heap.size,1,none⟩ _ (by simp;omega) e1;have l0:=fun p1=>hC p1 ⟨w.heap.size+1,0,none⟩ _ (by simp) f0;have l1:=fun p1=>hC p1 ⟨w.heap.size+1,1,none⟩ _ (by simp) f1;have l2:=fun p1=>hC p1 ⟨w.heap.size+1,2,none⟩ _ (by simp) f2;have l3:=fun p1=>hC p1 ⟨w.heap.size+1,3,none⟩ _ (by simp) f3;have l4:=fun p1=>hC p1 ⟨w.heap.size+1,4,none⟩ _ (by simp) f4;clear hC hCC e0 e1 f0 f1 f3 f4;go_wp2_with fail;clear f2;refine wp_region_mix [(0,true),(1,true),(2,true),(4,true),(5,true),(3,false),(6,false),(7,true),(8,false),(9,true)] C mixed (by kernel_rfl) C0.out ?_;repeat (refine mix_still (by rfl) ?_;go_big_quiet_step (exact rfl);refine wpQuiet_nil ?_)
 refine mix_main (by rfl) ?_;rintro ⟨x1,hx1⟩;dsimp only;have cr1:=CR.out x1 hx1;have bx1:=BW.out.trans (cr1.1.mono (by omega));have hcon:=WI.out x1 bx1;have hsz1:Hid (w.heap.size+1+1+1<=x1.heap.size):=Nat.le_trans tW.out cr1.2.1;have HX1:=hide hx1;clear cr1 bx1;go_wp2_with (go_at_call 198;refine hcon.mono ?_;rintro e w1 ⟨v1,rfl,hown1,hb1⟩);have hown1':=own_base hown1 hsz1.out;obtain⟨p1,c1,rfl,-,-⟩:=own_ov hown1';refine⟨Owning C (w.heap.size+1+1+1) (.slice p1 X.length c1) X,⟨CS.out x1 w1 HX1.out hb1,hown1'⟩,fun x hx=>hx.1,?_⟩;have CS1:=hide (owning_shut CS.out (w.heap.size+1+1+1) (.slice p1 X.length c1) X);have K1:Hid (∀x,Owning C (w.heap.size+1+1+1) (.slice p1 X.length c1) X x↔C x/\x.ownsRow (w.heap.size+1+1+1) 26 5 (.slice p1 X.length c1) X.length (flat X)):=fun x=>Iff.rfl;generalize Owning C (w.heap.size+1+1+1) (.slice p1 X.length c1) X=C1 at CS1 K1 ⊢;clear hcon hown1 hown1' hb1 w1 HX1 hsz1 g0 g1 l0 l1 l2 l3 l4;refine mix_main (by rfl) ?_;rintro ⟨x2,hx2⟩;dsimp only;have cr2:=CR.out x2 ((K1.out x2).1 hx2).1;have bx2:=BW.out.trans (cr2.1.mono (by omega));have hcon:=CO.out x2 bx2;have hsz2:Hid (w.heap.size+1+1+1<=x2.heap.size):=Nat.le_trans tW.out cr2.2.1;have HX2:=hide hx2;clear cr2 bx2;go_wp2_with (go_at_call 199;refine hcon.mono ?_;rintro e w2 ⟨v2,rfl,hown2,hb2⟩);have hown2':=own_base hown2 hsz2.out;obtain⟨p2,c2,rfl,-,-⟩:=own_ov hown2';refine⟨Owning C1 (w.heap.size+1+1+1) (.slice p2 Y.length c2) Y,⟨CS1.out x2 w2 HX2.out hb2,hown2'⟩,fun x hx=>hx.1,?_⟩;have K2:Hid (∀x,Owning C1 (w.heap.size+1+1+1) (.slice p2 Y.length c2) Y x↔C1 x/\x.ownsRow (w.heap.size+1+1+1) 26 5 (.slice p2 Y.length c2) Y.length (flat Y)):=fun x=>Iff.rfl;generalize Owning C1 (w.heap.size+1+1+1) (.slice p2 Y.length c2) Y=C2 at K2 ⊢;clear hcon hown2 hown2' hb2 w2 HX2 hsz2;repeat (refine mix_still (by rfl) ?_;go_big_quiet_step (exact rfl);refine wpQuiet_nil ?_)
 refine mix_main (by rfl) ?_;rintro ⟨x3,hx3⟩;dsimp only;obtain⟨y1,y2⟩:=(K2.out x3).1 hx3;obtain⟨z1,z2⟩:=(K1.out x3).1 y1;have cr3:=CR.out x3 z1;obtain⟨u0,u1,t0,t1,t2,t3⟩:=two_facts cr3.2.2;have S1:=hide (two_set cr3.2.2 (.slice p1 X.length c1) (.slice p2 Y.length c2));have S2:=hide (CQ.out _ (rc_set cr3 (.slice p1 X.length c1) (.slice p2 Y.length c2)));have S3:=hide (two_ownsRow z2 (t:=w.heap.size+1+1) (by omega) (.slice p1 X.length c1) (.slice p2 Y.length c2));have S4:=hide (two_ownsRow y2 (t:=w.heap.size+1+1) (by omega) (.slice p1 X.length c1) (.slice p2 Y.length c2));clear y1 y2 z1 z2 cr3;go_wp2;refine⟨fun x=>C2 x/\x.cell? ⟨w.heap.size+1+1,0,none⟩=some (.slice p1 X.length c1)/\x.cell? ⟨w.heap.size+1+1,1,none⟩=some (.slice p2 Y.length c2),⟨(K2.out _).2 ⟨(K1.out _).2 ⟨S2.out,S3.out⟩,S4.out⟩,S1.out.1,S1.out.2⟩,fun x hx=>hx.1,?_⟩;obtain⟨C3,hC3⟩:∃C3:World->Prop,C3=(fun x=>C2 x/\x.cell? ⟨w.heap.size+1+1,0,none⟩=some (.slice p1 X.length c1)/\x.cell? ⟨w.heap.size+1+1,1,none⟩=some (.slice p2 Y.length c2)):=⟨_,rfl⟩;rw [<- hC3];have K3:Hid (∀x,C3 x->C2 x/\x.cell? ⟨w.heap.size+1+1,0,none⟩=some (.slice p1 X.length c1)/\x.cell? ⟨w.heap.size+1+1,1,none⟩=some (.slice p2 Y.length c2)):=fun x hx=>by rw [hC3] at hx;exact hx
 clear hC3 S1 S2 S3 S4 t0 t1 t2 t3 hx3;repeat (refine mix_still (by rfl) ?_;go_big_quiet_step (exact rfl);refine wpQuiet_nil ?_)
 refine mix_end ?_;rintro ⟨x5,hx5⟩;dsimp only;obtain⟨k2,s0,s1⟩:=K3.out x5 hx5;obtain⟨y1,y2⟩:=(K2.out x5).1 k2;obtain⟨z1,z2⟩:=(K1.out x5).1 y1;have bx5:=hide (BW.out.trans ((CR.out x5 z1).1.mono (by omega)));obtain⟨p3,c3,ev1,ov1,ob1⟩:=own_ov z2;obtain⟨p4,c4,ev2,ov2,ob2⟩:=own_ov y2;cases ev1;cases ev2;have OV1:=hide ov1;have OV2:=hide ov2;have OB1:=hide ob1;have OB2:=hide ob2;clear k2 y1 y2 z1 z2 ov1 ov2 ob1 ob2
 go_wp2;refine bodyPost_ret (v:=.tuple #[.agg #[.slice p1 X.length c1,.slice p2 Y.length c2],.int .i64 0]) (by simp [results,Tryz.results163,go_sem,s0,s1]) rfl ⟨p1,c1,p2,c2,rfl,OV1.out,OV2.out,bx5.out,fun a ha=>by have:=(OB1.out a ha).1;omega,fun a ha=>by have:=(OB2.out a ha).1;omega⟩
theorem rest_sell (p p':Option Addr)(c c':Nat)(bids asks:List Odr)(a ac sd pr q:Int)(w:World)(h:OV w p c bids)(h':OV w p' c' asks)(hm:mayRest bids asks (a,ac,sd,pr,q)=0)(hsd:sd = -1) :
  Calls Tryz.prog 163 #[.agg #[.slice p bids.length c,.slice p' asks.length c'],.agg #[.int .i64 a,.int .i64 ac,.int .i64 sd,.int .i64 pr,.int .i64 q]] w (RestPost w (bids) (laid asks (a,ac,sd,pr,q))):=by
 have mixed:Tryz.prog.follows .mixedOrders=true:=by kernel_rfl
 obtain⟨hR,-,-,-,hl,-,-⟩:=mayRest_zero.1 hm;have hb0:∀o1 o2 o3,Below w.heap.size w (((w.alloc o1).alloc o2).alloc o3):=fun o1 o2 o3=>(((Below.refl _ w).alloc (Nat.le_refl _) _).alloc (by simp) _).alloc (by simp;omega) _;obtain⟨nb,hnb⟩:∃n,bids.length=n:=⟨_,rfl⟩;obtain⟨na,hna⟩:∃n,asks.length=n:=⟨_,rfl⟩;have MR:Hid (∀W,Below w.heap.size w W->Calls Tryz.prog 197 #[.agg #[.slice p nb c,.slice p' na c'],.agg #[.int .i64 a,.int .i64 ac,.int .i64 sd,.int .i64 pr,.int .i64 q]] W fun e w'=>e=.returned (.int .i64 0)/\Below W.heap.size W w'):=fun W hW=>by
  have:=mayRest_any p p' c c' bids asks a ac sd pr q W (orow_below h.row hW) (orow_below h'.row hW) (by omega) (by omega);rw [hm,hnb,hna] at this;exact this
 have WI:Hid (∀W,Below w.heap.size w W->Calls Tryz.prog 198 #[.slice p' na c',.agg #[.int .i64 a,.int .i64 ac,.int .i64 sd,.int .i64 pr,.int .i64 q]] W fun e w'=>∃v,e=.returned v/\w'.ownsRow W.heap.size 26 5 v (laid asks (a,ac,sd,pr,q)).length (flat (laid asks (a,ac,sd,pr,q)))/\Below W.heap.size W w'):=fun W hW=>by
  have:=with_any p' c' asks a ac sd pr q W (h'.below hW) (by omega) (-1) hR.a;rw [hna] at this;exact this
 have CO:Hid (∀W,Below w.heap.size w W->Calls Tryz.prog 199 #[.slice p nb c] W fun e w'=>∃v,e=.returned v/\w'.ownsRow W.heap.size 26 5 v bids.length (flat bids)/\Below W.heap.size W w'):=fun W hW=>by
  rw [<- hnb];exact copyOf_any p c bids W (h.below hW) (by omega)
 have hsb:(sd == 1)=false:=by simp [hsd]
 rw [hnb,hna];generalize bids=X at WI CO ⊢;generalize laid asks (a,ac,sd,pr,q)=Y at WI CO ⊢;clear h h' hm hR hl hsd hnb hna;go_enter Tryz.func163,Tryz.ntmps163;go_wp2_with fail;refine(MR.out _ (hb0 _ _ _)).mono ?_;rintro e W ⟨rfl,hb⟩;have BW:=hide ((hb0 _ _ _).trans (hb.mono (by simp;omega)));have T:=hide (two_below (two_made _ _ _ _ _) hb);have e0:W.cell? ⟨w.heap.size,0,none⟩=some (.slice p nb c):=box3_a hb rfl;have e1:W.cell? ⟨w.heap.size,1,none⟩=some (.slice p' na c'):=box3_a hb rfl;have f0:W.cell? ⟨w.heap.size+1,0,none⟩=some (.int .i64 a):=box3_b hb rfl;have f1:W.cell? ⟨w.heap.size+1,1,none⟩=some (.int .i64 ac):=box3_b hb rfl;have f2:W.cell? ⟨w.heap.size+1,2,none⟩=some (.int .i64 sd):=box3_b hb rfl;have f3:W.cell? ⟨w.heap.size+1,3,none⟩=some (.int .i64 pr):=box3_b hb rfl;have f4:W.cell? ⟨w.heap.size+1,4,none⟩=some (.int .i64 q):=box3_b hb rfl;clear hb hb0 MR;have tW:Hid (w.heap.size+1+1<W.heap.size):=by obtain⟨_,_,h⟩:=T.out;exact(Array.getElem?_eq_some_iff.1 h).1
 obtain⟨C,hCC⟩:∃C,C=RC W (w.heap.size+1+1):=⟨_,rfl⟩;have CR:Hid (∀x,C x->RC W (w.heap.size+1+1) x):=fun x hx=>by rw [hCC] at hx;exact hx
 have CQ:Hid (∀x,RC W (w.heap.size+1+1) x->C x):=fun x hx=>by rw [hCC];exact hx
 have CS:Hid (Shut C):=by rw [hCC];exact rc_shut
 have C0:Hid (C { W with drawn:=W.drawn+1 }):=by rw [hCC];exact⟨(below_drawn W).mono (Nat.le_of_lt tW.out),Nat.le_refl _,two_below T.out (below_drawn W)⟩
 have hC:∀p1:InC C,∀a v,a.block<w.heap.size+1+1->W.cell? a=some v->p1.w.cell? a=some v:=fun p1 a v ha hv=>((CR.out p1.w p1.h).1.cell ha).trans hv;have g0:=fun p1=>hC p1 ⟨w.heap.size,0,none⟩ _ (by simp;omega) e0;have g1:=fun p1=>hC p1 ⟨w.heap.size,1,none⟩ _ (by simp;omega) e1;have l0:=fun p1=>hC p1 ⟨w.heap.size+1,0,none⟩ _ (by simp) f0;have l1:=fun p1=>hC p1 ⟨w.heap.size+1,1,none⟩ _ (by simp) f1;have l2:=fun p1=>hC p1 ⟨w.heap.size+1,2,none⟩ _ (by simp) f2;have l3:=fun p1=>hC p1 ⟨w.heap.size+1,3,none⟩ _ (by simp) f3;have l4:=fun p1=>hC p1 ⟨w.heap.size+1,4,none⟩ _ (by simp) f4;clear hC hCC e0 e1 f0 f1 f3 f4;go_wp2_with fail;clear f2;refine wp_region_mix [(0,true),(1,true),(3,true),(4,true),(5,true),(2,false),(6,false),(7,true),(8,false),(9,true)] C mixed (by kernel_rfl) C0.out ?_;repeat (refine mix_still (by rfl) ?_;go_big_quiet_step (exact rfl);refine wpQuiet_nil ?_)
 refine mix_main (by rfl) ?_;rintro ⟨x1,hx1⟩;dsimp only;have cr1:=CR.out x1 hx1;have bx1:=BW.out.trans (cr1.1.mono (by omega));have hcon:=CO.out x1 bx1;have hsz1:Hid (w.heap.size+1+1+1<=x1.heap.size):=Nat.le_trans tW.out cr1.2.1;have HX1:=hide hx1;clear cr1 bx1;go_wp2_with (go_at_call 199;refine hcon.mono ?_;rintro e w1 ⟨v1,rfl,hown1,hb1⟩);have hown1':=own_base hown1 hsz1.out;obtain⟨p1,c1,rfl,-,-⟩:=own_ov hown1';refine⟨Owning C (w.heap.size+1+1+1) (.slice p1 X.length c1) X,⟨CS.out x1 w1 HX1.out hb1,hown1'⟩,fun x hx=>hx.1,?_⟩;have CS1:=hide (owning_shut CS.out (w.heap.size+1+1+1) (.slice p1 X.length c1) X);have K1:Hid (∀x,Owning C (w.heap.size+1+1+1) (.slice p1 X.length c1) X x↔C x/\x.ownsRow (w.heap.size+1+1+1) 26 5 (.slice p1 X.length c1) X.length (flat X)):=fun x=>Iff.rfl;generalize Owning C (w.heap.size+1+1+1) (.slice p1 X.length c1) X=C1 at CS1 K1 ⊢;clear hcon hown1 hown1' hb1 w1 HX1 hsz1 g0 g1 l0 l1 l2 l3 l4;refine mix_main (by rfl) ?_;rintro ⟨x2,hx2⟩;dsimp only;have cr2:=CR.out x2 ((K1.out x2).1 hx2).1;have bx2:=BW.out.trans (cr2.1.mono (by omega));have hcon:=WI.out x2 bx2;have hsz2:Hid (w.heap.size+1+1+1<=x2.heap.size):=Nat.le_trans tW.out cr2.2.1;have HX2:=hide hx2;clear cr2 bx2;go_wp2_with (go_at_call 198;refine hcon.mono ?_;rintro e w2 ⟨v2,rfl,hown2,hb2⟩);have hown2':=own_base hown2 hsz2.out;obtain⟨p2,c2,rfl,-,-⟩:=own_ov hown2';refine⟨Owning C1 (w.heap.size+1+1+1) (.slice p2 Y.length c2) Y,⟨CS1.out x2 w2 HX2.out hb2,hown2'⟩,fun x hx=>hx.1,?_⟩;have K2:Hid (∀x,Owning C1 (w.heap.size+1+1+1) (.slice p2 Y.length c2) Y x↔C1 x/\x.ownsRow (w.heap.size+1+1+1) 26 5 (.slice p2 Y.length c2) Y.length (flat Y)):=fun x=>Iff.rfl;generalize Owning C1 (w.heap.size+1+1+1) (.slice p2 Y.length c2) Y=C2 at K2 ⊢;clear hcon hown2 hown2' hb2 w2 HX2 hsz2;repeat (refine mix_still (by rfl) ?_;go_big_quiet_step (exact rfl);refine wpQuiet_nil ?_)
 refine mix_main (by rfl) ?_;rintro ⟨x3,hx3⟩;dsimp only;obtain⟨y1,y2⟩:=(K2.out x3).1 hx3;obtain⟨z1,z2⟩:=(K1.out x3).1 y1;have cr3:=CR.out x3 z1;obtain⟨u0,u1,t0,t1,t2,t3⟩:=two_facts cr3.2.2;have S1:=hide (two_set cr3.2.2 (.slice p1 X.length c1) (.slice p2 Y.length c2));have S2:=hide (CQ.out _ (rc_set cr3 (.slice p1 X.length c1) (.slice p2 Y.length c2)));have S3:=hide (two_ownsRow z2 (t:=w.heap.size+1+1) (by omega) (.slice p1 X.length c1) (.slice p2 Y.length c2));have S4:=hide (two_ownsRow y2 (t:=w.heap.size+1+1) (by omega) (.slice p1 X.length c1) (.slice p2 Y.length c2));clear y1 y2 z1 z2 cr3;go_wp2;refine⟨fun x=>C2 x/\x.cell? ⟨w.heap.size+1+1,0,none⟩=some (.slice p1 X.length c1)/\x.cell? ⟨w.heap.size+1+1,1,none⟩=some (.slice p2 Y.length c2),⟨(K2.out _).2 ⟨(K1.out _).2 ⟨S2.out,S3.out⟩,S4.out⟩,S1.out.1,S1.out.2⟩,fun x hx=>hx.1,?_⟩;obtain⟨C3,hC3⟩:∃C3:World->Prop,C3=(fun x=>C2 x/\x.cell? ⟨w.heap.size+1+1,0,none⟩=some (.slice p1 X.length c1)/\x.cell? ⟨w.heap.size+1+1,1,none⟩=some (.slice p2 Y.length c2)):=⟨_,rfl⟩;rw [<- hC3];have K3:Hid (∀x,C3 x->C2 x/\x.cell? ⟨w.heap.size+1+1,0,none⟩=some (.slice p1 X.length c1)/\x.cell? ⟨w.heap.size+1+1,1,none⟩=some (.slice p2 Y.length c2)):=fun x hx=>by rw [hC3] at hx;exact hx
 clear hC3 S1 S2 S3 S4 t0 t1 t2 t3 hx3;repeat (refine mix_still (by rfl) ?_;go_big_quiet_step (exact rfl);refine wpQuiet_nil ?_)
 refine mix_end ?_;rintro ⟨x5,hx5⟩;dsimp only;obtain⟨k2,s0,s1⟩:=K3.out x5 hx5;obtain⟨y1,y2⟩:=(K2.out x5).1 k2;obtain⟨z1,z2⟩:=(K1.out x5).1 y1;have bx5:=hide (BW.out.trans ((CR.out x5 z1).1.mono (by omega)));obtain⟨p3,c3,ev1,ov1,ob1⟩:=own_ov z2;obtain⟨p4,c4,ev2,ov2,ob2⟩:=own_ov y2;cases ev1;cases ev2;have OV1:=hide ov1;have OV2:=hide ov2;have OB1:=hide ob1;have OB2:=hide ob2;clear k2 y1 y2 z1 z2 ov1 ov2 ob1 ob2
 go_wp2;refine bodyPost_ret (v:=.tuple #[.agg #[.slice p1 X.length c1,.slice p2 Y.length c2],.int .i64 0]) (by simp [results,Tryz.results163,go_sem,s0,s1]) rfl ⟨p1,c1,p2,c2,rfl,OV1.out,OV2.out,bx5.out,fun a ha=>by have:=(OB1.out a ha).1;omega,fun a ha=>by have:=(OB2.out a ha).1;omega⟩
theorem rest_any (p p':Option Addr)(c c':Nat)(bids asks:List Odr)(o:Odr)(w:World)(h:OV w p c bids)(h':OV w p' c' asks)(hm:mayRest bids asks o=0) :
  Calls Tryz.prog 163 #[.agg #[.slice p bids.length c,.slice p' asks.length c'],odrV o] w (RestPost w (restB bids o) (restA asks o)):=by
 have ho:=(mayRest_zero.1 hm).2.2.2.1;unfold restB restA;by_cases hs:osd o=1
 ·rw [if_pos hs,if_pos hs];exact rest_buy p p' c c' bids asks o.1 o.2.1 o.2.2.1 o.2.2.2.1 o.2.2.2.2 w h h' hm hs
 ·rw [if_neg hs,if_neg hs];exact rest_sell p p' c c' bids asks o.1 o.2.1 o.2.2.1 o.2.2.2.1 o.2.2.2.2 w h h' hm (by rcases okOrder_sd ho with e | e<;>omega)
end Go.Proofs.YthdjfhnhjiageaaGreatDoor.Bk
