/-
  The closed fact of chapter 7: two trade, one is closed.
-/
import Derived.Test.YtpkbiafhnflmnaaGreatDoorT44
namespace Go.Proofs.YtpkbiafhnflmnaaGreatDoor.Vn
open Go.RowKit Num Fix AcP FuP Bk Rm Ac Go.Sort Go.Maps Mix RkP
abbrev newT:Tn:=⟨[],[([],[],100,0)],0,0,1,0,0,[]⟩
theorem newT_ok:checkE newT=0:=by decide
abbrev mk1:Mkt:=((none,0,[]),(none,0,[]),100,0)
abbrev oneM:List Value:=[.slice none 0 0,.slice none 0 0,.int .i64 100,.int .i64 0]
set_option maxHeartbeats 4000000 in
set_option maxRecDepth 100000 in
theorem new_one (b c:Nat)(w:World)(h:w.cell? ⟨b,0,none⟩=some (.int .i64 100)) :
  Calls Tryz.prog 46 #[.slice (some ⟨b,0,none⟩) 1 c] w fun e w'=>∃v,e=.returned (.tuple #[v,.int .i64 0])/\Below w.heap.size w w'/\VNew w.heap.size w' v newT:=by
 obtain⟨i0,hi,hz0,hz1,hz2⟩:=info_parts (show (Tryz.prog.info? 52).map (fun i=>(i.zero,i.size,i.bytes))=some (some (.agg #[.slice none 0 0,.slice none 0 0,.int .i64 0,.int .i64 0]),4,64) by kernel_rfl)
 obtain⟨W,hW⟩:∃W,W=(w.alloc (.cells #[.slice none 0 0,.slice none 0 0,.int .i64 0,.int .i64 0,.int .i64 0,.int .i64 0,.int .i64 0] 25)).alloc (.cells #[.slice none 0 0,.slice none 0 0,.int .i64 0,.int .i64 0,.int .i64 1,.int .i64 0,.int .i64 0] 25):=⟨_,rfl⟩
 have b0:Below w.heap.size w W:=by rw [hW];exact((Below.refl _ w).alloc (Nat.le_refl _) _).alloc (by simp) _
 have hsz:W.heap.size=w.heap.size+2:=by rw [hW];simp
 have E0:Hid (W.heap[w.heap.size]? = some (.cells #[.slice none 0 0,.slice none 0 0,.int .i64 0,.int .i64 0,.int .i64 0,.int .i64 0,.int .i64 0] 25 (0,0))):=by
  show W.heap[w.heap.size]? = _
  rw [hW];exact blk_below (heap_alloc_new w _) (Ac.below_alloc _ _)
 have E1:Hid (W.heap[w.heap.size+1]? = some (.cells #[.slice none 0 0,.slice none 0 0,.int .i64 0,.int .i64 0,.int .i64 1,.int .i64 0,.int .i64 0] 25 (0,0))):=by
  show W.heap[w.heap.size+1]? = _
  rw [hW]
  have hx:(w.alloc (.cells #[.slice none 0 0,.slice none 0 0,.int .i64 0,.int .i64 0,.int .i64 0,.int .i64 0,.int .i64 0] 25)).heap.size=w.heap.size+1:=by simp
  have:=heap_alloc_new (w.alloc (.cells #[.slice none 0 0,.slice none 0 0,.int .i64 0,.int .i64 0,.int .i64 0,.int .i64 0,.int .i64 0] 25)) (.cells #[.slice none 0 0,.slice none 0 0,.int .i64 0,.int .i64 0,.int .i64 1,.int .i64 0,.int .i64 0] 25);rw [hx] at this;exact this
 have hc:W.cell? ⟨b,0,none⟩=some (.int .i64 100):=(b0.cell (World.block_lt_of_cell? _ _ h)).trans h;have m1:W.cell? ⟨w.heap.size+1,1,none⟩=some (.slice none 0 0):=(blk_cell E1.out 1).1;obtain⟨X,hX⟩:∃X,X=W.alloc (.cells #[.slice none 0 0,.slice none 0 0,.int .i64 100,.int .i64 0] 52):=⟨_,rfl⟩
 have bX:Below W.heap.size W X:=by rw [hX];exact Ac.below_alloc _ _
 have hcells:Hid (∀j u,oneM[j]? = some u->X.cell? ((⟨W.heap.size,0,none⟩:Addr).add j)=some u):=by
  rw [hX];exact World.news_of_block (cs:=#[.slice none 0 0,.slice none 0 0,.int .i64 100,.int .i64 0]) (heap_alloc_new W _)
 have SX:Hid (w.heap.size+2<=X.heap.size):=by show w.heap.size+2<=X.heap.size;rw [<- hsz];exact bX.size
 have F0:=hide (blk_below E0.out bX);have F1:=hide (blk_below E1.out bX);have BX:=hide (b0.trans (bX.mono b0.size));have HW:=hide hW;have HX:=hide hX;clear hW hX b0 bX h hsz E0 E1
 go_enter Tryz.func46,Tryz.ntmps46
 go_wp2_with (rw [<- HW.out])
 refine wp_loop_rounds 3 ?_
 rw [rounds_succ]
 go_wp2_with (first | rw [<- HX.out] | (at_builtin;refine wpList_append_own _ rfl _ _ 23 rfl (w.heap.size+2) 52 i0 (.agg #[.slice none 0 0,.slice none 0 0,.int .i64 0,.int .i64 0]) 4 64 Tryz.underlying23 hi hz0 hz1 hz2 rfl (by decide) _ 0 [] rfl (World.ownsRow_nil _ _ _ _) ⟨W.heap.size,0,none⟩ 1 1 oneM rfl rfl hcells.out (by simp [Value.oneCell']) (by decide) (by decide) SX.out ?_;intro v' w1 hown1 hgrow1 hnil1;obtain⟨pm,cm,rfl,hrm,h0m⟩:∃pm cm,v'=.slice pm 1 cm/\MRow w1 pm [mk1]/\(pm=none->cm=0):=own_mrow (show w1.ownsRow (w.heap.size+2) 52 4 v' [mk1].length (flatM [mk1]) from hown1);have hb1:Below X.heap.size X w1:=(Below.refl _ _).grown hgrow1 (Nat.le_refl _) (fun k hk=>by cases hk);obtain⟨uu,huu⟩:∃u,w1.cell? ⟨w.heap.size+1,1,none⟩=some u:=⟨_,(blk_cell (blk_below F1.out hb1) 1).1⟩;have ufu:=(blk_cell (blk_below F1.out hb1) 1).2;have O1:=hide hown1;have B1:=hide hb1;have R1:=hide (And.intro hrm h0m);clear hown1 hgrow1 hnil1 hb1 hrm h0m))
 obtain⟨W2,hW2⟩:∃W2,W2=w1.setCell ⟨w.heap.size+1,1,none⟩ (.slice pm 1 cm):=⟨_,rfl⟩
 have bt2:But (fun b=>b=w.heap.size+1) w1 W2:=by rw [hW2];exact but_one w1 ⟨w.heap.size+1,1,none⟩ _
 have G1:Hid (W2.heap[w.heap.size+1]? = some (.cells #[.slice none 0 0,.slice pm 1 cm,.int .i64 0,.int .i64 0,.int .i64 1,.int .i64 0,.int .i64 0] 25 (0,0))):=by
  show W2.heap[w.heap.size+1]? = _
  rw [hW2,heap_set (blk_below F1.out B1.out) 1]
  rfl
 have G0:=hide (blk_but (blk_below F0.out B1.out) bt2 (by omega))
 have B2:=hide (bt2.below_of (BX.out.trans (B1.out.mono BX.out.size)) (by omega))
 have VN:Hid (VNew (w.heap.size+2) W2 (venV (.slice none 0 0) (.slice pm 1 cm) newT) newT):=by
  have offM:Off (fun b=>b<w.heap.size+2) pm [mk1]:=.inr fun x hx e=>by
   have:=(own_lt O1.out x.block (by rw [hx];rfl)).1
   omega
  refine⟨none,pm,0,cm,[],[mk1],rfl,fun _=>rfl,R1.out.2,⟨rfl,rfl,Nat.zero_le _,(by decide),.inl rfl,mrow_but R1.out.1 bt2 (off_mono offM (fun b e=>by omega)),(fun _ h=>by cases h),fun m hm=>?_⟩,fun m hm=>?_,.inl rfl,offM,⟨(fun _ h=>by cases h),fun m hm=>?_⟩⟩
  ·simp at hm
   subst hm;exact⟨.inl rfl,.inl rfl,Nat.zero_le _,Nat.zero_le _⟩
  ·simp at hm
   subst hm;exact⟨ov_nil _,ov_nil _⟩
  ·simp at hm
   subst hm;exact⟨.inl rfl,.inl rfl⟩
 have CH:=hide (vin_check _ newT W2 (VN.out.mono (Nat.zero_le _)));rw [newT_ok] at CH;have HW2:=hide hW2;rw [<- hW2];clear hW2 bt2 huu ufu O1 B1 R1 F0 F1 BX HX HW hc m1 hcells;obtain⟨a0,a1,a2,a3,a4,a5,a6⟩:=ven_cells G1.out;rw [rounds_succ]
 go_wp2_with fail
 refine CH.out.mono ?_
 rintro e Y ⟨rfl,hbY⟩
 have H1:=hide (blk_below G1.out hbY);have H0:=hide (blk_below G0.out hbY);have BY:=hide (B2.out.trans (hbY.mono B2.out.size));have VY:=hide (VN.out.below hbY);clear G1 G0 B2 VN CH hbY a0 a1 a2 a3 a4 a5 a6;obtain⟨a0,a1,a2,a3,a4,a5,a6⟩:=ven_cells H1.out;obtain⟨⟨⟨u0,hu0⟩,uf0⟩,⟨⟨u1,hu1⟩,uf1⟩,⟨⟨u2,hu2⟩,uf2⟩,⟨⟨u3,hu3⟩,uf3⟩,⟨⟨u4,hu4⟩,uf4⟩,⟨⟨u5,hu5⟩,uf5⟩,⟨⟨u6,hu6⟩,uf6⟩⟩:=ven_opq H0.out
 go_wp2
 have ZS:=seven_but Y w.heap.size (.slice none 0 0) (.slice pm 1 cm) (.int .i64 0) (.int .i64 0) (.int .i64 1) (.int .i64 0) (.int .i64 0);have HB:=seven_heap H0.out (.slice none 0 0) (.slice pm 1 cm) (.int .i64 0) (.int .i64 0) (.int .i64 1) (.int .i64 0) (.int .i64 0);clear hu0 uf0 hu1 uf1 hu2 uf2 hu3 uf3 hu4 uf4 hu5 uf5 hu6 uf6;obtain⟨z0,z1,z2,z3,z4,z5,z6⟩:=ven_cells HB
 refine bodyPost_ret (v:=.tuple #[venV (.slice none 0 0) (.slice pm 1 cm) newT,.int .i64 0]) (by simp [results,Tryz.results46,go_sem,z0,z1,z2,z3,z4,z5,z6]) rfl ⟨_,rfl,ZS.below_of BY.out (Nat.le_refl _),(VY.out.but ZS (fun b e=>by omega)).mono (by omega)⟩
abbrev openV:Tn:=⟨[(0,0,[0]),(1,619,[0])],[([],[],80,100)],1,0,3,620,0,[(1,8,0,0,0,0,noFil)]⟩
abbrev openL:List (List Ev):=[[(5,0,0,0,0,120,noFil)],[(5,0,0,0,1,500,noFil)],[(2,0,0,1,0,0,noFil)],[(2,0,0,2,1,0,noFil),(3,0,0,0,0,0,(1,2,0,1,-1,100,10))],[],[(6,0,0,0,1,0,(0,0,1,0,-1,88,10))],[(1,8,0,0,0,0,noFil)]]
theorem cms_opened:openedC.flatMap encC=[.int .i64 1,.int .i64 0,.int .i64 0,.int .i64 120,.int .i64 0,.int .i64 0,.int .i64 0,.int .i64 0,.int .i64 0,.int .i64 0,.bool false,.int .i64 1,.int .i64 1,.int .i64 0,.int .i64 500,.int .i64 0,.int .i64 0,.int .i64 0,.int .i64 0,.int .i64 0,.int .i64 0,.bool false,.int .i64 3,.int .i64 0,.int .i64 0,.int .i64 0,.int .i64 0,.int .i64 0,.int .i64 1,.int .i64 100,.int .i64 10,.int .i64 1,.bool false,.int .i64 3,.int .i64 1,.int .i64 0,.int .i64 0,.int .i64 0,.int .i64 0,.int .i64 (-1),.int .i64 100,.int .i64 10,.int .i64 1,.bool false,.int .i64 5,.int .i64 0,.int .i64 0,.int .i64 80,.int .i64 0,.int .i64 0,.int .i64 0,.int .i64 0,.int .i64 0,.int .i64 0,.bool false,.int .i64 7,.int .i64 0,.int .i64 0,.int .i64 0,.int .i64 0,.int .i64 0,.int .i64 0,.int .i64 0,.int .i64 0,.int .i64 0,.bool false,.int .i64 2,.int .i64 0,.int .i64 0,.int .i64 1,.int .i64 0,.int .i64 0,.int .i64 0,.int .i64 0,.int .i64 0,.int .i64 0,.bool false]:=by rfl
theorem run_opened:runR newT openedC=.ok (openV,openL):=by rfl
theorem EIn.cell {G:Nat->Prop}{w:World}{x:Value}{K:List Ev}(h:EIn G w x K){j:Nat}(hj:j<K.length):∃b off c,x=.slice (some ⟨b,off,none⟩) K.length c/\∀i u,(encE (K[j]'hj))[i]? = some u->w.cell? ⟨b,off+j * 13+i,none⟩=some u:=by
 obtain⟨p,c,rfl,-,-,hr,-⟩:=h
 rcases hr with rfl | ⟨b,off,rfl,hc⟩
 ·simp at hj
 ·refine⟨b,off,c,rfl,fun i u hu=>?_⟩
  have hi:i<13:=(List.getElem?_eq_some_iff.1 hu).1
  have:=hc (j * 13+i) u (by rw [Vn.flat_get encE_len K j hj i hi];exact hu)
  rw [<- Nat.add_assoc] at this;exact this
theorem EEv.at {B:Nat}{w:World}{v:Value}{L:List (List Ev)}(h:EEv B w v L)(hL:0<L.length):∃g cap,v=.slice (some ⟨g,0,none⟩) L.length cap/\∀i (hi:i<L.length),∃x,w.cell? ⟨g,i,none⟩=some x/\EIn (fun b=>b<B) w x (L[i]'hi):=by
 obtain⟨E,h1,h2⟩:=h;have h1':=h1
 have hE:E.length=L.length:=by have:=h1.1;omega
 rcases h1.2 with⟨rfl,e⟩ | ⟨g,cap,cur,rfl,hb,hg,hn,hm,hs,ht⟩
 ·omega
 ·refine⟨g,cap,rfl,fun i hi=>?_⟩
  refine⟨E[i]'(by omega),?_,(h2 i hi _ (List.getElem?_eq_getElem (by omega))).mono (fun b f=>.inl f)⟩
  rw [h1'.cellAt i (by omega)]
  exact List.getElem?_eq_getElem (by omega)
set_option maxHeartbeats 8000000 in
set_option maxRecDepth 100000 in
theorem opened_any (w:World)(hL:Rk.Laid w):Calls Tryz.prog 12 #[] w fun e w'=>e=.returned (.bool true)/\Below w.heap.size w w':=by
 obtain⟨W,hW⟩:∃W,W=w.alloc (.cells #[.int .i64 100] 3):=⟨_,rfl⟩
 have b0:Below w.heap.size w W:=by rw [hW];exact Ac.below_alloc _ _
 have NE:=hide (new_one w.heap.size 1 W (by rw [hW];exact new_cell w _ _ 0 _ rfl))
 have HW:=hide hW;have BW:=hide b0;have LD:=hide hL;clear hW b0 hL
 go_enter Tryz.func12,Tryz.ntmps12
 go_wp2_with (rw [<- HW.out])
 refine NE.out.mono ?_
 rintro e X ⟨v,rfl,hbX,hv⟩
 obtain⟨pa,na,ca,pm,nm,cm,rfl⟩:=vnew_is hv;obtain⟨W3,hW3⟩:∃W3,W3=((X.alloc (.cells #[.slice pa na ca,.slice pm nm cm,.int .i64 0,.int .i64 0,.int .i64 1,.int .i64 0,.int .i64 0] 25)).alloc (.cells #[.int .i64 3,.int .i64 0,.int .i64 0,.int .i64 0,.int .i64 0,.int .i64 0,.int .i64 1,.int .i64 100,.int .i64 10,.int .i64 1,.bool false] 29)).alloc (.cells #[.int .i64 3,.int .i64 1,.int .i64 0,.int .i64 0,.int .i64 0,.int .i64 0,.int .i64 (-1),.int .i64 100,.int .i64 10,.int .i64 1,.bool false] 29):=⟨_,rfl⟩
 have b3:Below X.heap.size X W3:=by rw [hW3];exact(((Below.refl _ X).alloc (Nat.le_refl _) _).alloc (by simp) _).alloc (by simp;omega) _
 have V3:W3.heap[X.heap.size]? = some (.cells #[.slice pa na ca,.slice pm nm cm,.int .i64 0,.int .i64 0,.int .i64 1,.int .i64 0,.int .i64 0] 25 (0,0)):=by
  rw [hW3];exact blk_below (blk_below (heap_alloc_new X _) (Ac.below_alloc _ _)) (Ac.below_alloc _ _)
 obtain⟨W4,hW4⟩:∃W4,W4=W3.alloc (.cells #[.int .i64 1,.int .i64 0,.int .i64 0,.int .i64 120,.int .i64 0,.int .i64 0,.int .i64 0,.int .i64 0,.int .i64 0,.int .i64 0,.bool false,.int .i64 1,.int .i64 1,.int .i64 0,.int .i64 500,.int .i64 0,.int .i64 0,.int .i64 0,.int .i64 0,.int .i64 0,.int .i64 0,.bool false,.int .i64 3,.int .i64 0,.int .i64 0,.int .i64 0,.int .i64 0,.int .i64 0,.int .i64 1,.int .i64 100,.int .i64 10,.int .i64 1,.bool false,.int .i64 3,.int .i64 1,.int .i64 0,.int .i64 0,.int .i64 0,.int .i64 0,.int .i64 (-1),.int .i64 100,.int .i64 10,.int .i64 1,.bool false,.int .i64 5,.int .i64 0,.int .i64 0,.int .i64 80,.int .i64 0,.int .i64 0,.int .i64 0,.int .i64 0,.int .i64 0,.int .i64 0,.bool false,.int .i64 7,.int .i64 0,.int .i64 0,.int .i64 0,.int .i64 0,.int .i64 0,.int .i64 0,.int .i64 0,.int .i64 0,.int .i64 0,.bool false,.int .i64 2,.int .i64 0,.int .i64 0,.int .i64 1,.int .i64 0,.int .i64 0,.int .i64 0,.int .i64 0,.int .i64 0,.int .i64 0,.bool false] 29):=⟨_,rfl⟩
 have b4:Below W3.heap.size W3 W4:=by rw [hW4];exact Ac.below_alloc _ _
 have CR:CRow W4 (some ⟨W3.heap.size,0,none⟩) openedC:=.inr ⟨_,_,rfl,fun j u hu=>by
  rw [cms_opened] at hu
  rw [Nat.zero_add,hW4,(blk_cell (heap_alloc_new W3 _) j).1,List.getElem?_toArray]
  exact hu⟩
 have bX4:Below X.heap.size X W4:=b3.trans (b4.mono b3.size);have BW4:=hide ((BW.out.trans (hbX.mono BW.out.size)).trans (bX4.mono (Nat.le_trans BW.out.size hbX.size)))
 have RN:=hide (venue_run _ newT (some ⟨W3.heap.size,0,none⟩) openedC 7 7 W4 ((hv.below bX4).mono (Nat.zero_le _)) rfl CR (by decide) (LD.out.next BW4.out))
 have V4:=hide (blk_below V3 b4)
 have SZ:Hid (w.heap.size<=X.heap.size/\X.heap.size+3<=W4.heap.size):=by
  have h1:=BW.out.size;have h2:=hbX.size
  have h3:W3.heap.size=X.heap.size+3:=by rw [hW3];simp
  have h4:=b4.size
  exact⟨by omega,by omega⟩
 have HW3:=hide hW3;have HW4:=hide hW4;obtain⟨a0,a1,a2,a3,a4,a5,a6⟩:=ven_cells V3
 have e3:∀i v,#[.int .i64 3,.int .i64 0,.int .i64 0,.int .i64 0,.int .i64 0,.int .i64 0,.int .i64 1,.int .i64 100,.int .i64 10,.int .i64 1,.bool false][i]? = some v->W3.cell? ⟨X.heap.size+1,i,none⟩=some v:=fun i v h=>by
  rw [hW3]
  refine cell_old ?_ _
  have:=new_cell (X.alloc (.cells #[.slice pa na ca,.slice pm nm cm,.int .i64 0,.int .i64 0,.int .i64 1,.int .i64 0,.int .i64 0] 25)) #[.int .i64 3,.int .i64 0,.int .i64 0,.int .i64 0,.int .i64 0,.int .i64 0,.int .i64 1,.int .i64 100,.int .i64 10,.int .i64 1,.bool false] 29 i v h
  simpa using this
 have e4:∀i v,#[.int .i64 3,.int .i64 1,.int .i64 0,.int .i64 0,.int .i64 0,.int .i64 0,.int .i64 (-1),.int .i64 100,.int .i64 10,.int .i64 1,.bool false][i]? = some v->W3.cell? ⟨X.heap.size+1+1,i,none⟩=some v:=fun i v h=>by
  rw [hW3];have:=new_cell ((X.alloc (.cells #[.slice pa na ca,.slice pm nm cm,.int .i64 0,.int .i64 0,.int .i64 1,.int .i64 0,.int .i64 0] 25)).alloc (.cells #[.int .i64 3,.int .i64 0,.int .i64 0,.int .i64 0,.int .i64 0,.int .i64 0,.int .i64 1,.int .i64 100,.int .i64 10,.int .i64 1,.bool false] 29)) #[.int .i64 3,.int .i64 1,.int .i64 0,.int .i64 0,.int .i64 0,.int .i64 0,.int .i64 (-1),.int .i64 100,.int .i64 10,.int .i64 1,.bool false] 29 i v h
  simpa using this
 have p0:=e3 0 _ rfl;have q0:=e4 0 _ rfl;have p1:=e3 1 _ rfl;have q1:=e4 1 _ rfl;have p2:=e3 2 _ rfl;have q2:=e4 2 _ rfl;have p3:=e3 3 _ rfl;have q3:=e4 3 _ rfl;have p4:=e3 4 _ rfl;have q4:=e4 4 _ rfl;have p5:=e3 5 _ rfl;have q5:=e4 5 _ rfl;have p6:=e3 6 _ rfl;have q6:=e4 6 _ rfl;have p7:=e3 7 _ rfl;have q7:=e4 7 _ rfl;have p8:=e3 8 _ rfl;have q8:=e4 8 _ rfl;have p9:=e3 9 _ rfl;have q9:=e4 9 _ rfl;have p10:=e3 10 _ rfl;have q10:=e4 10 _ rfl;clear hW3 hW4 b3 V3 b4 CR bX4 hv hbX NE HW e3 e4
 go_wp2_with (first | rw [<- HW3.out] | rw [<- HW4.out])
 refine RN.out.mono ?_
 clear RN HW3 HW4 p0 p1 p2 p3 p4 p5 p6 p7 p8 p9 p10 q0 q1 q2 q3 q4 q5 q6 q7 q8 q9 q10 a0 a1 a2 a3 a4 a5 a6
 rintro e Y ⟨hbY,⟨t,L,v',ev,hrun,rfl,hvY,heY⟩ | ⟨r,hrun,-⟩⟩
 ·rw [run_opened] at hrun
  obtain⟨rfl,rfl⟩:openV=t/\openL=L:=by
   have:=Except.ok.inj hrun;exact⟨congrArg Prod.fst this,congrArg Prod.snd this⟩
  clear hrun;obtain⟨p,p',c,c',A,M,e,-,-,vr,-⟩:=id hvY
  obtain⟨x0,x1,rfl⟩:∃x0 x1,A=[x0,x1]:=by
   have:=congrArg List.length vr.accs;simp at this
   match A,this with
   |[x0,x1],_=>exact⟨x0,x1,rfl⟩
  have hb:x0.bal=0/\x1.bal=619:=by
   have:=vr.accs;simp [Am.acc] at this;exact⟨this.1.2.1,this.2.2.1⟩
  have e':v'=.agg #[.slice p 2 c,.slice p' M.length c',.int .i64 1,.int .i64 0,.int .i64 3,.int .i64 620,.int .i64 0]:=e;subst e';have ZS:=seven_but Y X.heap.size (.slice p 2 c) (.slice p' M.length c') (.int .i64 1) (.int .i64 0) (.int .i64 3) (.int .i64 620) (.int .i64 0);have ZH:=hide (seven_heap (blk_below V4.out hbY) (.slice p 2 c) (.slice p' M.length c') (.int .i64 1) (.int .i64 0) (.int .i64 3) (.int .i64 620) (.int .i64 0))
  have hbox:∀b,b=X.heap.size->b<W4.heap.size:=fun b e=>by have:=SZ.out;omega
  have heZ:=heY.but ZS hbox;have hvZ:=hvY.but ZS hbox;have BZ:=hide (ZS.below_of (w:=w) (BW4.out.trans (hbY.mono BW4.out.size)) SZ.out.1);obtain⟨Z,hZ⟩:∃Z,Z=seven Y X.heap.size (.slice p 2 c) (.slice p' M.length c') (.int .i64 1) (.int .i64 0) (.int .i64 3) (.int .i64 620) (.int .i64 0):=⟨_,rfl⟩;rw [<- hZ] at heZ hvZ BZ ZH;obtain⟨r,r',d,d',A2,M2,e2,-,-,vr2,-⟩:=hvZ
  obtain⟨y0,y1,rfl⟩:∃x0 x1,A2=[x0,x1]:=by
   have:=congrArg List.length vr2.accs;simp at this
   match A2,this with
   |[x0,x1],_=>exact⟨x0,x1,rfl⟩
  have hb2:y0.bal=0/\y1.bal=619:=by
   have:=vr2.accs;simp [Am.acc] at this;exact⟨this.1.2.1,this.2.2.1⟩
  obtain⟨ba,oa,hr⟩:∃ba oa,p=some ⟨ba,oa,none⟩/\Z.cell? ⟨ba,oa+1,none⟩=some (.int .i64 0)/\Z.cell? ⟨ba,oa+3+1,none⟩=some (.int .i64 619):=by
   have ep:p=r:=by
    simp only [Value.agg.injEq,Array.mk.injEq,List.cons.injEq,Value.slice.injEq] at e2;exact e2.1.1
   subst ep
   rcases vr2.rowA with e | ⟨b,off,e,hc⟩
   ·cases e
   ·have h1:=hc 1 (.int .i64 y0.bal) rfl
    have h2:=hc 4 (.int .i64 y1.bal) rfl;rw [hb2.1] at h1;rw [hb2.2] at h2
    exact⟨b,off,e,h1,by rw [Nat.add_assoc];exact h2⟩
  obtain⟨rfl,k1,k2⟩:=hr
  obtain⟨g,cap,hev,hcell⟩:=heZ.at (by decide)
  have hev':ev=.slice (some ⟨g,0,none⟩) 7 cap:=hev;subst hev'
  obtain⟨w3,c3,i3⟩:=hcell 3 (by decide)
  obtain⟨w5,c5,i5⟩:=hcell 5 (by decide)
  obtain⟨w6,c6,i6⟩:=hcell 6 (by decide)
  obtain⟨b3,o3,k3,e3,f3⟩:=i3.cell (j:=1) (by decide)
  obtain⟨b5,o5,k5,e5,f5⟩:=i5.cell (j:=0) (by decide)
  obtain⟨b6,o6,k6,e6,f6⟩:=i6.cell (j:=0) (by decide)
  have e3':w3=.slice (some ⟨b3,o3,none⟩) 2 k3:=e3;have e5':w5=.slice (some ⟨b5,o5,none⟩) 1 k5:=e5;have e6':w6=.slice (some ⟨b6,o6,none⟩) 1 k6:=e6;subst e3' e5' e6';have m1:Z.cell? ⟨b3,o3+13+12,none⟩=some (.int .i64 10):=f3 12 _ rfl;have m2:Z.cell? ⟨b5,o5,none⟩=some (.int .i64 6):=f5 0 _ rfl;have m3:Z.cell? ⟨b5,o5+11,none⟩=some (.int .i64 88):=f5 11 _ rfl;have m4:Z.cell? ⟨b6,o6+1,none⟩=some (.int .i64 8):=f6 1 _ rfl;have z0:Z.cell? ⟨X.heap.size,0,none⟩=some (.slice (some ⟨ba,oa,none⟩) 2 c):=(blk_cell ZH.out 0).1;have z2:Z.cell? ⟨X.heap.size,2,none⟩=some (.int .i64 1):=(blk_cell ZH.out 2).1;obtain⟨⟨⟨u0,hu0⟩,uf0⟩,⟨⟨u1,hu1⟩,uf1⟩,⟨⟨u2,hu2⟩,uf2⟩,⟨⟨u3,hu3⟩,uf3⟩,⟨⟨u4,hu4⟩,uf4⟩,⟨⟨u5,hu5⟩,uf5⟩,⟨⟨u6,hu6⟩,uf6⟩⟩:=ven_opq (blk_below V4.out hbY)
  have HZ:Hid (Unit->Z=(((((((Y.setCell ⟨X.heap.size,0,none⟩ (.slice (some ⟨ba,oa,none⟩) 2 c)).setCell ⟨X.heap.size,1,none⟩ (.slice p' M.length c')).setCell ⟨X.heap.size,2,none⟩ (.int .i64 1)).setCell ⟨X.heap.size,3,none⟩ (.int .i64 0)).setCell ⟨X.heap.size,4,none⟩ (.int .i64 3)).setCell ⟨X.heap.size,5,none⟩ (.int .i64 620)).setCell ⟨X.heap.size,6,none⟩ (.int .i64 0))):=fun _=>hZ
  clear hZ hvY heY e e2 vr vr2 ZS heZ hev hcell i3 i5 i6 e3 e5 e6 f3 f5 f6 hbox hbY hb hb2 V4
  go_simp
  iterate 26 (first | (rw [<- HZ.out ()]) | go_values | go_skip | go_guarded | go_step | go_upon | go_back | go_simp)
  dsimp only [List.append]
  iterate 400 (first | go_values | go_skip | go_guarded | go_step | go_upon | go_back | go_simp)
  go_ret
  exact⟨rfl,BZ.out⟩
 ·rw [run_opened] at hrun
  cases hrun
end Go.Proofs.YtpkbiafhnflmnaaGreatDoor.Vn
