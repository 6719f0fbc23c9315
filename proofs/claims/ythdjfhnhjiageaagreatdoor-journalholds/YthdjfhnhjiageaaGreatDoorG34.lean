import Derived.Test.YthdjfhnhjiageaaGreatDoorG33
import Derived.Test.YthdjfhnhjiageaaGreatDoorG27
set_option maxHeartbeats 8000000
set_option maxRecDepth 100000
namespace Go.Proofs.YthdjfhnhjiageaaGreatDoor.Vn
open Go.RowKit Num Fix AcP FuP Bk Rm Ac Go.Sort Go.Maps Mix RkP
theorem encA_one (a:Am):∀u∈encA a,u.oneCell'=true:=by
 intro u hu;simp [encA] at hu;rcases hu with rfl | rfl | rfl<;>rfl
theorem flatA_one (A:List Am):∀u∈A.flatMap encA,u.oneCell'=true:=by
 intro u hu;obtain⟨a,-,ha⟩:=List.mem_flatMap.1 hu;exact encA_one a u ha
theorem flat_take (A:List Am)(k:Nat):(A.flatMap encA).take (k*3)=(A.take k).flatMap encA/\(A.flatMap encA).drop (k*3)=(A.drop k).flatMap encA:=by
 induction A generalizing k with
 |nil=>simp
 |cons a A ih =>
  cases k with
  |zero=>simp
  |succ k =>
   have hl:(encA a).length=3:=rfl;constructor
   ·rw [List.flatMap_cons,List.take_append,List.take_of_length_le (by omega),hl,show (k+1)*3-3=k*3 by omega,(ih k).1,List.take_succ_cons,List.flatMap_cons]
   ·rw [List.flatMap_cons,List.drop_append,List.drop_eq_nil_of_le (by omega),hl,show (k+1)*3-3=k*3 by omega,(ih k).2,List.drop_succ_cons,List.nil_append]
def zInts (n:Nat):Array Value:=(List.replicate n (Value.int .i64 0)).toArray
theorem make_ints (n:Nat)(hn:n<=1000)(w:World):(Instr.makeSlice 87 (.int .i64 (n:Nat)) (.int .i64 (n:Nat))).run Tryz.prog w=.ok (.slice (some ⟨w.heap.size,0,none⟩) n n) (w.alloc (.cells (zInts n) 3)):=by
 obtain⟨i0,hi,hz0,hz1,hz2⟩:=info_parts (show (Tryz.prog.info? 3).map (fun i=>(i.zero,i.size,i.bytes))=some (some (.int .i64 0),1,8) by kernel_rfl);have:=run_makeSlice (P:=Tryz.prog) w 87 3 i0 _ Tryz.underlying87 hi hz0 .i64 .i64 (n:Int) (n:Int) (by omega) (by omega) (by rw [hz1];omega) (by rw [hz2];omega) (by omega);rw [this,hz1];simp only [Int.toNat_natCast,Nat.mul_one];have e:madeCells (Value.int .i64 0).cells n=zInts n:=by
  unfold madeCells zInts;apply Array.ext
  ·simp
  ·intro i h1 h2;simp [Value.cells,Nat.mod_one]
 rw [e]
theorem TV.opened {w W2 w':World}{T:Nat}{F:Nat->Prop}{s:Tn}{A A':List Am}{M:List Mkt}{va vm ve:Value}{g cap:Nat}(h:TV w T F s A M va vm ve)(hB:Below w.heap.size w W2)
  (ho:w'.ownsRow 0 89 3 (.slice (some ⟨g,0,none⟩) A'.length cap) A'.length (A'.flatMap encA)) (hbt:But (fun b=>some b=va.ownBlock) W2 w') (hat:va.ownBlock=some g\/W2.heap.size<=g) (hlt:g<w'.heap.size)
  (hA:∀a,a∈A'->a∈A\/(AOk W2 a/\∀x,a.p=some x->w.heap.size<=x.block/\x.block<W2.heap.size)) :
  TV (w'.setCell ⟨T,0,none⟩ (.slice (some ⟨g,0,none⟩) A'.length cap)) T (fun b=>F b\/b=g) { s with accs:=A'.map Am.acc } A' M (.slice (some ⟨g,0,none⟩) A'.length cap) vm ve/\But F w (w'.setCell ⟨T,0,none⟩ (.slice (some ⟨g,0,none⟩) A'.length cap)):=by
 have hT:=h.lt T h.own;have nA:=own_type h.rowA h.turn (by decide);have nM:=own_type h.rowM h.turn (by decide);have nE:=own_type h.rowE h.turn (by decide);have nMA:=own_types h.rowM h.rowA (by decide);have nEA:=own_types h.rowE h.rowA (by decide);have b1:But (fun b=>some b=va.ownBlock) w w':=(But.of_below hB).trans hbt (fun _ f=>.inl f);have b2:But (fun b=>some b=va.ownBlock\/b=T) w (w'.setCell ⟨T,0,none⟩ (.slice (some ⟨g,0,none⟩) A'.length cap)):=(b1.mono (fun k hk=>.inl (.inl hk))).setCell (.inl (.inr rfl)) _;have t2:w'.heap[T]? = some (.cells (turnC va vm ve s) 117 (0,0)):=by
  rw [b1.block T hT (fun e=>nA T e.symm rfl)];exact h.turn
 have hgT:¬g=T:=own_type ho t2 (by decide) g rfl;have hsub:∀b,some b=va.ownBlock\/b=T->F b:=by
  rintro b (hb | rfl)
  ·exact h.fA b hb.symm
  ·exact h.own
 have hg:F g\/w.heap.size<=g:=hat.imp (h.fA g) (fun e=>Nat.le_trans hB.size e);have bb:But (fun b=>some b=va.ownBlock\/b=T) W2 (w'.setCell ⟨T,0,none⟩ (.slice (some ⟨g,0,none⟩) A'.length cap)):=(hbt.mono (fun k hk=>.inl (.inl hk))).setCell (.inl (.inr rfl)) _;refine⟨⟨rfl,h.mkts,.inl h.own,fun b hF=>?_,?_,?_,own_but h.rowM b2 ?_,own_but h.rowE b2 ?_,fun k hk=>.inr (by simpa [Value.ownBlock] using hk.symm),fun k hk=>.inl (h.fM k hk),fun k hk=>.inl (h.fE k hk),fun a ha=>?_,fun m hm=>?_⟩,b2.mono (fun k hk=>.inl (hsub k hk))⟩
 ·rcases hF with f | f
  ·exact Nat.lt_of_lt_of_le (h.lt b f) b2.size
  ·rw [f];simpa [World.setCell] using hlt
 ·exact heap_set t2 0 _
 ·exact own_but ho (but_one w' ⟨T,0,none⟩ _) (fun k hk=>by simp [Value.ownBlock] at hk;subst hk;exact hgT)
 ·rintro k hk (e | e)
  ·exact nMA k hk k e.symm rfl
  ·exact nM k hk e
 ·rintro k hk (e | e)
  ·exact nEA k hk k e.symm rfl
  ·exact nE k hk e
 ·rcases hA a ha with ha | ⟨ok,hp⟩
  ·exact⟨aok_but (h.each a ha).1 b2 (off_mono (h.each a ha).2 hsub),off_row (h.each a ha).1.row (h.each a ha).2 hg⟩
  ·have hnF:∀x,a.p=some x->¬F x.block:=fun x hx f=>by have:=hp x hx;have:=h.lt _ f;omega
   refine⟨aok_but ok bb (.inr fun x hx e=>hnF x hx (hsub _ e)),.inr fun x hx e=>?_⟩;rcases e with e | e
   ·exact hnF x hx e
   ·rcases hat with e2 | e2
    ·exact hnF x hx (by rw [e];exact h.fA g e2)
    ·have:=hp x hx;omega
 ·obtain⟨o1,o2,r1,r2⟩:=h.eachM m hm;exact⟨ov_but o1 b2 (off_mono r1 hsub),ov_but o2 b2 (off_mono r2 hsub),off_orow o1.row r1 hg,off_orow o2.row r2 hg⟩
theorem zInts_row (w:World)(n:Nat):Row (w.alloc (.cells (zInts n) 3)) (some ⟨w.heap.size,0,none⟩) (List.replicate n 0):=by
 refine .inr ⟨_,_,rfl,fun i hi=>?_⟩;rw [Nat.zero_add];apply new_cell;unfold zInts;simp only [List.length_replicate] at hi;simp [hi]
theorem open_new (T:Nat)(F L:Nat->Prop)(s:Tn)(id:Int)(w:World)(h:TA w T F L s)(hs:Str s)(hno:hasA s.accs id=false)(hn8:s.accs.length<=8) :
  Calls Tryz.prog 118 #[turnP T,.int .i64 id] w fun e w'=>e=.returned (.int .i64 (plc s.accs id:Nat))/\Stepped w T F L (openR s id) w':=by
 have mixed:Tryz.prog.follows .mixedOrders=true:=by kernel_rfl
 obtain⟨A,M,va,vm,ve,tv,hrw,hlt⟩:=h;obtain⟨p,cc,rfl,t0,PL0⟩:=tv.place hs id;obtain⟨pm,cm,em⟩:∃pm cm,vm=.slice pm M.length cm:=by
  rcases tv.rowM.2 with⟨rfl,e⟩ | ⟨g,cap,cur,rfl,-⟩
  ·exact⟨_,_,by rw [e]⟩
  ·exact⟨_,_,rfl⟩
 subst em;have t1:w.cell? ⟨T,1,none⟩=some (.slice pm M.length cm):=by rw [tv.cell];rfl
 have f0:w.frozen? ⟨T,0,none⟩=false:=tv.frozen 0;rw [hno] at PL0;have PL:=hide PL0;obtain⟨lm,hlm⟩:∃lm,lm=M.length:=⟨_,rfl⟩;rw [<- hlm] at t1;have h12:lm<=2:=by rw [hlm,tv.lenM];exact hs.m2
 have MK:∀w:World,(Instr.makeSlice 87 (.int .i64 (lm:Nat)) (.int .i64 (lm:Nat))).run Tryz.prog w=.ok (.slice (some ⟨w.heap.size,0,none⟩) lm lm) (w.alloc (.cells (zInts lm) 3)):=fun w=>make_ints lm (by omega) w;have HLM:=hide hlm;have TVH:=hide tv;clear hlm tv;go_enter Tryz.func118,Tryz.ntmps118;go_wp2_with fail;refine PL.out.mono ?_;rintro e w1 ⟨rfl,hb1⟩;have u0:=(hb1.cell (World.block_lt_of_cell? _ _ t0)).trans t0;have u1:=(hb1.cell (World.block_lt_of_cell? _ _ t1)).trans t1;have g0:=(hb1.frozen (World.block_lt_of_cell? _ _ t0)).trans f0;clear PL PL0;go_wp2_with fail;obtain⟨W2,hW2⟩:∃W2,W2=((w1.alloc (.cells (zInts lm) 3)).alloc (.cells #[.int .i64 id,.int .i64 0,.slice (some ⟨w1.heap.size,0,none⟩) lm lm] 89)).drew:=⟨_,rfl⟩;obtain⟨k,hk⟩:∃k,k=plc s.accs id:=⟨_,rfl⟩;have b12:Below w1.heap.size w1 W2:=by rw [hW2];exact(((Below.refl _ w1).alloc (Nat.le_refl _) _).alloc (by simp) _).drew
 have b02:Below w.heap.size w W2:=hb1.trans (b12.mono hb1.size);have hsz:W2.heap.size=w1.heap.size+1+1:=by rw [hW2];simp
 have hvb:W2.heap[w1.heap.size+1]? = some (.cells [Value.int .i64 id,.int .i64 0,.slice (some ⟨w1.heap.size,0,none⟩) lm lm].toArray 89 (0,0)):=by
  rw [hW2];have:=heap_alloc_new (w1.alloc (.cells (zInts lm) 3)) (.cells #[.int .i64 id,.int .i64 0,.slice (some ⟨w1.heap.size,0,none⟩) lm lm] 89);simp only [World.size_alloc] at this;exact this
 have hkA:k<=A.length:=by rw [hk,TVH.out.lenA];exact plc_le s.accs id
 have tv2:=TVH.out.below b02;have nT:=own_type TVH.out.rowA TVH.out.turn (by decide);have IN:=hide (insert_any (.slice p A.length cc) A.length k (w1.heap.size+1) (A.flatMap encA) [Value.int .i64 id,.int .i64 0,.slice (some ⟨w1.heap.size,0,none⟩) lm lm] W2 tv2.rowA hkA (by have:=TVH.out.lenA;omega) (flatA_one A) rfl (fun e=>by have:=TVH.out.lt _ (TVH.out.fA _ e);have:=hb1.size;omega) hvb (by intro u hu;simp at hu;rcases hu with rfl | rfl | rfl<;>rfl));have DONE:Hid (∀w' g cap,w'.ownsRow 0 89 3 (.slice (some ⟨g,0,none⟩) (A.length+1) cap) (A.length+1) ((A.flatMap encA).take (k*3)++[Value.int .i64 id,.int .i64 0,.slice (some ⟨w1.heap.size,0,none⟩) lm lm]++(A.flatMap encA).drop (k*3))->((Value.slice p A.length cc).ownBlock=some g\/W2.heap.size<=g)->g<w'.heap.size->But (fun b=>some b=(Value.slice p A.length cc).ownBlock) W2 w'->Stepped w T F L (openR s id) (w'.setCell ⟨T,0,none⟩ (.slice (some ⟨g,0,none⟩) (A.length+1) cap))):=by
  intro w' g cap ho hat hltg hbt;have hl':(A.take k++⟨id,0,some ⟨w1.heap.size,0,none⟩,lm,lm,List.replicate lm 0⟩::A.drop k:List Am).length=A.length+1:=by simp only [List.length_append,List.length_cons,List.length_take,List.length_drop];omega
  have hfl:(A.flatMap encA).take (k*3)++[Value.int .i64 id,.int .i64 0,.slice (some ⟨w1.heap.size,0,none⟩) lm lm]++(A.flatMap encA).drop (k*3)=(A.take k++⟨id,0,some ⟨w1.heap.size,0,none⟩,lm,lm,List.replicate lm 0⟩::A.drop k:List Am).flatMap encA:=by
   rw [(flat_take A k).1,(flat_take A k).2,List.flatMap_append,List.flatMap_cons,List.append_assoc];rfl
  rw [hfl,<- hl'] at ho;rw [<- hl'];obtain⟨tvn,btn⟩:=TVH.out.opened b02 ho hbt hat hltg (fun a ha=>by
   rcases List.mem_append.1 ha with ha | ha
   ·exact .inl (List.mem_of_mem_take ha)
   ·rcases List.mem_cons.1 ha with rfl | ha
    ·refine .inr ⟨⟨by simp,by dsimp only;omega,(fun e=>by cases e),?_⟩,fun x hx=>by cases hx;dsimp only;exact⟨hb1.size,by omega⟩⟩;have r1:=zInts_row w1 lm;refine row_below r1 ?_;rw [hW2];exact((Below.refl _ _).alloc (Nat.le_refl _) _).drew
    ·exact .inl (List.mem_of_mem_drop ha))
  have hst:openR s id = { s with accs:=(A.take k++⟨id,0,some ⟨w1.heap.size,0,none⟩,lm,lm,List.replicate lm 0⟩::A.drop k:List Am).map Am.acc }:=by
   unfold openR;rw [if_neg (by rw [hno];decide)];unfold putA;dsimp only;rw [<- hk,List.map_append,List.map_cons,List.map_take,List.map_drop,TVH.out.accs,HLM.out,TVH.out.lenM];rfl
  rw [hst];refine⟨_,⟨_,_,_,_,_,tvn,⟨fun a ha=>?_,hrw.m⟩,fun b hb=>Nat.lt_of_lt_of_le (hlt b hb) btn.size⟩,newer_one (hat.imp (TVH.out.fA g) (fun e=>by have:=hb1.size;omega)),btn⟩;rcases List.mem_append.1 ha with ha | ha
  ·exact hrw.a a (List.mem_of_mem_take ha)
  ·rcases List.mem_cons.1 ha with rfl | ha
   ·refine .inr fun x hx e=>?_
    cases hx;have:=hlt _ e;have:=hb1.size;dsimp only at *
    omega
   ·exact hrw.a a (List.mem_of_mem_drop ha)
 have u0a:=cell_old u0 (.cells (zInts lm) 3);have u0b:=cell_old u0a (.cells #[.int .i64 id,.int .i64 0,.slice (some ⟨w1.heap.size,0,none⟩) lm lm] 89);have HW2:=hide hW2;have HK:=hide hk;have c0:Hid (∀w',But (fun b=>some b=(Value.slice p A.length cc).ownBlock) W2 w'->w'.cell? ⟨T,0,none⟩=some (.slice p A.length cc)/\w'.frozen? ⟨T,0,none⟩=false):=fun w' hbt=>by
  have hbk:=hbt.block T (by have:=TVH.out.lt T TVH.out.own;have:=hb1.size;omega) (fun e=>nT T e.symm rfl);have h1:W2.cell? ⟨T,0,none⟩=some (.slice p A.length cc):=by rw [tv2.cell];rfl
  have h2:W2.frozen? ⟨T,0,none⟩=false:=tv2.frozen 0;exact⟨(World.cell?_of_block (w:=W2) hbk).trans h1,(World.frozen?_of_block (w:=W2) hbk).trans h2⟩
 rw [<- hk];clear hW2 hvb hsz b12 b02 tv2 hk TVH hrw hlt hno hs;generalize A.length=an at *;go_region_law (go_simp;rw [<- HW2.out];refine IN.out.mono ?_;rintro e w' ⟨g,cap,rfl,ho,hat,hltg,hbt⟩;obtain⟨c00,f00⟩:=c0.out w' hbt;dsimp only);all_goals
  have FF:=hide (DONE.out _ g cap ho hat hltg hbt);clear ho hat hltg hbt c00 f00 DONE;go_wp2;go_ret;exact⟨by rw [<- HK.out];rfl,FF.out⟩
theorem open_old (T:Nat)(F L:Nat->Prop)(s:Tn)(id:Int)(w:World)(h:TA w T F L s)(hs:Str s)(hno:hasA s.accs id=true) :
  Calls Tryz.prog 118 #[turnP T,.int .i64 id] w fun e w'=>e=.returned (.int .i64 (plc s.accs id:Nat))/\Stepped w T F L (openR s id) w':=by
 have TAH:=hide h;have ST:openR s id=s:=by unfold openR;rw [if_pos hno]
 have SH:=hide ST;obtain⟨A,M,va,vm,ve,tv,-,-⟩:=h;obtain⟨p,cc,rfl,t0,PL0⟩:=tv.place hs id;rw [hno] at PL0;have PL:=hide PL0;clear PL0 tv ST hno hs;generalize plc s.accs id=k at *;go_enter Tryz.func118,Tryz.ntmps118;go_wp2_with fail;refine PL.out.mono ?_;rintro e w1 ⟨rfl,hb1⟩;have FF:Hid (Stepped w T F L (openR s id) w1):=by
  show Stepped w T F L (openR s id) w1;rw [SH.out];exact⟨F,TAH.out.below hb1,newer_refl _ _,.of_below hb1⟩
 clear PL hb1;go_wp2;go_ret;exact⟨rfl,FF.out⟩
theorem open_any (T:Nat)(F L:Nat->Prop)(s:Tn)(id:Int)(w:World)(h:TA w T F L s)(hs:Str s)(hn8:s.accs.length<=8) :
  Calls Tryz.prog 118 #[turnP T,.int .i64 id] w fun e w'=>e=.returned (.int .i64 (plc s.accs id:Nat))/\Stepped w T F L (openR s id) w':=by
 cases hno:hasA s.accs id
 ·exact open_new T F L s id w h hs hno hn8
 ·exact open_old T F L s id w h hs hno
theorem inn_any (T:Nat)(F L:Nat->Prop)(s:Tn)(n:Int)(w:World)(h:TA w T F L s) :
  Calls Tryz.prog 116 #[.pointer (some ⟨T,5,none⟩),.int .i64 n] w (Ends w T F L (if addE s.inn n=0 then .ok { s with inn:=addV s.inn n } else .error (addE s.inn n))):=by
 obtain⟨A,M,va,vm,ve,h,hrw,hlt⟩:=h;have c2:w.cell? ⟨T,5,none⟩=some (.int .i64 s.inn):=by rw [h.cell];rfl
 by_cases he:addE s.inn n=0
 ·rw [if_pos he];refine(grow_ok ⟨T,5,none⟩ s.inn n w c2 (h.frozen 5) he).mono ?_;rintro e w' ⟨rfl,o,rfl⟩;have b1:=(Below.refl w.heap.size w).alloc (Nat.le_refl _) o;exact .inl ⟨_,rfl,rfl,F,⟨_,_,_,_,_,(h.below b1).setInn _,hrw,fun b hb=>Nat.lt_of_lt_of_le (hlt b hb) (by simp [World.setCell])⟩,newer_refl _ _,(But.of_below b1).setCell (p:=⟨T,5,none⟩) (.inl h.own) _⟩
 ·rw [if_neg he];refine(grow_bad ⟨T,5,none⟩ s.inn n w c2 he).mono ?_;rintro e w' ⟨rfl,hb⟩;exact .inr ⟨_,rfl,rfl,he,.of_below hb⟩
theorem ends_val {w w':World}{T:Nat}{F L:Nat->Prop}{R:Res}{e:Ending}(h:Ends w T F L R e w'):∃r,e=.returned (.int .i64 r)/\Ends w T F L R (.returned (.int .i64 r)) w':=by
 have h':=h;rcases h with⟨t,-,rfl,-⟩ | ⟨r,-,rfl,-⟩
 ·exact⟨0,rfl,h'⟩
 ·exact⟨r,rfl,h'⟩
theorem ends_but {w w':World}{T:Nat}{F L:Nat->Prop}{R:Res}{e:Ending}(h:Ends w T F L R e w'):But F w w':=by
 rcases h with⟨t,-,-,G,-,-,hb⟩ | ⟨r,-,-,-,hb⟩
 ·exact hb
 ·exact hb
theorem plc_open {s:Tn}(hs:Str s)(id:Int):plc s.accs id<(openR s id).accs.length:=by
 unfold openR;split
 ·rename_i h;exact(accAt_has hs.srt h).1
 ·dsimp only;unfold putA;have:=plc_le s.accs id;simp only [List.length_append,List.length_cons,List.length_take,List.length_drop];omega
theorem deposit_any (T:Nat)(F L:Nat->Prop)(s:Tn)(c:Cm)(w:World)(h:TA w T F L s)(hs:Str s)(hE:s.evs.length<=900000) :
  Calls Tryz.prog 86 #[turnP T,cmV c] w (Ends w T F L (depositR s c.ac c.n)):=by
 have mixed:Tryz.prog.follows .mixedOrders=true:=by kernel_rfl
 obtain⟨W,hW⟩:∃W,W=w.alloc (cmO c):=⟨_,rfl⟩;have b0:Below w.heap.size w W:=by rw [hW];exact below_alloc w _
 have eB:W.heap[w.heap.size]? = some (cmO c):=by rw [hW];exact heap_alloc_new w _
 have CP:=hide (checkPayment_any c W);have HW:=hide hW;have B0:=hide b0;obtain⟨kind,ac,mkt,n,⟨o1,o2,o3,o4,o5⟩,how,red⟩:=c;dsimp only at eB CP HW ⊢;obtain⟨R,hR⟩:∃R,R=depositR s ac n:=⟨_,rfl⟩;rw [<- hR];unfold depositR at hR;have NB:Hid (¬F w.heap.size):=fun f=>by have:=h.lt _ f;omega
 have hB:w.heap.size<W.heap.size:=(Array.getElem?_eq_some_iff.1 eB).1;have EB:=hide eB;have a:∀i v,_->W.cell? ⟨w.heap.size,i,none⟩=some v:=fun i v hv=>((blk_cell (by exact eB) i).1).trans hv;have a0:=a 0 (.int .i64 kind) rfl;have a1:=a 1 (.int .i64 ac) rfl;have a2:=a 2 (.int .i64 mkt) rfl;have a3:=a 3 (.int .i64 n) rfl;have a4:=a 4 (.int .i64 o1) rfl;have a5:=a 5 (.int .i64 o2) rfl;have a6:=a 6 (.int .i64 o3) rfl;have a7:=a 7 (.int .i64 o4) rfl;have a8:=a 8 (.int .i64 o5) rfl;have a9:=a 9 (.int .i64 how) rfl;have a10:=a 10 (.bool red) rfl;have TA0:=hide (h.below b0);have HS:=hide hs;have HE:=hide hE;have HR:=hide hR;obtain⟨pe,hpe⟩:∃pe,pe=payE ac n:=⟨_,rfl⟩;rw [<- hpe] at CP;have HPE:=hide hpe;clear a hR hs hE hW b0 eB h hpe;go_enter Tryz.func86,Tryz.ntmps86;go_wp2_with (rw [<- HW.out]);refine CP.out.mono ?_;rintro e W1 ⟨rfl,b1⟩;have E1:=hide (blk_below EB.out b1);have TA1:=hide (TA0.out.below b1);have B1:=hide (B0.out.trans (b1.mono B0.out.size));have hB1:w.heap.size<W1.heap.size:=Nat.lt_of_lt_of_le hB b1.size;clear a0 a1 a2 a3 a4 a5 a6 a7 a8 a9 a10 b1 CP HW EB TA0;by_cases hpe:pe=0
 ·have HR1:Hid (R=if addE s.inn n=0 then moveR (openR { s with inn:=addV s.inn n } ac) (plc s.accs ac) n else .error (addE s.inn n)):=by
   have:=HR.out;rw [if_pos (by rw [<- HPE.out];exact hpe)] at this;exact this
  subst hpe;clear HR;have e3:=(blk_cell E1.out 3).1;simp only [List.getElem?_toArray,List.getElem?_cons_zero,List.getElem?_cons_succ] at e3;by_cases hae:addE s.inn n=0
  ·have OUT:Hid (Calls Tryz.prog 116 #[.pointer (some ⟨T,5,none⟩),.int .i64 n] W1.drew fun e w'=>e=.returned (.int .i64 0)/\Stepped W1 T F L { s with inn:=addV s.inn n } w'):=by
    have hd:Below W1.heap.size W1 W1.drew:=(Below.refl _ W1).drew;have:=inn_any T F L s n W1.drew (TA1.out.below hd);rw [if_pos hae] at this;refine this.mono ?_;rintro e w' (⟨t,hR,he,G,ta,nw,bt⟩ | ⟨r,hR,-⟩)
    ·cases hR
     exact⟨he,G,ta,nw,(But.of_below hd).trans bt (fun _ g=>.inl g)⟩
    ·cases hR
   have HR3:Hid (R=moveR (openR { s with inn:=addV s.inn n } ac) (plc s.accs ac) n):=by
    have:=HR1.out;rw [if_pos hae] at this;exact this
   clear HR1;go_wp2_with fail;go_region_held3 (fun w'=>w'.cell? ⟨w.heap.size,3,none⟩=some (.int .i64 n)) (first | (with_reducible assumption) | exact e3) ((go_at_call 116;refine OUT.out.mono ?_;rintro e W3 ⟨rfl,hS3⟩;have e33:W3.cell? ⟨w.heap.size,3,none⟩=some (.int .i64 n):=(by obtain⟨G,ta,nw,bt⟩:=hS3;exact bt.cell NB.out e3)));obtain⟨G,ta,nw,bt⟩:=hS3;have hst:Str { s with inn:=addV s.inn n }:=by
    have hao:=add_ok hae;have:=money_true hao.2.2.1;have hr:=HS.out.inn;have hp:=pay_ok (HPE.out.symm);exact⟨HS.out.m1,HS.out.m2,HS.out.srt,HS.out.acc,HS.out.mkt,HS.out.who,HS.out.nx,HS.out.ins,HS.out.res,by show rng (addV s.inn n);rw [hao.2.2.2];unfold rng at *;omega,HS.out.out⟩
   have e31:=bt.cell (p:=⟨w.heap.size,1,none⟩) NB.out ((blk_cell E1.out 1).1);dsimp only at e31;have hW3:=bt.size;have NW:=hide (show Newer w F G from fun b hb=>(nw b hb).imp id (Nat.le_trans B1.out.size));have BT:=hide ((But.of_below B1.out:But F w W1).trans bt (fun _ g=>.inl g));have NG:Hid (¬G w.heap.size):=newer_not nw hB1 NB.out;have OP:=hide (open_any T G L { s with inn:=addV s.inn n } ac W3.drew (ta.below (Below.refl _ W3).drew) hst hst.few);have HST:=hide hst;have HPL:=hide (plc_open hst ac);obtain⟨s1,hs1⟩:∃s1,s1=openR { s with inn:=addV s.inn n } ac:=⟨_,rfl⟩;have hev:s1.evs=s.evs:=by rw [hs1];unfold openR;split<;>rfl
   rw [<- hs1] at OP HR3 HPL;obtain⟨k,hk⟩:∃k,k=plc s.accs ac:=⟨_,rfl⟩;have HK:Hid (k<s1.accs.length):=by rw [hk];exact HPL.out
   dsimp only at OP;rw [<- hk] at OP HR3;have HEV:=hide hev;clear ta nw bt OUT e3 E1 TA1 hst HST HPL hs1 hk hev;have MV:Hid (∀X,Stepped W3.drew T G L s1 X->Calls Tryz.prog 117 #[turnP T,.int .i64 (k:Nat),.int .i64 n] X fun e w'=>∃r,e=.returned (.int .i64 r)/\Ends w T F L R (.returned (.int .i64 r)) w'/\w'.cell? ⟨w.heap.size,1,none⟩=some (.int .i64 ac)/\w'.cell? ⟨w.heap.size,3,none⟩=some (.int .i64 n)):=fun X hX=>by
    obtain⟨G2,ta2,nw2,bt2⟩:=hX;have hd:Below W3.heap.size W3 W3.drew:=(Below.refl _ W3).drew;have NW2:Newer w F G2:=fun b hb=>by
     rcases nw2 b hb with g | g
     ·exact NW.out b g
     ·exact .inr (Nat.le_trans BT.out.size g)
    have BT2:But F w X:=BT.out.trans ((But.of_below hd:But G W3 W3.drew).trans bt2 (fun _ g=>.inl g)) NW.out;refine(move_any T G2 L s1 k n X ta2 HK.out (by rw [HEV.out];have:=HE.out;omega)).mono ?_;intro e w' hE;rw [<- HR3.out] at hE;have hbz:=ends_but hE;have ng2:¬G2 w.heap.size:=newer_not nw2 (show w.heap.size<W3.heap.size from Nat.lt_of_lt_of_le hB1 hW3) NG.out;obtain⟨r,he,hEE⟩:=ends_val (ends_on NW2 BT2 hE);exact⟨r,he,hEE,hbz.cell (p:=⟨w.heap.size,1,none⟩) ng2 (bt2.cell (p:=⟨w.heap.size,1,none⟩) NG.out e31),hbz.cell (p:=⟨w.heap.size,3,none⟩) ng2 (bt2.cell (p:=⟨w.heap.size,3,none⟩) NG.out e33)⟩
   have CE:Hid (∀X,Stepped W3.drew T G L s1 X->X.cell? ⟨w.heap.size,1,none⟩=some (.int .i64 ac)/\X.cell? ⟨w.heap.size,3,none⟩=some (.int .i64 n)):=fun X hX=>by
    obtain⟨G2,ta2,nw2,bt2⟩:=hX;exact⟨bt2.cell (p:=⟨w.heap.size,1,none⟩) NG.out e31,bt2.cell (p:=⟨w.heap.size,3,none⟩) NG.out e33⟩
   have S0:W3.drew.cell? ⟨w.heap.size,1,none⟩=some (.int .i64 ac)/\W3.drew.cell? ⟨w.heap.size,3,none⟩=some (.int .i64 n):=⟨e31,e33⟩;clear NW BT NG HK HR3 HEV;go_wp2_with fail;go_region_held3 (fun w'=>w'.cell? ⟨w.heap.size,1,none⟩=some (.int .i64 ac)/\w'.cell? ⟨w.heap.size,3,none⟩=some (.int .i64 n)) (first | (with_reducible assumption) | (with_reducible exact S0)) ((first | (go_at_call 118;refine OP.out.mono ?_;rintro e X ⟨rfl,hX⟩;have sX:=CE.out X hX;have MX:=hide (MV.out X hX);clear hX) | (go_at_call 117;refine MX.out.mono ?_;rintro e Z ⟨r,rfl,hZ,sZ⟩;have ZZ:=hide hZ;clear hZ)));clear sZ sX MX MV CE OP S0 e31 e33;go_wp2;go_ret;exact ZZ.out
  ·have OUT:Hid (Calls Tryz.prog 116 #[.pointer (some ⟨T,5,none⟩),.int .i64 n] W1.drew fun e w'=>e=.returned (.int .i64 (addE s.inn n))/\But F W1 w'):=by
    have hd:Below W1.heap.size W1 W1.drew:=(Below.refl _ W1).drew;have:=inn_any T F L s n W1.drew (TA1.out.below hd);rw [if_neg hae] at this;refine this.mono ?_;rintro e w' (⟨t,hR,-⟩ | ⟨r,hR,he,-,hb⟩)
    ·cases hR
    ·cases hR
     exact⟨he,(But.of_below hd).trans hb (fun _ g=>.inl g)⟩
   have HR3:Hid (R=.error (addE s.inn n)):=by
    have:=HR1.out;rw [if_neg hae] at this;exact this
   generalize addE s.inn n=ae at *;clear HR1;go_wp2_with fail;go_region_held3 (fun w'=>w'.cell? ⟨w.heap.size,3,none⟩=some (.int .i64 n)) (first | (with_reducible assumption) | exact e3) ((go_at_call 116;refine OUT.out.mono ?_;rintro e W3 ⟨rfl,hb3⟩;have e33:W3.cell? ⟨w.heap.size,3,none⟩=some (.int .i64 n):=hb3.cell NB.out e3));have EE:Hid (Ends w T F L R (.returned (.int .i64 ae)) W3):=.inr ⟨ae,HR3.out,rfl,hae,(But.of_below B1.out:But F w W1).trans hb3 (fun _ g=>.inl g)⟩;clear OUT e3 e33 hb3;go_wp2;go_ret;exact EE.out
 ·have EE:Hid (Ends w T F L R (.returned (.int .i64 pe)) W1):=.inr ⟨pe,by have:=HR.out;rw [if_neg (by rw [<- HPE.out];exact hpe),<- HPE.out] at this;exact this,rfl,hpe,.of_below B1.out⟩;clear HR;go_wp2;go_ret;exact EE.out
end Go.Proofs.YthdjfhnhjiageaaGreatDoor.Vn
