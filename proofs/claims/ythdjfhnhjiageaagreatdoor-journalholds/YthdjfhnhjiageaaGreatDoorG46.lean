import Derived.Test.YthdjfhnhjiageaaGreatDoorG45
import Derived.Test.YthdjfhnhjiageaaGreatDoorG19
set_option maxHeartbeats 8000000
set_option maxRecDepth 100000
namespace Go.Proofs.YthdjfhnhjiageaaGreatDoor.Tx
open Go.RowKit Go.Lib Go.Sort Mix
theorem join3 (a b c:Bs):joinW [a,b,c]=a++32::(b++32::c):=by simp [joinW]
theorem print_acc {c:Cd}(h:c.kind=1\/c.kind=2\/c.kind=4):printC c=atW kindsL c.kind++32::(itoa c.ac++32::itoa c.n):=by
 unfold printC wordsC;rw [if_pos h,join3]
theorem print_mkt {c:Cd}(h:c.kind=5\/c.kind=6):printC c=atW kindsL c.kind++32::(itoa c.mkt++32::itoa c.n):=by
 unfold printC wordsC;rw [if_neg (by omega),if_pos h,join3]
theorem print_place {c:Cd}(h:c.kind=3):printC c=atW kindsL c.kind++32::(itoa c.ac++32::itoa c.mkt)++32::(orderB c++redB c):=by
 unfold printC wordsC orderB redB tailW;rw [if_neg (by omega),if_neg (by omega),if_pos h]
 cases c.red<;>simp [joinW]
theorem print_sweep {c:Cd}(h:c.kind=7):printC c=atW kindsL c.kind:=by
 unfold printC wordsC;rw [if_neg (by omega),if_neg (by omega),if_neg (by omega)];simp [joinW]
def printS (c:Cd):Bs:=if checkC c=0 then printC c else []
theorem word8 (k:Int):(atW kindsL k).length<=100:=by
 by_cases h:atW kindsL k=[]
 ·rw [h];decide
 ·rcases kind_ok h with rfl | rfl | rfl | rfl | rfl | rfl | rfl<;>decide
theorem print_any (c:Cd)(w:World)(hf:c.fits)(E:Env w):Calls Tryz.prog 27 #[cdV c] w fun e w'=>e=.returned (.tuple #[sV (printS c),.int .i64 (checkC c)])/\Below w.heap.size w w':=by
 have mixed:Tryz.prog.follows .mixedOrders=true:=by kernel_rfl
 obtain⟨pc,hpc⟩:∃pc,pc=printS c:=⟨_,rfl⟩;rw [<- hpc];unfold printS at hpc;have hk:=fun h=>kind_ok (check_ok (c:=c) h).1;have PA:Hid (checkC c=0->c.kind=1\/c.kind=2\/c.kind=4->pc=atW kindsL c.kind++32::(itoa c.ac++32::itoa c.n)):=fun h k=>by show pc=_;rw [hpc,if_pos h,print_acc k]
 have PB:Hid (checkC c=0->c.kind=5\/c.kind=6->pc=atW kindsL c.kind++32::(itoa c.mkt++32::itoa c.n)):=fun h k=>by show pc=_;rw [hpc,if_pos h,print_mkt k]
 have PC:Hid (checkC c=0->c.kind=3->pc=atW kindsL c.kind++32::(itoa c.ac++32::itoa c.mkt)++32::(orderB c++redB c)):=fun h k=>by show pc=_;rw [hpc,if_pos h,print_place k]
 have PD:Hid (checkC c=0->c.kind=7->pc=atW kindsL c.kind):=fun h k=>by show pc=_;rw [hpc,if_pos h,print_sweep k]
 have PN:Hid (¬checkC c=0->pc=[]):=fun h=>by show pc=_;rw [hpc,if_neg h]
 have LO:Hid (c.kind=3->(orderB c++redB c).length<=200):=fun k=>by
  have:=print_len hf;rw [print_place k,List.length_append,List.length_cons] at this;show List.length _<=200;omega
 have la:=itoa_len hf.ac;have lm:=itoa_len hf.mkt;have hw8:=word8 c.kind;have OR:=hide (fun w (E:Env w)=>order_any c w hf E);generalize orderB c++redB c=ob at *;obtain⟨wd,hwd⟩:∃wd,wd=atW kindsL c.kind:=⟨_,rfl⟩;rw [<- hwd] at PA PB PC PD hw8;have CK0:=fun W=>check_any c W hf.sd;obtain⟨r,hr⟩:∃r,r=checkC c:=⟨_,rfl⟩;rw [<- hr] at hk PA PB PC PD PN CK0 ⊢;clear hpc hr;obtain⟨kind,ac,mkt,n,oi,oa,sd,pr,qt,how,red⟩:=c;dsimp only at hk PA PB PC PD LO la lm hwd;obtain⟨W,hW⟩:∃W,W=w.alloc (cdO ⟨kind,ac,mkt,n,oi,oa,sd,pr,qt,how,red⟩):=⟨_,rfl⟩;have AT:CdAt W w.heap.size ⟨kind,ac,mkt,n,oi,oa,sd,pr,qt,how,red⟩:=by show W.heap[w.heap.size]? = _;rw [hW];exact heap_alloc_new w _
 have BW:Hid (Below w.heap.size w W):=by rw [hW];exact below_alloc w _
 have EW:=hide (E.below BW.out);have HW:=hide hW;have CK:=hide (CK0 W);clear CK0;obtain⟨c0,c1,c2,c3,c4,c5,c6,c7,c8,c9,c10⟩:=cd_all AT;have HF:=hide hf;clear hW hf E;go_enter Tryz.func27,Tryz.ntmps27;go_wp2_with (rw [<- HW.out]);refine CK.out.mono ?_;rintro e X ⟨rfl,hb⟩;have AX:=cdAt_below AT hb;have BX:=hide (onward BW.out hb);have EX:=hide (EW.out.below hb);clear c0 c1 c2 c3 c4 c5 c6 c7 c8 c9 c10 hb AT BW EW CK HW;clear W;by_cases h:r=0
 ·have hk:=hk h;have QA:=hide (PA.out h);have QB:=hide (PB.out h);have QC:=hide (PC.out h);have QD:=hide (PD.out h);have hk7:=hk;clear hk PA PB PC PD PN;subst h;have hC:∀q:InC (fun x=>Below X.heap.size X x),Below X.heap.size X q.w:=fun q=>q.h;generalize hCC:(fun x=>Below X.heap.size X x)=C at hC;have CS:∀x y,C x->Below x.heap.size x y->C y:=by rw [<- hCC];exact fun x y hx hy=>onward hx hy
  have C0:Hid (C X.drew):=by rw [<- hCC];exact(Below.refl _ X).drew
  have CB:=hide hC;obtain⟨k0,k1,k2,k3,k4,k5,k6,k7,k8,k9,k10⟩:=cd_inC hC AX;dsimp only at k0 k1 k2 k3 k4 k5 k6 k7 k8 k9 k10;have K1:=hide (fun q:InC C=>calls_inC CS q (kinds_any q.w));have K2:=hide (fun q:InC C=>calls_inC CS q (at_any [] wDeposit wWithdraw wPlace wCancel wIndex wFund wSweep kind q.w));have e1:atW [[],wDeposit,wWithdraw,wPlace,wCancel,wIndex,wFund,wSweep] kind=wd:=hwd.symm;rw [e1] at K2;clear hC hCC CS e1;go_wp2_with fail;refine wp_region_inC C mixed (by kernel_rfl) C0.out ?_;repeat (go_big_quiet_step (first | (go_at_call 47;refine K1.out _) | (go_at_call 48;refine K2.out _) | exact rfl))
  refine wpQuiet_nil ?_;rintro _ ⟨q6,rfl⟩;have HC1:=hide (CB.out q6);obtain⟨Y,hY⟩:∃Y,Y=q6.w:=⟨_,rfl⟩;rw [<- hY] at HC1 ⊢;have AY:=cdAt_below AX HC1.out;have BY:=hide (onward BX.out HC1.out);have EY:=hide (EX.out.below HC1.out);clear hY k0 k1 k2 k3 k4 k5 k6 k7 k8 k9 k10 K1 K2 CB C0 AX BX EX HC1;clear q6;clear C;clear X;obtain⟨c0,c1,c2,c3,-⟩:=cd_all AY;by_cases hA:kind=1\/kind=2\/kind=4
  ·have HP:=hide (QA.out hA);clear hk7 QA QB QC QD LO OR;rcases hA with h | h | h;all_goals
    have b:=eqT h;try have b1:¬kind=1:=by omega
    try have b2:¬kind=2:=by omega
    clear h hwd;have pc:=pair_cells Y ac n _ (Below.refl _ _);have PH:=hide (phrase_any wd Y.heap.size ac n (Y.alloc (.cells #[.int .i64 ac,.int .i64 n] 3)) hw8 HF.out.ac HF.out.n (EY.out.below (below_alloc Y _)) pc.1 pc.2);clear pc;go_wp2_with fail;refine PH.out.mono ?_;rintro e Z ⟨rfl,hb⟩;have BZ:=hide (onward BY.out (onward (below_alloc Y _) hb));clear hb PH c0 c1 c2 c3;go_wp2;refine bodyPost_ret (v:=.tuple #[sV (wd++32::(itoa ac++32::itoa n)),.int .i64 0]) (by simp [results,Tryz.results27,go_sem]) rfl ?_;exact⟨by rw [HP.out],BZ.out⟩
  have b1:¬kind=1:=by omega
  have b2:¬kind=2:=by omega
  have b4:¬kind=4:=by omega
  by_cases hB:kind=5\/kind=6
  ·have HP:=hide (QB.out hB);clear hA hk7 QA QB QC QD LO OR;rcases hB with h | h;all_goals
    have b:=eqT h;try have b5:¬kind=5:=by omega
    clear h hwd;have pc:=pair_cells Y mkt n _ (Below.refl _ _);have PH:=hide (phrase_any wd Y.heap.size mkt n (Y.alloc (.cells #[.int .i64 mkt,.int .i64 n] 3)) hw8 HF.out.mkt HF.out.n (EY.out.below (below_alloc Y _)) pc.1 pc.2);clear pc;go_wp2_with fail;refine PH.out.mono ?_;rintro e Z ⟨rfl,hb⟩;have BZ:=hide (onward BY.out (onward (below_alloc Y _) hb));clear hb PH c0 c1 c2 c3;go_wp2;refine bodyPost_ret (v:=.tuple #[sV (wd++32::(itoa mkt++32::itoa n)),.int .i64 0]) (by simp [results,Tryz.results27,go_sem]) rfl ?_;exact⟨by rw [HP.out],BZ.out⟩
  have b5:¬kind=5:=by omega
  have b6:¬kind=6:=by omega
  by_cases h:kind=3
  ·have HP:=hide (QC.out h);have lo:=LO.out h;have b:=eqT h;clear hA hB hk7 QA QB QC QD LO h hwd c1 c2 c3;have hC:∀q:InC (fun x=>Below Y.heap.size Y x),Below Y.heap.size Y q.w:=fun q=>q.h;generalize hCC:(fun x=>Below Y.heap.size Y x)=C at hC;have CS:∀x y,C x->Below x.heap.size x y->C y:=by rw [<- hCC];exact fun x y hx hy=>onward hx hy
   have C0:Hid (C Y.drew):=by rw [<- hCC];exact(Below.refl _ Y).drew
   have CB:=hide hC;obtain⟨k0,k1,k2,k3,k4,k5,k6,k7,k8,k9,k10⟩:=cd_inC hC AY;dsimp only at k0 k1 k2 k3 k4 k5 k6 k7 k8 k9 k10;have CS0:=hide CS;have K5:Hid (∀x b,C x->x.cell? ⟨b,0,none⟩=some (.int .i64 ac)->x.cell? ⟨b,1,none⟩=some (.int .i64 mkt)->_):=fun x b hx h0 h1=>phrase_any wd b ac mkt x hw8 HF.out.ac HF.out.mkt (EY.out.below (hC ⟨x,hx⟩)) h0 h1;have K6:Hid (∀x,C x->_):=fun x hx=>OR.out x (EY.out.below (hC ⟨x,hx⟩));clear CS hC hCC OR;have CS:=CS0;clear CS0;go_wp2_with fail;refine wp_region_mix [(0,true),(1,true),(2,true),(3,true),(4,true),(8,true),(5,false),(6,false),(7,true),(9,false),(10,true),(11,true),(12,true)] C mixed (by kernel_rfl) C0.out ?_;repeat (refine mix_still (by rfl) ?_;go_big_quiet_step (exact rfl);refine wpQuiet_nil ?_)
   refine mix_main (by rfl) ?_;rintro ⟨x1,hx1⟩;go_wp2;refine⟨From C (x1.alloc (.cells #[.int .i64 ac,.int .i64 mkt] 3)),from_self (CS.out x1 _ hx1 (below_alloc x1 _)),fun x hx=>hx.1,?_⟩;have CS1:=hide (from_shut CS.out (x1.alloc (.cells #[.int .i64 ac,.int .i64 mkt] 3)));have SUB:Hid (∀x,From C (x1.alloc (.cells #[.int .i64 ac,.int .i64 mkt] 3)) x->C x/\x.cell? ⟨x1.heap.size,0,none⟩=some (.int .i64 ac)/\x.cell? ⟨x1.heap.size,1,none⟩=some (.int .i64 mkt)):=fun x hx=>⟨hx.1,pair_cells x1 ac mkt x hx.2⟩;generalize From C (x1.alloc (.cells #[.int .i64 ac,.int .i64 mkt] 3))=C1 at CS1 SUB ⊢;generalize x1.heap.size=bk at SUB ⊢;clear hx1 x1 CS;have L5:Hid (∀x,C1 x->_):=fun x hx=>K5.out x bk (SUB.out x hx).1 (SUB.out x hx).2.1 (SUB.out x hx).2.2;have L6:Hid (∀x,C1 x->_):=fun x hx=>K6.out x (SUB.out x hx).1;refine mix_main (by rfl) ?_;rintro ⟨x1,hx1⟩;go_wp2_with (go_at_call 49;refine(L5.out x1 hx1).mono ?_;rintro e w' ⟨rfl,hb'⟩);refine⟨_,CS1.out x1 _ hx1 hb',fun _ h=>h,?_⟩;clear hb' hx1;clear x1 w';repeat (refine mix_still (by rfl) ?_;go_big_quiet_step (exact rfl);refine wpQuiet_nil ?_)
   refine mix_main (by rfl) ?_;rintro ⟨x1,hx1⟩;go_wp2_with (go_at_call 50;refine(L6.out x1 hx1).mono ?_;rintro e w' ⟨rfl,hb'⟩);refine⟨_,CS1.out x1 _ hx1 hb',fun _ h=>h,?_⟩;clear hb' hx1;clear x1 w';repeat (refine mix_still (by rfl) ?_;go_big_quiet_step (exact rfl);refine wpQuiet_nil ?_)
   refine mix_end ?_;rintro ⟨x9,hx9⟩;dsimp only;have BX:Hid (Below w.heap.size w x9):=onward BY.out (CB.out ⟨x9,(SUB.out x9 hx9).1⟩);clear k0 k1 k2 k3 k4 k5 k6 k7 k8 k9 k10 K5 K6 L5 L6 CS1 CB C0 hx9 SUB;go_wp2;refine bodyPost_ret (v:=.tuple #[.string (sB (wd++32::(itoa ac++32::itoa mkt))++sB [32]++sB ob),.int .i64 0]) (by simp [results,Tryz.results27,go_sem]) rfl ?_;refine⟨?_,BX.out⟩;simp only [sB_cat];rw [HP.out];simp only [List.append_assoc,List.cons_append,List.nil_append]
  ·have HP:=hide (QD.out (by omega));clear hA hB hk7 QA QB QC QD LO OR hwd;go_wp2;refine bodyPost_ret (v:=.tuple #[sV wd,.int .i64 0]) (by simp [results,Tryz.results27,go_sem]) rfl ?_;exact⟨by rw [HP.out],BY.out⟩
 ·have HP:=hide (PN.out h);clear hk PA PB PC PD PN LO OR hwd hw8 la lm;go_wp2;refine bodyPost_ret (v:=.tuple #[sV [],.int .i64 r]) (by simp [results,Tryz.results27,go_sem]) rfl ?_;exact⟨by rw [HP.out],BX.out⟩
def eightW (ws:List Bs):List Bs:=[ws.getD 0 [],ws.getD 1 [],ws.getD 2 [],ws.getD 3 [],ws.getD 4 [],ws.getD 5 [],ws.getD 6 [],ws.getD 7 []]
theorem split_is (s:Bs):(splitB (sB [32]) 0 (countB (sB s) (sB [32])) (sB s))=(splitW s).map sB:=by
 have h:=splitB_data (sB [32]) 0 (countB (sB s) (sB [32])) (sB s);have e:splitW s=splitK [32] 0 (countB (sB s) (sB [32])) s:=rfl;rw [e];have h2:(splitB (sB [32]) 0 (countB (sB s) (sB [32])) (sB s)).map (·.data.toList)=splitK [32] 0 (countB (sB s) (sB [32])) s:=h;rw [<- h2,List.map_map]
 conv=>lhs;rw [<- List.map_id (splitB _ _ _ _)]
 apply List.map_congr_left;intro x _;simp
theorem split_len (s:Bs):(splitW s).length=countB (sB s) (sB [32])+1:=by
 have:=splitB_all (sB [32]) (by decide) 0 _ (sB s) rfl;rw [split_is,List.length_map] at this;exact this
theorem gen_any (s:ByteArray)(N:Nat)(w:World)(hs:s.size<4294967281)(hN:(N:Int)=min ((countB s (sB [32]):Int)+1) ((s.size:Int)+1)) :
  Calls Tryz.prog 101 #[.string s,.string (sB [32]),.int .i64 0,.int .i64 (-1)] w fun e w'=>e=.returned (.slice (some ⟨w.heap.size,0,none⟩) (splitB (sB [32]) 0 (N-1) s).length N)/\w'=w.alloc (.cells (cellsOf (splitB (sB [32]) 0 (N-1) s) N) 9):=by
 refine Any.strings_genSplit_core Tryz.lays221 (by kernel_rfl) s (sB [32]) 0 (-1) N w hs (by decide) (by decide) (fun x c _=>?_) ?_ (by decide) (by decide) (by rw [if_pos (by decide)];exact hN)
 ·refine(Tryz.strings_Index_one x 32 _).mono fun e w' ⟨he,hw⟩=>⟨?_,hw⟩;rw [he];show _=Ending.returned (Value.int .i64 (Lib.index x.data.toList [32]));rw [index_one]
 ·refine(Tryz.strings_Count_one s 32 w).mono fun e w' ⟨he,hw⟩=>⟨?_,hw⟩;rw [he];show _=Ending.returned (Value.int .i64 ((Lib.count s.data.toList [32]:Nat):Int));rw [count_one];rfl
theorem split_any (s:Bs)(hs:s.length<=20000)(w:World) :
  Calls Tryz.prog 75 #[sV s,.string ⟨#[32]⟩] w fun e w'=>e=.returned (.slice (some ⟨w.heap.size,0,none⟩) (splitW s).length (splitW s).length)/\w'=w.alloc (.cells ((splitW s).map sV).toArray 9):=by
 have hle:=countB_le (sB [32]) (by decide) (sB s).size (sB s) (Nat.le_refl _);have hlen:=splitB_all (sB [32]) (by decide) 0 _ (sB s) rfl;have c:=gen_any (sB s) (countB (sB s) (sB [32])+1) w (by rw [sB_size];omega) (by omega);rw [Nat.add_sub_cancel,hlen] at c;have e2:cellsOf (splitB (sB [32]) 0 (countB (sB s) (sB [32])) (sB s)) (countB (sB s) (sB [32])+1)=((splitB (sB [32]) 0 (countB (sB s) (sB [32])) (sB s)).map Value.string).toArray:=by rw [<- hlen];exact cellsOf_full _
 rw [e2,split_is,<- split_len,List.map_map] at c;have G:=hide c;clear hle hlen e2 c hs;go_enter Tryz.func75,Tryz.ntmps75;go_wp2_with fail;refine G.out.mono ?_;rintro e w' ⟨rfl,hw'⟩;rw [hw'];clear hw' G;go_wp2;go_ret;exact⟨rfl,rfl⟩
def putCd (x:World) (r:Nat) (c:Cd):World:=((((((((((x.setCell ⟨r,0,none⟩ (.int .i64 c.kind)).setCell ⟨r,1,none⟩ (.int .i64 c.ac)).setCell ⟨r,2,none⟩ (.int .i64 c.mkt)).setCell ⟨r,3,none⟩ (.int .i64 c.n)).setCell ⟨r,4,none⟩ (.int .i64 c.oi)).setCell ⟨r,5,none⟩ (.int .i64 c.oa)).setCell ⟨r,6,none⟩ (.int .i64 c.sd)).setCell ⟨r,7,none⟩ (.int .i64 c.pr)).setCell ⟨r,8,none⟩ (.int .i64 c.qt)).setCell ⟨r,9,none⟩ (.int .i64 c.how)).setCell ⟨r,10,none⟩ (.bool c.red)
theorem heap_set {w:World}{g:Nat}{cs:Array Value}{t:TypeId}(h:w.heap[g]? = some (.cells cs t (0,0)))(j:Nat)(v:Value):(w.setCell ⟨g,j,none⟩ v).heap[g]? = some (.cells (cs.setIfInBounds j v) t (0,0)):=by
 simp [World.setCell,Array.getElem?_modify,h]
theorem putCd_at {x:World}{r:Nat}{c0:Cd}(h:CdAt x r c0)(c:Cd):CdAt (putCd x r c) r c:=by
 have:=heap_set (heap_set (heap_set (heap_set (heap_set (heap_set (heap_set (heap_set (heap_set (heap_set (heap_set h 0 (.int .i64 c.kind)) 1 (.int .i64 c.ac)) 2 (.int .i64 c.mkt)) 3 (.int .i64 c.n)) 4 (.int .i64 c.oi)) 5 (.int .i64 c.oa)) 6 (.int .i64 c.sd)) 7 (.int .i64 c.pr)) 8 (.int .i64 c.qt)) 9 (.int .i64 c.how)) 10 (.bool c.red);show (putCd x r c).heap[r]? = _;unfold putCd;rw [this];simp
theorem putCd_below {x a:World}{B r:Nat}(h:Below B a x)(hr:B<=r)(c:Cd):Below B a (putCd x r c):=by
 unfold putCd;iterate 11 (refine Below.setCell ?_ hr _)
 exact h
theorem cd_frozen {W:World}{B:Nat}{c:Cd}(h:CdAt W B c)(i:Nat):W.frozen? ⟨B,i,none⟩=false:=by
 simp [World.frozen?,h]
theorem eight_row (ws:List Bs):((ws.take 8).map sV)++([sV [],sV [],sV [],sV [],sV [],sV [],sV [],sV []]:List Value).drop ((ws.take 8).map sV).length=(eightW ws).map sV:=by
 match ws with
 |[]=>rfl
 |[_]=>rfl
 |[_,_]=>rfl
 |[_,_,_]=>rfl
 |[_,_,_,_]=>rfl
 |[_,_,_,_,_]=>rfl
 |[_,_,_,_,_,_]=>rfl
 |[_,_,_,_,_,_,_]=>rfl
 |_::_::_::_::_::_::_::_::_=>rfl
abbrev LAt (X:World) (b:Nat) (l:List Bs):Prop:=X.heap[b]? = some (.cells (l.map sV).toArray 99 (0,0))
theorem lat_below {W X:World}{b:Nat}{l:List Bs}(h:LAt W b l)(hb:Below W.heap.size W X):LAt X b l:=by
 show X.heap[b]? = _;rw [hb.block b (Array.getElem?_eq_some_iff.1 h).1];exact h
theorem lat_cell {X:World}{b:Nat}{l:List Bs}(h:LAt X b l)(i:Nat){x:Bs}(hx:l[i]? = some x):X.cell? ⟨b,i,none⟩=some (sV x):=by
 simp [World.cell?,h,hx]
theorem copied {X:World}{lb N:Nat}{ws:List Bs}(h:LAt X lb [[],[],[],[],[],[],[],[]])(hc:∀j v,(ws.map sV)[j]? = some v->X.cell? ⟨N,j,none⟩=some v)(ty:TypeId) :
  ∃Y,(Builtin.copy_ #[76,76] ty #[.slice (some ⟨lb,0,none⟩) 8 8,.slice (some ⟨N,0,none⟩) ws.length ws.length]).run Tryz.prog X=.ok (goInt (Nat.min ws.length 8)) Y/\LAt Y lb (eightW ws)/\∀(B:Nat) (a:World),Below B a X->B<=lb->Below B a Y:=by
 have hu:=Tryz.underlying76;have hs:(Tryz.prog.info? 9).map (·.size)=some 1:=by kernel_rfl
 have hrun:=CopyK.run_copy_rowK Tryz.prog X 76 76 ty 9 1 lb 0 8 8 ⟨N,0,none⟩ ws.length ws.length _ _ ((ws.take 8).map sV) hu hs h (by simp only [List.length_map,List.length_take,Nat.mul_one];exact Nat.min_comm _ _) (fun j v hv=>?_) (by simp;omega) (fun v hv=>?_)
 ·refine⟨_,hrun,?_,fun B a hb hB=>below_setRow hb hB _⟩;show _=_;rw [setRow_heap X lb _ _ _ _ h];have e:=eight_row ws;simp only [List.map_cons,List.map_nil,List.take_zero,List.nil_append,Nat.zero_add] at e ⊢;rw [e]
 ·rw [Addr.add_lit,Nat.zero_add];refine hc j v ?_;rw [List.map_take,List.getElem?_take] at hv;split at hv
  ·exact hv
  ·cases hv
 ·obtain⟨x,-,rfl⟩:=List.mem_map.1 hv;rfl
theorem step_copy_eq {P:Program}{ops:Array Oper}{o:Oper}{a:Act}{w:World}{K:Act->World->Prop}{Q:Exit->Act->World->Prop}{E:Prop}
  (hg:o.guard=none) (d x:Operand) (dT sT:TypeId) (hop:o.op=Op.call { callee:=Callee.builtin Builtin.copy,args:=#[d,x],argTypes:=#[dT,sT] })
  (v u:Value) (hd:a.eval d=v) (hx:a.eval x=u) {v':Value} {w':World} (hr:(Builtin.copy_ #[dT,sT] o.type #[v,u]).run P w=.ok v' w') (hK:K (a.put o.dst v') w') :
  if Region.wanted o (yielded ops a.tmps)=true then Oper.wp P o a w K Q else E:=by
 have hw:Region.wanted o (yielded ops a.tmps)=true:=by simp [Region.wanted,hg]
 rw [if_pos hw];unfold Oper.wp;simp [execOp,hop,resolve,invoke,builtin,hd,hx,hr,Result.andThen];exact hK
theorem cdAt_ac {x:World}{b:Nat}{c:Cd}(h:CdAt x b c)(v:Int):CdAt (x.setCell ⟨b,1,none⟩ (.int .i64 v)) b { c with ac:=v }:=by
 have:=heap_set h 1 (.int .i64 v);show _=_;rw [this];simp
theorem cdAt_mkt {x:World}{b:Nat}{c:Cd}(h:CdAt x b c)(v:Int):CdAt (x.setCell ⟨b,2,none⟩ (.int .i64 v)) b { c with mkt:=v }:=by
 have:=heap_set h 2 (.int .i64 v);show _=_;rw [this];simp
theorem cdAt_n {x:World}{b:Nat}{c:Cd}(h:CdAt x b c)(v:Int):CdAt (x.setCell ⟨b,3,none⟩ (.int .i64 v)) b { c with n:=v }:=by
 have:=heap_set h 3 (.int .i64 v);show _=_;rw [this];simp
theorem cdAt_how {x:World}{b:Nat}{c:Cd}(h:CdAt x b c)(v:Int):CdAt (x.setCell ⟨b,9,none⟩ (.int .i64 v)) b { c with how:=v }:=by
 have:=heap_set h 9 (.int .i64 v);show _=_;rw [this];simp
theorem cdAt_red {x:World}{b:Nat}{c:Cd}(h:CdAt x b c)(v:Bool):CdAt (x.setCell ⟨b,10,none⟩ (.bool v)) b { c with red:=v }:=by
 have:=heap_set h 10 (.bool v);show _=_;rw [this];simp
theorem cdAt_o {x:World}{b:Nat}{c:Cd}(h:CdAt x b c)(v1 v2 v3 v4 v5:Int):CdAt (((((x.setCell ⟨b,4,none⟩ (.int .i64 v1)).setCell ⟨b,5,none⟩ (.int .i64 v2)).setCell ⟨b,6,none⟩ (.int .i64 v3)).setCell ⟨b,7,none⟩ (.int .i64 v4)).setCell ⟨b,8,none⟩ (.int .i64 v5)) b { c with oi:=v1,oa:=v2,sd:=v3,pr:=v4,qt:=v5 }:=by
 have:=heap_set (heap_set (heap_set (heap_set (heap_set h 4 (.int .i64 v1)) 5 (.int .i64 v2)) 6 (.int .i64 v3)) 7 (.int .i64 v4)) 8 (.int .i64 v5);show _=_;rw [this];simp
def AtP (X:World) (bk:Nat) (P:Cd->Prop) (x:World):Prop:=Below X.heap.size X x/\∃c,P c/\CdAt x bk c
theorem atP_shut (X:World)(bk:Nat)(P:Cd->Prop):∀x y,AtP X bk P x->Below x.heap.size x y->AtP X bk P y:=fun _ _ h hb=>⟨onward h.1 hb,h.2.imp fun _ hc=>⟨hc.1,cdAt_below hc.2 hb⟩⟩
theorem atP_mono {X:World}{bk:Nat}{P Q:Cd->Prop}(h:∀c,P c->Q c):∀x,AtP X bk P x->AtP X bk Q x:=fun _ hx=>⟨hx.1,hx.2.imp fun c hc=>⟨h c hc.1,hc.2⟩⟩
theorem split_short (sep:Bs):∀(k:Nat)(s:Bs),∀x,x∈splitK sep 0 k s->x.length<=s.length
 |0,s,x,hx=>by rw [splitK,List.mem_singleton] at hx;rw [hx];exact Nat.le_refl _
 |k+1,s,x,hx=>by
  unfold splitK at hx;split at hx
  ·rw [List.mem_singleton] at hx;rw [hx];exact Nat.le_refl _
  ·rcases List.mem_cons.1 hx with rfl | hx
   ·rw [List.length_take];omega
   ·have:=split_short sep k _ x hx;rw [List.length_drop] at this;omega
theorem word_short (s:Bs)(i:Nat):((splitW s).getD i []).length<=s.length:=by
 rw [List.getD_eq_getElem?_getD]
 cases h:(splitW s)[i]? with
 |none=>simp
 |some x=>exact split_short _ _ _ x (List.mem_of_getElem? h)
structure GIn (w X:World) (l:List Bs):Prop where
 low:Below w.heap.size w X
 ret:CdAt X w.heap.size noCd
 l:LAt X (w.heap.size+1) l
 big:w.heap.size+1<X.heap.size
end Go.Proofs.YthdjfhnhjiageaaGreatDoor.Tx
