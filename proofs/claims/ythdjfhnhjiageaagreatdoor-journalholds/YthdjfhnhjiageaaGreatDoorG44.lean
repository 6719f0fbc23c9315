import Derived.Test.YthdjfhnhjiageaaGreatDoorG43
import Derived.WalkLawsBesides
import Derived.Test.YthdjfhnhjiageaaGreatDoorG04
import Derived.Lib.SmallJoins
set_option maxHeartbeats 8000000
set_option maxRecDepth 100000
namespace Go.Proofs.YthdjfhnhjiageaaGreatDoor.Tx
open Go.RowKit Go.Lib
theorem hide {p:Prop}(h:p):Hid p:=h
abbrev sB (b:Bs):ByteArray:=⟨b.toArray⟩
abbrev sV (b:Bs):Value:=.string (sB b)
abbrev words8 (a b c d e f g h:Bs):Value:=.agg #[sV a,sV b,sV c,sV d,sV e,sV f,sV g,sV h]
abbrev kindsV:Value:=words8 [] wDeposit wWithdraw wPlace wCancel wIndex wFund wSweep
abbrev howsV:Value:=words8 [] wLimit wNow wWhole wPost [] [] []
abbrev sidesV:Value:=words8 wSell [] wBuy [] [] [] [] []
theorem below_alloc (w:World)(o:Obj):Below w.heap.size w (w.alloc o):=(Below.refl w.heap.size w).alloc (Nat.le_refl _) o
theorem new_cell (w:World)(cs:Array Value)(t:TypeId)(i:Nat)(v:Value)(h:cs[i]? = some v):(w.alloc (.cells cs t)).cell? ⟨w.heap.size,i,none⟩=some v:=by
 rw [World.cell?_alloc_at (w:=w) cs t w.heap.size i rfl];exact h
theorem kinds_any (w:World):Calls Tryz.prog 47 #[] w fun e w'=>e=.returned kindsV/\Below w.heap.size w w':=by
 go_enter Tryz.func47,Tryz.ntmps47;go_wp2;refine bodyPost_ret (v:=kindsV) (by simp [results,Tryz.results47,go_sem]) rfl ?_;exact⟨rfl,below_alloc w _⟩
theorem hows_any (w:World):Calls Tryz.prog 69 #[] w fun e w'=>e=.returned howsV/\Below w.heap.size w w':=by
 go_enter Tryz.func69,Tryz.ntmps69;go_wp2;refine bodyPost_ret (v:=howsV) (by simp [results,Tryz.results69,go_sem]) rfl ?_;exact⟨rfl,below_alloc w _⟩
theorem sides_any (w:World):Calls Tryz.prog 70 #[] w fun e w'=>e=.returned sidesV/\Below w.heap.size w w':=by
 go_enter Tryz.func70,Tryz.ntmps70;go_wp2;refine bodyPost_ret (v:=sidesV) (by simp [results,Tryz.results70,go_sem]) rfl ?_;exact⟨rfl,below_alloc w _⟩
theorem eight {n:Int}(h:0<=n/\n<8):n=0\/n=1\/n=2\/n=3\/n=4\/n=5\/n=6\/n=7:=by omega
theorem at_any (a b c d e f g h:Bs)(n:Int)(w:World):Calls Tryz.prog 48 #[words8 a b c d e f g h,.int .i64 n] w fun x w'=>x=.returned (sV (atW [a,b,c,d,e,f,g,h] n))/\Below w.heap.size w w':=by
 by_cases h1:n<0
 ·have e:atW [a,b,c,d,e,f,g,h] n=[]:=by unfold atW;rw [if_neg (by omega)]
  rw [e];clear e;go_enter Tryz.func48,Tryz.ntmps48;go_wp2;go_ret;exact⟨rfl,below_alloc w _⟩
 by_cases h2:8<=n
 ·have e:atW [a,b,c,d,e,f,g,h] n=[]:=by unfold atW;rw [if_neg (by omega)]
  rw [e];clear e;go_enter Tryz.func48,Tryz.ntmps48;go_wp2;go_ret;exact⟨rfl,below_alloc w _⟩
 rcases eight (show 0<=n/\n<8 by omega) with rfl | rfl | rfl | rfl | rfl | rfl | rfl | rfl<;>clear h1 h2;all_goals
  go_enter Tryz.func48,Tryz.ntmps48;go_wp2;go_ret;exact⟨rfl,below_alloc w _⟩
end Go.Proofs.YthdjfhnhjiageaaGreatDoor.Tx
namespace Go.Proofs.YthdjfhnhjiageaaGreatDoor.Tx
open Go.RowKit Go.Lib
abbrev cdV (c:Cd):Value:=.agg #[.int .i64 c.kind,.int .i64 c.ac,.int .i64 c.mkt,.int .i64 c.n,.int .i64 c.oi,.int .i64 c.oa,.int .i64 c.sd,.int .i64 c.pr,.int .i64 c.qt,.int .i64 c.how,.bool c.red]
abbrev cdO (c:Cd):Obj:=.cells #[.int .i64 c.kind,.int .i64 c.ac,.int .i64 c.mkt,.int .i64 c.n,.int .i64 c.oi,.int .i64 c.oa,.int .i64 c.sd,.int .i64 c.pr,.int .i64 c.qt,.int .i64 c.how,.bool c.red] 28
theorem below3 (w:World)(a b c:Obj):Below w.heap.size w (((w.alloc a).alloc b).alloc c):=(((Below.refl _ w).alloc (Nat.le_refl _) a).alloc (by simp) b).alloc (by simp;omega) c
theorem used_1 (ac mkt n oi oa sd pr qt how:Int)(red:Bool)(w:World):Calls Tryz.prog 71 #[cdV ⟨1,ac,mkt,n,oi,oa,sd,pr,qt,how,red⟩] w fun e w'=>e=.returned (cdV ⟨1,ac,0,n,0,0,0,0,0,0,false⟩)/\Below w.heap.size w w':=by
 go_enter Tryz.func71,Tryz.ntmps71;go_wp2;go_region;go_wp2;refine bodyPost_ret (v:=cdV ⟨1,ac,0,n,0,0,0,0,0,0,false⟩) (by simp [results,Tryz.results71,go_sem]) rfl ?_;exact⟨rfl,by first | exact(below3 w _ _ _).drew | exact below3 w _ _ _⟩
theorem used_2 (ac mkt n oi oa sd pr qt how:Int)(red:Bool)(w:World):Calls Tryz.prog 71 #[cdV ⟨2,ac,mkt,n,oi,oa,sd,pr,qt,how,red⟩] w fun e w'=>e=.returned (cdV ⟨2,ac,0,n,0,0,0,0,0,0,false⟩)/\Below w.heap.size w w':=by
 go_enter Tryz.func71,Tryz.ntmps71;go_wp2;go_region;go_wp2;refine bodyPost_ret (v:=cdV ⟨2,ac,0,n,0,0,0,0,0,0,false⟩) (by simp [results,Tryz.results71,go_sem]) rfl ?_;exact⟨rfl,by first | exact(below3 w _ _ _).drew | exact below3 w _ _ _⟩
theorem used_3 (ac mkt n oi oa sd pr qt how:Int)(red:Bool)(w:World):Calls Tryz.prog 71 #[cdV ⟨3,ac,mkt,n,oi,oa,sd,pr,qt,how,red⟩] w fun e w'=>e=.returned (cdV ⟨3,ac,mkt,0,0,0,sd,pr,qt,how,red⟩)/\Below w.heap.size w w':=by
 go_enter Tryz.func71,Tryz.ntmps71;go_wp2;go_region;go_wp2;refine bodyPost_ret (v:=cdV ⟨3,ac,mkt,0,0,0,sd,pr,qt,how,red⟩) (by simp [results,Tryz.results71,go_sem]) rfl ?_;exact⟨rfl,by first | exact(below3 w _ _ _).drew | exact below3 w _ _ _⟩
theorem used_4 (ac mkt n oi oa sd pr qt how:Int)(red:Bool)(w:World):Calls Tryz.prog 71 #[cdV ⟨4,ac,mkt,n,oi,oa,sd,pr,qt,how,red⟩] w fun e w'=>e=.returned (cdV ⟨4,ac,0,n,0,0,0,0,0,0,false⟩)/\Below w.heap.size w w':=by
 go_enter Tryz.func71,Tryz.ntmps71;go_wp2;go_region;go_wp2;refine bodyPost_ret (v:=cdV ⟨4,ac,0,n,0,0,0,0,0,0,false⟩) (by simp [results,Tryz.results71,go_sem]) rfl ?_;exact⟨rfl,by first | exact(below3 w _ _ _).drew | exact below3 w _ _ _⟩
theorem used_5 (ac mkt n oi oa sd pr qt how:Int)(red:Bool)(w:World):Calls Tryz.prog 71 #[cdV ⟨5,ac,mkt,n,oi,oa,sd,pr,qt,how,red⟩] w fun e w'=>e=.returned (cdV ⟨5,0,mkt,n,0,0,0,0,0,0,false⟩)/\Below w.heap.size w w':=by
 go_enter Tryz.func71,Tryz.ntmps71;go_wp2;go_region;go_wp2;refine bodyPost_ret (v:=cdV ⟨5,0,mkt,n,0,0,0,0,0,0,false⟩) (by simp [results,Tryz.results71,go_sem]) rfl ?_;exact⟨rfl,by first | exact(below3 w _ _ _).drew | exact below3 w _ _ _⟩
theorem used_6 (ac mkt n oi oa sd pr qt how:Int)(red:Bool)(w:World):Calls Tryz.prog 71 #[cdV ⟨6,ac,mkt,n,oi,oa,sd,pr,qt,how,red⟩] w fun e w'=>e=.returned (cdV ⟨6,0,mkt,n,0,0,0,0,0,0,false⟩)/\Below w.heap.size w w':=by
 go_enter Tryz.func71,Tryz.ntmps71;go_wp2;go_region;go_wp2;refine bodyPost_ret (v:=cdV ⟨6,0,mkt,n,0,0,0,0,0,0,false⟩) (by simp [results,Tryz.results71,go_sem]) rfl ?_;exact⟨rfl,by first | exact(below3 w _ _ _).drew | exact below3 w _ _ _⟩
theorem used_no (k ac mkt n oi oa sd pr qt how:Int)(red:Bool)(w:World)(h1:¬k=1)(h2:¬k=2)(h3:¬k=3)(h4:¬k=4)(h5:¬k=5)(h6:¬k=6):Calls Tryz.prog 71 #[cdV ⟨k,ac,mkt,n,oi,oa,sd,pr,qt,how,red⟩] w fun e w'=>e=.returned (cdV ⟨k,0,0,0,0,0,0,0,0,0,false⟩)/\Below w.heap.size w w':=by
 go_enter Tryz.func71,Tryz.ntmps71;go_wp2;refine bodyPost_ret (v:=cdV ⟨k,0,0,0,0,0,0,0,0,0,false⟩) (by simp [results,Tryz.results71,go_sem]) rfl ?_;exact⟨rfl,by first | exact(below3 w _ _ _).drew | exact below3 w _ _ _⟩
theorem used_any (c:Cd)(w:World):Calls Tryz.prog 71 #[cdV c] w fun e w'=>e=.returned (cdV (usedC c))/\Below w.heap.size w w':=by
 obtain⟨kind,ac,mkt,n,oi,oa,sd,pr,qt,how,red⟩:=c;by_cases h1:kind=1
 ·subst h1;exact used_1 ac mkt n oi oa sd pr qt how red w
 by_cases h2:kind=2
 ·subst h2;exact used_2 ac mkt n oi oa sd pr qt how red w
 by_cases h3:kind=3
 ·subst h3;exact used_3 ac mkt n oi oa sd pr qt how red w
 by_cases h4:kind=4
 ·subst h4;exact used_4 ac mkt n oi oa sd pr qt how red w
 by_cases h5:kind=5
 ·subst h5;exact used_5 ac mkt n oi oa sd pr qt how red w
 by_cases h6:kind=6
 ·subst h6;exact used_6 ac mkt n oi oa sd pr qt how red w
 have e:usedC ⟨kind,ac,mkt,n,oi,oa,sd,pr,qt,how,red⟩ = ⟨kind,0,0,0,0,0,0,0,0,0,false⟩:=by
  unfold usedC;dsimp only;rw [if_neg (by omega),if_neg (by omega),if_neg (by omega)]
 rw [e];exact used_no kind ac mkt n oi oa sd pr qt how red w h1 h2 h3 h4 h5 h6
end Go.Proofs.YthdjfhnhjiageaaGreatDoor.Tx
namespace Go.Proofs.YthdjfhnhjiageaaGreatDoor.Tx
open Go.RowKit Go.Lib
theorem eqO (a1 a2 a3 a4 a5 b1 b2 b3 b4 b5:Int)(w:World):Sem.run Tryz.prog (Op.equalIn 9999 26 (.agg #[.int .i64 a1,.int .i64 a2,.int .i64 a3,.int .i64 a4,.int .i64 a5]) (.agg #[.int .i64 b1,.int .i64 b2,.int .i64 b3,.int .i64 b4,.int .i64 b5])) w=.ok (a1 == b1&&a2 == b2&&a3 == b3&&a4 == b4&&a5 == b5) w:=by
 have u3:=Tryz.underlying3;have ag:=Tryz.isAgg3;have z3:=Tryz.sizeOf3;have hS2:Tryz.prog.underlying 26=some (.struct (Tryz.prog.fieldsOf 26)):=by kernel_rfl
 have hp2:Tryz.prog.stoodInHeld 26=false:=by kernel_rfl
 rw [show (9999:Nat)=9998+1 from rfl,run_equalIn_agg w 9998 26 _ _ hS2 hp2];simp only [Program.fieldsOf,Tryz.underlying26];clear hS2 hp2;cases h1:(a1 == b1)
 ·go_simp
 cases h2:(a2 == b2)
 ·go_simp
 cases h3:(a3 == b3)
 ·go_simp
 cases h4:(a4 == b4)
 ·go_simp
 cases h5:(a5 == b5)
 ·go_simp
 go_simp
theorem eqC (x y:Cd)(w:World):Sem.run Tryz.prog (Op.equalIn 10000 28 (cdV x) (cdV y)) w=.ok (sameC x y) w:=by
 have u3:=Tryz.underlying3;have ag:=Tryz.isAgg3;have z3:=Tryz.sizeOf3;have u4:=Tryz.underlying4;have ag4:=Tryz.isAgg4;have z4:=Tryz.sizeOf4;have ao:=Tryz.isAgg26;have zo:=Tryz.sizeOf26;have hS:Tryz.prog.underlying 28=some (.struct (Tryz.prog.fieldsOf 28)):=by kernel_rfl
 have hp:Tryz.prog.stoodInHeld 28=false:=by kernel_rfl
 obtain⟨a1,a2,a3,a4,a5,a6,a7,a8,a9,a10,a11⟩:=x;obtain⟨b1,b2,b3,b4,b5,b6,b7,b8,b9,b10,b11⟩:=y;have eo:=eqO a5 a6 a7 a8 a9 b5 b6 b7 b8 b9;rw [show (10000:Nat)=9999+1 from rfl,run_equalIn_agg w 9999 28 _ _ hS hp];have es:sameC ⟨a1,a2,a3,a4,a5,a6,a7,a8,a9,a10,a11⟩ ⟨b1,b2,b3,b4,b5,b6,b7,b8,b9,b10,b11⟩=(a1 == b1&&a2 == b2&&a3 == b3&&a4 == b4&&(a5 == b5&&a6 == b6&&a7 == b7&&a8 == b8&&a9 == b9)&&a10 == b10&&a11 == b11):=by
  unfold sameC;simp only [Bool.and_assoc]
 rw [es];simp only [Program.fieldsOf,Tryz.underlying28];clear hS hp es;generalize (a5 == b5&&a6 == b6&&a7 == b7&&a8 == b8&&a9 == b9)=q at *;cases h1:(a1 == b1)
 ·go_simp
 cases h2:(a2 == b2)
 ·go_simp
 cases h3:(a3 == b3)
 ·go_simp
 cases h4:(a4 == b4)
 ·go_simp
 cases q
 ·go_simp
 cases h5:(a10 == b10)
 ·go_simp
 cases h6:(a11 == b11)
 ·go_simp
 go_simp
open Go.Sort
theorem below_grew (w:World)(q:Nat)(os:Array Obj):Below w.heap.size w (grow (w.drewN q) os) :=
 ⟨rfl,rfl,rfl,by simp [grow],fun k hk=>by simp [grow,Array.getElem?_append,hk]⟩
theorem sB_cat (a b:Bs):sB a++sB b=sB (a++b):=by
 apply ByteArray.ext;simp
theorem sB_inj {a b:Bs}(h:sB a=sB b):a=b:=by
 have:=congrArg (fun x:ByteArray=>x.data.toList) h;simpa using this
theorem sB_size (a:Bs):(sB a).size=a.length:=by simp [ByteArray.size]
theorem onward {a b c:World}(h:Below a.heap.size a b)(k:Below b.heap.size b c):Below a.heap.size a c:=h.trans (k.mono h.size)
theorem var_below {P:Program}{w w':World}{name:String}{cs:Array Value}(h:w.var? P name=some cs)(hb:Below w.heap.size w w'):w'.var? P name=some cs:=by
 unfold World.var? at h ⊢
 cases hg:P.globalNamed name with
 |none=>rw [hg] at h;cases h
 |some g =>
  rw [hg] at h;simp only [Option.bind_some] at h ⊢
  cases ho:w.heap[g]? with
  |none=>rw [ho] at h;cases h
  |some o =>
   rw [hb.block g (Array.getElem?_eq_some_iff.1 ho).1];exact h
structure Env (w:World):Prop where
 tab : Lib.TabIs Tryz.prog w "internal/strconv.uint64pow10" .u64 Lib.pow10Tab
 syn : ∃ tp p, w.var? Tryz.prog "strconv.ErrSyntax" = some #[.iface tp p]
 rng : ∃ tp p, w.var? Tryz.prog "strconv.ErrRange" = some #[.iface tp p]
theorem Env.below {w w':World}(h:Env w)(hb:Below w.heap.size w w'):Env w':=by
 obtain⟨t1,p1,h1⟩:=h.syn;obtain⟨t2,p2,h2⟩:=h.rng;exact⟨var_below h.tab hb,⟨t1,p1,var_below h1 hb⟩,⟨t2,p2,var_below h2 hb⟩⟩
theorem itoa_any (n:Int)(h:i64 n)(w:World)(E:Env w):Calls Tryz.prog 34 #[.int .i64 n] w fun e w'=>e=.returned (sV (itoa n))/\Below w.heap.size w w':=by
 refine(Tryz.strconv_Itoa n h.1 h.2 w E.tab).mono ?_;rintro e w' ⟨rfl,k,os,rfl⟩;exact⟨rfl,below_grew w k os⟩
theorem atoi_any (s:Bs)(hs:s.length<=281474976710656)(w:World)(E:Env w):Calls Tryz.prog 137 #[sV s] w fun e w'=>(∃v,e=.returned (.tuple #[.int .i64 (numB s),v])/\(v=.nilIface\/∃t a,v=.iface t (.pointer a)))/\Below w.heap.size w w':=by
 have hz:(sB s).size<=281474976710656:=by simpa [ByteArray.size] using hs
 have hd:(sB s).data.toList=s:=by simp
 unfold numB
 cases h:atoiAll s with
 |ok v =>
  refine(Tryz.strconv_Atoi_ok (sB s) (by omega) v (by rw [hd];exact h) w).mono ?_;rintro e w' ⟨rfl,hw⟩;refine⟨⟨_,rfl,.inl rfl⟩,?_⟩;rcases hw with rfl | ⟨t,rfl⟩
  ·exact Below.refl _ _
  ·exact bytesWorld_below w _ t
 |«syntax» =>
  obtain⟨tp,p,hv⟩:=E.syn;refine(Tryz.strconv_Atoi_syntax_var (sB s) hz (by rw [hd];exact h) tp p w hv).mono ?_;rintro e w' ⟨N,rfl,-,-,hb⟩;exact⟨⟨_,rfl,.inr ⟨_,_,rfl⟩⟩,hb⟩
 |range =>
  obtain⟨tp,p,hv⟩:=E.rng;refine(Tryz.strconv_Atoi_range_var (sB s) hz (by rw [hd];exact h) tp p w hv).mono ?_;rintro e w' ⟨N,rfl,-,-,hb⟩;rw [hd];exact⟨⟨_,rfl,.inr ⟨_,_,rfl⟩⟩,hb⟩
theorem number_any (s:Bs)(hs:s.length<=281474976710656)(w:World)(E:Env w):Calls Tryz.prog 100 #[sV s] w fun e w'=>e=.returned (.int .i64 (numB s))/\Below w.heap.size w w':=by
 have AT:=hide (atoi_any s hs w E);generalize numB s=r at *;clear E hs;go_enter Tryz.func100,Tryz.ntmps100;go_wp2_with fail;refine AT.out.mono ?_;rintro e w1 ⟨⟨v,rfl,hv⟩,hb⟩;have B:=hide hb;clear hb AT;rcases hv with rfl | ⟨t,a,rfl⟩
 ·go_wp2;go_ret;exact⟨rfl,B.out⟩
 ·go_wp2;go_ret;exact⟨rfl,B.out⟩
theorem idx_is (x:Bs):∀(l:List Bs)(k:Nat),idxFromS (l.map sB) (sB x) k=idxFrom x k l
 |[],k=>rfl
 |y::l,k=>by
  rw [List.map_cons];unfold idxFromS idxFrom;by_cases h:y=x
  ·rw [if_pos h,if_pos (by rw [h])]
  ·rw [if_neg h,if_neg (fun e=>h (sB_inj e)),idx_is x l]
theorem find_any (a b c d e f g h x:Bs)(w:World):Calls Tryz.prog 99 #[words8 a b c d e f g h,sV x] w fun r w'=>r=.returned (.int .i64 (idxW [a,b,c,d,e,f,g,h] x))/\Below w.heap.size w w':=by
 obtain⟨W,hW⟩:∃W,W=w.alloc (.cells #[sV a,sV b,sV c,sV d,sV e,sV f,sV g,sV h] 100):=⟨_,rfl⟩
 have hc:∀j,j<([a,b,c,d,e,f,g,h].map sB).length->W.cell? ⟨w.heap.size,0+j,none⟩=some (.string (([a,b,c,d,e,f,g,h].map sB).getD j ByteArray.empty)):=fun j hj=>by
  rw [hW,Nat.zero_add];simp only [List.length_map,List.length_cons,List.length_nil] at hj;apply new_cell;match j,hj with
  |0,_=>rfl
  |1,_=>rfl
  |2,_=>rfl
  |3,_=>rfl
  |4,_=>rfl
  |5,_=>rfl
  |6,_=>rfl
  |7,_=>rfl
 have IX:=Tryz.slices_Index_string w.heap.size 0 8 8 ([a,b,c,d,e,f,g,h].map sB) (sB x) W (by simp) (by decide) hc;have e2:idxOfS (([a,b,c,d,e,f,g,h].map sB).take 8) (sB x)=idxW [a,b,c,d,e,f,g,h] x:=by
  rw [List.take_of_length_le (by simp)];exact idx_is x _ 0
 rw [e2] at IX;have IX':=hide IX;have BW:Hid (Below w.heap.size w W):=by rw [hW];exact below_alloc w _
 have HW:=hide hW;generalize idxW [a,b,c,d,e,f,g,h] x=r at *;clear hc IX e2 hW;go_enter Tryz.func99,Tryz.ntmps99;go_wp2_with (rw [<- HW.out]);refine IX'.out.mono ?_;rintro e w1 ⟨rfl,hw1⟩;rw [hw1];clear hw1;go_wp2;go_ret;exact⟨rfl,BW.out⟩
theorem phrase_any (word:Bs)(b:Nat)(x y:Int)(w:World)(hw:word.length<=100)(hx:i64 x)(hy:i64 y)(E:Env w)(c0:w.cell? ⟨b,0,none⟩=some (.int .i64 x))(c1:w.cell? ⟨b,1,none⟩=some (.int .i64 y)) :
  Calls Tryz.prog 49 #[sV word,.slice (some ⟨b,0,none⟩) 2 2] w fun e w'=>e=.returned (sV (word++32::(itoa x++32::itoa y)))/\Below w.heap.size w w':=by
 have l1:=itoa_len hx;have l2:=itoa_len hy;have I1:=hide (itoa_any x hx w E);have I2:=hide (fun w' (hb:Below w.heap.size w w')=>itoa_any y hy w' (E.below hb));clear E hx hy;go_enter Tryz.func49,Tryz.ntmps49;go_wp2_with fail;refine wp_loop_rounds 3 ?_;rw [rounds_succ];go_wp2_with fail;refine I1.out.mono ?_;rintro e w1 ⟨rfl,hb⟩;have c11:=(hb.cell (World.block_lt_of_cell? _ _ c1)).trans c1;have B1:=hide hb;have I21:=hide (I2.out w1 hb);clear hb I1 I2 c0 c1;go_wp2_with fail;rw [rounds_succ];go_wp2_with fail;refine I21.out.mono ?_;rintro e w2 ⟨rfl,hb⟩;have B2:=hide (B1.out.trans (hb.mono B1.out.size));clear hb I21 c11;go_wp2_with fail;rw [rounds_succ];go_wp2;go_ret;refine⟨?_,B2.out⟩;show Ending.returned (Value.string (sB word++(sB [32]++sB (itoa x))++(sB [32]++sB (itoa y))))=_;simp only [sB_cat,List.cons_append,List.nil_append,List.append_assoc]
end Go.Proofs.YthdjfhnhjiageaaGreatDoor.Tx
