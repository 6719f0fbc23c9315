import Derived.Test.YthdjfhnhjiageaaGreatDoorG25
set_option maxHeartbeats 8000000
set_option maxRecDepth 100000
namespace Go.Proofs.YthdjfhnhjiageaaGreatDoor.Vn
open Go.RowKit Num Fix Bk Ac Go.Sort Go.Maps
abbrev venV (va vm:Value) (s:Tn):Value:=.agg #[va,vm,.int .i64 s.ins,.int .i64 s.res,.int .i64 s.next,.int .i64 s.inn,.int .i64 s.out]
theorem idx4_0 (a b c d:Value)(w:World):Sem.run Tryz.prog (Instr.index 142 (.agg #[a,b,c,d]) (.int .i64 0)) w=.ok a w:=by
 have h1:=Tryz.underlying142;have h2:=Tryz.sizeOf3;have h3:=Tryz.isAgg3;simp [Instr.index,go_sem,h2,h3,run_underlying h1,asIntOf]
theorem idx4_1 (a b c d:Value)(w:World):Sem.run Tryz.prog (Instr.index 142 (.agg #[a,b,c,d]) (.int .i64 1)) w=.ok b w:=by
 have h1:=Tryz.underlying142;have h2:=Tryz.sizeOf3;have h3:=Tryz.isAgg3;simp [Instr.index,go_sem,h2,h3,run_underlying h1,asIntOf]
theorem idx4_2 (a b c d:Value)(w:World):Sem.run Tryz.prog (Instr.index 142 (.agg #[a,b,c,d]) (.int .i64 2)) w=.ok c w:=by
 have h1:=Tryz.underlying142;have h2:=Tryz.sizeOf3;have h3:=Tryz.isAgg3;simp [Instr.index,go_sem,h2,h3,run_underlying h1,asIntOf]
theorem idx4_3 (a b c d:Value)(w:World):Sem.run Tryz.prog (Instr.index 142 (.agg #[a,b,c,d]) (.int .i64 3)) w=.ok d w:=by
 have h1:=Tryz.underlying142;have h2:=Tryz.sizeOf3;have h3:=Tryz.isAgg3;simp [Instr.index,go_sem,h2,h3,run_underlying h1,asIntOf]
def limV (n m:Nat) (ins res nx inn out:Int):Int :=
 if m<1\/2<m\/8<n then 2
 else if betw 0 ins 1000000000000=true/\betw 0 res 1000000000000=true/\betw 0 inn 1000000000000=true/\betw 0 out 1000000000000=true/\betw 1 nx 100000=true then 0 else 3
theorem limV_2 {n m:Nat}{ins res nx inn out:Int}(h:m<1\/2<m\/8<n):limV n m ins res nx inn out=2:=by unfold limV;rw [if_pos h]
theorem limV_3 {n m:Nat}{ins res nx inn out:Int}(h:¬(m<1\/2<m\/8<n))(h2:¬((0<=ins/\ins<=1000000000000)/\(0<=res/\res<=1000000000000)/\(0<=inn/\inn<=1000000000000)/\(0<=out/\out<=1000000000000)/\1<=nx/\nx<=100000)):limV n m ins res nx inn out=3:=by
 unfold limV;rw [if_neg h,if_neg (by simpa only [betw,decide_eq_true_eq] using h2)]
theorem limV_0 {n m:Nat}{ins res nx inn out:Int}(h:¬(m<1\/2<m\/8<n))(h2:(0<=ins/\ins<=1000000000000)/\(0<=res/\res<=1000000000000)/\(0<=inn/\inn<=1000000000000)/\(0<=out/\out<=1000000000000)/\1<=nx/\nx<=100000):limV n m ins res nx inn out=0:=by
 unfold limV;rw [if_neg h,if_pos (by simpa only [betw,decide_eq_true_eq] using h2)]
theorem limits_any (p p':Option Addr)(n c m c':Nat)(ins res nx inn out:Int)(w:World) :
  Calls Tryz.prog 58 #[.agg #[.slice p n c,.slice p' m c',.int .i64 ins,.int .i64 res,.int .i64 nx,.int .i64 inn,.int .i64 out]] w fun e w'=>e=.returned (.int .i64 (limV n m ins res nx inn out))/\Below w.heap.size w w':=by
 obtain⟨LV,hLV⟩:∃LV,LV=limV n m ins res nx inn out:=⟨_,rfl⟩;rw [<- hLV];have HLV:=hide hLV;clear hLV;have i0:=idx4_0 (.int .i64 ins) (.int .i64 res) (.int .i64 inn) (.int .i64 out);have i1:=idx4_1 (.int .i64 ins) (.int .i64 res) (.int .i64 inn) (.int .i64 out);have i2:=idx4_2 (.int .i64 ins) (.int .i64 res) (.int .i64 inn) (.int .i64 out);have i3:=idx4_3 (.int .i64 ins) (.int .i64 res) (.int .i64 inn) (.int .i64 out);go_enter Tryz.func58,Tryz.ntmps58;by_cases h1:m<1
 ·have h1z:(m:Int)<1:=by omega
  have EE:Hid (LV=2):=by
   show LV=2;rw [HLV.out];exact limV_2 (by omega)
  go_wp2;go_ret;exact⟨by rw [EE.out];rfl,Ac.below_alloc w _⟩
 have h1z:¬(m:Int)<1:=by omega
 by_cases h2:2<m
 ·have h2z:(2:Int)<m:=by omega
  have EE:Hid (LV=2):=by
   show LV=2;rw [HLV.out];exact limV_2 (by omega)
  go_wp2;go_ret;exact⟨by rw [EE.out];rfl,Ac.below_alloc w _⟩
 have h2z:¬(2:Int)<m:=by omega
 by_cases h3:8<n
 ·have h3z:(8:Int)<n:=by omega
  have EE:Hid (LV=2):=by
   show LV=2;rw [HLV.out];exact limV_2 (by omega)
  go_wp2;go_ret;exact⟨by rw [EE.out];rfl,Ac.below_alloc w _⟩
 have h3z:¬(8:Int)<n:=by omega
 have HN:Hid (¬(m<1\/2<m\/8<n)):=by show ¬(m<1\/2<m\/8<n);omega
 go_wp2;refine wp_loop_rounds 5 ?_;rw [rounds_succ];by_cases insl:ins<0
 ·have EE:Hid (LV=3):=by
   show LV=3;rw [HLV.out];exact limV_3 HN.out (by omega)
  go_wp2;go_ret;exact⟨by rw [EE.out];rfl,Ac.below_alloc w _⟩
 by_cases insh:1000000000000<ins
 ·have EE:Hid (LV=3):=by
   show LV=3;rw [HLV.out];exact limV_3 HN.out (by omega)
  go_wp2;go_ret;exact⟨by rw [EE.out];rfl,Ac.below_alloc w _⟩
 go_wp2_with fail;rw [rounds_succ];by_cases resl:res<0
 ·have EE:Hid (LV=3):=by
   show LV=3;rw [HLV.out];exact limV_3 HN.out (by omega)
  go_wp2;go_ret;exact⟨by rw [EE.out];rfl,Ac.below_alloc w _⟩
 by_cases resh:1000000000000<res
 ·have EE:Hid (LV=3):=by
   show LV=3;rw [HLV.out];exact limV_3 HN.out (by omega)
  go_wp2;go_ret;exact⟨by rw [EE.out];rfl,Ac.below_alloc w _⟩
 go_wp2_with fail;rw [rounds_succ];by_cases innl:inn<0
 ·have EE:Hid (LV=3):=by
   show LV=3;rw [HLV.out];exact limV_3 HN.out (by omega)
  go_wp2;go_ret;exact⟨by rw [EE.out];rfl,Ac.below_alloc w _⟩
 by_cases innh:1000000000000<inn
 ·have EE:Hid (LV=3):=by
   show LV=3;rw [HLV.out];exact limV_3 HN.out (by omega)
  go_wp2;go_ret;exact⟨by rw [EE.out];rfl,Ac.below_alloc w _⟩
 go_wp2_with fail;rw [rounds_succ];by_cases outl:out<0
 ·have EE:Hid (LV=3):=by
   show LV=3;rw [HLV.out];exact limV_3 HN.out (by omega)
  go_wp2;go_ret;exact⟨by rw [EE.out];rfl,Ac.below_alloc w _⟩
 by_cases outh:1000000000000<out
 ·have EE:Hid (LV=3):=by
   show LV=3;rw [HLV.out];exact limV_3 HN.out (by omega)
  go_wp2;go_ret;exact⟨by rw [EE.out];rfl,Ac.below_alloc w _⟩
 go_wp2_with fail;rw [rounds_succ];by_cases nl:nx<1
 ·have EE:Hid (LV=3):=by
   show LV=3;rw [HLV.out];exact limV_3 HN.out (by omega)
  go_wp2;go_ret;exact⟨by rw [EE.out];rfl,Ac.below_alloc w _⟩
 by_cases nh:100000<nx
 ·have EE:Hid (LV=3):=by
   show LV=3;rw [HLV.out];exact limV_3 HN.out (by omega)
  go_wp2;go_ret;exact⟨by rw [EE.out];rfl,Ac.below_alloc w _⟩
 have EE:Hid (LV=0):=by
  show LV=0;rw [HLV.out];exact limV_0 HN.out (by omega)
 go_wp2;go_ret;exact⟨by rw [EE.out];rfl,Ac.below_alloc w _⟩
open AcP FuP Rm Mix RkP
def prv (A:List Am):Nat->Option Int
 |0=>none
 |k+1=>(A[k]?).map Am.id
theorem accs_step {A:List Am}{m:Int}{k:Nat}(hk:k<A.length):accsE m (prv A k) ((A.map Am.acc).drop k) =
  if accErr (A[k]'hk).id (A[k]'hk).bal (A[k]'hk).pos m≠0 then accErr (A[k]'hk).id (A[k]'hk).bal (A[k]'hk).pos m
  else if (prv A k).elim false (fun p=>decide ((A[k]'hk).id<=p))=true then 6 else accsE m (prv A (k+1)) ((A.map Am.acc).drop (k+1)):=by
 have hk':k<(A.map Am.acc).length:=by simpa using hk
 rw [List.drop_eq_getElem_cons hk',accsE];simp only [List.getElem_map,Am.acc,prv];rw [List.getElem?_eq_getElem hk];rfl
theorem accounts_any (p p':Option Addr)(n c m c':Nat)(A:List Am)(ins res nx inn out:Int)(w:World)(hl:A.length=n)(hn:n<=140737488351232)(h:ARow w p A)(hE:∀a,a∈A->AOk w a) :
  Calls Tryz.prog 59 #[.agg #[.slice p n c,.slice p' m c',.int .i64 ins,.int .i64 res,.int .i64 nx,.int .i64 inn,.int .i64 out]] w fun e w'=>e=.returned (.int .i64 (accsE m none (A.map Am.acc)))/\Below w.heap.size w w':=by
 have mixed:Tryz.prog.follows .mixedOrders=true:=by kernel_rfl
 obtain⟨R,hR⟩:∃R,R=accsE m none (A.map Am.acc):=⟨_,rfl⟩;rw [<- hR];have R0:Hid (accsE m (prv A 0) ((A.map Am.acc).drop 0)=R):=by rw [List.drop_zero];exact hR.symm
 obtain⟨W,hW⟩:∃W,W=w.alloc (.cells #[.slice p n c,.slice p' m c',.int .i64 ins,.int .i64 res,.int .i64 nx,.int .i64 inn,.int .i64 out] 51):=⟨_,rfl⟩;have b0:Below w.heap.size w W:=by rw [hW];exact Ac.below_alloc w _
 have eB:W.heap[w.heap.size]? = some (.cells #[.slice p n c,.slice p' m c',.int .i64 ins,.int .i64 res,.int .i64 nx,.int .i64 inn,.int .i64 out] 51 (0,0)):=by rw [hW];exact heap_alloc_new w _
 have a0:=(blk_cell eB 0).1;have a1:=(blk_cell eB 1).1;simp only [List.getElem?_toArray,List.getElem?_cons_zero,List.getElem?_cons_succ] at a0 a1;have HW:=hide hW;have B0:=hide b0;have EB:=hide eB;have AR:=hide (arow_below h b0);have AE:Hid (∀a,a∈A->AOk W a):=fun a ha=>(hE a ha).below b0;have HL:=hide hl;clear hR hW b0 eB h hE hl;go_enter Tryz.func59,Tryz.ntmps59;go_wp2_with (rw [<- HW.out]);clear HW a0 a1
 go_loopw [9] (fun i wr=>∃(k:Nat),k<=n/\i=.int .i64 k/\Hid (Below W.heap.size W wr)/\Hid (accsE m (prv A k) ((A.map Am.acc).drop k)=R)) (fun i _=>n - (intOf i).toNat)
 case atStart=>exact⟨0,Nat.zero_le _,rfl,Below.refl _ _,R0⟩
 case round =>
  clear R0;obtain⟨k,hk,rfl,BW,RR⟩:=hrel;by_cases hlt:k<n
  ·have hltz:(k:Int)<(n:Int):=by omega
   have hkA:k<A.length:=by rw [HL.out];exact hlt
   obtain⟨b,off,rfl,hc⟩:∃b off,p=some ⟨b,off,none⟩/\∀j u,(A.flatMap encA)[j]? = some u->wr.cell? ⟨b,off+j,none⟩=some u:=by
    rcases arow_below AR.out BW.out with e | e
    ·rw [e] at hkA;simp at hkA
    ·exact e
   obtain⟨k0,k1,k2⟩:=arow_cells hc hkA;have hok:=(AE.out _ (List.getElem_mem hkA)).below BW.out;have hstep:=RR.out.symm.trans (accs_step hkA);obtain⟨pv,hpv⟩:∃pv,pv=prv A k:=⟨_,rfl⟩;rw [<- hpv] at hstep;have HPV:=hide hpv;generalize hAA:(A[k]'hkA)=a at *;obtain⟨aid,bal,ap,an,ac,pos⟩:=a;dsimp only at k0 k1 k2 hstep;obtain⟨X1,hX1⟩:∃X1,X1=wr.alloc (accO aid bal ap an ac):=⟨_,rfl⟩;have bx1:Below wr.heap.size wr X1:=by rw [hX1];exact Ac.below_alloc wr _
   have e9:X1.heap[wr.heap.size]? = some (.cells #[.int .i64 aid,.int .i64 bal,.slice ap an ac] 89 (0,0)):=by rw [hX1];exact heap_alloc_new wr _
   have CK:=hide (check_any aid bal ap an ac pos m X1 hok.len (by have:=hok.few;dsimp only at this;omega) (row_below hok.row bx1));have v0:=(blk_cell e9 0).1;have v1:=(blk_cell e9 1).1;have v2:=(blk_cell e9 2).1;have BX1:=BW.out.trans (bx1.mono BW.out.size);have r1:=(blk_cell (blk_below EB.out BX1) 1).1;simp only [List.getElem?_toArray,List.getElem?_cons_zero,List.getElem?_cons_succ] at v0 v1 v2 r1;obtain⟨er,her⟩:∃er,er=accErr aid bal pos m:=⟨_,rfl⟩;rw [<- her] at CK hstep;have HX1:=hide hX1;have HBX1:=hide BX1;have E9:=hide e9;have HST:=hide hstep;have HC:Hid (∀j u,(A.flatMap encA)[j]? = some u->X1.cell? ⟨b,off+j,none⟩=some u):=fun j u hu=>(bx1.cell (World.block_lt_of_cell? _ _ (hc j u hu))).trans (hc j u hu);have HAA:=hide hAA;clear hX1 BX1 e9 hstep hc hok her bx1 hpv hAA RR;go_wp2_with (rw [<- HX1.out]);refine CK.out.mono ?_;rintro e X2 ⟨rfl,hX2⟩;have b2:Below X1.heap.size X1 X2:=by rw [hX2];exact Ac.below_alloc X1 _
   have B2:=hide (HBX1.out.trans (b2.mono HBX1.out.size));clear k0 k1 k2 v0 v1 v2 r1 HX1 CK hX2;by_cases her:er=0
   ·have w0:=(blk_cell (blk_below EB.out B2.out) 0).1;have w9:=(blk_cell (blk_below E9.out b2) 0).1;simp only [List.getElem?_toArray,List.getElem?_cons_zero] at w0 w9;have hst:R=if pv.elim false (fun p=>decide (aid<=p))=true then 6 else accsE m (prv A (k+1)) ((A.map Am.acc).drop (k+1)):=by
     have:=HST.out;rw [if_neg (fun h=>h her)] at this;exact this
    have HS2:=hide hst;clear hst HST;subst her
    cases k with
    |zero =>
     have hz:pv=none:=HPV.out;have HS3:Hid (R=accsE m (prv A (0+1)) ((A.map Am.acc).drop (0+1))):=by
      have:=HS2.out;rw [hz] at this;exact this
     clear hz HS2;go_wp2_with fail;go_quiet (fail);go_wp2;go_roundw
     case rel=>exact⟨1,by omega,by go_num,B2.out.trans ⟨rfl,rfl,rfl,Nat.le_refl _,fun _ _=>rfl⟩,HS3.out.symm⟩
     case measure=>simp [intOf];omega
    |succ j =>
     have hjA:j<A.length:=by omega
     obtain⟨j0,-,-⟩:=arow_cells HC.out hjA;have j0':=(b2.cell (World.block_lt_of_cell? _ _ j0)).trans j0;obtain⟨pid,hpid⟩:∃pid,pid=(A[j]'hjA).id:=⟨_,rfl⟩;rw [<- hpid] at j0';have hz:pv=some pid:=by
      rw [HPV.out,hpid];show (A[j]?).map Am.id=_;rw [List.getElem?_eq_getElem hjA];rfl
     have HS3:Hid (R=if aid<=pid then 6 else accsE m (prv A (j+1+1)) ((A.map Am.acc).drop (j+1+1))):=by
      have:=HS2.out;rw [hz] at this;show R=_;simpa using this
     have hjn:(j:Int)<(n:Int):=by omega
     clear hz hpid HS2 j0;by_cases hle:aid<=pid
     ·have HR6:Hid (R=6):=by
       have:=HS3.out;rw [if_pos hle] at this;exact this
      clear HS3;go_wp2_with fail;go_quiet (fail);go_wp2;go_ret;exact⟨by rw [HR6.out];rfl,(B0.out.trans (B2.out.mono B0.out.size)).trans ⟨rfl,rfl,rfl,Nat.le_refl _,fun _ _=>rfl⟩⟩
     ·go_wp2_with fail;go_quiet (fail);go_wp2;go_roundw
      case rel =>
       refine⟨j+1+1,by omega,by go_num,B2.out.trans ⟨rfl,rfl,rfl,Nat.le_refl _,fun _ _=>rfl⟩,?_⟩;have:=HS3.out;rw [if_neg (by omega)] at this;exact this.symm
      case measure=>simp [intOf];omega
   ·have HRE:Hid (R=er):=by
     have:=HST.out;rw [if_pos her] at this;exact this
    clear HST;go_wp2;go_ret;exact⟨by rw [HRE.out];rfl,B0.out.trans (B2.out.mono B0.out.size)⟩
  ·have hkn:k=n:=by omega
   have hR0:Hid (R=0):=by
    have:=RR.out;rw [List.drop_eq_nil_of_le (by rw [List.length_map,HL.out];omega)] at this;have e:accsE m (prv A k) []=0:=by unfold accsE;rfl
    rw [e] at this;exact this.symm
   clear hkn RR;go_wp2;go_ret;exact⟨by rw [hR0.out];rfl,B0.out.trans (BW.out.mono B0.out.size)⟩
open AcP FuP Rm Mix RkP
theorem eq2 (a b c d:Int)(w:World):Sem.run Tryz.prog (Op.equalIn 10000 144 (.agg #[.int .i64 a,.int .i64 b]) (.agg #[.int .i64 c,.int .i64 d])) w=.ok (a == c&&b == d) w:=by
 obtain⟨i,hi⟩:∃i,Tryz.prog.info? 3=some i:=Option.isSome_iff_exists.1 (by kernel_rfl);have hc:Tryz.prog.cellsOf 3=1:=by kernel_rfl
 have hp:Tryz.prog.plainKey 3=true:=by kernel_rfl
 have hu:Tryz.prog.underlying 3=some (.int .i64):=by kernel_rfl
 rw [show (10000:Nat)=9999+1 from rfl,run_equalIn_array w 9999 _ _ (by exact Tryz.underlying144) hi,hc];have p0:∀(x y:Value) (w:World),(part 3 #[x,y] 0).run Tryz.prog w=.ok x w:=fun x y w=>run_part_plain w hp rfl;have p1:∀(x y:Value) (w:World),(part 3 #[x,y] 1).run Tryz.prog w=.ok y w:=fun x y w=>run_part_plain w hp rfl;have q:∀(x y:Int) (w:World),(Op.equalIn 9999 3 (.int .i64 x) (.int .i64 y)).run Tryz.prog w=.ok (x == y) w:=fun x y w=>run_equalIn_int w 9998 _ .i64 .i64 x y hu;show Sem.run _ (Op.eqItems 9999 3 1 _ _ [0,1]) w=_;simp only [Op.eqItems,Sem.run_bind,Nat.zero_mul,Nat.one_mul,p0,q,Result.andThen_ok];cases hac:(a == c)
 ·simp
 ·simp only [Bool.not_true,Bool.false_eq_true,if_false,Sem.run_bind,p1,q,Result.andThen_ok,Bool.true_and]
  cases hbd:(b == d)<;>simp
def part (f:Acc->Int) (A:List Am) (k:Nat):Int:=(((A.map Am.acc).take k).map f).sum
theorem part_next {f:Acc->Int}{A:List Am}{k:Nat}(hk:k<A.length):part f A (k+1)=part f A k+f (A[k]'hk).acc:=by
 unfold part;rw [List.take_succ_eq_append_getElem (by simpa using hk)];simp
theorem part_all (f:Acc->Int)(A:List Am){k:Nat}(hk:A.length<=k):part f A k=((A.map Am.acc).map f).sum:=by
 unfold part;rw [List.take_of_length_le (by simpa using hk)]
def sumsV (ins res inn out:Int) (L:List Acc):Int:=if ins+res+sumBal L=inn - out/\sumPos 0 L=0/\sumPos 1 L=0 then 0 else 4
theorem sums_any (p p':Option Addr)(n c m c':Nat)(A:List Am)(ins res nx inn out:Int)(w:World)(hl:A.length=n)(hn:n<=8)(h:ARow w p A)(hE:∀a,a∈A->AOk w a)(hA:∀a,a∈A->accErr a.id a.bal a.pos m=0)
  (h1:0<=ins/\ins<=1000000000000) (h2:0<=res/\res<=1000000000000) (h3:0<=inn/\inn<=1000000000000) (h4:0<=out/\out<=1000000000000) :
  Calls Tryz.prog 60 #[.agg #[.slice p n c,.slice p' m c',.int .i64 ins,.int .i64 res,.int .i64 nx,.int .i64 inn,.int .i64 out]] w fun e w'=>e=.returned (.int .i64 (sumsV ins res inn out (A.map Am.acc)))/\Below w.heap.size w w':=by
 have mixed:Tryz.prog.follows .mixedOrders=true:=by kernel_rfl
 obtain⟨R,hR⟩:∃R,R=sumsV ins res inn out (A.map Am.acc):=⟨_,rfl⟩;rw [<- hR];have HR:=hide hR;obtain⟨W,hW⟩:∃W,W=(w.alloc (.cells #[.slice p n c,.slice p' m c',.int .i64 ins,.int .i64 res,.int .i64 nx,.int .i64 inn,.int .i64 out] 51)).alloc (.cells #[.int .i64 0,.int .i64 0] 144):=⟨_,rfl⟩;have b0:Below w.heap.size w W:=by rw [hW];exact Ac.below_alloc2 w _ _
 have eB:W.heap[w.heap.size]? = some (.cells #[.slice p n c,.slice p' m c',.int .i64 ins,.int .i64 res,.int .i64 nx,.int .i64 inn,.int .i64 out] 51 (0,0)):=by rw [hW];exact blk_below (heap_alloc_new w _) (Ac.below_alloc _ _)
 have eP:W.heap[w.heap.size+1]? = some (.cells #[.int .i64 0,.int .i64 0] 144 (0,0)):=by
  rw [hW,show w.heap.size+1=(w.alloc (.cells #[.slice p n c,.slice p' m c',.int .i64 ins,.int .i64 res,.int .i64 nx,.int .i64 inn,.int .i64 out] 51)).heap.size from by simp];exact heap_alloc_new _ _
 have a0:=(blk_cell eB 0).1;simp only [List.getElem?_toArray,List.getElem?_cons_zero] at a0;have HW:=hide hW;have B0:=hide b0;have EB:=hide eB;have EP:=hide eP;have AR:=hide h;have AE:=hide hE;have HA:=hide hA;have HL:=hide hl;have GC:Hid (w.heap.size<=w.heap.size+1/\¬w.heap.size=w.heap.size+1):=by show _/\_;omega
 clear hR hW b0 eB eP h hE hA hl;go_enter Tryz.func60,Tryz.ntmps60;go_wp2_with (rw [<- HW.out]);clear HW a0;generalize w.heap.size+1=c1 at *
 go_loopw [3,17] (fun mo i wr=>∃(k:Nat) (q0 q1 q2:Int),k<=n/\mo=.int .i64 (ins+res+q0)/\i=.int .i64 k/\Hid (Below w.heap.size w wr)/\Hid (wr.heap[w.heap.size]? = some (.cells #[.slice p n c,.slice p' m c',.int .i64 ins,.int .i64 res,.int .i64 nx,.int .i64 inn,.int .i64 out] 51 (0,0)))/\Hid (wr.heap[c1]? = some (.cells #[.int .i64 q1,.int .i64 q2] 144 (0,0)))/\Hid (q0=part (fun a=>a.2.1) A k/\q1=part (fun a=>posAt a 0) A k/\q2=part (fun a=>posAt a 1) A k)/\(-(k*1000000000000:Int)<=q0/\q0<=k*1000000000000)/\(-(k*1000000:Int)<=q1/\q1<=k*1000000)/\(-(k*1000000:Int)<=q2/\q2<=k*1000000)) (fun _ i _=>n - (intOf i).toNat)
 case atStart=>exact⟨0,0,0,0,Nat.zero_le _,by simp,rfl,B0.out,EB.out,EP.out,⟨rfl,rfl,rfl⟩,by omega,by omega,by omega⟩
 case round =>
  clear EB EP B0;obtain⟨k,q0,q1,q2,hk,rfl,rfl,BW,EB,EP,QQ,d0,d1,d2⟩:=hrel;by_cases hlt:k<n
  ·have hltz:(k:Int)<(n:Int):=by omega
   have hkA:k<A.length:=by rw [HL.out];exact hlt
   obtain⟨b,off,rfl,hc⟩:∃b off,p=some ⟨b,off,none⟩/\∀j u,(A.flatMap encA)[j]? = some u->wr.cell? ⟨b,off+j,none⟩=some u:=by
    rcases arow_below AR.out BW.out with e | e
    ·rw [e] at hkA;simp at hkA
    ·exact e
   obtain⟨k0,k1,k2⟩:=arow_cells hc hkA;have hok:=AE.out _ (List.getElem_mem hkA);have hac:=accErr_ok (HA.out _ (List.getElem_mem hkA));have hq0:=part_next (f:=fun a=>a.2.1) hkA;have hq1:=part_next (f:=fun a=>posAt a 0) hkA;have hq2:=part_next (f:=fun a=>posAt a 1) hkA;generalize (A[k]'hkA)=a at *;obtain⟨aid,bal,ap,an,ac,pos⟩:=a;obtain⟨-,hm2,hpl,hmo,hps⟩:=hac;have hlen:=hok.len;have hrow:=hok.row;dsimp only [Am.acc] at k0 k1 k2 hq0 hq1 hq2 hpl hmo hps hlen hrow;obtain⟨g0,g1⟩:=money_true hmo;obtain⟨m1,m2⟩:=betw_true hm2;obtain⟨Q0,Q1,Q2⟩:=QQ.out;have hp1:∀z,z∈pos->-1000<=z/\z<=1000:=fun z hz=>by
    have:=List.all_eq_true.1 hps z hz;exact betw_true this
   obtain⟨pb,po,rfl,pcs⟩:∃pb po,ap=some ⟨pb,po,none⟩/\∀i,i<pos.length->w.cell? ⟨pb,po+i,none⟩=some (.int .i64 (pos.getD i 0)):=by
    rcases hrow with e | e
    ·rw [e] at hpl;simp at hpl;omega
    ·exact e
   obtain⟨X1,hX1⟩:∃X1,X1=wr.alloc (accO aid bal (some ⟨pb,po,none⟩) an ac):=⟨_,rfl⟩;have bx1:Below wr.heap.size wr X1:=by rw [hX1];exact Ac.below_alloc wr _
   have e9:X1.heap[wr.heap.size]? = some (.cells #[.int .i64 aid,.int .i64 bal,.slice (some ⟨pb,po,none⟩) an ac] 89 (0,0)):=by rw [hX1];exact heap_alloc_new wr _
   have v1:=(blk_cell e9 1).1;have v2:=(blk_cell e9 2).1;have EP1:=blk_below EP.out bx1;have EB1:=hide (blk_below EB.out bx1);have B1:=hide (BW.out.trans (bx1.mono BW.out.size));have y0:=(blk_cell EP1 0).1;have y1:=(blk_cell EP1 1).1;have z0:=(blk_cell EP1 0).2;have z1:=(blk_cell EP1 1).2;simp only [List.getElem?_toArray,List.getElem?_cons_zero,List.getElem?_cons_succ] at v1 v2 y0 y1;have HX1:=hide hX1;have HEP1:=hide EP1;have s1:-30000000000000<=ins+res+q0+bal:=by omega
   have s2:ins+res+q0+bal<=30000000000000:=by omega
   have t1:-9000000<=q1:=by omega
   have t2:q1<=9000000:=by omega
   have t3:-9000000<=q2:=by omega
   have t4:q2<=9000000:=by omega
   match pos,hpl,hlen,pcs,hp1,hq1,hq2,hq0 with
   |[x],hpl,hlen,pcs,hp1,hq1,hq2,hq0 =>
    have c0:=pcs 0 (by simp);have hpb:=World.block_lt_of_cell? _ _ c0;have c0':=(B1.out.cell hpb).trans c0;have hne:¬pb=c1:=fun e=>by have:=GC.out.1;have e':pb<w.heap.size:=hpb;omega
    obtain⟨x1,x2⟩:=hp1 x (by simp);simp only [List.getD_cons_zero,Nat.add_zero] at c0';have han:an=1:=by simpa using hlen.symm
    subst han;have HQ:Hid (q0+bal=part (fun a=>a.2.1) A (k+1)/\q1+x=part (fun a=>posAt a 0) A (k+1)/\q2=part (fun a=>posAt a 1) A (k+1)):=⟨by rw [hq0,Q0],by rw [hq1,Q1];rfl,by rw [hq2,Q2];simp [posAt]⟩
    have FIN:Hid (Below w.heap.size w (X1.setCell ⟨c1,0,none⟩ (.int .i64 (q1+x)))/\(X1.setCell ⟨c1,0,none⟩ (.int .i64 (q1+x))).heap[w.heap.size]? = some (.cells #[.slice (some ⟨b,off,none⟩) n c,.slice p' m c',.int .i64 ins,.int .i64 res,.int .i64 nx,.int .i64 inn,.int .i64 out] 51 (0,0))/\(X1.setCell ⟨c1,0,none⟩ (.int .i64 (q1+x))).heap[c1]? = some (.cells #[.int .i64 (q1+x),.int .i64 q2] 144 (0,0))) :=
     ⟨B1.out.setCell (p:=⟨c1,0,none⟩) GC.out.1 _,blk_but EB1.out (but_one X1 ⟨c1,0,none⟩ _) GC.out.2,heap_set EP1 0 _⟩
    clear hok hc hrow hq0 hq1 hq2 Q0 Q1 Q2 hps hm2 hmo pcs hp1 hpl hlen c0 e9 EP1 hX1 bx1 hpb hne;go_wp2_with (rw [<- HX1.out]);refine wp_loop_rounds 2 ?_;rw [rounds_succ];go_wp2_with fail;rw [rounds_succ];go_wp2;go_roundw
    case rel=>exact⟨k+1,q0+bal,q1+x,q2,hlt,by rw [Int.add_assoc (ins+res)],by go_num,FIN.out.1,FIN.out.2.1,FIN.out.2.2,HQ.out,by push_cast;omega,by push_cast;omega,by push_cast;omega⟩
    case measure=>simp [intOf];omega
   |[x,y],hpl,hlen,pcs,hp1,hq1,hq2,hq0 =>
    have c0:=pcs 0 (by simp);have hpb:=World.block_lt_of_cell? _ _ c0;have c0':=(B1.out.cell hpb).trans c0;have hne:¬pb=c1:=fun e=>by have:=GC.out.1;have e':pb<w.heap.size:=hpb;omega
    have c1':=(B1.out.cell (World.block_lt_of_cell? _ _ (pcs 1 (by simp)))).trans (pcs 1 (by simp));obtain⟨x1,x2⟩:=hp1 x (by simp);obtain⟨x3,x4⟩:=hp1 y (by simp);simp only [List.getD_cons_zero,List.getD_cons_succ,Nat.add_zero] at c0' c1';have han:an=2:=by simpa using hlen.symm
    subst han;have HQ:Hid (q0+bal=part (fun a=>a.2.1) A (k+1)/\q1+x=part (fun a=>posAt a 0) A (k+1)/\q2+y=part (fun a=>posAt a 1) A (k+1)):=⟨by rw [hq0,Q0],by rw [hq1,Q1];rfl,by rw [hq2,Q2];rfl⟩;have bt:=but_one X1 ⟨c1,0,none⟩ (.int .i64 (q1+x));have c2':=bt.cell (p:=⟨pb,po+1,none⟩) hne c1';have EP2:=heap_set EP1 0 (.int .i64 (q1+x));have y2:=(blk_cell EP2 1).1;have z2:=(blk_cell EP2 1).2
    have FIN:Hid (Below w.heap.size w ((X1.setCell ⟨c1,0,none⟩ (.int .i64 (q1+x))).setCell ⟨c1,1,none⟩ (.int .i64 (q2+y)))/\((X1.setCell ⟨c1,0,none⟩ (.int .i64 (q1+x))).setCell ⟨c1,1,none⟩ (.int .i64 (q2+y))).heap[w.heap.size]? = some (.cells #[.slice (some ⟨b,off,none⟩) n c,.slice p' m c',.int .i64 ins,.int .i64 res,.int .i64 nx,.int .i64 inn,.int .i64 out] 51 (0,0))/\((X1.setCell ⟨c1,0,none⟩ (.int .i64 (q1+x))).setCell ⟨c1,1,none⟩ (.int .i64 (q2+y))).heap[c1]? = some (.cells #[.int .i64 (q1+x),.int .i64 (q2+y)] 144 (0,0))) :=
     ⟨(B1.out.setCell (p:=⟨c1,0,none⟩) GC.out.1 _).setCell (p:=⟨c1,1,none⟩) GC.out.1 _,blk_but EB1.out (bt.setCell (p:=⟨c1,1,none⟩) (.inl rfl) _) GC.out.2,heap_set EP2 1 _⟩
    obtain⟨X2,hX2⟩:∃X2,X2=X1.setCell ⟨c1,0,none⟩ (.int .i64 (q1+x)):=⟨_,rfl⟩;rw [<- hX2] at c2' y2 z2 FIN;simp only [List.getElem?_toArray,List.setIfInBounds_toArray,List.set_cons_zero,List.getElem?_cons_zero,List.getElem?_cons_succ] at y2;have HX2:=hide hX2;clear hok hc hrow hq0 hq1 hq2 Q0 Q1 Q2 hps hm2 hmo pcs hp1 hpl hlen c0 e9 EP1 EP2 hX1 bx1 hpb hne hX2 bt;go_wp2_with (rw [<- HX1.out]);refine wp_loop_rounds 3 ?_;rw [rounds_succ];go_wp2_with (rw [<- HX2.out]);rw [rounds_succ];go_wp2_with fail;rw [rounds_succ];go_wp2;go_roundw
    case rel=>exact⟨k+1,q0+bal,q1+x,q2+y,hlt,by rw [Int.add_assoc (ins+res)],by go_num,FIN.out.1,FIN.out.2.1,FIN.out.2.2,HQ.out,by push_cast;omega,by push_cast;omega,by push_cast;omega⟩
    case measure=>simp [intOf];omega
   |[],hpl,hlen,pcs,hp1,hq1,hq2,hq0=>simp at hpl;omega
   |_::_::_::_,hpl,hlen,pcs,hp1,hq1,hq2,hq0=>simp at hpl;omega
  ·have hkn:k=n:=by omega
   have hQ:q0=sumBal (A.map Am.acc)/\q1=sumPos 0 (A.map Am.acc)/\q2=sumPos 1 (A.map Am.acc):=by
    obtain⟨e0,e1,e2⟩:=QQ.out;rw [part_all _ A (by rw [HL.out];omega)] at e0 e1 e2;exact⟨e0,e1,e2⟩
   have HRR:Hid (R=if ins+res+q0=inn - out/\q1=0/\q2=0 then 0 else 4):=by
    show R=_;rw [HR.out,hQ.1,hQ.2.1,hQ.2.2];rfl
   have a5:=(blk_cell EB.out 5).1;have a6:=(blk_cell EB.out 6).1;have y0:=(blk_cell EP.out 0).1;have y1:=(blk_cell EP.out 1).1;simp only [List.getElem?_toArray,List.getElem?_cons_zero,List.getElem?_cons_succ] at a5 a6 y0 y1;clear hkn hQ QQ;obtain⟨su,hsu⟩:∃su,ins+res+q0=su:=⟨_,rfl⟩;rw [hsu] at HRR;rw [hsu];by_cases hs:su=inn - out
   ·have hsb:(su == inn - out)=true:=by simpa using hs
    have eq:=eq2 q1 q2 0 0;by_cases hz1:q1=0
    ·by_cases hz2:q2=0
     ·have R0:Hid (R=0):=by
       have:=HRR.out;rw [if_pos ⟨hs,hz1,hz2⟩] at this;exact this
      have b1:(q1 == 0)=true:=by simpa using hz1
      have b2:(q2 == 0)=true:=by simpa using hz2
      have H1:=hide hz1;have H2:=hide hz2;rw [b1,b2] at eq;clear HRR hz1 hz2 b1 b2;go_wp2;go_ret;exact⟨by rw [R0.out];rfl,BW.out⟩
     ·have R4:Hid (R=4):=by
       have:=HRR.out;rw [if_neg (fun h=>hz2 h.2.2)] at this;exact this
      have b2:(q2 == 0)=false:=by simpa using hz2
      rw [b2,Bool.and_false] at eq;clear HRR hz1 hz2 b2;go_wp2;go_ret;exact⟨by rw [R4.out];rfl,BW.out⟩
    ·have R4:Hid (R=4):=by
      have:=HRR.out;rw [if_neg (fun h=>hz1 h.2.1)] at this;exact this
     have b1:(q1 == 0)=false:=by simpa using hz1
     rw [b1,Bool.false_and] at eq;clear HRR hz1 b1;go_wp2;go_ret;exact⟨by rw [R4.out];rfl,BW.out⟩
   ·have R4:Hid (R=4):=by
     have:=HRR.out;rw [if_neg (fun h=>hs h.1)] at this;exact this
    have hsb:(su == inn - out)=false:=by simpa using hs
    clear HRR;go_wp2;go_ret;exact⟨by rw [R4.out];rfl,BW.out⟩
end Go.Proofs.YthdjfhnhjiageaaGreatDoor.Vn
