import Derived.Test.YthdjfhnhjiageaaGreatDoorG49
import Derived.Test.YthdjfhnhjiageaaGreatDoorRows
import Derived.Lay
import Derived.MakeChecks
import Derived.Stop.LaidErr
set_option maxHeartbeats 8000000
set_option maxRecDepth 100000
namespace Go.Proofs.YthdjfhnhjiageaaGreatDoor.Tx
open Go.Lib
def linesL:List Cd->Bs
 |[]=>[]
 |c::l=>lineC c++linesL l
def Right (l:List Cd):Prop:=∀c,c∈l->checkC c=0/\c.fits
theorem lines_app:∀a b:List Cd,linesL (a++b)=linesL a++linesL b
 |[],_=>rfl
 |c::a,b=>by rw [List.cons_append,linesL,linesL,lines_app a b,<- List.append_assoc]
theorem lines_one (c:Cd):linesL [c]=lineC c:=by rw [linesL,linesL,List.append_nil]
theorem lines_len:∀{l:List Cd},Right l->(linesL l).length<=201*l.length
 |[],_=>by simp [linesL]
 |c::l,h=>by
  have h1:=lines_len (l:=l) (fun x hx=>h x (List.mem_cons_of_mem _ hx));have h2:=print_len (h c (List.mem_cons_self ..)).2;rw [linesL];simp only [List.length_append,List.length_cons,List.length_nil];omega
theorem Right.cons {c:Cd}{l:List Cd}(h:Right (c::l)):(checkC c=0/\c.fits)/\Right l:=⟨h c (List.mem_cons_self ..),fun x hx=>h x (List.mem_cons_of_mem _ hx)⟩
theorem Right.app {a b:List Cd}(h:Right (a++b)):Right a/\Right b:=⟨fun x hx=>h x (List.mem_append_left _ hx),fun x hx=>h x (List.mem_append_right _ hx)⟩
theorem Right.join {a b:List Cd}(h1:Right a)(h2:Right b):Right (a++b):=fun x hx=>(List.mem_append.1 hx).elim (h1 x) (h2 x)
theorem Right.one {c:Cd}(h:checkC c=0)(hf:c.fits):Right [c]:=fun x hx=>by rw [List.mem_singleton.1 hx];exact⟨h,hf⟩
theorem Right.take {l:List Cd}(h:Right l)(n:Nat):Right (l.take n):=fun x hx=>h x (List.mem_of_mem_take hx)
theorem no_lf_take {l:Bs}(h:(10:UInt8) ∉ l)(n:Nat):(10:UInt8) ∉ l.take n:=fun hx=>h (List.mem_of_mem_take hx)
theorem cut_no:∀{b:Bs},(10:UInt8) ∉ b->cutL b=none
 |[],_=>rfl
 |x::l,h=>by
  simp only [List.mem_cons,not_or] at h;rw [cutL,if_neg (fun e=>h.1 e.symm),cut_no h.2];rfl
theorem read_take:∀(xs:List Cd),Right xs->∀(k n g:Nat),k+xs.length<=60->((linesL xs).take n).length<=g->∃j e,j<=xs.length/\readF g k ((linesL xs).take n)=(xs.take j,(linesL (xs.take j)).length,e)/\(linesL xs).take (linesL (xs.take j)).length=linesL (xs.take j)/\(linesL (xs.take j)).length<=((linesL xs).take n).length
 |[],_,k,n,g,_,_=>⟨0,0,Nat.le_refl _,by rw [linesL,List.take_nil,read_nil];rfl,rfl,by simp [linesL]⟩
 |c::xs,h,k,n,g,hk,hg=>by
  obtain⟨⟨hc,hf⟩,hr⟩:=h.cons;simp only [List.length_cons] at hk;by_cases hn:n<(lineC c).length
  ·have e:(linesL (c::xs)).take n=(printC c).take n:=by
    rw [linesL,List.take_append_of_le_length (by omega)];rw [List.take_append_of_le_length (by simp only [List.length_append,List.length_cons,List.length_nil] at hn;omega)]
   rw [e] at hg ⊢;by_cases hz:(printC c).take n=[]
   ·rw [hz,read_nil];exact⟨0,0,Nat.zero_le _,rfl,rfl,Nat.zero_le _⟩
   ·obtain⟨g',rfl⟩:∃g',g=g'+1:=⟨g-1,by have:=List.length_pos_iff.2 hz;omega⟩;rw [read_torn hz (cut_no (no_lf_take (print_lf hc) n))];exact⟨0,13,Nat.zero_le _,rfl,rfl,Nat.zero_le _⟩
  ·have e:(linesL (c::xs)).take n=printC c++10::(linesL xs).take (n - (lineC c).length):=by
    rw [linesL,List.take_append,List.take_of_length_le (by omega),List.append_assoc];rfl
   rw [e] at hg ⊢;have ih:=fun g' hx=>read_take xs hr (k+1) (n - (lineC c).length) g' (by omega) hx;generalize (linesL xs).take (n - (lineC c).length)=R at hg ih ⊢;simp only [List.length_append,List.length_cons] at hg;obtain⟨g',rfl⟩:∃g',g=g'+1:=⟨g-1,by omega⟩;obtain⟨j,e',h1,h2,h3,h4⟩:=ih g' (by omega);refine⟨j+1,e',by simp only [List.length_cons];omega,?_,?_,?_⟩
   ·rw [read_cut (cut_line _ (print_lf hc)),parse_print hc hf,if_neg (fun h=>h rfl),if_neg (by omega),h2];simp only [List.take_succ_cons,linesL,List.length_append,List.length_cons,List.length_nil]
   ·rw [List.take_succ_cons,linesL,linesL,List.length_append,List.take_append,Nat.add_sub_cancel_left,h3,List.take_of_length_le (by omega)]
   ·rw [List.take_succ_cons,linesL];simp only [List.length_append,List.length_cons,List.length_nil];omega
theorem read_lines:∀(xs:List Cd),Right xs->∀(k g:Nat),k+xs.length<=60->(linesL xs).length<=g->readF g k (linesL xs)=(xs,(linesL xs).length,0)
 |[],_,k,g,_,_=>by rw [linesL,read_nil];rfl
 |c::xs,h,k,g,hk,hg=>by
  obtain⟨⟨hc,hf⟩,hr⟩:=h.cons;simp only [List.length_cons] at hk;have e:linesL (c::xs)=printC c++10::linesL xs:=by rw [linesL,List.append_assoc];rfl
  rw [e] at hg ⊢;simp only [List.length_append,List.length_cons] at hg;obtain⟨g',rfl⟩:∃g',g=g'+1:=⟨g-1,by omega⟩;rw [read_cut (cut_line _ (print_lf hc)),parse_print hc hf,if_neg (fun h=>h rfl),if_neg (by omega),read_lines xs hr (k+1) g' (by omega) (by omega)];simp only [List.length_append,List.length_cons];refine Prod.ext rfl (Prod.ext ?_ rfl);dsimp only;omega
theorem readL_lines {xs:List Cd}(h:Right xs)(hn:xs.length<=60):readL (linesL xs)=(xs,(linesL xs).length,0):=read_lines xs h 0 _ (by omega) (Nat.le_refl _)
theorem check_lines {a:List Cd}{w:Bs}(ha:Right a)(hn:a.length<=60)(hl:(linesL a).length+w.length<=20000):checkD ⟨linesL a,w⟩=0:=check_of hl (by rw [readL_lines ha hn])
theorem check_cases (c:Cd):checkC c=0\/checkC c=3\/checkC c=4:=by
 unfold checkC;split
 ·exact .inr (.inr rfl)
 ·split
  ·exact .inr (.inr rfl)
  ·split
   ·exact .inl rfl
   ·exact .inr (.inl rfl)
theorem put_lines {a b:List Cd}(ha:Right a)(hb:Right b)(hn:a.length+b.length<=30){c:Cd}(hc:checkC c=0)(hf:c.fits):putD ⟨linesL a,linesL b⟩ c=(⟨linesL a,linesL (b++[c])⟩,0):=by
 have l1:=lines_len ha;have l2:=lines_len hb;have l3:=print_len hf;rw [put_is (check_lines ha (by omega) (by omega)) hc (by simp only [List.length_append,List.length_cons,List.length_nil];omega),lines_app,lines_one]
theorem put_wrong {a b:List Cd}(ha:Right a)(hb:Right b)(hn:a.length+b.length<=30){c:Cd}(hc:¬checkC c=0):putD ⟨linesL a,linesL b⟩ c=(noDk,checkC c):=by
 have l1:=lines_len ha;have l2:=lines_len hb;unfold putD;rw [if_neg (fun h=>h (check_lines ha (by omega) (by omega))),if_pos hc]
theorem sync_lines {a b:List Cd}(ha:Right a)(hb:Right b)(hn:a.length+b.length<=30):syncD ⟨linesL a,linesL b⟩=(⟨linesL (a++b),[]⟩,0):=by
 have l1:=lines_len ha;have l2:=lines_len hb;rw [sync_is (check_lines ha (by omega) (by omega)) (by dsimp only;rw [<- lines_app,readL_lines (ha.join hb) (by simp;omega)]),lines_app]
theorem rec_lines {a:List Cd}(ha:Right a)(hn:a.length<=30):recD ⟨linesL a,[]⟩=(⟨linesL a,[]⟩,a,0):=by
 have l1:=lines_len ha;unfold recD;rw [if_neg (fun h=>h (check_lines ha (by omega) (by simp;omega)))];dsimp only;rw [List.append_nil,readL_lines ha (by omega)];dsimp only;rw [List.take_length]
theorem rec_take {a b:List Cd}(ha:Right a)(hb:Right b)(hn:a.length+b.length<=30)(n:Nat):∃j,j<=b.length/\recD ⟨linesL a,(linesL b).take n⟩=(⟨linesL (a++b.take j),[]⟩,a++b.take j,0):=by
 have l1:=lines_len ha;have l2:=lines_len hb;have hz:(readL (linesL a)).2.2=0:=by rw [readL_lines ha (by omega)]
 obtain⟨-,e⟩:=readL_app (B:=(linesL b).take n) hz;obtain⟨j,e',h1,h2,h3,h4⟩:=read_take b hb a.length n (linesL a++(linesL b).take n).length (by omega) (by simp);rw [readL_lines ha (by omega)] at e;dsimp only at e;rw [h2] at e;dsimp only at e;refine⟨j,h1,?_⟩;unfold recD;rw [if_neg (fun h=>h (check_lines ha (by omega) (by rw [List.length_take];omega)))];dsimp only;rw [e];dsimp only;rw [List.take_append,Nat.add_sub_cancel_left,List.take_of_length_le (by omega),List.take_take,Nat.min_eq_left (by rw [List.length_take] at h4;omega),h3,lines_app]
theorem crash_is {a b:List Cd}(ha:Right a)(hb:Right b)(hn:a.length+b.length<=30){n:Int}(h0:0<=n)(h1:n<=((linesL b).length:Int)):crashD ⟨linesL a,linesL b⟩ n=(⟨linesL a,(linesL b).take n.toNat⟩,0):=by
 have l1:=lines_len ha;have l2:=lines_len hb;unfold crashD;rw [if_neg (fun h=>h (check_lines ha (by omega) (by omega))),if_neg (by dsimp only;omega)]
open Go.RowKit Go.Sort
theorem itoa1 {n:Nat}(h:n<10):itoa (n:Int)=[UInt8.ofNat (48+n)]:=by rw [itoa_nonneg,decDigits_one h]
abbrev jA:Cd:=⟨1,0,0,5,0,0,0,0,0,0,false⟩
abbrev jB:Cd:=⟨7,0,0,0,0,0,0,0,0,0,false⟩
abbrev jT:Bs:=[100,101,112,111,115,105,116,32,48,32,53,10]
theorem print_jA:printC jA=[100,101,112,111,115,105,116,32,48,32,53]:=by
 have i1:itoa 0=[48]:=itoa1 (n:=0) (by decide);have i2:itoa 5=[53]:=itoa1 (n:=5) (by decide);show joinW [wDeposit,itoa 0,itoa 5]=_;rw [i1,i2];rfl
theorem fits_jA:jA.fits:=by constructor<;>(unfold i64;decide)
theorem fits_jB:jB.fits:=by constructor<;>(unfold i64;decide)
theorem check_jA:checkC jA=0:=by rfl
theorem check_jB:checkC jB=0:=by rfl
theorem rA:Right [jA]:=Right.one check_jA fits_jA
theorem rB:Right [jB]:=Right.one check_jB fits_jB
theorem r0:Right []:=fun _ h=>nomatch h
theorem line_A:linesL [jA]=jT:=by rw [lines_one];show printC jA++[10]=_;rw [print_jA];rfl
theorem j1:putD noDk jA=(⟨[],jT⟩,0):=by
 have:=put_lines r0 r0 (by decide) check_jA fits_jA;rw [List.nil_append,line_A] at this;exact this
theorem j2:syncD ⟨[],jT⟩=(⟨jT,[]⟩,0):=by
 have:=sync_lines r0 rA (by decide);rw [List.nil_append,line_A] at this;exact this
theorem j3:putD ⟨jT,[]⟩ jB=(⟨jT,wSweep++[10]⟩,0):=by
 have:=put_lines rA r0 (by decide) check_jB fits_jB;rw [List.nil_append,line_A,lines_one] at this;exact this
theorem j4:crashD ⟨jT,wSweep++[10]⟩ 5=(⟨jT,wSweep⟩,0):=by
 have:=crash_is rA rB (by decide) (n:=5) (by decide) (by rw [lines_one];decide);rw [line_A,lines_one] at this;exact this
theorem j5:recD ⟨jT,wSweep⟩=(⟨jT,[]⟩,[jA],0):=by
 have hr:=readL_lines rA (by decide);rw [line_A] at hr;obtain⟨-,e⟩:=readL_app (A:=jT) (B:=wSweep) (by rw [hr]);rw [hr] at e;have ht:readF (jT++wSweep).length 1 wSweep=([],0,13):=read_torn (f:=16) (by decide) (by decide);dsimp only at e;rw [show ([jA]:List Cd).length=1 from rfl,ht] at e;unfold recD;rw [if_neg (fun h=>h (check_of (by decide) (by rw [hr]))),e];rfl
theorem bt_few {w:World}{p:Option Addr}{n c:Nat}{bs:Bs}(h:Bt w p n c bs)(k:Nat)(hk:bs.length<=k):n<=k:=by rw [<- h.len];exact hk
theorem journaled_any (w:World)(E:Env w):Calls Tryz.prog 10 #[] w fun e w'=>e=.returned (.bool true)/\Below w.heap.size w w':=by
 have P1:=hide (put_any none 0 0 none 0 0 noDk jA w (bt_none w) (bt_none w) (by decide) (by decide) fits_jA E);rw [j1] at P1;have HE:=hide E;clear E;go_enter Tryz.func10,Tryz.ntmps10;go_wp2_with fail;refine P1.out.mono ?_;rintro e X ⟨⟨v,rfl,hdv⟩,bX⟩;obtain⟨p1,n1,c1,p2,n2,c2,rfl,hs1,hs2,hm1,hm2⟩:=hdv;obtain⟨V,hV⟩:∃V,V=X.alloc (dkO (.slice p1 n1 c1) (.slice p2 n2 c2)):=⟨_,rfl⟩;have bXV:Below X.heap.size X V:=by rw [hV];exact below_alloc X _
 have gV:V.heap[X.heap.size]? = some (dkO (.slice p1 n1 c1) (.slice p2 n2 c2)):=by rw [hV];exact heap_alloc_new X _
 have HR:Hid (w.heap.size<=X.heap.size):=bX.size;have T1:=hide (hs1.below bXV);have T2:=hide (hs2.below bXV);have RV:Hid (X.heap.size+1<=V.heap.size):=(Array.getElem?_eq_some_iff.1 gV).1;have BV:=hide (onward bX bXV);have GV:=hide gV;have HV:=hide hV;obtain⟨v0,v1,-,-⟩:=dk_cell gV;have CN:=hide (sync_any p1 n1 c1 p2 n2 c2 ⟨[],jT⟩ V T1.out T2.out (bt_few T1.out _ (by decide)) (bt_few T2.out _ (by decide)) (HE.out.below BV.out));rw [j2] at CN;clear hV bXV gV hs1 hs2 P1 bX hm1 hm2;go_wp2_with (rw [<- HV.out]);clear v0 v1 HV T1 T2;generalize X.heap.size=r at *;clear X;refine CN.out.mono ?_;have WB:=BV;have RB:=GV;have RS:=RV;clear CN BV GV RV;rintro e X ⟨⟨v,rfl,hdv⟩,bX⟩;obtain⟨p1,n1,c1,p2,n2,c2,rfl,hs1,hs2,hm1,hm2⟩:=hdv;obtain⟨V,hV⟩:∃V,V=(X.setCell ⟨r,0,none⟩ (.slice p1 n1 c1)).setCell ⟨r,1,none⟩ (.slice p2 n2 c2):=⟨_,rfl⟩;have rx:=dk_below RB.out bX;have gV:V.heap[r]? = some (dkO (.slice p1 n1 c1) (.slice p2 n2 c2)):=by rw [hV];exact dk_put rx _ _
 have bV:Below w.heap.size w V:=by rw [hV];exact((onward WB.out bX).setCell HR.out _).setCell HR.out _
 have m1:=hm1.mono RS.out;have m2:=hm2.mono RS.out;have t1:Bt V p1 n1 c1 (⟨jT,[]⟩:Dk).safe:=by rw [hV];exact(hs1.set m1 _ _).set m1 _ _
 have t2:Bt V p2 n2 c2 (⟨jT,[]⟩:Dk).wait:=by rw [hV];exact(hs2.set m2 _ _).set m2 _ _
 obtain⟨⟨u0,k0⟩,⟨u1,k1⟩,f0,f1⟩:=dk_opq rx;obtain⟨v0,v1,-,-⟩:=dk_cell gV;have RV:Hid (r+1<=V.heap.size):=(Array.getElem?_eq_some_iff.1 gV).1;have T1:=hide t1;have T2:=hide t2;have GV:=hide gV;have HV:=hide hV;have BV:=hide bV;clear hs1 hs2 hm1 hm2 rx gV bV m1 m2 t1 t2 hV bX RB WB RS;have CN:=hide (put_any p1 n1 c1 p2 n2 c2 ⟨jT,[]⟩ jB V T1.out T2.out (bt_few T1.out _ (by decide)) (bt_few T2.out _ (by decide)) fits_jB (HE.out.below BV.out));rw [j3] at CN;go_wp2_with (rw [<- HV.out]);clear k0 k1 f0 f1 v0 v1 HV;clear X;refine CN.out.mono ?_;have WB:=BV;have RB:=GV;have RS:=RV;clear CN BV GV RV T1 T2;rintro e X ⟨⟨v,rfl,hdv⟩,bX⟩;obtain⟨p1,n1,c1,p2,n2,c2,rfl,hs1,hs2,hm1,hm2⟩:=hdv;obtain⟨V,hV⟩:∃V,V=(X.setCell ⟨r,0,none⟩ (.slice p1 n1 c1)).setCell ⟨r,1,none⟩ (.slice p2 n2 c2):=⟨_,rfl⟩;have rx:=dk_below RB.out bX;have gV:V.heap[r]? = some (dkO (.slice p1 n1 c1) (.slice p2 n2 c2)):=by rw [hV];exact dk_put rx _ _
 have bV:Below w.heap.size w V:=by rw [hV];exact((onward WB.out bX).setCell HR.out _).setCell HR.out _
 have m1:=hm1.mono RS.out;have m2:=hm2.mono RS.out;have t1:Bt V p1 n1 c1 (⟨jT,wSweep++[10]⟩:Dk).safe:=by rw [hV];exact(hs1.set m1 _ _).set m1 _ _
 have t2:Bt V p2 n2 c2 (⟨jT,wSweep++[10]⟩:Dk).wait:=by rw [hV];exact(hs2.set m2 _ _).set m2 _ _
 obtain⟨⟨u0,k0⟩,⟨u1,k1⟩,f0,f1⟩:=dk_opq rx;obtain⟨v0,v1,-,-⟩:=dk_cell gV;have RV:Hid (r+1<=V.heap.size):=(Array.getElem?_eq_some_iff.1 gV).1;have T1:=hide t1;have T2:=hide t2;have GV:=hide gV;have HV:=hide hV;have BV:=hide bV;clear hs1 hs2 hm1 hm2 rx gV bV m1 m2 t1 t2 hV bX RB WB RS;have CN:=hide (crash_any p1 n1 c1 p2 n2 c2 ⟨jT,wSweep++[10]⟩ 5 V T1.out T2.out (bt_few T1.out _ (by decide)) (bt_few T2.out _ (by decide)) (HE.out.below BV.out));rw [j4] at CN;go_wp2_with (rw [<- HV.out]);clear k0 k1 f0 f1 v0 v1 HV;clear X;refine CN.out.mono ?_;have WB:=BV;have RB:=GV;have RS:=RV;clear CN BV GV RV T1 T2;rintro e X ⟨⟨v,rfl,hdv⟩,bX⟩;obtain⟨p1,n1,c1,p2,n2,c2,rfl,hs1,hs2,hm1,hm2⟩:=hdv;obtain⟨V,hV⟩:∃V,V=(X.setCell ⟨r,0,none⟩ (.slice p1 n1 c1)).setCell ⟨r,1,none⟩ (.slice p2 n2 c2):=⟨_,rfl⟩;have rx:=dk_below RB.out bX;have gV:V.heap[r]? = some (dkO (.slice p1 n1 c1) (.slice p2 n2 c2)):=by rw [hV];exact dk_put rx _ _
 have bV:Below w.heap.size w V:=by rw [hV];exact((onward WB.out bX).setCell HR.out _).setCell HR.out _
 have m1:=hm1.mono RS.out;have m2:=hm2.mono RS.out;have t1:Bt V p1 n1 c1 (⟨jT,wSweep⟩:Dk).safe:=by rw [hV];exact(hs1.set m1 _ _).set m1 _ _
 have t2:Bt V p2 n2 c2 (⟨jT,wSweep⟩:Dk).wait:=by rw [hV];exact(hs2.set m2 _ _).set m2 _ _
 obtain⟨⟨u0,k0⟩,⟨u1,k1⟩,f0,f1⟩:=dk_opq rx;obtain⟨v0,v1,-,-⟩:=dk_cell gV;have RV:Hid (r+1<=V.heap.size):=(Array.getElem?_eq_some_iff.1 gV).1;have T1:=hide t1;have T2:=hide t2;have GV:=hide gV;have HV:=hide hV;have BV:=hide bV;clear hs1 hs2 hm1 hm2 rx gV bV m1 m2 t1 t2 hV bX RB WB RS;have CN:=hide (recover_any p1 n1 c1 p2 n2 c2 ⟨jT,wSweep⟩ V T1.out T2.out (bt_few T1.out _ (by decide)) (bt_few T2.out _ (by decide)) (HE.out.below BV.out));rw [j5] at CN;go_wp2_with (rw [<- HV.out]);clear k0 k1 f0 f1 v0 v1 HV;clear X;refine CN.out.mono ?_;clear CN;rintro e X ⟨⟨v,lv,rfl,hdv,hown⟩,bX⟩;obtain⟨pl,cl,hlv⟩:=ownC_slice hown;rw [show ([jA]:List Cd).length=1 from rfl] at hlv;subst hlv;obtain⟨q1,o1,d1,q2,o2,d2,rfl,hs1,hs2,-,-⟩:=hdv;obtain⟨Z,hZ⟩:∃Z,Z=X.alloc (dkO (.slice q1 o1 d1) (.slice q2 o2 d2)):=⟨_,rfl⟩;have bZ:Below X.heap.size X Z:=by rw [hZ];exact below_alloc X _
 have gZ:Z.heap[X.heap.size]? = some (dkO (.slice q1 o1 d1) (.slice q2 o2 d2)):=by rw [hZ];exact heap_alloc_new X _
 have rZ:=dk_below (dk_below GV.out bX) bZ;obtain⟨a0,a1,-,-⟩:=dk_cell gZ;obtain⟨b0,b1,-,-⟩:=dk_cell rZ;have s1:=(hs1.below bZ).str;have s2:=((T2.out.below bX).below bZ).str;have ho2:o2=0:=by rw [<- hs2.len];rfl
 subst ho2;have HZ:=hide hZ;have BZ:=hide (onward (onward BV.out bX) bZ);clear hZ bZ gZ rZ hs1 hs2 hown bX BV GV T1 T2 RV HE HR;go_wp2_with (rw [<- HZ.out]);go_ret;exact⟨rfl,BZ.out⟩
end Go.Proofs.YthdjfhnhjiageaaGreatDoor.Tx
namespace Go.Proofs
open Go.Shelf
def Tryz.equalJ_ren:Go.Shelf.Ren:=⟨fun | 8=>18 | n=>n,fun | 22=>34 | 24=>28 | 4=>4 | 3=>3 | 0=>0 | n=>n,fun | n=>n⟩
theorem Tryz.equalJ:Go.Proofs.SlLaysQ.n8 Tryz.prog Tryz.equalJ_ren:=by
 constructor
 case f8=>exact⟨Tryz.f18.name,by decide,Tryz.func18.trans (congrArg some (by kernel_rfl))⟩
 repeat first | kernel_rfl | (intros;kernel_rfl) | constructor
end Go.Proofs
namespace Go.Proofs.YthdjfhnhjiageaaGreatDoor.Tx
open Go.RowKit Go.Lib Go.Sort
instance:Inhabited Cd:=⟨noCd⟩
theorem encD_len (c:Cd):(encD c).length=11:=rfl
theorem neqD:NeqAt Tryz.prog 28 (fun x=>.agg (encD x).toArray) sameC:=by
 refine⟨fun x y w=>?_,GuardAt.agg _ (by kernel_rfl)⟩;have h:(Op.equalIn 10000 28 (.agg (encD x).toArray) (.agg (encD y).toArray)).run Tryz.prog w=.ok (sameC x y) w:=eqC x y w;refine(run_neq_struct (P:=Tryz.prog) (w:=w) 28 (encD x).toArray (encD y).toArray).trans ?_;rw [h];rfl
theorem allEqD:∀xs:List Cd,Lib.allEq sameC xs xs=true
 |[]=>by simp [Lib.allEq]
 |x::xs=>by simp [Lib.allEq,allEqD xs,sameC_iff.2 rfl]
theorem flatE_len (L:List Cd):(L.flatMap encD).length=L.length*11:=by
 induction L with
 |nil=>rfl
 |cons c L ih=>simp only [List.flatMap_cons,List.length_append,ih,List.length_cons];simp;omega
theorem flatE_get:∀(L:List Cd)(j i:Nat),j<L.length->i<11->(L.flatMap encD)[j*11+i]? = (encD L[j]!)[i]?
 |[],j,_,h,_=>absurd h (by simp)
 |x::L,0,i,_,hi=>by
  rw [List.flatMap_cons,List.getElem?_append_left (by simpa using hi)]
  simp
 |x::L,j+1,i,h,hi=>by
  rw [List.flatMap_cons,List.getElem?_append_right (by simp;omega)]
  have:(j+1)*11+i - (encD x).length=j*11+i:=by simp;omega
  rw [this,flatE_get L j i (by simpa using h) hi]
  simp
theorem ownC_cells {B:Nat}{w:World}{v:Value}{L:List Cd}(h:OwnC B w v L)(hL:¬L=[]):∃g cap,v=.slice (some ⟨g,0,none⟩) L.length cap/\∀j,j<L.length->∀i u,(encD L[j]!)[i]? = some u->w.cell? ⟨g,0+j*11+i,none⟩=some u:=by
 rcases h.2 with⟨-,e⟩ | ⟨g,cap,cur,rfl,hb,hg,hnc,hm,hs,ht⟩
 ·exact absurd (List.length_eq_zero_iff.1 e) hL
 ·refine⟨g,cap,rfl,fun j hj i u hu=>?_⟩;have hi:i<11:=(List.getElem?_eq_some_iff.1 hu).1;have hv:(cur.toList.take (L.length*11))[j*11+i]? = some u:=by rw [ht,flatE_get L j i hj hi];exact hu
  rw [List.getElem?_take] at hv;split at hv
  ·simp only [World.cell?,hg,Nat.zero_add];simpa using hv
  ·cases hv
theorem equalD_none (p p':Option Addr)(c c':Nat)(w:World) :
  Calls Tryz.prog 18 #[.slice p 0 c,.slice p' 0 c'] w fun e w'=>e=.returned (.bool true)/\Below w.heap.size w w':=by
 go_enter Tryz.func18,Tryz.ntmps18;go_wp2;refine wp_loop_rounds 1 ?_;rw [rounds_succ];go_wp2;go_ret;exact⟨rfl,Below.refl _ _⟩
end Go.Proofs.YthdjfhnhjiageaaGreatDoor.Tx
namespace Go.Proofs.YthdjfhnhjiageaaGreatDoor.Tx
open Go.ChangeShapes Go.WideShapes Go.ChangeAt Go.RowKit Go.Joins Go.Lib Go.Deep
variable {H:Type} {enc':TypeId × Value->H} {w:World} {base:Nat} {spare:Nat->Bool} {held:Bool}
theorem cellsOr:Tryz.prog.cellsOf 26=5:=by kernel_rfl
theorem cellsCm:Tryz.prog.cellsOf 28=11:=by kernel_rfl
theorem cellsIn:Tryz.prog.cellsOf 3=1:=by kernel_rfl
theorem cellsBo:Tryz.prog.cellsOf 4=1:=by kernel_rfl
theorem wf64 {n:Int}(h:(Lit.int .i64 n).wf=true):i64 n:=by
 unfold i64;simpa [Lit.wf,IntKind.min,IntKind.max,IntKind.signed,IntKind.bits] using h
theorem int_cell {fuel:Nat}{v:Value}{x:DataW H × List MemPlace}(h:DataW.trod enc' Tryz.prog w base spare held fuel 3 [v]=some x):∃n,v=.int .i64 n/\i64 n:=by
 obtain⟨n,e,-,hw⟩:=DataW.trod_int Tryz.underlying3 h;exact⟨n,by simpa using e,wf64 hw⟩
theorem order_cells {fuel:Nat}{cs:List Value}{x:DataW H × List MemPlace}(h:DataW.trod enc' Tryz.prog w base spare held fuel 26 cs=some x):∃a b c d e:Int,cs=[.int .i64 a,.int .i64 b,.int .i64 c,.int .i64 d,.int .i64 e]/\i64 a/\i64 b/\i64 c/\i64 d/\i64 e:=by
 obtain⟨xs,n,_,_,hl,hxl,hf⟩:=DataW.trod_struct Tryz.underlying26 h;rw [cellsOr] at hl;rcases cs with _ | ⟨c0,_ | ⟨c1,_ | ⟨c2,_ | ⟨c3,_ | ⟨c4,_ | ⟨c5,cs⟩⟩⟩⟩⟩⟩<;>simp at hl;rcases xs with _ | ⟨z0,_ | ⟨z1,_ | ⟨z2,_ | ⟨z3,_ | ⟨z4,_ | ⟨z5,xs⟩⟩⟩⟩⟩⟩<;>simp at hxl;obtain⟨y0,g0⟩:∃y,DataW.trod enc' Tryz.prog w base spare held n 3 (([c0,c1,c2,c3,c4].drop 0).take (Tryz.prog.cellsOf 3))=some y:=⟨z0,hf 0 _ rfl⟩;rw [cellsIn] at g0;obtain⟨k0,e0,w0⟩:=int_cell (by simpa using g0);obtain⟨y1,g1⟩:∃y,DataW.trod enc' Tryz.prog w base spare held n 3 (([c0,c1,c2,c3,c4].drop 1).take (Tryz.prog.cellsOf 3))=some y:=⟨z1,hf 1 _ rfl⟩;rw [cellsIn] at g1;obtain⟨k1,e1,w1⟩:=int_cell (by simpa using g1);obtain⟨y2,g2⟩:∃y,DataW.trod enc' Tryz.prog w base spare held n 3 (([c0,c1,c2,c3,c4].drop 2).take (Tryz.prog.cellsOf 3))=some y:=⟨z2,hf 2 _ rfl⟩;rw [cellsIn] at g2;obtain⟨k2,e2,w2⟩:=int_cell (by simpa using g2);obtain⟨y3,g3⟩:∃y,DataW.trod enc' Tryz.prog w base spare held n 3 (([c0,c1,c2,c3,c4].drop 3).take (Tryz.prog.cellsOf 3))=some y:=⟨z3,hf 3 _ rfl⟩;rw [cellsIn] at g3;obtain⟨k3,e3,w3⟩:=int_cell (by simpa using g3);obtain⟨y4,g4⟩:∃y,DataW.trod enc' Tryz.prog w base spare held n 3 (([c0,c1,c2,c3,c4].drop 4).take (Tryz.prog.cellsOf 3))=some y:=⟨z4,hf 4 _ rfl⟩;rw [cellsIn] at g4;obtain⟨k4,e4,w4⟩:=int_cell (by simpa using g4);subst e0 e1 e2 e3 e4;exact⟨k0,k1,k2,k3,k4,rfl,w0,w1,w2,w3,w4⟩
theorem cmd_cells {fuel:Nat}{cs:List Value}{x:DataW H × List MemPlace}(h:DataW.trod enc' Tryz.prog w base spare held fuel 28 cs=some x):∃c:Cd,cs=[.int .i64 c.kind,.int .i64 c.ac,.int .i64 c.mkt,.int .i64 c.n,.int .i64 c.oi,.int .i64 c.oa,.int .i64 c.sd,.int .i64 c.pr,.int .i64 c.qt,.int .i64 c.how,.bool c.red]/\c.fits:=by
 obtain⟨xs,n,_,_,hl,hxl,hf⟩:=DataW.trod_struct Tryz.underlying28 h;rw [cellsCm] at hl;rcases cs with _ | ⟨c0,_ | ⟨c1,_ | ⟨c2,_ | ⟨c3,_ | ⟨c4,_ | ⟨c5,_ | ⟨c6,_ | ⟨c7,_ | ⟨c8,_ | ⟨c9,_ | ⟨c10,_ | ⟨c11,cs⟩⟩⟩⟩⟩⟩⟩⟩⟩⟩⟩⟩<;>simp at hl;rcases xs with _ | ⟨z0,_ | ⟨z1,_ | ⟨z2,_ | ⟨z3,_ | ⟨z4,_ | ⟨z5,_ | ⟨z6,_ | ⟨z7,xs⟩⟩⟩⟩⟩⟩⟩⟩<;>simp at hxl;obtain⟨y0,g0⟩:∃y,DataW.trod enc' Tryz.prog w base spare held n 3 (([c0,c1,c2,c3,c4,c5,c6,c7,c8,c9,c10].drop 0).take (Tryz.prog.cellsOf 3))=some y:=⟨z0,hf 0 _ rfl⟩;rw [cellsIn] at g0;obtain⟨k0,e0,w0⟩:=int_cell (by simpa using g0);obtain⟨y1,g1⟩:∃y,DataW.trod enc' Tryz.prog w base spare held n 3 (([c0,c1,c2,c3,c4,c5,c6,c7,c8,c9,c10].drop 1).take (Tryz.prog.cellsOf 3))=some y:=⟨z1,hf 1 _ rfl⟩;rw [cellsIn] at g1;obtain⟨k1,e1,w1⟩:=int_cell (by simpa using g1);obtain⟨y2,g2⟩:∃y,DataW.trod enc' Tryz.prog w base spare held n 3 (([c0,c1,c2,c3,c4,c5,c6,c7,c8,c9,c10].drop 2).take (Tryz.prog.cellsOf 3))=some y:=⟨z2,hf 2 _ rfl⟩;rw [cellsIn] at g2;obtain⟨k2,e2,w2⟩:=int_cell (by simpa using g2);obtain⟨y3,g3⟩:∃y,DataW.trod enc' Tryz.prog w base spare held n 3 (([c0,c1,c2,c3,c4,c5,c6,c7,c8,c9,c10].drop 3).take (Tryz.prog.cellsOf 3))=some y:=⟨z3,hf 3 _ rfl⟩;rw [cellsIn] at g3;obtain⟨k3,e3,w3⟩:=int_cell (by simpa using g3);obtain⟨y4,g4⟩:∃y,DataW.trod enc' Tryz.prog w base spare held n 26 (([c0,c1,c2,c3,c4,c5,c6,c7,c8,c9,c10].drop 4).take (Tryz.prog.cellsOf 26))=some y:=⟨z4,hf 4 _ rfl⟩;rw [cellsOr] at g4;obtain⟨a,b,c,d,e,eo,wa,wb,wc,wd,we⟩:=order_cells g4;simp only [List.drop_succ_cons,List.drop_zero,List.take_succ_cons,List.take_zero,List.cons.injEq,and_true] at eo;obtain⟨rfl,rfl,rfl,rfl,rfl⟩:=eo;obtain⟨y5,g5⟩:∃y,DataW.trod enc' Tryz.prog w base spare held n 3 (([c0,c1,c2,c3,.int .i64 a,.int .i64 b,.int .i64 c,.int .i64 d,.int .i64 e,c9,c10].drop 9).take (Tryz.prog.cellsOf 3))=some y:=⟨z5,hf 5 _ rfl⟩;rw [cellsIn] at g5;obtain⟨k5,e5,w5⟩:=int_cell (by simpa using g5);obtain⟨y6,g6⟩:∃y,DataW.trod enc' Tryz.prog w base spare held n 4 (([c0,c1,c2,c3,.int .i64 a,.int .i64 b,.int .i64 c,.int .i64 d,.int .i64 e,c9,c10].drop 10).take (Tryz.prog.cellsOf 4))=some y:=⟨z6,hf 6 _ rfl⟩;rw [cellsBo] at g6;obtain⟨k6,e6,-⟩:=DataW.trod_bool Tryz.underlying4 g6;simp at e6;subst e0 e1 e2 e3 e5 e6;exact⟨⟨k0,k1,k2,k3,a,b,c,d,e,k5,k6⟩,rfl,⟨w0,w1,w2,w3,wa,wb,wc,wd,we,w5⟩⟩
theorem star : "*" ++ "errors.errorString" = "*errors.errorString" := by decide
theorem row_err (u : TypeId) (h : Tryz.prog.typeName? 3 u = some "*errors.errorString") : u = 282 :=
 typeName_ptr_named (nm := "errors.errorString") (by rw [star]; kernel_rfl) (by kernel_rfl) (by decide) u (by rw [star]; exact h)
end Go.Proofs.YthdjfhnhjiageaaGreatDoor.Tx
