import Derived.Test.YthdjfhnhjiageaaGreatDoorG04
import Derived.Laws.AppendOwnNone
import Derived.Test.YthdjfhnhjiageaaGreatDoorG02
set_option maxHeartbeats 8000000
set_option maxRecDepth 100000
namespace Go.Proofs.YthdjfhnhjiageaaGreatDoor.Own
open Go.RowKit Num Fix
theorem row_own {w:World}{B:Nat}{t:TypeId}{v:Value}{n:Nat}{xs:List Int}(h:w.ownsRow B t 1 v n (xs.map (Value.int .i64))) :
  xs.length=n/\∃a cap,v=.slice a n cap/\n<=maxLen/\Row w a xs:=by
 have hl:xs.length=n:=by simpa using h.1
 refine⟨hl,?_⟩;rcases h.2 with⟨rfl,rfl⟩ | ⟨g,cap,cur,rfl,hb,hg,hn,hm,hs,ht⟩
 ·exact⟨none,0,rfl,Nat.zero_le _,.inl (List.eq_nil_of_length_eq_zero hl)⟩
 ·refine⟨some ⟨g,0,none⟩,cap,rfl,by omega,.inr ⟨g,0,rfl,fun i hi=>?_⟩⟩;have:=h.cellAt i (by omega);rw [Nat.zero_add,this];simp [hi]
theorem add_own (B:Nat)(t:TypeId)(v:Value)(n:Nat)(xs:List Int)(w:World)(h:w.ownsRow B t 1 v n (xs.map (Value.int .i64))) :
  Calls Tryz.prog 155 #[v] w fun e w'=>e=.returned (.tuple #[.int .i64 (addFrom 0 xs).1,.int .i64 (addFrom 0 xs).2])/\w'=w:=by
 obtain⟨hl,a,cap,rfl,hm,hr⟩:=row_own h;exact add_any a n cap xs w hl hm hr
theorem clone_any (a:Option Addr)(len cap:Nat)(xs:List Int)(w:World)(hl:xs.length=len)(hm:len*8<=140737488355328)(hr:Row w a xs) :
  Calls Tryz.prog 174 #[.slice a len cap] w fun e w'=>∃v,e=.returned v/\w'.ownsRow w.heap.size 3 1 v len (xs.map (Value.int .i64))/\Below w.heap.size w w':=by
 subst hl;rcases hr with rfl | ⟨b,off,rfl,hc⟩
 ·cases a with
  |none =>
   refine(Tryz.slices_Clone_int_nil _ _ _).mono ?_;rintro e w' ⟨rfl,rfl⟩;exact⟨_,rfl,World.ownsRow_nil _ _ _ _,Below.refl _ _⟩
  |some a =>
   refine(Tryz.slices_Clone_int_zero a cap w).mono ?_;rintro e w' ⟨v,rfl,ho,-,hb⟩;exact⟨_,rfl,ho,hb⟩
 ·refine(Tryz.slices_Clone_int b off _ cap xs w (Nat.le_refl _) hm hc).mono ?_;rintro e w' ⟨v,rfl,ho,-,hb⟩;rw [List.take_length] at ho;exact⟨_,rfl,ho,hb⟩
theorem at_bd (k n:Int)(hn:1<=n):0<=k % n/\k % n<n:=⟨Int.emod_nonneg _ (by omega),Int.emod_lt_of_pos _ (by omega)⟩
theorem at_way {k n:Int}(hn:1<=n):(k.tmod n<0->k.tmod n+n=k % n)/\(¬k.tmod n<0->k.tmod n=k % n):=by
 have e:=Int.mul_tdiv_add_tmod k n;have l:=Int.tmod_lt_of_pos k (b:=n) (by omega);have g:=Int.lt_tmod_of_pos k (b:=n) (by omega);constructor
 ·intro m;have:=((Int.ediv_emod_unique (a:=k) (b:=n) (r:=k.tmod n+n) (q:=k.tdiv n-1) (by omega)).2 ⟨by rw [Int.mul_sub];omega,by omega,by omega⟩).2;exact this.symm
 ·intro m;have:=((Int.ediv_emod_unique (a:=k) (b:=n) (r:=k.tmod n) (q:=k.tdiv n) (by omega)).2 ⟨by omega,by omega,by omega⟩).2;exact this.symm
theorem at_any (k n:Int)(w:World)(hn:1<=n)(hn2:n<=1000000000000000) :
  Calls Tryz.prog 19 #[.int .i64 k,.int .i64 n] w fun e w'=>e=.returned (.int .i64 (k % n))/\w'=w:=by
 have H1:=hide (at_way (k:=k) hn).1;have H2:=hide (at_way (k:=k) hn).2;have l:=Int.tmod_lt_of_pos k (b:=n) (by omega);have g:=Int.lt_tmod_of_pos k (b:=n) (by omega);have hz:(n == 0)=false:=by simp;omega
 by_cases h:k.tmod n<0
 ·have H:=hide (unhide H1 h);clear H1 H2;go_enter Tryz.func19,Tryz.ntmps19;go_wp2;go_ret;exact⟨by rw [<- unhide H];rfl,rfl⟩
 ·have H:=hide (unhide H2 h);clear H1 H2;go_enter Tryz.func19,Tryz.ntmps19;go_wp2;go_ret;exact⟨by rw [<- unhide H];rfl,rfl⟩
end Go.Proofs.YthdjfhnhjiageaaGreatDoor.Own
namespace Go.Proofs.YthdjfhnhjiageaaGreatDoor.Ac
open Go.RowKit Num Fix AcP
theorem heap4 (w:World)(o o2 o3 o4:Obj):((((w.alloc o).alloc o2).alloc o3).alloc o4).heap[w.heap.size]? = some o:=by
 have h1:=(below_alloc (w.alloc o) o2).block w.heap.size (by simp);have h2:=(below_alloc ((w.alloc o).alloc o2) o3).block w.heap.size (by simp;omega);have h3:=(below_alloc (((w.alloc o).alloc o2).alloc o3) o4).block w.heap.size (by simp;omega);rw [h3,h2,h1];exact heap_alloc_new w o
theorem three_other {x:World}{t:Nat}(h:Three x t){a:Addr}(ha:¬a.block=t)(v:Value):Three (x.setCell a v) t:=by
 obtain⟨u0,u1,u2,h⟩:=h;exact⟨u0,u1,u2,by simp [World.setCell,Array.getElem?_modify,h,ha]⟩
theorem own_base {w:World}{B B':Nat}{e:TypeId}{size:Nat}{v:Value}{n:Nat}{xs:List Value}(h:w.ownsRow B e size v n xs)(hb:B'<=B):w.ownsRow B' e size v n xs:=by
 refine⟨h.1,?_⟩;rcases h.2 with h0 | ⟨g,cap,cur,h1,h2,h3⟩
 ·exact .inl h0
 ·exact .inr ⟨g,cap,cur,h1,Nat.le_trans hb h2,h3⟩
theorem trade_ok (id bal:Int)(b off:Nat)(n c:Nat)(pos:List Int)(k:Nat)(q pr fee:Int)(w:World)(hl:pos.length=n)(hn:n<=2)(h:Row w (some ⟨b,off,none⟩) pos)(he:accErr id bal pos n=0)(hm2:k<n)(hq:betw (-1000) q 1000=true)(hp:betw 0 pr 10000=true)
  (s:Int) (ha:addFrom 0 [bal,-(q*pr),wrap64 (-fee)]=(s,0)) (x:Int) (hx:pos.getD k 0=x) (hc:w.cell? ⟨b,off+k,none⟩=some (.int .i64 x)) (hx1:-1000<=x) (hx2:x<=1000) (hg:pos1 (x+q)=true) :
  Calls Tryz.prog 168 #[accV id bal (some ⟨b,off,none⟩) n c,.int .i64 k,.int .i64 q,.int .i64 pr,.int .i64 fee] w fun e w'=>∃v,e=.returned (.tuple #[.agg #[.int .i64 id,.int .i64 s,v],.int .i64 0])/\w'.ownsRow w.heap.size 3 1 v n ((pos.set k (x+q)).map (Value.int .i64))/\Below w.heap.size w w':=by
 have CK:=hide (fun W hW=>check_any id bal (some ⟨b,off,none⟩) n c pos n W hl (by omega) (row_below h hW));have H4:∀o1 o2 o3 o4,((((w.alloc o1).alloc o2).alloc o3).alloc o4).cell? ⟨b,off+k,none⟩=some (.int .i64 x):=fun o1 o2 o3 o4=>cell_alloc (cell_alloc (cell_alloc (cell_alloc hc o1) o2) o3) o4;have CL:=hide (fun W hW=>Own.clone_any (some ⟨b,off,none⟩) n c pos W hl (by omega) (row_below h hW));clear h hc;rw [he] at CK;have WO:=hide (fun W=>worth_yes q pr W hq hp);have ⟨m1,m2⟩:=mul_bd (n:=q) (a:=pr) (by have:=betw_true hq;omega) (by have:=betw_true hp;omega);obtain⟨q1,q2⟩:=betw_true hq;have HA:=hide ha;have HX:=hide hx;have hkz:(k:Int)<n:=by omega
 have HL:=hide hl;clear he hq hp ha hx hl;go_enter Tryz.func168,Tryz.ntmps168;go_wp2_with fail;refine(CK.out _ (below_alloc2 _ _ _)).mono ?_;rintro e W ⟨rfl,rfl⟩;go_wp2_with (first | (go_at_call 165;refine(WO.out _).mono ?_;rintro e w' ⟨rfl,rfl⟩) | fail);refine(add_any _ 3 3 [bal,-(q*pr),wrap64 (-fee)] _ rfl (by decide) (.inr ⟨_,_,rfl,?_⟩)).mono ?_
 ·intro i hi;rw [World.cell?_alloc_at _ _ _ _ (by simp)];match i,hi with
  |0,_=>rfl
  |1,_=>rfl
  |2,_=>rfl
 rintro e w' ⟨rfl,rfl⟩;rw [HA.out];go_wp2_with (first | (go_at_call 111;refine(tooGreat_any _ _).mono ?_;rintro e w' ⟨rfl,rfl⟩;rw [hg]) | fail);refine(CL.out _ (below4 _ _ _ _ _)).mono ?_;rintro e W ⟨v,rfl,own,hb⟩;have BW:=hide ((below4 w _ _ _ _).trans (hb.mono (by simp;omega)));have HB:=hide hb;have TA:=hide ((hb.block w.heap.size (by simp;omega)).trans (heap4 w _ _ _ _));have TR:=hide (three_below (three_alloc (three_alloc (three_made2 _ _ _ _ _) _) _) hb);clear hb CL H4;rcases own.2 with⟨rfl,h0⟩ | ⟨g,cap,cur,rfl,hgb,-,-,-,-,-⟩
 ·omega
 have hgb':w.heap.size+4<=g:=by simpa using hgb
 clear hgb;have OW:=hide own;have c1:W.cell? ⟨g,k,none⟩=some (.int .i64 x):=by
  rw [own.cellAt k (by omega),List.getElem?_map,<- HX.out,List.getD_eq_getElem?_getD,List.getElem?_eq_getElem (by rw [HL.out];exact hm2)];rfl
 have c2:W.frozen? ⟨g,k,none⟩=false:=own.frozenAt k;obtain⟨a0,a1,a2⟩:=three_read TA.out;obtain⟨-,-,-,-,-,-,a3,a4,a5⟩:=three_facts ⟨_,_,_,TA.out⟩;obtain⟨u0,u1,u2,t0,t1,t2,t3,t4,t5⟩:=three_facts TR.out;have n1:¬w.heap.size=g:=by omega
 have n2:¬g=w.heap.size:=by omega
 have n3:¬w.heap.size+1=g:=by omega
 have n4:¬g=w.heap.size+1:=by omega
 clear own;go_wp2;have TY:=three_other (three_other TR.out (a:=⟨w.heap.size,2,none⟩) (by simp) (.slice (some ⟨g,0,none⟩) n cap)) (a:=⟨g,k,none⟩) n4 (.int .i64 (x+q));obtain⟨s0,s1,s2⟩:=three_read (three_set TY (.int .i64 id) (.int .i64 s) (.slice (some ⟨g,0,none⟩) n cap));refine bodyPost_ret (v:=.tuple #[.agg #[.int .i64 id,.int .i64 s,.slice (some ⟨g,0,none⟩) n cap],.int .i64 0]) (by simp [results,Tryz.results168,go_sem,s0,s1,s2]) rfl ⟨_,rfl,?_,?_⟩
 ·have o1:=ownsRow_setCell_below OW.out (a:=⟨w.heap.size,2,none⟩) (by simp;omega) (.slice (some ⟨g,0,none⟩) n cap);have o2:=(o1.stored k (.int .i64 (x+q))).1;rw [<- List.map_set] at o2;exact own_base (ownsRow_setCell_below (ownsRow_setCell_below (ownsRow_setCell_below o2 (by simp) _) (by simp) _) (by simp) _) (by simp;omega)
 ·exact three_below_set ((BW.out.setCell (Nat.le_refl _) _).setCell (by simp;omega) _) (by omega) _ _ _
theorem neg_money {fee:Int}(h:money fee=true):wrap64 (-fee) = -fee:=by
 have:=money_true h;unfold wrap64;omega
theorem neg_not {fee:Int}(h1:-9223372036854775808<=fee)(h2:fee<=9223372036854775807)(h:money fee=false):money (wrap64 (-fee))=false:=by
 have:=money_false h;apply money_no;unfold wrap64;omega
theorem add3_full {bal co nf:Int}(h1:money bal=true)(h2:money (-co)=true)(h3:money (bal - co)=false):addFrom 0 [bal,-co,nf]=(0,7):=by
 rw [addFrom_on h1 (by rw [Int.zero_add];exact h1),Int.zero_add,addFrom_full h2 (by rw [<- Int.sub_eq_add_neg];exact h3)]
theorem add3_range {bal co nf:Int}(h1:money bal=true)(h2:money (-co)=true)(h3:money (bal - co)=true)(h4:money nf=false):addFrom 0 [bal,-co,nf]=(0,3):=by
 rw [addFrom_on h1 (by rw [Int.zero_add];exact h1),Int.zero_add,addFrom_on h2 (by rw [<- Int.sub_eq_add_neg];exact h3),addFrom_range h4]
theorem add3_full2 {bal co nf:Int}(h1:money bal=true)(h2:money (-co)=true)(h3:money (bal - co)=true)(h4:money nf=true)(h5:money (bal - co+nf)=false):addFrom 0 [bal,-co,nf]=(0,7):=by
 rw [addFrom_on h1 (by rw [Int.zero_add];exact h1),Int.zero_add,addFrom_on h2 (by rw [<- Int.sub_eq_add_neg];exact h3),<- Int.sub_eq_add_neg,addFrom_full h4 h5]
theorem add3_ok {bal co nf:Int}(h1:money bal=true)(h2:money (-co)=true)(h3:money (bal - co)=true)(h4:money nf=true)(h5:money (bal - co+nf)=true):addFrom 0 [bal,-co,nf]=(bal - co+nf,0):=by
 rw [addFrom_on h1 (by rw [Int.zero_add];exact h1),Int.zero_add,addFrom_on h2 (by rw [<- Int.sub_eq_add_neg];exact h3),<- Int.sub_eq_add_neg,addFrom_on h4 h5,addFrom_nil]
theorem cost_money {q p:Int}(hq:betw (-1000) q 1000=true)(hp:betw 0 p 10000=true):money (-(q*p))=true:=by
 have h1:=betw_true hq;have h2:=betw_true hp;have e1:q*p<=1000*p:=Int.mul_le_mul_of_nonneg_right h1.2 h2.1;have e2:-1000*p<=q*p:=Int.mul_le_mul_of_nonneg_right h1.1 h2.1;exact money_mk (by omega)
theorem row_at {w:World}{p:Option Addr}{pos:List Int}(h:Row w p pos){k:Nat}(hk:k<pos.length):∃b off,p=some ⟨b,off,none⟩/\w.cell? ⟨b,off+k,none⟩=some (.int .i64 (pos.getD k 0)):=by
 rcases h with rfl | ⟨b,off,rfl,hc⟩
 ·simp at hk
 ·exact⟨b,off,rfl,hc k hk⟩
theorem trade_bad (id bal:Int)(p:Option Addr)(n c:Nat)(pos:List Int)(mk q pr fee:Int)(w:World)(hl:pos.length=n)(hn:n<=140737488351232)(h:Row w p pos)(f1:-9223372036854775808<=fee)(f2:fee<=9223372036854775807)
  (he:¬tradeErr id bal pos mk q pr fee=0) :
  Calls Tryz.prog 168 #[accV id bal p n c,.int .i64 mk,.int .i64 q,.int .i64 pr,.int .i64 fee] w fun e w'=>e=.returned (.tuple #[noA,.int .i64 (tradeErr id bal pos mk q pr fee)])/\Below w.heap.size w w':=by
 unfold tradeErr at he ⊢;rw [hl] at he ⊢;split at he
 next h1 =>
  rw [if_pos h1];obtain⟨a1,a2,a3,a4,a5⟩:=accErr_ok h1;split at he
  next h2 =>
   rw [if_pos h2];obtain⟨k,rfl⟩:∃k:Nat,mk=k:=⟨mk.toNat,by omega⟩;have hk:k<n:=by omega
   split at he
   next h3 =>
    rw [if_pos h3];have hco:=cost_money h3.1 h3.2;split at he
    next h4 =>
     rw [if_pos h4];split at he
     next h5 =>
      rw [if_pos h5];split at he
      next h6 =>
       rw [if_pos h6];split at he
       next h7=>exact absurd rfl he
       next h7 =>
        rw [if_neg h7];obtain⟨b,off,rfl,hc⟩:=row_at h (k:=k) (by omega);have hx:=betw_true (all_get a5 (k:=k) (by omega));refine trade_b5 id bal b off n c pos k q pr fee w hl hn h h1 hk h3.1 h3.2 (bal - q*pr - fee) ?_ _ rfl hc hx.1 hx.2 ?_
        ·rw [neg_money h5,add3_ok a4 hco h4 (by have:=money_true h5;exact money_mk (by omega)) (by rw [<- Int.sub_eq_add_neg];exact h6),<- Int.sub_eq_add_neg]
        ·simpa using h7
      next h6 =>
       rw [if_neg h6];refine trade_b4 id bal p n c pos k q pr fee w hl hn h h1 (by omega) (by omega) h3.1 h3.2 0 7 ?_ (by decide);rw [neg_money h5];exact add3_full2 a4 hco h4 (by have:=money_true h5;exact money_mk (by omega)) (by rw [<- Int.sub_eq_add_neg];simpa using h6)
     next h5 =>
      rw [if_neg h5];refine trade_b4 id bal p n c pos k q pr fee w hl hn h h1 (by omega) (by omega) h3.1 h3.2 0 3 ?_ (by decide);exact add3_range a4 hco h4 (neg_not f1 f2 (by simpa using h5))
    next h4 =>
     rw [if_neg h4];refine trade_b4 id bal p n c pos k q pr fee w hl hn h h1 (by omega) (by omega) h3.1 h3.2 0 7 ?_ (by decide);exact add3_full a4 hco (by simpa using h4)
   next h3 =>
    rw [if_neg h3];refine trade_b3 id bal p n c pos k q pr fee w hl hn h h1 (by omega) (by omega) ?_
    cases e1:betw (-1000) q 1000
    ·exact .inl rfl
    ·cases e2:betw 0 pr 10000
     ·exact .inr rfl
     ·exact absurd ⟨e1,e2⟩ h3
  next h2 =>
   rw [if_neg h2];exact trade_b2 id bal p n c pos mk q pr fee w hl hn h h1 (by omega)
 next h1 =>
  rw [if_neg h1];exact trade_b1 id bal p n c pos mk q pr fee w hl hn h h1
theorem trade_good (id bal:Int)(p:Option Addr)(n c:Nat)(pos:List Int)(mk q pr fee:Int)(w:World)(hl:pos.length=n)(h:Row w p pos)
  (he:tradeErr id bal pos mk q pr fee=0) :
  Calls Tryz.prog 168 #[accV id bal p n c,.int .i64 mk,.int .i64 q,.int .i64 pr,.int .i64 fee] w fun e w'=>∃v,e=.returned (.tuple #[.agg #[.int .i64 id,.int .i64 (bal - q*pr - fee),v],.int .i64 0])/\w'.ownsRow w.heap.size 3 1 v n ((pos.set mk.toNat (pos.getD mk.toNat 0+q)).map (Value.int .i64))/\Below w.heap.size w w':=by
 obtain⟨h1,h2,h3,h3',h4,h5,h6,h7⟩:=tradeErr_ok he;obtain⟨a1,a2,a3,a4,a5⟩:=accErr_ok h1;rw [hl] at h1 a2 h2;have:=betw_true a2;obtain⟨k,rfl⟩:∃k:Nat,mk=k:=⟨mk.toNat,by omega⟩;simp only [Int.toNat_natCast] at h7 ⊢;have hk:k<n:=by omega
 obtain⟨b,off,rfl,hc⟩:=row_at h (k:=k) (by omega);have hx:=betw_true (all_get a5 (k:=k) (by omega));refine trade_ok id bal b off n c pos k q pr fee w hl (by omega) h h1 hk h3 h3' (bal - q*pr - fee) ?_ _ rfl hc hx.1 hx.2 h7;rw [neg_money h5,add3_ok a4 (cost_money h3 h3') h4 (by have:=money_true h5;exact money_mk (by omega)) (by rw [<- Int.sub_eq_add_neg];exact h6),<- Int.sub_eq_add_neg]
def eqFrom (L ps ms:List Int):Int × Int :=
 match worths ps ms with
 |none=>(0,3)
 |some l=>addFrom 0 (L++l)
theorem eqFrom_on {L ps ms:List Int}{p m:Int}(hp:betw (-1000) p 1000=true)(hm:betw 0 m 10000=true):eqFrom L (p::ps) (m::ms)=eqFrom (L++[p*m]) ps ms:=by
 unfold eqFrom;simp only [worths,hp,hm,and_self,if_true]
 cases worths ps ms with
 |none=>rfl
 |some l=>simp
theorem eqFrom_bad {L ps ms:List Int}{p m:Int}(h:betw (-1000) p 1000=false\/betw 0 m 10000=false):eqFrom L (p::ps) (m::ms)=(0,3):=by
 unfold eqFrom;simp only [worths];rcases h with h | h<;>simp [h]
theorem eqFrom_end {L ms:List Int}:eqFrom L [] ms=addFrom 0 L:=by
 unfold eqFrom;simp [worths]
theorem cell_grown {w w':World}{v:Value}{B:Nat}{e:TypeId}{size n:Nat}{xs:List Value}(h:w.ownsRow B e size v n xs)(hg:w.grownBy w' v.ownBlock){a:Addr}{u:Value}(hc:w.cell? a=some u)(hB:a.block<B):w'.cell? a=some u :=
 hg.cell hc (fun he=>by have:=(h.lt _ he.symm).1;omega)
theorem one_new (w:World)(n:Int)(j:Nat)(u:Value)(h:[Value.int .i64 n][j]? = some u):(w.alloc (.cells #[.int .i64 n] 3)).cell? ((⟨w.heap.size,0,none⟩:Addr).add j)=some u:=by
 match j,h with
 |0,h =>
  rw [show ((⟨w.heap.size,0,none⟩:Addr).add 0) = ⟨w.heap.size,0,none⟩ from rfl,World.cell?_alloc_at _ _ _ _ (by simp)];simpa using h
 |k+1,h=>simp at h
theorem one_cell (n:Int):∀u∈[Value.int .i64 n],u.oneCell'=true:=by
 intro u hu;simp at hu;subst hu;rfl
theorem new_cell (w:World)(cs:Array Value)(t:TypeId)(i:Nat)(v:Value)(h:cs[i]? = some v):(w.alloc (.cells cs t)).cell? ⟨w.heap.size,i,none⟩=some v:=by
 rw [World.cell?_alloc_at _ _ _ _ (by simp)];exact h
theorem equity_in (id bal:Int)(b off b2 off2:Nat)(n c c2:Nat)(pos marks:List Int)(w:World)(hl:pos.length=n)(hl2:marks.length=n)(hn:n<=2)
  (h:∀i,i<pos.length->w.cell? ⟨b,off+i,none⟩=some (.int .i64 (pos.getD i 0))) (h':∀i,i<marks.length->w.cell? ⟨b2,off2+i,none⟩=some (.int .i64 (marks.getD i 0))) (he:accErr id bal pos n=0) :
  Calls Tryz.prog 176 #[accV id bal (some ⟨b,off,none⟩) n c,.slice (some ⟨b2,off2,none⟩) n c2] w fun e w'=>e=.returned (.tuple #[.int .i64 (eqFrom [bal] pos marks).1,.int .i64 (eqFrom [bal] pos marks).2])/\Below w.heap.size w w':=by
 obtain⟨i0,hi,hz0,hz1,hz2⟩:=info_parts (show (Tryz.prog.info? 3).map (fun i=>(i.zero,i.size,i.bytes))=some (some (.int .i64 0),1,8) by kernel_rfl);have CK:=hide (fun W hW=>check_any id bal (some ⟨b,off,none⟩) n c pos n W hl (by omega) (row_below (.inr ⟨b,off,rfl,h⟩) hW));rw [he] at CK;clear he;generalize hT:eqFrom [bal] pos marks=T;have T0:Hid (eqFrom [bal] (pos.drop 0) (marks.drop 0)=T):=hT;have HC:=hide h;have HC2:=hide h';have HL:=hide hl;have HL2:=hide hl2;clear h h' hT hl hl2;go_enter Tryz.func176,Tryz.ntmps176;go_wp2_with fail;refine(CK.out _ (below_alloc w _)).mono ?_;rintro e W ⟨rfl,rfl⟩;go_wp2
 go_loopw [7,24] (fun v i wr=>∃(k:Nat) (L:List Int),k<=n/\i=.int .i64 k/\Hid (wr.ownsRow (w.heap.size+2) 3 1 v (k+1) (L.map (Value.int .i64)))/\Hid (Below w.heap.size w wr)/\wr.cell? ⟨w.heap.size,2,none⟩=some (.slice (some ⟨b,off,none⟩) n c)/\Hid (w.heap.size+2<=wr.heap.size)/\Hid (eqFrom L (pos.drop k) (marks.drop k)=T)) (fun _ i _=>n - (intOf i).toNat)
 case atStart =>
  refine⟨0,[bal],Nat.zero_le _,rfl,?_,below3 _ _ _ _,?_,?_,T0⟩
  ·have:=World.ownsRow_lit (base:=w.heap.size+2) (e:=3) (size:=1) ((w.alloc (accO id bal (some ⟨b,off,none⟩) n c)).alloc (accO id bal (some ⟨b,off,none⟩) n c)) #[.int .i64 bal] 1 (by simp) (by decide) rfl;exact hide (by simpa using this)
  ·exact cell_alloc (cell_alloc (new_cell w _ _ 2 _ rfl) _) _
  ·show _<=_;simp
 case round =>
  obtain⟨k,L,hk,rfl,OW,BW,hbox,SZ,R⟩:=hrel;by_cases hlt:k<n
  ·have hltz:(k:Int)<(n:Int):=by omega
   have hkx:k<pos.length:=by rw [HL.out];exact hlt
   have hky:k<marks.length:=by rw [HL2.out];exact hlt
   have c0:=(BW.out.cell (World.block_lt_of_cell? _ _ (HC.out k hkx))).trans (HC.out k hkx);have c1:=(BW.out.cell (World.block_lt_of_cell? _ _ (HC2.out k hky))).trans (HC2.out k hky);have RR:=R.out;rw [drop_get pos k hkx,drop_get marks k hky] at RR;have R':=hide RR;clear RR R T0;generalize pos.getD k 0=x at c0 R';generalize marks.getD k 0=m at c1 R';by_cases hw:betw (-1000) x 1000=true/\betw 0 m 10000=true
   ·have WO:=hide (fun W=>worth_yes x m W hw.1 hw.2);have ON:=hide ((eqFrom_on hw.1 hw.2).symm.trans R'.out);clear R' hw;have NW:=hide (one_new wr (x*m));have SZ1:Hid (w.heap.size+2<=(wr.alloc (.cells #[.int .i64 (x*m)] 3)).heap.size):=by
     have:=SZ.out;show _<=_;simp;omega
    go_wp2_with (first | (go_at_call 165;refine(WO.out _).mono ?_;rintro e w' ⟨rfl,hw'⟩;rw [hw'];clear hw') | (at_builtin;refine wpList_append_own _ rfl (.tmp 42) (.tmp 44) 87 rfl (w.heap.size+2) 3 i0 (.int .i64 0) 1 8 Tryz.underlying87 hi hz0 hz1 hz2 rfl (by decide) u7 (k+1) (L.map (Value.int .i64)) rfl (OW.out.alloc _) ⟨wr.heap.size,0,none⟩ 1 1 [.int .i64 (x*m)] rfl rfl NW.out (one_cell _) (by unfold maxLen;omega) (by omega) SZ1.out ?_;intro v' w1 hown1 hgrow1 hnil1;clear hnil1));have B1:=((BW.out.alloc BW.out.size (.cells #[.int .i64 (x*m)] 3)).grown hgrow1 (by have:=BW.out.size;simp;omega) (fun j hj=>by have:=(OW.out.lt _ hj).1;omega));have hb1:=cell_grown (OW.out.alloc _) hgrow1 (cell_alloc hbox (.cells #[.int .i64 (x*m)] 3)) (by simp);go_roundw
    case rel =>
     refine⟨k+1,L++[x*m],by omega,by go_num,?_,B1,hb1,Nat.le_trans SZ1.out hgrow1.size,ON⟩;show World.ownsRow _ _ _ _ _ _ _;rw [List.map_append];exact hown1
    case measure=>simp [intOf];omega
   ·have hw':betw (-1000) x 1000=false\/betw 0 m 10000=false:=by
     cases e1:betw (-1000) x 1000
     ·exact .inl rfl
     ·cases e2:betw 0 m 10000
      ·exact .inr rfl
      ·exact absurd ⟨e1,e2⟩ hw
    have WO:=hide (fun W=>worth_no x m W hw');have ON:=hide ((eqFrom_bad hw').symm.trans R'.out);clear R' hw hw';go_wp2_with (go_at_call 165;refine(WO.out _).mono ?_;rintro e w' ⟨rfl,hw'⟩;rw [hw'];clear hw');go_ret2;rw [<- ON.out];exact⟨rfl,BW.out⟩
  ·have hkn:k=n:=by omega
   subst hkn;have ON:Hid (addFrom 0 L=T):=by
    have:=R.out;rw [List.drop_eq_nil_of_le (by have:=HL.out;omega),eqFrom_end] at this;exact this
   have AD:=hide (Own.add_own _ _ _ _ L _ OW.out);clear R T0;go_wp2_with fail;refine AD.out.mono ?_;rintro e w' ⟨rfl,hw'⟩;rw [hw'];clear hw';rw [ON.out];go_wp2;go_ret2;exact⟨rfl,BW.out⟩
theorem equity_err (id bal:Int)(p p2:Option Addr)(n c n2 c2:Nat)(pos:List Int)(w:World)(hl:pos.length=n)(hn:n<=140737488351232)(h:Row w p pos)(he:¬accErr id bal pos n2=0) :
  Calls Tryz.prog 176 #[accV id bal p n c,.slice p2 n2 c2] w fun e w'=>e=.returned (.tuple #[.int .i64 0,.int .i64 (accErr id bal pos n2)])/\Below w.heap.size w w':=by
 have CK:=hide (fun W hW=>check_any id bal p n c pos n2 W hl hn (row_below h hW));clear h;generalize accErr id bal pos n2=r at he CK ⊢;go_enter Tryz.func176,Tryz.ntmps176;go_wp2_with fail;refine(CK.out _ (below_alloc w _)).mono ?_;rintro e W ⟨rfl,rfl⟩;go_wp2;go_ret2;exact⟨rfl,below_alloc2 _ _ _⟩
theorem equity_any (id bal:Int)(p p2:Option Addr)(n c n2 c2:Nat)(pos marks:List Int)(w:World)(hl:pos.length=n)(hl2:marks.length=n2)(hn:n<=140737488351232)(h:Row w p pos)(h':Row w p2 marks) :
  Calls Tryz.prog 176 #[accV id bal p n c,.slice p2 n2 c2] w fun e w'=>e=.returned (.tuple #[.int .i64 (equityR id bal pos marks).1,.int .i64 (equityR id bal pos marks).2])/\Below w.heap.size w w':=by
 unfold equityR;rw [hl2];by_cases he:accErr id bal pos n2=0
 ·rw [if_pos he];obtain⟨a1,a2,a3,a4,a5⟩:=accErr_ok he;have hb:=betw_true a2;have:n2=n:=by omega
  subst this;rcases h with rfl | ⟨b,off,rfl,hc⟩
  ·simp at hl;omega
  rcases h' with rfl | ⟨b2,off2,rfl,hc2⟩
  ·simp at hl2;omega
  exact equity_in id bal b off b2 off2 n2 c c2 pos marks w hl hl2 (by omega) hc hc2 he
 ·rw [if_neg he];exact equity_err id bal p p2 n c n2 c2 pos w hl hn h he
theorem fee_part {q p:Int}(hq:betw (-1000) q 1000=true)(hp:betw 0 p 10000=true):partR (max (q*p) (-(q*p))) 5 10000 true=feeR q p:=by
 have h1:=money_true (cost_money hq hp);unfold partR;rw [if_pos ⟨money_mk (by omega),by decide,by decide⟩];have:money (divUp (max (q*p) (-(q*p))*5) 10000 true)=true:=by
  apply money_mk;unfold divUp;rw [if_pos rfl];omega
 rw [if_pos this];unfold feeR;rw [if_pos ⟨hq,hp⟩]
theorem fee_any (q p:Int)(w:World) :
  Calls Tryz.prog 124 #[.int .i64 q,.int .i64 p] w fun e w'=>e=.returned (.tuple #[.int .i64 (feeR q p).1,.int .i64 (feeR q p).2])/\∃k,w'=w.drewN k:=by
 by_cases h:betw (-1000) q 1000=true/\betw 0 p 10000=true;focus
  have FP:=hide (fee_part h.1 h.2);have WO:=hide (fun W=>worth_yes q p W h.1 h.2);have ⟨m1,m2⟩:=mul_bd (n:=q) (a:=p) (by have:=betw_true h.1;omega) (by have:=betw_true h.2;omega);clear h;generalize q*p=co at FP WO m1 m2;generalize feeR q p=T at FP ⊢
 rotate_left;focus
  have hno:betw (-1000) q 1000=false\/betw 0 p 10000=false:=by
   cases e1:betw (-1000) q 1000
   ·exact .inl rfl
   ·cases e2:betw 0 p 10000
    ·exact .inr rfl
    ·exact absurd ⟨e1,e2⟩ h
  have WO:=hide (fun W=>worth_no q p W hno);rw [show feeR q p=(0,3) from by unfold feeR;rw [if_neg h]];clear h hno
 rotate_left;all_goals
  go_enter Tryz.func124,Tryz.ntmps124;go_wp2_with (go_at_call 165;refine(WO.out _).mono ?_;rintro e w' ⟨rfl,rfl⟩)
 ·refine(part_any _ _ _ _ _).mono ?_;rintro e w2 ⟨rfl,kk,rfl⟩;rw [FP.out];go_wp2;go_ret2;exact⟨rfl,_,rfl⟩
 ·go_ret2;exact⟨rfl,0,rfl⟩
theorem own_slice {w:World}{B:Nat}{v:Value}{n:Nat}{xs:List Int}(h:w.ownsRow B 3 1 v n (xs.map (Value.int .i64)))(h0:0<n):∃g cap,v=.slice (some ⟨g,0,none⟩) n cap/\B<=g/\g<w.heap.size:=by
 rcases h.2 with⟨rfl,h1⟩ | ⟨g,cap,cur,rfl,hb,hg,-⟩
 ·omega
 ·exact⟨g,cap,rfl,hb,(Array.getElem?_eq_some_iff.1 hg).1⟩
theorem own_cell {w:World}{B g cap:Nat}{n:Nat}{xs:List Int}(h:w.ownsRow B 3 1 (.slice (some ⟨g,0,none⟩) n cap) n (xs.map (Value.int .i64))){k:Nat}(hk:k<n):w.cell? ⟨g,k,none⟩=some (.int .i64 (xs.getD k 0)):=by
 have hl:xs.length=n:=by simpa using h.1
 rw [h.cellAt k (by omega),List.getElem?_map,List.getD_eq_getElem?_getD,List.getElem?_eq_getElem (by omega)];rfl
theorem own_row {w:World}{B g cap:Nat}{n:Nat}{xs:List Int}(h:w.ownsRow B 3 1 (.slice (some ⟨g,0,none⟩) n cap) n (xs.map (Value.int .i64))):Row w (some ⟨g,0,none⟩) xs:=by
 have hl:xs.length=n:=by simpa using h.1
 refine .inr ⟨g,0,rfl,fun i hi=>?_⟩;rw [Nat.zero_add];exact own_cell h (by omega)
end Go.Proofs.YthdjfhnhjiageaaGreatDoor.Ac
