/-
  Package account by contracts: Trade, where it is done.
-/
import Derived.Test.YtpkbiafhnflmnaaGreatDoorS01
import Derived.Test.YtpkbiafhnflmnaaGreatDoorS03
import Derived.Laws.OwnMore
import Derived.Laws.AppendOwnNone
import Derived.Test.YtpkbiafhnflmnaaGreatDoorS02
namespace Go.Proofs.YtpkbiafhnflmnaaGreatDoor.Own
open Go.RowKit Go.Proofs.YtpkbiafhnflmnaaGreatDoor.Num Go.Proofs.YtpkbiafhnflmnaaGreatDoor.Fix
/-- what is owned, as it is read. -/
theorem row_own {w:World} {B:Nat} {t:TypeId} {v:Value} {n:Nat} {xs:List Int} (h:w.ownsRow B t 1 v n (xs.map (Value.int .i64))) :
  xs.length=n /\ ∃ a cap,v=.slice a n cap /\ n<=maxLen /\ Row w a xs:=by
 have hl:xs.length=n:=by simpa using h.1
 refine ⟨hl,?_⟩
 rcases h.2 with ⟨rfl,rfl⟩ | ⟨g,cap,cur,rfl,hb,hg,hn,hm,hs,ht⟩
 ·exact ⟨none,0,rfl,Nat.zero_le _,.inl (List.eq_nil_of_length_eq_zero hl)⟩
 ·refine ⟨some ⟨g,0,none⟩,cap,rfl,by omega,.inr ⟨g,0,rfl,fun i hi=>?_⟩⟩
  have:=h.cellAt i (by omega)
  rw [Nat.zero_add,this]; simp [hi]
theorem add_own (B:Nat) (t:TypeId) (v:Value) (n:Nat) (xs:List Int) (w:World) (h:w.ownsRow B t 1 v n (xs.map (Value.int .i64))) :
  Calls Tryz.prog 61 #[v] w fun e w'=>e=.returned (.tuple #[.int .i64 (addFrom 0 xs).1,.int .i64 (addFrom 0 xs).2]) /\ w'=w:=by
 obtain ⟨hl,a,cap,rfl,hm,hr⟩:=row_own h; exact add_any a n cap xs w hl hm hr
theorem clone_any (a:Option Addr) (len cap:Nat) (xs:List Int) (w:World) (hl:xs.length=len) (hm:len * 8<=140737488355328) (hr:Row w a xs) :
  Calls Tryz.prog 63 #[.slice a len cap] w fun e w'=>∃ v,e=.returned v /\ w'.ownsRow w.heap.size 3 1 v len (xs.map (Value.int .i64)) /\ Below w.heap.size w w':=by
 subst hl
 rcases hr with rfl | ⟨b,off,rfl,hc⟩
 ·cases a with
  |none =>
   refine (Tryz.slices_Clone_int_nil _ _ _).mono ?_
   rintro e w' ⟨rfl,rfl⟩
   exact ⟨_,rfl,World.ownsRow_nil _ _ _ _,Below.refl _ _⟩
  |some a =>
   refine (Tryz.slices_Clone_int_zero a cap w).mono ?_
   rintro e w' ⟨v,rfl,ho,-,hb⟩
   exact ⟨_,rfl,ho,hb⟩
 ·refine (Tryz.slices_Clone_int b off _ cap xs w (Nat.le_refl _) hm hc).mono ?_
  rintro e w' ⟨v,rfl,ho,-,hb⟩
  rw [List.take_length] at ho; exact ⟨_,rfl,ho,hb⟩
theorem at_bd (k n:Int) (hn:1<=n):0<=k % n /\ k % n < n:=⟨Int.emod_nonneg _ (by omega),Int.emod_lt_of_pos _ (by omega)⟩
theorem at_way {k n:Int} (hn:1<=n):(k.tmod n < 0->k.tmod n + n=k % n) /\ (¬ k.tmod n < 0->k.tmod n=k % n):=by
 have e:=Int.mul_tdiv_add_tmod k n
 have l:=Int.tmod_lt_of_pos k (b:=n) (by omega)
 have g:=Int.lt_tmod_of_pos k (b:=n) (by omega)
 constructor
 ·intro m
  have:=((Int.ediv_emod_unique (a:=k) (b:=n) (r:=k.tmod n + n) (q:=k.tdiv n - 1) (by omega)).2 ⟨by rw [Int.mul_sub]; omega,by omega,by omega⟩).2
  exact this.symm
 ·intro m
  have:=((Int.ediv_emod_unique (a:=k) (b:=n) (r:=k.tmod n) (q:=k.tdiv n) (by omega)).2 ⟨by omega,by omega,by omega⟩).2
  exact this.symm
theorem at_any (k n:Int) (w:World) (hn:1<=n) (hn2:n<=1000000000000000) :
  Calls Tryz.prog 32 #[.int .i64 k,.int .i64 n] w fun e w'=>e=.returned (.int .i64 (k % n)) /\ w'=w:=by
 have H1:=hide (at_way (k:=k) hn).1; have H2:=hide (at_way (k:=k) hn).2
 have l:=Int.tmod_lt_of_pos k (b:=n) (by omega)
 have g:=Int.lt_tmod_of_pos k (b:=n) (by omega)
 have hz:(n == 0)=false:=by simp; omega
 by_cases h:k.tmod n < 0
 ·have H:=hide (unhide H1 h)
  clear H1 H2
  go_enter Tryz.func32,Tryz.ntmps32
  go_wp2
  go_ret
  exact ⟨by rw [<- unhide H]; rfl,rfl⟩
 ·have H:=hide (unhide H2 h)
  clear H1 H2
  go_enter Tryz.func32,Tryz.ntmps32
  go_wp2
  go_ret
  exact ⟨by rw [<- unhide H]; rfl,rfl⟩
end Go.Proofs.YtpkbiafhnflmnaaGreatDoor.Own
namespace Go.Proofs.YtpkbiafhnflmnaaGreatDoor.Ac
open Go.RowKit Go.Proofs.YtpkbiafhnflmnaaGreatDoor.Num Go.Proofs.YtpkbiafhnflmnaaGreatDoor.Fix Go.Proofs.YtpkbiafhnflmnaaGreatDoor.AcP
theorem heap4 (w:World) (o o2 o3 o4:Obj):((((w.alloc o).alloc o2).alloc o3).alloc o4).heap[w.heap.size]? = some o:=by
 have h1:=(below_alloc (w.alloc o) o2).block w.heap.size (by simp)
 have h2:=(below_alloc ((w.alloc o).alloc o2) o3).block w.heap.size (by simp; omega)
 have h3:=(below_alloc (((w.alloc o).alloc o2).alloc o3) o4).block w.heap.size (by simp; omega)
 rw [h3,h2,h1]; exact heap_alloc_new w o
theorem three_other {x:World} {t:Nat} (h:Three x t) {a:Addr} (ha:¬ a.block=t) (v:Value):Three (x.setCell a v) t:=by
 obtain ⟨u0,u1,u2,h⟩:=h
 exact ⟨u0,u1,u2,by simp [World.setCell,Array.getElem?_modify,h,ha]⟩
theorem own_base {w:World} {B B':Nat} {e:TypeId} {size:Nat} {v:Value} {n:Nat} {xs:List Value} (h:w.ownsRow B e size v n xs) (hb:B'<=B):w.ownsRow B' e size v n xs:=by
 refine ⟨h.1,?_⟩
 rcases h.2 with h0 | ⟨g,cap,cur,h1,h2,h3⟩
 ·exact .inl h0
 ·exact .inr ⟨g,cap,cur,h1,Nat.le_trans hb h2,h3⟩
set_option maxHeartbeats 2000000 in
set_option maxRecDepth 100000 in
theorem trade_ok (id bal:Int) (b off:Nat) (n c:Nat) (pos:List Int) (k:Nat) (q pr fee:Int) (w:World) (hl:pos.length=n) (hn:n<=2) (h:Row w (some ⟨b,off,none⟩) pos) (he:accErr id bal pos n=0) (hm2:k < n) (hq:betw (-1000) q 1000=true) (hp:betw 0 pr 10000=true)
  (s:Int) (ha:addFrom 0 [bal,-(q * pr),wrap64 (-fee)]=(s,0)) (x:Int) (hx:pos.getD k 0=x) (hc:w.cell? ⟨b,off + k,none⟩ = some (.int .i64 x)) (hx1:-1000<=x) (hx2:x<=1000) (hg:pos1 (x + q)=true) :
  Calls Tryz.prog 21 #[accV id bal (some ⟨b,off,none⟩) n c,.int .i64 k,.int .i64 q,.int .i64 pr,.int .i64 fee] w fun e w'=>∃ v,e=.returned (.tuple #[.agg #[.int .i64 id,.int .i64 s,v],.int .i64 0]) /\ w'.ownsRow w.heap.size 3 1 v n ((pos.set k (x + q)).map (Value.int .i64)) /\ Below w.heap.size w w':=by
 have CK:=hide (fun W hW=>check_any id bal (some ⟨b,off,none⟩) n c pos n W hl (by omega) (row_below h hW))
 have H4:∀ o1 o2 o3 o4,((((w.alloc o1).alloc o2).alloc o3).alloc o4).cell? ⟨b,off + k,none⟩ = some (.int .i64 x):=fun o1 o2 o3 o4=>cell_alloc (cell_alloc (cell_alloc (cell_alloc hc o1) o2) o3) o4
 have CL:=hide (fun W hW=>Own.clone_any (some ⟨b,off,none⟩) n c pos W hl (by omega) (row_below h hW))
 clear h hc; rw [he] at CK
 have WO:=hide (fun W=>worth_yes q pr W hq hp)
 have ⟨m1,m2⟩:=mul_bd (n:=q) (a:=pr) (by have:=betw_true hq; omega) (by have:=betw_true hp; omega)
 obtain ⟨q1,q2⟩:=betw_true hq; have HA:=hide ha; have HX:=hide hx
 have hkz:(k:Int) < n:=by omega
 have HL:=hide hl; clear he hq hp ha hx hl
 go_enter Tryz.func21,Tryz.ntmps21
 go_wp2_with fail
 refine (CK.out _ (below_alloc2 _ _ _)).mono ?_
 rintro e W ⟨rfl,rfl⟩
 go_wp2_with (first | (go_at_call 60; refine (WO.out _).mono ?_; rintro e w' ⟨rfl,rfl⟩) | fail)
 refine (add_any _ 3 3 [bal,-(q * pr),wrap64 (-fee)] _ rfl (by decide) (.inr ⟨_,_,rfl,?_⟩)).mono ?_
 ·intro i hi
  rw [World.cell?_alloc_at _ _ _ _ (by simp)]
  match i,hi with
  |0,_=>rfl
  |1,_=>rfl
  |2,_=>rfl
 rintro e w' ⟨rfl,rfl⟩
 rw [HA.out]
 go_wp2_with (first | (go_at_call 62; refine (tooGreat_any _ _).mono ?_; rintro e w' ⟨rfl,rfl⟩; rw [hg]) | fail)
 refine (CL.out _ (below4 _ _ _ _ _)).mono ?_
 rintro e W ⟨v,rfl,own,hb⟩
 have BW:=hide ((below4 w _ _ _ _).trans (hb.mono (by simp; omega)))
 have HB:=hide hb
 have TA:=hide ((hb.block w.heap.size (by simp; omega)).trans (heap4 w _ _ _ _))
 have TR:=hide (three_below (three_alloc (three_alloc (three_made2 _ _ _ _ _) _) _) hb); clear hb CL H4
 rcases own.2 with ⟨rfl,h0⟩ | ⟨g,cap,cur,rfl,hgb,-,-,-,-,-⟩
 ·omega
 have hgb':w.heap.size + 4<=g:=by simpa using hgb
 clear hgb; have OW:=hide own
 have c1:W.cell? ⟨g,k,none⟩ = some (.int .i64 x):=by
  rw [own.cellAt k (by omega),List.getElem?_map,<- HX.out,List.getD_eq_getElem?_getD,List.getElem?_eq_getElem (by rw [HL.out]; exact hm2)]
  rfl
 have c2:W.frozen? ⟨g,k,none⟩ = false:=own.frozenAt k; obtain ⟨a0,a1,a2⟩:=three_read TA.out; obtain ⟨-,-,-,-,-,-,a3,a4,a5⟩:=three_facts ⟨_,_,_,TA.out⟩; obtain ⟨u0,u1,u2,t0,t1,t2,t3,t4,t5⟩:=three_facts TR.out
 have n1:¬ w.heap.size=g:=by omega
 have n2:¬ g=w.heap.size:=by omega
 have n3:¬ w.heap.size + 1=g:=by omega
 have n4:¬ g=w.heap.size + 1:=by omega
 clear own
 go_wp2
 have TY:=three_other (three_other TR.out (a:=⟨w.heap.size,2,none⟩) (by simp) (.slice (some ⟨g,0,none⟩) n cap)) (a:=⟨g,k,none⟩) n4 (.int .i64 (x + q))
 obtain ⟨s0,s1,s2⟩:=three_read (three_set TY (.int .i64 id) (.int .i64 s) (.slice (some ⟨g,0,none⟩) n cap))
 refine bodyPost_ret (v:=.tuple #[.agg #[.int .i64 id,.int .i64 s,.slice (some ⟨g,0,none⟩) n cap],.int .i64 0]) (by simp [results,Tryz.results21,go_sem,s0,s1,s2]) rfl ⟨_,rfl,?_,?_⟩
 ·have o1:=ownsRow_setCell_below OW.out (a:=⟨w.heap.size,2,none⟩) (by simp; omega) (.slice (some ⟨g,0,none⟩) n cap)
  have o2:=(o1.stored k (.int .i64 (x + q))).1; rw [<- List.map_set] at o2
  exact own_base (ownsRow_setCell_below (ownsRow_setCell_below (ownsRow_setCell_below o2 (by simp) _) (by simp) _) (by simp) _) (by simp; omega)
 ·exact three_below_set ((BW.out.setCell (Nat.le_refl _) _).setCell (by simp; omega) _) (by omega) _ _ _
theorem neg_money {fee:Int} (h:money fee=true):wrap64 (-fee) = -fee:=by
 have:=money_true h
 unfold wrap64; omega
theorem neg_not {fee:Int} (h1:-9223372036854775808<=fee) (h2:fee<=9223372036854775807) (h:money fee=false):money (wrap64 (-fee))=false:=by
 have:=money_false h
 apply money_no
 unfold wrap64; omega
theorem add3_full {bal co nf:Int} (h1:money bal=true) (h2:money (-co)=true) (h3:money (bal - co)=false):addFrom 0 [bal,-co,nf]=(0,7):=by
 rw [addFrom_on h1 (by rw [Int.zero_add]; exact h1),Int.zero_add,addFrom_full h2 (by rw [<- Int.sub_eq_add_neg]; exact h3)]
theorem add3_range {bal co nf:Int} (h1:money bal=true) (h2:money (-co)=true) (h3:money (bal - co)=true) (h4:money nf=false):addFrom 0 [bal,-co,nf]=(0,3):=by
 rw [addFrom_on h1 (by rw [Int.zero_add]; exact h1),Int.zero_add,addFrom_on h2 (by rw [<- Int.sub_eq_add_neg]; exact h3),addFrom_range h4]
theorem add3_full2 {bal co nf:Int} (h1:money bal=true) (h2:money (-co)=true) (h3:money (bal - co)=true) (h4:money nf=true) (h5:money (bal - co + nf)=false):addFrom 0 [bal,-co,nf]=(0,7):=by
 rw [addFrom_on h1 (by rw [Int.zero_add]; exact h1),Int.zero_add,addFrom_on h2 (by rw [<- Int.sub_eq_add_neg]; exact h3),<- Int.sub_eq_add_neg,addFrom_full h4 h5]
theorem add3_ok {bal co nf:Int} (h1:money bal=true) (h2:money (-co)=true) (h3:money (bal - co)=true) (h4:money nf=true) (h5:money (bal - co + nf)=true):addFrom 0 [bal,-co,nf]=(bal - co + nf,0):=by
 rw [addFrom_on h1 (by rw [Int.zero_add]; exact h1),Int.zero_add,addFrom_on h2 (by rw [<- Int.sub_eq_add_neg]; exact h3),<- Int.sub_eq_add_neg,addFrom_on h4 h5,addFrom_nil]
theorem cost_money {q p:Int} (hq:betw (-1000) q 1000=true) (hp:betw 0 p 10000=true):money (-(q * p))=true:=by
 have h1:=betw_true hq; have h2:=betw_true hp; have e1:q * p<=1000 * p:=Int.mul_le_mul_of_nonneg_right h1.2 h2.1; have e2:-1000 * p<=q * p:=Int.mul_le_mul_of_nonneg_right h1.1 h2.1
 exact money_mk (by omega)
theorem row_at {w:World} {p:Option Addr} {pos:List Int} (h:Row w p pos) {k:Nat} (hk:k < pos.length):∃ b off,p=some ⟨b,off,none⟩ /\ w.cell? ⟨b,off + k,none⟩ = some (.int .i64 (pos.getD k 0)):=by
 rcases h with rfl | ⟨b,off,rfl,hc⟩
 ·simp at hk
 ·exact ⟨b,off,rfl,hc k hk⟩
theorem trade_bad (id bal:Int) (p:Option Addr) (n c:Nat) (pos:List Int) (mk q pr fee:Int) (w:World) (hl:pos.length=n) (hn:n<=140737488351232) (h:Row w p pos) (f1:-9223372036854775808<=fee) (f2:fee<=9223372036854775807)
  (he:¬ tradeErr id bal pos mk q pr fee=0) :
  Calls Tryz.prog 21 #[accV id bal p n c,.int .i64 mk,.int .i64 q,.int .i64 pr,.int .i64 fee] w fun e w'=>e=.returned (.tuple #[noA,.int .i64 (tradeErr id bal pos mk q pr fee)]) /\ Below w.heap.size w w':=by
 unfold tradeErr at he ⊢; rw [hl] at he ⊢
 split at he
 next h1 =>
  rw [if_pos h1]; obtain ⟨a1,a2,a3,a4,a5⟩:=accErr_ok h1
  split at he
  next h2 =>
   rw [if_pos h2]
   obtain ⟨k,rfl⟩:∃ k:Nat,mk=k:=⟨mk.toNat,by omega⟩
   have hk:k < n:=by omega
   split at he
   next h3 =>
    rw [if_pos h3]; have hco:=cost_money h3.1 h3.2
    split at he
    next h4 =>
     rw [if_pos h4]
     split at he
     next h5 =>
      rw [if_pos h5]
      split at he
      next h6 =>
       rw [if_pos h6]
       split at he
       next h7=>exact absurd rfl he
       next h7 =>
        rw [if_neg h7]
        obtain ⟨b,off,rfl,hc⟩:=row_at h (k:=k) (by omega)
        have hx:=betw_true (all_get a5 (k:=k) (by omega))
        refine trade_b5 id bal b off n c pos k q pr fee w hl hn h h1 hk h3.1 h3.2 (bal - q * pr - fee) ?_ _ rfl hc hx.1 hx.2 ?_
        ·rw [neg_money h5,add3_ok a4 hco h4 (by have:=money_true h5; exact money_mk (by omega)) (by rw [<- Int.sub_eq_add_neg]; exact h6),<- Int.sub_eq_add_neg]
        ·simpa using h7
      next h6 =>
       rw [if_neg h6]
       refine trade_b4 id bal p n c pos k q pr fee w hl hn h h1 (by omega) (by omega) h3.1 h3.2 0 7 ?_ (by decide)
       rw [neg_money h5]
       exact add3_full2 a4 hco h4 (by have:=money_true h5; exact money_mk (by omega)) (by rw [<- Int.sub_eq_add_neg]; simpa using h6)
     next h5 =>
      rw [if_neg h5]
      refine trade_b4 id bal p n c pos k q pr fee w hl hn h h1 (by omega) (by omega) h3.1 h3.2 0 3 ?_ (by decide)
      exact add3_range a4 hco h4 (neg_not f1 f2 (by simpa using h5))
    next h4 =>
     rw [if_neg h4]
     refine trade_b4 id bal p n c pos k q pr fee w hl hn h h1 (by omega) (by omega) h3.1 h3.2 0 7 ?_ (by decide)
     exact add3_full a4 hco (by simpa using h4)
   next h3 =>
    rw [if_neg h3]
    refine trade_b3 id bal p n c pos k q pr fee w hl hn h h1 (by omega) (by omega) ?_
    cases e1:betw (-1000) q 1000
    ·exact .inl rfl
    ·cases e2:betw 0 pr 10000
     ·exact .inr rfl
     ·exact absurd ⟨e1,e2⟩ h3
  next h2 =>
   rw [if_neg h2]
   exact trade_b2 id bal p n c pos mk q pr fee w hl hn h h1 (by omega)
 next h1 =>
  rw [if_neg h1]; exact trade_b1 id bal p n c pos mk q pr fee w hl hn h h1
theorem trade_good (id bal:Int) (p:Option Addr) (n c:Nat) (pos:List Int) (mk q pr fee:Int) (w:World) (hl:pos.length=n) (h:Row w p pos)
  (he:tradeErr id bal pos mk q pr fee=0) :
  Calls Tryz.prog 21 #[accV id bal p n c,.int .i64 mk,.int .i64 q,.int .i64 pr,.int .i64 fee] w fun e w'=>∃ v,e=.returned (.tuple #[.agg #[.int .i64 id,.int .i64 (bal - q * pr - fee),v],.int .i64 0]) /\ w'.ownsRow w.heap.size 3 1 v n ((pos.set mk.toNat (pos.getD mk.toNat 0 + q)).map (Value.int .i64)) /\ Below w.heap.size w w':=by
 obtain ⟨h1,h2,h3,h3',h4,h5,h6,h7⟩:=tradeErr_ok he; obtain ⟨a1,a2,a3,a4,a5⟩:=accErr_ok h1; rw [hl] at h1 a2 h2; have:=betw_true a2
 obtain ⟨k,rfl⟩:∃ k:Nat,mk=k:=⟨mk.toNat,by omega⟩
 simp only [Int.toNat_natCast] at h7 ⊢
 have hk:k < n:=by omega
 obtain ⟨b,off,rfl,hc⟩:=row_at h (k:=k) (by omega)
 have hx:=betw_true (all_get a5 (k:=k) (by omega))
 refine trade_ok id bal b off n c pos k q pr fee w hl (by omega) h h1 hk h3 h3' (bal - q * pr - fee) ?_ _ rfl hc hx.1 hx.2 h7
 rw [neg_money h5,add3_ok a4 (cost_money h3 h3') h4 (by have:=money_true h5; exact money_mk (by omega)) (by rw [<- Int.sub_eq_add_neg]; exact h6),<- Int.sub_eq_add_neg]
end Go.Proofs.YtpkbiafhnflmnaaGreatDoor.Ac
