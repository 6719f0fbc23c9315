import Derived.Test.YthdjfhnhjiageaaGreatDoorG15
import Derived.Test.YthdjfhnhjiageaaGreatDoorG06
namespace Go.Proofs.YthdjfhnhjiageaaGreatDoor.Bk
theorem less_ok {x:Odr}{qq:Int}(h:okOrder x=0)(h1:0<=qq)(h2:qq<oqt x):okOrder (less x qq)=0:=by
 have a1:=okOrder_id h;have a2:=okOrder_ac h;have a3:=okOrder_sd h;have a4:=okOrder_pq h;obtain⟨a,ac,sd,pr,q⟩:=x;dsimp only [oid,oac,osd,opr,oqt] at *;unfold okOrder less;dsimp only [oid,oac,osd,opr,oqt];rw [if_neg (by omega),if_neg (by omega),if_neg (by omega)]
theorem takes_side {s:Int}(o:Odr):∀(xs:List Odr)(left:Int),0<=left->Side s xs->Side s (takes o left xs).1
 |[],_,_,h=>h
 |x::l,left,h0,h=>by
  unfold takes;split
  ·split
   ·exact h
   ·have hl:Side s l:=⟨fun o ho=>h.ok o (by simp [ho]),fun o ho=>h.sd o (by simp [ho]),(List.pairwise_cons.1 h.srt).2⟩;split
    ·exact takes_side o l _ (by omega) hl
    ·refine⟨?_,?_,?_⟩
     ·intro y hy;rcases List.mem_cons.1 hy with rfl | hy
      ·exact less_ok (h.ok x (by simp)) h0 (by omega)
      ·exact hl.ok y hy
     ·intro y hy;rcases List.mem_cons.1 hy with rfl | hy
      ·exact h.sd x (by simp)
      ·exact hl.sd y hy
     ·rw [List.pairwise_cons];exact⟨fun y hy=>(List.pairwise_cons.1 h.srt).1 y hy,hl.srt⟩
  ·exact h
theorem takes_ids (o:Odr):∀(xs:List Odr)(left:Int),((takes o left xs).1.map oid).Sublist (xs.map oid)
 |[],_=>List.Sublist.refl _
 |x::l,left=>by
  unfold takes;split
  ·split
   ·exact List.Sublist.refl _
   ·split
    ·exact(takes_ids o l _).trans (List.sublist_cons_self _ _)
    ·exact List.Sublist.refl _
  ·exact List.Sublist.refl _
theorem takes_few (o:Odr):∀(xs:List Odr)(left:Int),(takes o left xs).2.1.length<=xs.length
 |[],_=>by simp [takes]
 |x::l,left=>by
  unfold takes;split
  ·split
   ·simp
   ·split
    ·have:=takes_few o l (left - oqt x);simp;omega
    ·simp
  ·simp
theorem takes_price (o:Odr):∀(xs:List Odr)(left:Int)(x:Odr),x∈(takes o left xs).1->∃y,y∈xs/\opr x=opr y
 |[],_,x,h=>by simp [takes] at h
 |z::l,left,x,h=>by
  unfold takes at h;split at h
  ·split at h
   ·exact⟨x,h,rfl⟩
   ·split at h
    ·obtain⟨y,hy,e⟩:=takes_price o l _ x h;exact⟨y,by simp [hy],e⟩
    ·rcases List.mem_cons.1 h with rfl | h
     ·exact⟨z,by simp,rfl⟩
     ·exact⟨x,by simp [h],rfl⟩
  ·exact⟨x,h,rfl⟩
theorem take_right {bids asks:List Odr}{o:Odr}(h:Right bids asks)(ho:okOrder o=0):Right (takeB bids asks o) (takeA bids asks o):=by
 have hq:=okOrder_pq ho;have tl:=take_len bids asks o;have hf:=h.few;unfold takeB takeA takeT at *;by_cases hs:osd o=1
 ·simp only [if_pos hs] at *;refine⟨by omega,h.b,takes_side o asks _ (by omega) h.a,?_,?_⟩
  ·exact h.nod.sublist ((List.Sublist.refl _).append (takes_ids o asks _))
  ·intro x y hx hy;obtain⟨z,hz,e⟩:=takes_price o asks _ y (mem_of_head? hy);rw [e];exact h.below (mem_of_head? hx) hz
 ·simp only [if_neg hs] at *;refine⟨by omega,takes_side o bids _ (by omega) h.b,h.a,?_,?_⟩
  ·exact h.nod.sublist ((takes_ids o bids _).append (List.Sublist.refl _))
  ·intro x y hx hy;obtain⟨z,hz,e⟩:=takes_price o bids _ x (mem_of_head? hx);rw [e];exact h.below hz (mem_of_head? hy)
def fqt (f:Fil):Int:=f.2.2.2.2.2.2
def sumQ (F:List Fil):Int:=(F.map fqt).sum
theorem come_facts {bids asks:List Odr}{o:Odr}{how:Int}(h:comeE bids asks o how=0) :
  Right bids asks/\okOrder o=0/\findIn (oid o) bids asks=none/\(takeT bids asks o).2.2.2=false/\(how=4->(takeT bids asks o).2.1=[])/\(how=3->¬0<(takeT bids asks o).2.2.1) /\
  (stays how (takeT bids asks o).2.2.1=false->mayRest (takeB bids asks o) (takeA bids asks o) (restO o (takeT bids asks o).2.2.1)=0):=by
 unfold comeE at h;by_cases h1:mayComeE bids asks (oid o) how=0
 ·rw [if_neg (by simpa using h1)] at h;by_cases h2:takeErr bids asks o=0
  ·rw [if_neg (by simpa using h2)] at h;obtain⟨hR,hok⟩:=takeErr_zero.1 h2;generalize hT:takeT bids asks o=T at h;obtain⟨R,F,left,met⟩:=T;dsimp only at h ⊢;by_cases h3:allowsE how F.length left met=0
   ·rw [if_neg (by simpa using h3)] at h;refine⟨hR,hok,?_,?_,?_,?_,?_⟩
    ·unfold mayComeE at h1;rw [if_neg (by simp [bookErr_zero.2 hR])] at h1;unfold findE at h1;rw [if_pos (bookErr_zero.2 hR)] at h1
     cases hf:findIn (oid o) bids asks with
     |none=>rfl
     |some y=>rw [hf] at h1;simp at h1
    ·cases met with
     |false=>rfl
     |true =>
      unfold allowsE at h3;by_cases h4:how=4/\(0<F.length\/true=true)
      ·rw [if_pos h4] at h3;cases h3
      ·rw [if_neg h4,if_pos rfl] at h3;cases h3
    ·intro h4;unfold allowsE at h3
     cases F with
     |nil=>rfl
     |cons f F=>rw [if_pos ⟨h4,.inl (by simp)⟩] at h3;cases h3
    ·intro h4 hl;unfold allowsE at h3;rw [if_neg (by omega)] at h3;by_cases hm:met=true
     ·rw [if_pos hm] at h3;cases h3
     ·rw [if_neg hm,if_pos ⟨h4,hl⟩] at h3;cases h3
    ·intro hs;rw [hs] at h;simpa using h
   ·rw [if_pos (by simpa using h3)] at h;exact absurd h h3
  ·rw [if_pos (by simpa using h2)] at h;exact absurd h h2
 ·rw [if_pos (by simpa using h1)] at h;exact absurd h h1
theorem come_right {bids asks:List Odr}{o:Odr}{how:Int}(h:comeE bids asks o how=0):Right (comeB bids asks o how) (comeA bids asks o how):=by
 obtain⟨hR,hok,-,-,-,-,hm⟩:=come_facts h;have:=take_right hR hok;unfold comeB comeA;cases hs:stays how (takeT bids asks o).2.2.1
 ·simp only [Bool.false_eq_true,if_false];exact rest_right (hm hs)
 ·simp only [if_true];exact this
end Go.Proofs.YthdjfhnhjiageaaGreatDoor.Bk
namespace Go.Proofs.YthdjfhnhjiageaaGreatDoor.FuP
open Num AcP
abbrev Acc:=Int × Int × List Int
def paysR (id bal:Int) (pos:List Int) (mk mark rate:Int):Int × Int :=
 if accErr id bal pos pos.length=0 then
  if 0<=mk/\mk<pos.length then
   if betw (-100) rate 100=true then
    if betw 0 mark 10000=true then (divUp (pos.getD mk.toNat 0*mark*rate) 10000 true,0) else (0,3)
   else (0,3)
  else (0,5)
 else (0,accErr id bal pos pos.length)
theorem paysR_acc {id bal:Int}{pos:List Int}{mk mark rate:Int}(h:¬accErr id bal pos pos.length=0):paysR id bal pos mk mark rate=(0,accErr id bal pos pos.length):=by
 unfold paysR;rw [if_neg h]
theorem paysR_who {id bal:Int}{pos:List Int}{mk mark rate:Int}(h:accErr id bal pos pos.length=0)(h2:¬(0<=mk/\mk<pos.length)):paysR id bal pos mk mark rate=(0,5):=by
 unfold paysR;rw [if_pos h,if_neg h2]
theorem paysR_rate {id bal:Int}{pos:List Int}{mk mark rate:Int}(h:accErr id bal pos pos.length=0)(h2:0<=mk/\mk<pos.length)(h3:¬betw (-100) rate 100=true):paysR id bal pos mk mark rate=(0,3):=by
 unfold paysR;rw [if_pos h,if_pos h2,if_neg h3]
theorem paysR_mark {id bal:Int}{pos:List Int}{mk mark rate:Int}(h:accErr id bal pos pos.length=0)(h2:0<=mk/\mk<pos.length)(h3:betw (-100) rate 100=true)(h4:¬betw 0 mark 10000=true):paysR id bal pos mk mark rate=(0,3):=by
 unfold paysR;rw [if_pos h,if_pos h2,if_pos h3,if_neg h4]
theorem paysR_ok {id bal:Int}{pos:List Int}{mk mark rate:Int}(h:accErr id bal pos pos.length=0)(h2:0<=mk/\mk<pos.length)(h3:betw (-100) rate 100=true)(h4:betw 0 mark 10000=true):paysR id bal pos mk mark rate=(divUp (pos.getD mk.toNat 0*mark*rate) 10000 true,0):=by
 unfold paysR;rw [if_pos h,if_pos h2,if_pos h3,if_pos h4]
theorem paysR_zero {id bal:Int}{pos:List Int}{mk mark rate:Int}(h:(paysR id bal pos mk mark rate).2=0) :
  accErr id bal pos pos.length=0/\(0<=mk/\mk<pos.length)/\betw (-100) rate 100=true/\betw 0 mark 10000=true:=by
 by_cases h1:accErr id bal pos pos.length=0
 ·by_cases h2:0<=mk/\mk<pos.length
  ·by_cases h3:betw (-100) rate 100=true
   ·by_cases h4:betw 0 mark 10000=true
    ·exact⟨h1,h2,h3,h4⟩
    ·rw [paysR_mark h1 h2 h3 h4] at h;exact absurd h (by decide)
   ·rw [paysR_rate h1 h2 h3] at h;exact absurd h (by decide)
  ·rw [paysR_who h1 h2] at h;exact absurd h (by decide)
 ·rw [paysR_acc h1] at h;exact absurd h h1
theorem up_bd (x:Int):x<=10000*divUp x 10000 true/\10000*divUp x 10000 true<=x+9999:=by
 unfold divUp;rw [if_pos rfl];omega
theorem worth_bd {x m:Int}(hx:pos1 x=true)(hm:betw 0 m 10000=true):-10000000<=x*m/\x*m<=10000000:=by
 have h1:=betw_true hx;have h2:=betw_true hm;have e1:x*m<=1000*m:=Int.mul_le_mul_of_nonneg_right h1.2 h2.1;have e2:-1000*m<=x*m:=Int.mul_le_mul_of_nonneg_right h1.1 h2.1;omega
theorem due_bd {c r:Int}(hc:-10000000<=c/\c<=10000000)(hr:betw (-100) r 100=true):-1000000000<=c*r/\c*r<=1000000000:=by
 have h2:=betw_true hr;have h1:c.natAbs<=10000000:=by omega
 have h3:r.natAbs<=100:=by omega
 have h4:(c*r).natAbs<=10000000*100:=by rw [Int.natAbs_mul];exact Nat.mul_le_mul h1 h3
 omega
theorem pays_bd {id bal:Int}{pos:List Int}{mk mark rate:Int}:-100000<=(paysR id bal pos mk mark rate).1/\(paysR id bal pos mk mark rate).1<=100000:=by
 by_cases h1:accErr id bal pos pos.length=0
 ·by_cases h2:0<=mk/\mk<pos.length
  ·by_cases h3:betw (-100) rate 100=true
   ·by_cases h4:betw 0 mark 10000=true
    ·rw [paysR_ok h1 h2 h3 h4];have hp:=all_get (accErr_ok h1).2.2.2.2 (k:=mk.toNat) (by omega);have:=due_bd (worth_bd hp h4) h3;have:=up_bd (pos.getD mk.toNat 0*mark*rate);dsimp only;omega
    ·rw [paysR_mark h1 h2 h3 h4];decide
   ·rw [paysR_rate h1 h2 h3];decide
  ·rw [paysR_who h1 h2];decide
 ·rw [paysR_acc h1];dsimp only;omega
def payA (mk mark rate:Int) (a:Acc):Int × Int:=paysR a.1 a.2.1 a.2.2 mk mark rate
def setA (mk mark rate:Int) (a:Acc):Acc:=(a.1,a.2.1 - (payA mk mark rate a).1,a.2.2)
def setE (mk mark rate:Int):List Acc->Int
 |[]=>0
 |a::l=>if (payA mk mark rate a).2=0 then (if money (a.2.1 - (payA mk mark rate a).1)=true then setE mk mark rate l else 7) else (payA mk mark rate a).2
def setL (mk mark rate:Int):List Acc->Int
 |[]=>0
 |a::l=>(payA mk mark rate a).1+setL mk mark rate l
theorem setE_pay {mk mark rate:Int}{a:Acc}{l:List Acc}(h:¬(payA mk mark rate a).2=0):setE mk mark rate (a::l)=(payA mk mark rate a).2:=by
 simp [setE,h]
theorem setE_full {mk mark rate:Int}{a:Acc}{l:List Acc}(h:(payA mk mark rate a).2=0)(h2:money (a.2.1 - (payA mk mark rate a).1)=false):setE mk mark rate (a::l)=7:=by
 simp [setE,h,h2]
theorem setE_on {mk mark rate:Int}{a:Acc}{l:List Acc}(h:(payA mk mark rate a).2=0)(h2:money (a.2.1 - (payA mk mark rate a).1)=true):setE mk mark rate (a::l)=setE mk mark rate l:=by
 simp [setE,h,h2]
theorem setE_zero {mk mark rate:Int}:∀{l:List Acc},setE mk mark rate l=0->∀a,a∈l->(payA mk mark rate a).2=0/\money (a.2.1 - (payA mk mark rate a).1)=true
 |[],_,a,ha=>by cases ha
 |b::l,h,a,ha=>by
  by_cases h1:(payA mk mark rate b).2=0
  ·cases h2:money (b.2.1 - (payA mk mark rate b).1)
   ·rw [setE_full h1 h2] at h;exact absurd h (by decide)
   ·rw [setE_on h1 h2] at h;rcases List.mem_cons.1 ha with rfl | ha
    ·exact⟨h1,h2⟩
    ·exact setE_zero h a ha
  ·rw [setE_pay h1] at h;exact absurd h h1
theorem setL_bd {mk mark rate:Int}:∀(l:List Acc),-100000*(l.length:Int)<=setL mk mark rate l/\setL mk mark rate l<=100000*(l.length:Int)
 |[]=>by simp [setL]
 |a::l=>by
  have h1:=setL_bd (mk:=mk) (mark:=mark) (rate:=rate) l;have h2:-100000<=(payA mk mark rate a).1/\(payA mk mark rate a).1<=100000:=pays_bd;have h3:(((a::l).length:Nat):Int)=(l.length:Int)+1:=by simp
  rw [h3];show _<=(payA mk mark rate a).1+setL mk mark rate l/\(payA mk mark rate a).1+setL mk mark rate l<=_;omega
theorem setL_snoc {mk mark rate:Int}:∀(l:List Acc)(a:Acc),setL mk mark rate (l++[a])=setL mk mark rate l+(payA mk mark rate a).1
 |[],a=>by simp [setL]
 |b::l,a=>by
  have:=setL_snoc (mk:=mk) (mark:=mark) (rate:=rate) l a;simp only [List.cons_append,setL,this];omega
def posS (k:Nat):List Acc->Int
 |[]=>0
 |a::l=>a.2.2.getD k 0+posS k l
def balS:List Acc->Int
 |[]=>0
 |a::l=>a.2.1+balS l
theorem left_bd {mk mark rate:Int}:∀{l:List Acc},setE mk mark rate l=0 ->
  posS mk.toNat l*(mark*rate)<=10000*setL mk mark rate l/\10000*setL mk mark rate l<=posS mk.toNat l*(mark*rate)+9999*(l.length:Int)
 |[],_=>by simp [posS,setL]
 |a::l,h=>by
  have hz:=setE_zero h;have h0:=hz a (by simp);have hl:setE mk mark rate l=0:=by rw [setE_on h0.1 h0.2] at h;exact h
  have ih:=left_bd hl;obtain⟨e1,e2,e3,e4⟩:=paysR_zero h0.1;have hp:(payA mk mark rate a).1=divUp (a.2.2.getD mk.toNat 0*mark*rate) 10000 true:=by unfold payA;rw [paysR_ok e1 e2 e3 e4]
  have hu:=up_bd (a.2.2.getD mk.toNat 0*mark*rate);rw [<- hp,Int.mul_assoc] at hu;have h3:(((a::l).length:Nat):Int)=(l.length:Int)+1:=by simp
  rw [h3];show (a.2.2.getD mk.toNat 0+posS mk.toNat l)*(mark*rate)<=10000*((payA mk mark rate a).1+setL mk mark rate l)/\10000*((payA mk mark rate a).1+setL mk mark rate l)<=(a.2.2.getD mk.toNat 0+posS mk.toNat l)*(mark*rate)+9999*((l.length:Int)+1);rw [Int.add_mul];omega
theorem left_even {mk mark rate:Int}{l:List Acc}(h:setE mk mark rate l=0)(h0:posS mk.toNat l=0):0<=setL mk mark rate l/\(setL mk mark rate l=0\/setL mk mark rate l<l.length):=by
 have:=left_bd h;rw [h0,Int.zero_mul] at this;omega
theorem no_money {mk mark rate:Int}:∀(l:List Acc),balS l=balS (l.map (setA mk mark rate))+setL mk mark rate l
 |[]=>by simp [balS,setL]
 |a::l=>by
  have:=no_money (mk:=mk) (mark:=mark) (rate:=rate) l;simp only [List.map_cons,balS,setL,setA];omega
theorem pay_facts {mk mark rate:Int}{a:Acc}(h:(payA mk mark rate a).2=0):money a.2.1=true/\pos1 (a.2.2.getD mk.toNat 0)=true/\0<=mk/\mk<a.2.2.length/\a.2.2.length<=2:=by
 obtain⟨e1,e2,e3,e4⟩:=paysR_zero h;obtain⟨a1,a2,a3,a4,a5⟩:=accErr_ok e1;have:=betw_true a2;exact⟨a4,all_get a5 (by omega),e2.1,e2.2,by omega⟩
end Go.Proofs.YthdjfhnhjiageaaGreatDoor.FuP
namespace Go.Proofs.YthdjfhnhjiageaaGreatDoor.Rm
open Num AcP RkP Bk
def marketErr (bids asks:List Odr) (idx last:Int):Int :=
 if bookErr bids asks=0 then (if betw 1 idx 10000=true/\betw 0 last 10000=true then 0 else 3) else bookErr bids asks
def halfR (fb fa idx:Int):Int:=if fb=0\/fa=0 then idx else (fb+fa).tdiv 2
def lastR (last idx:Int):Int:=if last=0 then idx else last
def markOf (fb fa idx last:Int):Int:=middleR (idx - idx.tdiv 20) (middleR idx (halfR fb fa idx) (lastR last idx)) (idx+idx.tdiv 20)
def markR (bids asks:List Odr) (idx last:Int):Int × Int :=
 if marketErr bids asks idx last=0 then (markOf (firstPrice bids) (firstPrice asks) idx last,0) else (0,marketErr bids asks idx last)
theorem marketErr_ok {bids asks:List Odr}{idx last:Int}(h:marketErr bids asks idx last=0):bookErr bids asks=0/\betw 1 idx 10000=true/\betw 0 last 10000=true:=by
 unfold marketErr at h;split at h
 ·rename_i h0;split at h
  ·rename_i h1;exact⟨h0,h1⟩
  ·cases h
 ·rename_i h0;exact absurd h h0
theorem first_bd {s:Int}{l:List Odr}(h:Side s l):0<=firstPrice l/\firstPrice l<=10000:=by
 cases l with
 |nil=>simp [firstPrice]
 |cons o l =>
  have h1:=h.ok o (by simp);unfold okOrder at h1;simp only [firstPrice];split at h1
  ·cases h1
  ·split at h1
   ·cases h1
   ·split at h1
    ·cases h1
    ·rename_i h3;omega
def evenR (rest q:Int):Int:=if 0<q then divUp (-(middleR (-1000000000000) rest 1000000000000)) q true else divUp (middleR (-1000000000000) rest 1000000000000) (-q) false
def bankR (id bal:Int) (pos marks:List Int) (mk:Int):Int × Int :=
 if (equityR id bal pos marks).2=0 then
  (if betw 0 mk (pos.length-1)=true then
   (if pos.getD mk.toNat 0=0 then (0,12)
   else (middleR 1 (evenR ((equityR id bal pos marks).1 - pos.getD mk.toNat 0*marks.getD mk.toNat 0) (pos.getD mk.toNat 0)) 10000,0))
  else (0,5))
 else (0,(equityR id bal pos marks).2)
theorem mid_money (r:Int):money (middleR (-1000000000000) r 1000000000000)=true:=money_mk (by unfold middleR;omega)
theorem part_up {r q:Int}(hr:money r=true)(h1:0<q)(h2:q<=1000):partR (-r) 1 q true=(divUp (-r) q true,0):=by
 have hr':=money_true hr;unfold partR;rw [if_pos ⟨money_mk (by omega),by decide,betw_mk (by omega)⟩,Int.mul_one];have e:money (divUp (-r) q true)=true:=by
  unfold divUp;rw [if_pos rfl,Int.neg_neg];have:=tdiv_bd (n:=r) (b:=q) (by omega);apply money_mk;have h3:=ediv_lo (n:=r) (b:=q) h1;by_cases h0:0<=r
  ·have:0<=r / q:=Int.ediv_nonneg h0 (by omega);have:r / q<=r:=Int.ediv_le_self _ h0;omega
  ·have:r / q<=0:=Int.le_of_lt (Int.ediv_neg_of_neg_of_pos (by omega) h1);have:r<=r / q:=by
    rw [Int.le_ediv_iff_mul_le h1];have:r*q<=r*1:=Int.mul_le_mul_of_nonpos_left (by omega) (by omega);omega
   omega
 rw [if_pos e]
theorem part_down {r q:Int}(hr:money r=true)(h1:0<q)(h2:q<=1000):partR r 1 q false=(divUp r q false,0):=by
 have hr':=money_true hr;unfold partR;rw [if_pos ⟨hr,by decide,betw_mk (by omega)⟩,Int.mul_one];have e:money (divUp r q false)=true:=by
  unfold divUp;rw [if_neg (by decide)];apply money_mk;by_cases h0:0<=r
  ·have:0<=r / q:=Int.ediv_nonneg h0 (by omega);have:r / q<=r:=Int.ediv_le_self _ h0;omega
  ·have:r / q<=0:=Int.le_of_lt (Int.ediv_neg_of_neg_of_pos (by omega) h1);have:r<=r / q:=by
    rw [Int.le_ediv_iff_mul_le h1];have:r*q<=r*1:=Int.mul_le_mul_of_nonpos_left (by omega) (by omega);omega
   omega
 rw [if_pos e]
theorem even_up {rest q:Int}(h1:0<q)(h2:q<=1000):partR (-(middleR (-1000000000000) rest 1000000000000)) 1 q true=(evenR rest q,0):=by
 rw [part_up (mid_money rest) h1 h2];unfold evenR;rw [if_pos h1]
theorem even_down {rest q:Int}(h1:q<0)(h2:-1000<=q):partR (middleR (-1000000000000) rest 1000000000000) 1 (-q) false=(evenR rest q,0):=by
 rw [part_down (mid_money rest) (by omega) (by omega)];unfold evenR;rw [if_neg (by omega)]
end Go.Proofs.YthdjfhnhjiageaaGreatDoor.Rm
namespace Go.Proofs.YthdjfhnhjiageaaGreatDoor.Vn
open Num AcP FuP RkP Bk Rm
abbrev Mp:=List Odr × List Odr × Int × Int
abbrev noMp:Mp:=([],[],0,0)
abbrev noAcc:Acc:=(0,0,[])
abbrev Ev:=Int × Int × Int × Int × Int × Int × Fil
abbrev evRejected (e:Int):Ev:=(1,e,0,0,0,0,noFil)
abbrev evAccepted (mk id ac:Int):Ev:=(2,0,mk,id,ac,0,noFil)
abbrev evFilled (mk:Int) (f:Fil):Ev:=(3,0,mk,0,0,0,f)
abbrev evGone (mk id ac n:Int):Ev:=(4,0,mk,id,ac,n,noFil)
abbrev evMoved (ac n:Int):Ev:=(5,0,0,0,ac,n,noFil)
abbrev evClosed (mk ac:Int) (f:Fil):Ev:=(6,0,mk,0,ac,0,f)
structure Tn where
 accs:List Acc
 mkts:List Mp
 ins:Int
 res:Int
 next:Int
 inn:Int
 out:Int
 evs:List Ev
structure Cm where
 kind:Int
 ac:Int
 mkt:Int
 n:Int
 o:Odr
 how:Int
 red:Bool
abbrev Res:=Except Int Tn
abbrev noTn:Tn:=⟨[],[],0,0,0,0,0,[]⟩
def addE (x n:Int):Int:=(addFrom 0 [x,n]).2
def addV (x n:Int):Int:=(addFrom 0 [x,n]).1
theorem add_is (x n:Int):addFrom 0 [x,n]=(addV x n,addE x n):=rfl
theorem add_ok {x n:Int}(h:addE x n=0):money x=true/\money n=true/\money (x+n)=true/\addV x n=x+n:=by
 unfold addE at h;unfold addV;cases hx:money x
 ·rw [addFrom_range hx] at h;cases h
 ·have h0:money (0+x)=true:=by rw [Int.zero_add];exact hx
  rw [addFrom_on hx h0,Int.zero_add] at h ⊢;cases hn:money n
  ·rw [addFrom_range hn] at h;cases h
  ·cases hs:money (x+n)
   ·rw [addFrom_full hn hs] at h;cases h
   ·rw [addFrom_on hn hs];exact⟨rfl,rfl,rfl,rfl⟩
def plc:List Acc->Int->Nat
 |[],_=>0
 |a::l,id=>if a.1<id then plc l id+1 else 0
def hasA (l:List Acc) (id:Int):Bool:=l.any fun a=>decide (a.1=id)
def accAt (s:Tn) (k:Nat):Acc:=s.accs.getD k noAcc
def mktAt (s:Tn) (k:Nat):Mp:=s.mkts.getD k noMp
def posAt (a:Acc) (k:Nat):Int:=a.2.2.getD k 0
def hasM (s:Tn) (mk:Int):Bool:=decide (0<=mk/\mk<s.mkts.length)
def Tn.tell (s:Tn) (e:Ev):Tn:={ s with evs:=s.evs++[e] }
def Tn.setA (s:Tn) (k:Nat) (a:Acc):Tn:={ s with accs:=s.accs.set k a }
def Tn.setM (s:Tn) (k:Nat) (m:Mp):Tn:={ s with mkts:=s.mkts.set k m }
def Tn.setB (s:Tn) (k:Nat) (b a:List Odr):Tn:=s.setM k (b,a,(mktAt s k).2.2.1,(mktAt s k).2.2.2)
def Tn.setL (s:Tn) (k:Nat) (n:Int):Tn:=s.setM k ((mktAt s k).1,(mktAt s k).2.1,(mktAt s k).2.2.1,n)
def Tn.setI (s:Tn) (k:Nat) (n:Int):Tn:=s.setM k ((mktAt s k).1,(mktAt s k).2.1,n,(mktAt s k).2.2.2)
def moveR (s:Tn) (k:Nat) (n:Int):Res :=
 if addE (accAt s k).2.1 n=0 then .ok ((s.setA k ((accAt s k).1,addV (accAt s k).2.1 n,(accAt s k).2.2)).tell (evMoved (accAt s k).1 n))
 else .error (addE (accAt s k).2.1 n)
def putA (l:List Acc) (a:Acc):List Acc:=l.take (plc l a.1)++a::l.drop (plc l a.1)
def openR (s:Tn) (id:Int):Tn:=if hasA s.accs id=true then s else { s with accs:=putA s.accs (id,0,List.replicate s.mkts.length 0) }
def payE (ac n:Int):Int:=if n<1\/1000000000000<n then 3 else if ac<0\/8<=ac then 5 else 0
def depositR (s:Tn) (ac n:Int):Res :=
 if payE ac n=0 then
  if addE s.inn n=0 then moveR (openR { s with inn:=addV s.inn n } ac) (plc s.accs ac) n
  else .error (addE s.inn n)
 else .error (payE ac n)
def marksL (L:List Int):List Mp->List Int × Int
 |[]=>(L,0)
 |m::r=>if (markR m.1 m.2.1 m.2.2.1 m.2.2.2).2=0 then marksL (L++[(markR m.1 m.2.1 m.2.2.1 m.2.2.2).1]) r else ([],(markR m.1 m.2.1 m.2.2.1 m.2.2.2).2)
def marksP (ms:List Mp):List Int × Int:=if 1<=ms.length/\ms.length<=2 then marksL [] ms else ([],2)
def readyE (ms:List Mp) (a:Acc):Int :=
 if (marksP ms).2=0 then
  if (soundR a.1 a.2.1 a.2.2 (marksP ms).1).2.2=0 then
   if (soundR a.1 a.2.1 a.2.2 (marksP ms).1).1=true then 0 else 8
  else (soundR a.1 a.2.1 a.2.2 (marksP ms).1).2.2
 else (marksP ms).2
def withdrawR (s:Tn) (ac n:Int):Res :=
 if payE ac n=0 then
  if hasA s.accs ac=true then
   if addE s.out n=0 then
    match moveR { s with out:=addV s.out n } (plc s.accs ac) (-n) with
    |.ok t=>if readyE t.mkts (accAt t (plc s.accs ac))=0 then .ok t else .error (readyE t.mkts (accAt t (plc s.accs ac)))
    |.error e=>.error e
   else .error (addE s.out n)
  else .error 5
 else .error (payE ac n)
def traded (a:Acc) (mk q p fee:Int):Acc:=(a.1,a.2.1 - q*p - fee,a.2.2.set mk.toNat (a.2.2.getD mk.toNat 0+q))
def tradeOfR (s:Tn) (id mk q p fee:Int):Res :=
 if tradeErr (accAt s (plc s.accs id)).1 (accAt s (plc s.accs id)).2.1 (accAt s (plc s.accs id)).2.2 mk q p fee=0 then .ok (s.setA (plc s.accs id) (traded (accAt s (plc s.accs id)) mk q p fee))
 else .error (tradeErr (accAt s (plc s.accs id)).1 (accAt s (plc s.accs id)).2.1 (accAt s (plc s.accs id)).2.2 mk q p fee)
def insR (s:Tn) (n:Int):Res:=if addE s.ins n=0 then .ok { s with ins:=addV s.ins n } else .error (addE s.ins n)
def tradeR (s:Tn) (mk:Int) (f:Fil) (fee:Int):Res :=
 match tradeOfR s f.2.2.2.1 mk (f.2.2.2.2.1*f.2.2.2.2.2.2) f.2.2.2.2.2.1 fee with
 |.ok t =>
  match tradeOfR t f.2.2.1 mk (-(f.2.2.2.2.1*f.2.2.2.2.2.2)) f.2.2.2.2.2.1 0 with
  |.ok u=>insR u fee
  |.error e=>.error e
 |.error e=>.error e
def feeOf (free:Bool) (f:Fil):Int × Int:=if free=true then (0,0) else feeR f.2.2.2.2.2.2 f.2.2.2.2.2.1
def fillsR (mk:Int) (free:Bool):List Fil->Tn->Res
 |[],s=>.ok s
 |f::l,s =>
  if (feeOf free f).2=0 then
   match tradeR s mk f (feeOf free f).1 with
   |.ok t=>fillsR mk free l ((t.setL mk.toNat f.2.2.2.2.2.1).tell (evFilled mk f))
   |.error e=>.error e
  else .error (feeOf free f).2
def orderE (s:Tn) (c:Cm):Int :=
 if okOrder (s.next,c.ac,c.o.2.2)≠0 then okOrder (s.next,c.ac,c.o.2.2)
 else if c.red=true/\c.how≠2 then 4
 else if hasA s.accs c.ac=false\/hasM s c.mkt=false then 5
 else if s.next=100000 then 7
 else if c.red=true/\-(osd c.o)*posAt (accAt s (plc s.accs c.ac)) c.mkt.toNat<=0 then 12
 else 0
def orderO (s:Tn) (c:Cm):Odr :=
 (s.next,c.ac,osd c.o,opr c.o,if c.red=true then min (oqt c.o) (-(osd c.o)*posAt (accAt s (plc s.accs c.ac)) c.mkt.toNat) else oqt c.o)
def readyWithE (s:Tn) (mk:Int) (o:Odr):Int :=
 if tradeErr (accAt s (plc s.accs (oac o))).1 (accAt s (plc s.accs (oac o))).2.1 (accAt s (plc s.accs (oac o))).2.2 mk (osd o*oqt (findO (mktAt s mk.toNat).1 (mktAt s mk.toNat).2.1 (oid o))) (opr o) 0=0 then
  readyE s.mkts (traded (accAt s (plc s.accs (oac o))) mk (osd o*oqt (findO (mktAt s mk.toNat).1 (mktAt s mk.toNat).2.1 (oid o))) (opr o) 0)
 else tradeErr (accAt s (plc s.accs (oac o))).1 (accAt s (plc s.accs (oac o))).2.1 (accAt s (plc s.accs (oac o))).2.2 mk (osd o*oqt (findO (mktAt s mk.toNat).1 (mktAt s mk.toNat).2.1 (oid o))) (opr o) 0
def goneIf (s:Tn) (mk:Int) (o:Odr) (left:Int):Tn:=if 0<left then s.tell (evGone mk (oid o) (oac o) left) else s
def cameR (s:Tn) (mk:Int) (o:Odr) (how:Int):Tn :=
 (Tn.tell { s with next:=s.next+1 } (evAccepted mk (oid o) (oac o))).setB mk.toNat (comeB (mktAt s mk.toNat).1 (mktAt s mk.toNat).2.1 o how) (comeA (mktAt s mk.toNat).1 (mktAt s mk.toNat).2.1 o how)
def placeO (s:Tn) (mk:Int) (o:Odr) (how:Int) (red:Bool):Res :=
 if comeE (mktAt s mk.toNat).1 (mktAt s mk.toNat).2.1 o how=0 then
  match fillsR mk false (takeT (mktAt s mk.toNat).1 (mktAt s mk.toNat).2.1 o).2.1 (cameR s mk o how) with
  |.ok t =>
   if red=true then .ok (goneIf t mk o (comeL how (takeT (mktAt s mk.toNat).1 (mktAt s mk.toNat).2.1 o).2.2.1))
   else if readyWithE (goneIf t mk o (comeL how (takeT (mktAt s mk.toNat).1 (mktAt s mk.toNat).2.1 o).2.2.1)) mk o=0 then .ok (goneIf t mk o (comeL how (takeT (mktAt s mk.toNat).1 (mktAt s mk.toNat).2.1 o).2.2.1))
   else .error (readyWithE (goneIf t mk o (comeL how (takeT (mktAt s mk.toNat).1 (mktAt s mk.toNat).2.1 o).2.2.1)) mk o)
  |.error e=>.error e
 else .error (comeE (mktAt s mk.toNat).1 (mktAt s mk.toNat).2.1 o how)
def placeR (s:Tn) (c:Cm):Res:=if orderE s c=0 then placeO s c.mkt (orderO s c) c.how c.red else .error (orderE s c)
def remR (s:Tn) (k:Nat) (id:Int) (o:Odr):Tn :=
 (s.setB k (without id (mktAt s k).1) (without id (mktAt s k).2.1)).tell (evGone k (oid o) (oac o) (oqt o))
def cancelL (s:Tn) (ac n:Int):Nat->List Mp->Res
 |_,[]=>.error 5
 |k,m::l=>if findE m.1 m.2.1 n=0/\oac (findO m.1 m.2.1 n)=ac then .ok (remR s k n (findO m.1 m.2.1 n)) else cancelL s ac n (k+1) l
def cancelR (s:Tn) (ac n:Int):Res:=cancelL s ac n 0 s.mkts
def indexR (s:Tn) (mk n:Int):Res:=if hasM s mk=true then (if n<1\/10000<n then .error 3 else .ok (s.setI mk.toNat n)) else .error 5
def paidEv:List Acc->List Acc->List Ev
 |a::l,b::m=>if b.2.1 - a.2.1=0 then paidEv l m else evMoved b.1 (b.2.1 - a.2.1)::paidEv l m
 |_,_=>[]
def fundMark (s:Tn) (mk:Int):Int × Int:=markR (mktAt s mk.toNat).1 (mktAt s mk.toNat).2.1 (mktAt s mk.toNat).2.2.1 (mktAt s mk.toNat).2.2.2
def settleP (L:List Acc) (mk mark rate:Int):List Acc × Int × Int :=
 if 8<L.length then ([],0,2) else if setE mk mark rate L=0 then (L.map (FuP.setA mk mark rate),FuP.setL mk mark rate L,0) else ([],0,setE mk mark rate L)
def fundR (s:Tn) (mk n:Int):Res :=
 if hasM s mk=true then
  if (fundMark s mk).2=0 then
   if (settleP s.accs mk (fundMark s mk).1 n).2.2=0 then
    if addE s.res (settleP s.accs mk (fundMark s mk).1 n).2.1=0 then
     .ok { s with accs:=(settleP s.accs mk (fundMark s mk).1 n).1,evs:=s.evs++paidEv s.accs (settleP s.accs mk (fundMark s mk).1 n).1,res:=addV s.res (settleP s.accs mk (fundMark s mk).1 n).2.1 }
    else .error (addE s.res (settleP s.accs mk (fundMark s mk).1 n).2.1)
   else .error (settleP s.accs mk (fundMark s mk).1 n).2.2
  else .error (fundMark s mk).2
 else .error 5
def dropL (id:Int) (k:Nat):List Odr->Tn->Res
 |[],s=>.ok s
 |o::l,s =>
  if oac o=id then
   if findE (mktAt s k).1 (mktAt s k).2.1 (oid o)=0 then dropL id k l (remR s k (oid o) o) else .error (findE (mktAt s k).1 (mktAt s k).2.1 (oid o))
  else dropL id k l s
def dropM (id:Int):Nat->Nat->Tn->Res
 |0,_,s=>.ok s
 |n+1,k,s =>
  match dropL id k ((mktAt s k).1++(mktAt s k).2.1) s with
  |.ok t=>dropM id n (k+1) t
  |.error e=>.error e
def mostL (k:Nat) (sg:Int) (s:Tn):Nat->List Acc->Nat->Nat
 |_,[],best=>best
 |i,a::l,best=>mostL k sg s (i+1) l (if sg*posAt (accAt s best) k<sg*posAt a k then i else best)
def mostOf (k:Nat) (sg:Int) (s:Tn):Nat:=mostL k sg s 0 s.accs 0
def othersR (k:Nat) (id sd pr:Int):Nat->Int->Tn->Res
 |0,_,s=>.ok s
 |n+1,q,s =>
  if 0<q then
   match tradeR s k (0,0,(accAt s (mostOf k sd s)).1,id,sd,pr,min q (sd*posAt (accAt s (mostOf k sd s)) k)) 0 with
   |.ok t=>othersR k id sd pr n (q - min q (sd*posAt (accAt s (mostOf k sd s)) k)) (t.tell (evClosed k (accAt s (mostOf k sd s)).1 (0,0,(accAt s (mostOf k sd s)).1,id,sd,pr,min q (sd*posAt (accAt s (mostOf k sd s)) k))))
   |.error e=>.error e
  else .ok s
def closeO (a:Acc) (k:Nat) (pr:Int):Odr:=if posAt a k<0 then (100000,a.1,1,pr,-(posAt a k)) else (100000,a.1,-1,pr,posAt a k)
def closeInO (s:Tn) (k:Nat) (o:Odr):Res :=
 if takeErr (mktAt s k).1 (mktAt s k).2.1 o=0 then
  match fillsR k true (takeT (mktAt s k).1 (mktAt s k).2.1 o).2.1 (s.setB k (takeB (mktAt s k).1 (mktAt s k).2.1 o) (takeA (mktAt s k).1 (mktAt s k).2.1 o)) with
  |.ok t=>othersR k (oac o) (osd o) (opr o) (takeT (mktAt s k).1 (mktAt s k).2.1 o).2.2.1.toNat (takeT (mktAt s k).1 (mktAt s k).2.1 o).2.2.1 t
  |.error e=>.error e
 else .error (takeErr (mktAt s k).1 (mktAt s k).2.1 o)
def closeInR (s:Tn) (i k:Nat) (marks:List Int):Res :=
 if (bankR (accAt s i).1 (accAt s i).2.1 (accAt s i).2.2 marks k).2=0 then closeInO s k (closeO (accAt s i) k (bankR (accAt s i).1 (accAt s i).2.1 (accAt s i).2.2 marks k).1)
 else .error (bankR (accAt s i).1 (accAt s i).2.1 (accAt s i).2.2 marks k).2
def closeM (i:Nat) (marks:List Int):Nat->Nat->Tn->Res
 |0,_,s=>.ok s
 |n+1,k,s =>
  if posAt (accAt s i) k=0 then closeM i marks n (k+1) s
  else
   match closeInR s i k marks with
   |.ok t=>closeM i marks n (k+1) t
   |.error e=>.error e
def coverR (s:Tn) (i:Nat):Res :=
 if -(accAt s i).2.1<=0 then .ok s
 else moveR { s with ins:=s.ins - min (-(accAt s i).2.1) s.ins } i (min (-(accAt s i).2.1) s.ins)
def closeAllR (s:Tn) (i:Nat) (marks:List Int):Res :=
 match dropM (accAt s i).1 s.mkts.length 0 s with
 |.ok t =>
  match closeM i marks t.mkts.length 0 t with
  |.ok u=>coverR u i
  |.error e=>.error e
 |.error e=>.error e
def sweepL (marks:List Int):Nat->Nat->Tn->Res
 |0,_,s=>.ok s
 |n+1,i,s =>
  if (soundR (accAt s i).1 (accAt s i).2.1 (accAt s i).2.2 marks).2.2=0 then
   if (soundR (accAt s i).1 (accAt s i).2.1 (accAt s i).2.2 marks).2.1=true then sweepL marks n (i+1) s
   else
    match closeAllR s i marks with
    |.ok t=>sweepL marks n (i+1) t
    |.error e=>.error e
  else .error (soundR (accAt s i).1 (accAt s i).2.1 (accAt s i).2.2 marks).2.2
def sweepR (s:Tn):Res:=if (marksP s.mkts).2=0 then sweepL (marksP s.mkts).1 s.accs.length 0 s else .error (marksP s.mkts).2
def turnR (s:Tn) (c:Cm):Res :=
 if c.kind=1 then depositR s c.ac c.n
 else if c.kind=2 then withdrawR s c.ac c.n
 else if c.kind=3 then placeR s c
 else if c.kind=4 then cancelR s c.ac c.n
 else if c.kind=5 then indexR s c.mkt c.n
 else if c.kind=6 then fundR s c.mkt c.n
 else if c.kind=7 then sweepR s
 else .error 4
def limE (s:Tn):Int :=
 if s.mkts.length<1\/2<s.mkts.length\/8<s.accs.length then 2
 else if betw 0 s.ins 1000000000000=true/\betw 0 s.res 1000000000000=true/\betw 0 s.inn 1000000000000=true/\betw 0 s.out 1000000000000=true/\betw 1 s.next 100000=true then 0 else 3
def accsE (m:Int):Option Int->List Acc->Int
 |_,[]=>0
 |prev,a::l =>
  if accErr a.1 a.2.1 a.2.2 m≠0 then accErr a.1 a.2.1 a.2.2 m
  else if prev.elim false (fun p=>decide (a.1<=p))=true then 6
  else accsE m (some a.1) l
def sumBal (l:List Acc):Int:=(l.map fun a=>a.2.1).sum
def sumPos (k:Nat) (l:List Acc):Int:=(l.map fun a=>posAt a k).sum
def sumsE (s:Tn):Int:=if s.ins+s.res+sumBal s.accs=s.inn - s.out/\sumPos 0 s.accs=0/\sumPos 1 s.accs=0 then 0 else 4
def ordersE (l:List Acc) (next:Int):List Odr->Int
 |[]=>0
 |o::r=>if hasA l (oac o)=true/\oid o<next then ordersE l next r else 5
def mktsE (l:List Acc) (next:Int):List Mp->Int
 |[]=>0
 |m::r =>
  if marketErr m.1 m.2.1 m.2.2.1 m.2.2.2≠0 then marketErr m.1 m.2.1 m.2.2.1 m.2.2.2
  else if ordersE l next (m.1++m.2.1)≠0 then ordersE l next (m.1++m.2.1)
  else mktsE l next r
def checkE (s:Tn):Int :=
 if limE s≠0 then limE s
 else if accsE s.mkts.length none s.accs≠0 then accsE s.mkts.length none s.accs
 else if sumsE s≠0 then sumsE s
 else mktsE s.accs s.next s.mkts
def doR (s:Tn) (c:Cm):Tn × Int :=
 if checkE s=0 then
  match turnR { s with evs:=[] } c with
  |.ok t=>(t,0)
  |.error e=>({ s with evs:=[evRejected e] },0)
 else (noTn,checkE s)
def runL:List Cm->Tn->List (List Ev)->Except Int (Tn × List (List Ev))
 |[],s,L=>.ok (s,L)
 |c::l,s,L=>if (doR s c).2=0 then runL l (doR s c).1 (L++[(doR s c).1.evs]) else .error (doR s c).2
def runR (s:Tn) (l:List Cm):Except Int (Tn × List (List Ev)) :=
 if checkE s=0 then (if 60<l.length then .error 2 else runL l s []) else .error (checkE s)
end Go.Proofs.YthdjfhnhjiageaaGreatDoor.Vn
