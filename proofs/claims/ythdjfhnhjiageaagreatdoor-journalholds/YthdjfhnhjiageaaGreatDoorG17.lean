import Derived.Test.YthdjfhnhjiageaaGreatDoorG16
namespace Go.Proofs.YthdjfhnhjiageaaGreatDoor.Vn
open Num AcP FuP RkP Bk Rm
abbrev Srt (l:List Acc):Prop:=l.Pairwise (fun a b=>a.1<b.1)
theorem plc_le:∀(l:List Acc)(id:Int),plc l id<=l.length
 |[],_=>Nat.le_refl _
 |a::l,id=>by
  have:=plc_le l id;unfold plc;split
  ·simp;omega
  ·exact Nat.zero_le _
theorem has_iff (l:List Acc)(id:Int):hasA l id=true↔∃a,a∈l/\a.1=id:=by
 simp [hasA]
theorem plc_has:∀{l:List Acc}{id:Int},Srt l->hasA l id=true->∃h:plc l id<l.length,(l[plc l id]'h).1=id
 |[],id,_,h=>by simp [hasA] at h
 |a::l,id,hs,h=>by
  have hs':=List.pairwise_cons.1 hs;by_cases g:a.1<id
  ·have e:plc (a::l) id=plc l id+1:=by rw [plc,if_pos g]
   have h':hasA l id=true:=by
    rw [has_iff] at h ⊢;obtain⟨x,hx,hi⟩:=h;rcases List.mem_cons.1 hx with rfl | hx
    ·omega
    ·exact⟨x,hx,hi⟩
   obtain⟨k,hk⟩:=plc_has hs'.2 h';refine⟨by rw [e];simpa using k,?_⟩;simp only [e,List.getElem_cons_succ];exact hk
  ·have e:plc (a::l) id=0:=by rw [plc,if_neg g]
   refine⟨by rw [e];simp,?_⟩;simp only [e,List.getElem_cons_zero];rw [has_iff] at h;obtain⟨x,hx,hi⟩:=h;rcases List.mem_cons.1 hx with rfl | hx
   ·exact hi
   ·have:=hs'.1 x hx;omega
theorem accAt_get {s:Tn}{k:Nat}(h:k<s.accs.length):accAt s k=s.accs[k]:=by
 unfold accAt;simp [h]
theorem mktAt_get {s:Tn}{k:Nat}(h:k<s.mkts.length):mktAt s k=s.mkts[k]:=by
 unfold mktAt;simp [h]
theorem accAt_has {s:Tn}{id:Int}(hs:Srt s.accs)(h:hasA s.accs id=true):plc s.accs id<s.accs.length/\(accAt s (plc s.accs id)).1=id:=by
 obtain⟨k,e⟩:=plc_has hs h;exact⟨k,by rw [accAt_get k];exact e⟩
theorem has_ids {l m:List Acc}(h:l.map (·.1)=m.map (·.1))(id:Int):hasA l id=hasA m id:=by
 have e:∀l:List Acc,hasA l id=(l.map (·.1)).any (fun x=>decide (x=id)):=fun l=>by simp [hasA,List.any_map];rfl
 rw [e,e,h]
theorem srt_ids {l m:List Acc}(h:l.map (·.1)=m.map (·.1))(hs:Srt m):Srt l:=by
 have e:∀l:List Acc,Srt l↔(l.map (·.1)).Pairwise (fun a b=>a<b):=fun l=>by rw [List.pairwise_map]
 rw [e,h,<- e];exact hs
theorem ids_set {l:List Acc}{k:Nat}{a:Acc}(h:k<l.length)(e:a.1=(l[k]'h).1):(l.set k a).map (·.1)=l.map (·.1):=by
 rw [List.map_set];apply List.ext_getElem
 ·simp
 ·intro i h1 h2;rw [List.getElem_set];split
  ·rename_i g;subst g;simp [e]
  ·rfl
theorem sum_set (f:Acc->Int):∀(l:List Acc)(k:Nat)(h:k<l.length)(a:Acc),((l.set k a).map f).sum=(l.map f).sum - f (l[k]'h)+f a
 |b::l,0,_,a=>by simp;omega
 |b::l,k+1,h,a=>by
  have:=sum_set f l k (by simpa using h) a;simp only [List.set_cons_succ,List.map_cons,List.sum_cons,List.getElem_cons_succ,this];omega
abbrev rng (x:Int):Prop:=0<=x/\x<=1000000000000
structure Str (s:Tn):Prop where
 m1:1<=s.mkts.length
 m2:s.mkts.length<=2
 srt:Srt s.accs
 acc:∀a,a∈s.accs->accErr a.1 a.2.1 a.2.2 s.mkts.length=0
 mkt:∀m,m∈s.mkts->marketErr m.1 m.2.1 m.2.2.1 m.2.2.2=0
 who:∀m,m∈s.mkts->∀o,o∈m.1++m.2.1->hasA s.accs (oac o)=true/\oid o<s.next
 nx:1<=s.next/\s.next<=100000
 ins:rng s.ins
 res:rng s.res
 inn:rng s.inn
 out:rng s.out
structure Sums (s:Tn):Prop where
 bal:s.ins+s.res+sumBal s.accs=s.inn - s.out
 pos:∀k,sumPos k s.accs=0
theorem few_accs:∀(l:List Acc)(lo:Int),Srt l->(∀a,a∈l->lo<=a.1/\a.1<=7)->lo<=8->(l.length:Int)<=8 - lo
 |[],lo,_,_,h=>by simp;omega
 |a::l,lo,hs,h,_=>by
  have h0:=h a (by simp);have hs':=List.pairwise_cons.1 hs;have:=few_accs l (a.1+1) hs'.2 (fun b hb=>⟨by have:=hs'.1 b hb;omega,(h b (by simp [hb])).2⟩) (by omega);simp;omega
theorem accsE_zero (m:Int):∀(l:List Acc)(prev:Option Int),accsE m prev l=0↔(∀a,a∈l->accErr a.1 a.2.1 a.2.2 m=0)/\Srt l/\(∀p,prev=some p->∀a,a∈l->p<a.1)
 |[],prev=>by simp [accsE]
 |a::l,prev=>by
  unfold accsE;by_cases h1:accErr a.1 a.2.1 a.2.2 m=0
  ·rw [if_neg (by simpa using h1)];by_cases h2:prev.elim false (fun p=>decide (a.1<=p))=true
   ·rw [if_pos h2];constructor
    ·intro h;cases h
    ·rintro ⟨-,-,h⟩
     cases prev with
     |none=>simp at h2
     |some p =>
      have:=h p rfl a (by simp);simp at h2;omega
   ·rw [if_neg h2,accsE_zero m l (some a.1)];constructor
    ·rintro ⟨g1,g2,g3⟩;refine⟨fun b hb=>?_,List.pairwise_cons.2 ⟨fun b hb=>g3 a.1 rfl b hb,g2⟩,fun p hp b hb=>?_⟩
     ·rcases List.mem_cons.1 hb with rfl | hb
      ·exact h1
      ·exact g1 b hb
     ·subst hp;simp at h2;rcases List.mem_cons.1 hb with rfl | hb
      ·exact h2
      ·have:=g3 a.1 rfl b hb;omega
    ·rintro ⟨g1,g2,g3⟩;have g2':=List.pairwise_cons.1 g2;exact⟨fun b hb=>g1 b (by simp [hb]),g2'.2,fun p hp b hb=>by cases hp;exact g2'.1 b hb⟩
  ·rw [if_pos (by simpa using h1)];exact⟨fun h=>absurd h h1,fun h=>absurd (h.1 a (by simp)) h1⟩
theorem ordersE_zero (l:List Acc)(next:Int):∀(r:List Odr),ordersE l next r=0↔∀o,o∈r->hasA l (oac o)=true/\oid o<next
 |[]=>by simp [ordersE]
 |o::r=>by
  unfold ordersE;split
  ·rename_i h;rw [ordersE_zero l next r];constructor
   ·intro g x hx;rcases List.mem_cons.1 hx with rfl | hx
    ·exact h
    ·exact g x hx
   ·exact fun g x hx=>g x (by simp [hx])
  ·rename_i h;exact⟨fun e=>(by cases e),fun g=>absurd (g o (by simp)) h⟩
theorem mktsE_zero (l:List Acc)(next:Int):∀(r:List Mp),mktsE l next r=0↔∀m,m∈r->marketErr m.1 m.2.1 m.2.2.1 m.2.2.2=0/\∀o,o∈m.1++m.2.1->hasA l (oac o)=true/\oid o<next
 |[]=>by simp [mktsE]
 |m::r=>by
  unfold mktsE;split
  ·rename_i h;exact⟨fun e=>absurd e h,fun g=>absurd (g m (by simp)).1 h⟩
  ·rename_i h;have h:marketErr m.1 m.2.1 m.2.2.1 m.2.2.2=0:=Decidable.not_not.1 h;split
   ·rename_i h2;exact⟨fun e=>absurd e h2,fun g=>absurd ((ordersE_zero l next _).2 (g m (by simp)).2) h2⟩
   ·rename_i h2;have h2:=(ordersE_zero l next _).1 (Decidable.not_not.1 h2);rw [mktsE_zero l next r];constructor
    ·intro g x hx;rcases List.mem_cons.1 hx with rfl | hx
     ·exact⟨h,h2⟩
     ·exact g x hx
    ·exact fun g x hx=>g x (by simp [hx])
theorem sumPos_far {s:Tn}(h:∀a,a∈s.accs->a.2.2.length<=2)(k:Nat)(hk:2<=k):sumPos k s.accs=0:=by
 unfold sumPos
 have:∀l:List Acc,(∀a,a∈l->a.2.2.length<=2)->(l.map fun a=>posAt a k).sum=0:=by
  intro l;induction l with
  |nil=>intro _;rfl
  |cons a l ih =>
   intro g;have g0:=g a (by simp);rw [List.map_cons,List.sum_cons,ih (fun b hb=>g b (by simp [hb]))];unfold posAt;simp [show a.2.2.length<=k by omega]
 exact this _ h
theorem betw_iff {a x b:Int}:betw a x b=true↔a<=x/\x<=b:=⟨betw_true,betw_mk⟩
theorem acc_len {a:Acc}{m:Int}(h:accErr a.1 a.2.1 a.2.2 m=0):(a.2.2.length:Int)=m:=(accErr_ok h).2.2.1
theorem checkE_zero {s:Tn}:checkE s=0↔Str s/\Sums s:=by
 unfold checkE;constructor
 ·intro h;split at h
  ·rename_i g;exact absurd h g
  rename_i g1;have g1:limE s=0:=Decidable.not_not.1 g1;split at h
  ·rename_i g;exact absurd h g
  rename_i g2;obtain⟨a1,a2,-⟩:=(accsE_zero _ _ _).1 (Decidable.not_not.1 g2);split at h
  ·rename_i g;exact absurd h g
  rename_i g3;have g3:sumsE s=0:=Decidable.not_not.1 g3;have m:=(mktsE_zero _ _ _).1 h;unfold limE at g1;split at g1
  ·cases g1
  rename_i l1;split at g1
  ·rename_i l2;simp only [betw_iff] at l2;unfold sumsE at g3;split at g3
   ·rename_i s1;refine⟨⟨by omega,by omega,a2,a1,fun x hx=>(m x hx).1,fun x hx=>(m x hx).2,l2.2.2.2.2,l2.1,l2.2.1,l2.2.2.1,l2.2.2.2.1⟩,⟨s1.1,fun k=>?_⟩⟩;match k with
    |0=>exact s1.2.1
    |1=>exact s1.2.2
    |k+2=>exact sumPos_far (fun a ha=>by have:=acc_len (a1 a ha);omega) (k+2) (by omega)
   ·cases g3
  ·cases g1
 ·rintro ⟨h,hs⟩;have hl:=few_accs s.accs 0 h.srt (fun a ha=>betw_true (accErr_ok (h.acc a ha)).1) (by omega);have l1:limE s=0:=by
   unfold limE;rw [if_neg (by have:=h.m1;have:=h.m2;omega),if_pos];simp only [betw_iff];exact⟨h.ins,h.res,h.inn,h.out,h.nx⟩
  have l2:accsE s.mkts.length none s.accs=0:=(accsE_zero _ _ _).2 ⟨h.acc,h.srt,fun p hp=>by cases hp⟩;have l3:sumsE s=0:=by unfold sumsE;rw [if_pos ⟨hs.bal,hs.pos 0,hs.pos 1⟩]
  rw [if_neg (by simp [l1]),if_neg (by simp [l2]),if_neg (by simp [l3])];exact(mktsE_zero _ _ _).2 fun m hm=>⟨h.mkt m hm,h.who m hm⟩
theorem mem_set_of {α:Type}{l:List α}{k:Nat}{a x:α}(h:x∈l.set k a):x=a\/x∈l:=by
 rcases List.mem_or_eq_of_mem_set h with h | h
 ·exact .inr h
 ·exact .inl h
theorem Str.setA {s:Tn}(h:Str s){k:Nat}(hk:k<s.accs.length){a:Acc}(h1:a.1=(accAt s k).1)(h2:accErr a.1 a.2.1 a.2.2 s.mkts.length=0):Str (s.setA k a):=by
 have hi:(s.setA k a).accs.map (·.1)=s.accs.map (·.1):=ids_set hk (by rw [h1,accAt_get hk]);refine⟨h.m1,h.m2,srt_ids hi h.srt,fun b hb=>?_,h.mkt,fun m hm o ho=>?_,h.nx,h.ins,h.res,h.inn,h.out⟩
 ·rcases mem_set_of hb with rfl | hb
  ·exact h2
  ·exact h.acc b hb
 ·rw [has_ids hi];exact h.who m hm o ho
theorem Str.setM {s:Tn}(h:Str s)(k:Nat){m:Mp}(h1:marketErr m.1 m.2.1 m.2.2.1 m.2.2.2=0)(h2:∀o,o∈m.1++m.2.1->hasA s.accs (oac o)=true/\oid o<s.next):Str (s.setM k m):=by
 have hl:(s.setM k m).mkts.length=s.mkts.length:=by simp [Tn.setM]
 refine⟨by rw [hl];exact h.m1,by rw [hl];exact h.m2,h.srt,fun b hb=>by rw [hl];exact h.acc b hb,fun x hx=>?_,fun x hx=>?_,h.nx,h.ins,h.res,h.inn,h.out⟩
 ·rcases mem_set_of hx with rfl | hx
  ·exact h1
  ·exact h.mkt x hx
 ·rcases mem_set_of hx with rfl | hx
  ·exact h2
  ·exact h.who x hx
theorem Str.tell {s:Tn}(h:Str s)(e:Ev):Str (s.tell e):=⟨h.m1,h.m2,h.srt,h.acc,h.mkt,h.who,h.nx,h.ins,h.res,h.inn,h.out⟩
theorem Sums.tell {s:Tn}(h:Sums s)(e:Ev):Sums (s.tell e):=⟨h.bal,h.pos⟩
theorem Sums.setM {s:Tn}(h:Sums s)(k:Nat)(m:Mp):Sums (s.setM k m):=⟨h.bal,h.pos⟩
theorem marketErr_mk {b a:List Odr}{i l:Int}(h:Right b a)(h1:1<=i/\i<=10000)(h2:0<=l/\l<=10000):marketErr b a i l=0:=by
 unfold marketErr;rw [if_pos (bookErr_zero.2 h),if_pos ⟨betw_mk h1,betw_mk h2⟩]
theorem Str.at {s:Tn}(h:Str s){k:Nat}(hk:k<s.mkts.length):Right (mktAt s k).1 (mktAt s k).2.1/\(1<=(mktAt s k).2.2.1/\(mktAt s k).2.2.1<=10000)/\(0<=(mktAt s k).2.2.2/\(mktAt s k).2.2.2<=10000)/\∀o,o∈(mktAt s k).1++(mktAt s k).2.1->hasA s.accs (oac o)=true/\oid o<s.next:=by
 rw [mktAt_get hk];have h1:=marketErr_ok (h.mkt _ (List.getElem_mem hk));exact⟨bookErr_zero.1 h1.1,betw_true h1.2.1,betw_true h1.2.2,h.who _ (List.getElem_mem hk)⟩
theorem Str.setB {s:Tn}(h:Str s){k:Nat}(hk:k<s.mkts.length){b a:List Odr}(h1:Right b a)(h2:∀o,o∈b++a->hasA s.accs (oac o)=true/\oid o<s.next):Str (s.setB k b a) :=
 h.setM k (marketErr_mk h1 (h.at hk).2.1 (h.at hk).2.2.1) h2
theorem Str.setL {s:Tn}(h:Str s){k:Nat}(hk:k<s.mkts.length){n:Int}(hn:0<=n/\n<=10000):Str (s.setL k n) :=
 h.setM k (marketErr_mk (h.at hk).1 (h.at hk).2.1 hn) (h.at hk).2.2.2
theorem Str.setI {s:Tn}(h:Str s){k:Nat}(hk:k<s.mkts.length){n:Int}(hn:1<=n/\n<=10000):Str (s.setI k n) :=
 h.setM k (marketErr_mk (h.at hk).1 hn (h.at hk).2.2.1) (h.at hk).2.2.2
theorem Str.accOk {s:Tn}(h:Str s){k:Nat}(hk:k<s.accs.length):accErr (accAt s k).1 (accAt s k).2.1 (accAt s k).2.2 s.mkts.length=0:=by
 rw [accAt_get hk];exact h.acc _ (List.getElem_mem hk)
def accOf (l:List Acc) (id:Int):Acc:=(l.find? fun a=>decide (a.1=id)).getD (id,0,[])
def balOf (l:List Acc) (id:Int):Int:=(accOf l id).2.1
def posOf (l:List Acc) (k:Nat) (id:Int):Int:=posAt (accOf l id) k
theorem find_srt:∀{l:List Acc},Srt l->∀(k:Nat)(h:k<l.length),l.find? (fun a=>decide (a.1=(l[k]'h).1))=some (l[k]'h)
 |a::l,hs,0,_=>by simp
 |a::l,hs,k+1,h=>by
  have hs':=List.pairwise_cons.1 hs;have hk:k<l.length:=by simpa using h
  have:=hs'.1 _ (List.getElem_mem hk);rw [List.find?_cons];simp only [List.getElem_cons_succ];rw [show decide (a.1=(l[k]'hk).1)=false by simp;omega];exact find_srt hs'.2 k hk
theorem accOf_at {s:Tn}(hs:Srt s.accs){k:Nat}(h:k<s.accs.length):accOf s.accs (accAt s k).1=accAt s k:=by
 unfold accOf;rw [accAt_get h,find_srt hs k h];rfl
theorem accOf_plc {s:Tn}(hs:Srt s.accs){id:Int}(h:hasA s.accs id=true):accOf s.accs id=accAt s (plc s.accs id):=by
 obtain⟨h1,h2⟩:=accAt_has hs h;have:=accOf_at hs h1;rw [h2] at this;exact this
theorem accOf_set:∀{l:List Acc},Srt l->∀(k:Nat)(h:k<l.length)(a:Acc)(id:Int),a.1=(l[k]'h).1->accOf (l.set k a) id=if id=a.1 then a else accOf l id
 |b::l,hs,0,_,a,id,e=>by
  simp only [List.getElem_cons_zero] at e;unfold accOf
  rw [List.set_cons_zero,List.find?_cons,List.find?_cons,<- e]
  by_cases h:id=a.1
  ·subst h;simp
  ·rw [if_neg h,show decide (a.1=id)=false by simp;omega]
 |b::l,hs,k+1,h,a,id,e=>by
  have hs':=List.pairwise_cons.1 hs
  have hk:k<l.length:=by simpa using h
  simp only [List.getElem_cons_succ] at e;have ih:=accOf_set hs'.2 k hk a id e;unfold accOf at ih ⊢
  rw [List.set_cons_succ,List.find?_cons,List.find?_cons]
  by_cases hb:b.1=id
  ·have:=hs'.1 _ (List.getElem_mem hk)
   rw [show decide (b.1=id)=true by simpa using hb,if_neg (by omega)]
  ·rw [show decide (b.1=id)=false by simpa using hb]
   exact ih
def feeF (free:Bool) (f:Fil):Int:=if free=true then 0 else (feeR f.2.2.2.2.2.2 f.2.2.2.2.2.1).1
def filBal (free:Bool) (id:Int) (f:Fil):Int :=
 (if f.2.2.1=id then f.2.2.2.2.1*f.2.2.2.2.2.2*f.2.2.2.2.2.1 else 0) - (if f.2.2.2.1=id then f.2.2.2.2.1*f.2.2.2.2.2.2*f.2.2.2.2.2.1+feeF free f else 0)
def filPos (id:Int) (f:Fil):Int:=(if f.2.2.2.1=id then f.2.2.2.2.1*f.2.2.2.2.2.2 else 0) - (if f.2.2.1=id then f.2.2.2.2.1*f.2.2.2.2.2.2 else 0)
def evBal (free:Bool) (id:Int) (e:Ev):Int :=
 if e.1=5 then (if e.2.2.2.2.1=id then e.2.2.2.2.2.1 else 0) else if e.1=3\/e.1=6 then filBal free id e.2.2.2.2.2.2 else 0
def evPos (k:Nat) (id:Int) (e:Ev):Int:=if (e.1=3\/e.1=6)/\e.2.2.1=k then filPos id e.2.2.2.2.2.2 else 0
def sumBalE (free:Bool) (id:Int) (L:List Ev):Int:=(L.map (evBal free id)).sum
def sumPosE (k:Nat) (id:Int) (L:List Ev):Int:=(L.map (evPos k id)).sum
def Led (free:Bool) (s t:Tn):Prop :=
 ∃L,t.evs=s.evs++L/\(∀id,balOf t.accs id=balOf s.accs id+sumBalE free id L)/\∀k id,posOf t.accs k id=posOf s.accs k id+sumPosE k id L
theorem Led.refl (free:Bool)(s:Tn):Led free s s:=⟨[],by simp,fun _=>by simp [sumBalE],fun _ _=>by simp [sumPosE]⟩
theorem Led.trans {free:Bool}{s t u:Tn}(h:Led free s t)(h2:Led free t u):Led free s u:=by
 obtain⟨L,e,b,p⟩:=h;obtain⟨L2,e2,b2,p2⟩:=h2;refine⟨L++L2,by rw [e2,e,List.append_assoc],fun id=>?_,fun k id=>?_⟩
 ·rw [b2,b];simp [sumBalE,List.sum_append];omega
 ·rw [p2,p];simp [sumPosE,List.sum_append];omega
theorem Led.quiet {free:Bool}{s t:Tn}(e:Ev)(h1:t.evs=s.evs++[e])(h2:t.accs=s.accs)(h3:e.1=1\/e.1=2\/e.1=4):Led free s t:=by
 refine⟨[e],h1,fun id=>?_,fun k id=>?_⟩
 ·rw [h2];unfold sumBalE evBal;simp only [List.map_cons,List.map_nil,List.sum_cons,List.sum_nil];rw [if_neg (by omega),if_neg (by omega)];omega
 ·rw [h2];unfold sumPosE evPos;simp only [List.map_cons,List.map_nil,List.sum_cons,List.sum_nil];rw [if_neg (by omega)];omega
theorem Led.none {free:Bool}{s t:Tn}(h1:t.evs=s.evs)(h2:t.accs=s.accs):Led free s t:=⟨[],by simp [h1],fun _=>by rw [h2];simp [sumBalE],fun _ _=>by rw [h2];simp [sumPosE]⟩
theorem traded_ok {a:Acc}{mk q p fee m:Int}(ha:accErr a.1 a.2.1 a.2.2 m=0)(h:tradeErr a.1 a.2.1 a.2.2 mk q p fee=0):accErr (traded a mk q p fee).1 (traded a mk q p fee).2.1 (traded a mk q p fee).2.2 m=0:=by
 obtain⟨a1,a2,a3,a4,a5⟩:=accErr_ok ha;obtain⟨-,-,-,-,-,-,t7,t8⟩:=tradeErr_ok h;unfold traded;exact accErr_mk a1 a2 (by simpa using a3) t7 (all_set a5 t8)
theorem posAt_traded {a:Acc}{mk q p fee:Int}(h:0<=mk/\mk<a.2.2.length)(k:Nat):posAt (traded a mk q p fee) k=posAt a k+if k=mk.toNat then q else 0:=by
 unfold posAt traded;by_cases e:k=mk.toNat
 ·subst e;rw [if_pos rfl];simp [show mk.toNat<a.2.2.length by omega]
 ·rw [if_neg e];simp only [List.getD_eq_getElem?_getD];rw [List.getElem?_set_ne (by omega)];omega
structure Kin (s t:Tn):Prop where
 ids:t.accs.map (·.1)=s.accs.map (·.1)
 bks:t.mkts.map (fun m=>(m.1,m.2.1,m.2.2.1))=s.mkts.map (fun m=>(m.1,m.2.1,m.2.2.1))
 next:t.next=s.next
 res:t.res=s.res
 inn:t.inn=s.inn
 out:t.out=s.out
theorem Kin.refl (s:Tn):Kin s s:=⟨rfl,rfl,rfl,rfl,rfl,rfl⟩
theorem Kin.trans {s t u:Tn}(h:Kin s t)(k:Kin t u):Kin s u:=⟨k.ids.trans h.ids,k.bks.trans h.bks,k.next.trans h.next,k.res.trans h.res,k.inn.trans h.inn,k.out.trans h.out⟩
theorem Kin.len {s t:Tn}(h:Kin s t):t.mkts.length=s.mkts.length:=by
 have:=congrArg List.length h.bks;simpa using this
theorem Kin.book {s t:Tn}(h:Kin s t)(k:Nat):(mktAt t k).1=(mktAt s k).1/\(mktAt t k).2.1=(mktAt s k).2.1/\(mktAt t k).2.2.1=(mktAt s k).2.2.1:=by
 have e:=congrArg (fun l=>l[k]?) h.bks;simp only [List.getElem?_map] at e;unfold mktAt;simp only [List.getD_eq_getElem?_getD];revert e
 cases t.mkts[k]?<;>cases s.mkts[k]?<;>intro e<;>simp_all
theorem Kin.tell {s t:Tn}(h:Kin s t)(e:Ev):Kin s (t.tell e):=⟨h.ids,h.bks,h.next,h.res,h.inn,h.out⟩
theorem Kin.setL {s t:Tn}(h:Kin s t)(k:Nat)(n:Int):Kin s (t.setL k n):=by
 refine⟨h.ids,?_,h.next,h.res,h.inn,h.out⟩;rw [<- h.bks];show (t.mkts.set k _).map _=_;rw [List.map_set];by_cases hk:k<t.mkts.length
 ·apply List.ext_getElem
  ·simp
  ·intro i h1 h2;rw [List.getElem_set];split
   ·rename_i g;subst g;simp [mktAt_get hk]
   ·rfl
 ·rw [List.set_eq_of_length_le (by simpa using hk)]
structure TFact (s t:Tn) (id:Int) (mk:Nat) (q p fee:Int):Prop where
 kin:Kin s t
 str:Str t
 ins:t.ins=s.ins
 mkts:t.mkts=s.mkts
 evs:t.evs=s.evs
 bal:sumBal t.accs=sumBal s.accs - q*p - fee
 pos:∀k,sumPos k t.accs=sumPos k s.accs+if k=mk then q else 0
 one:∀j,balOf t.accs j=balOf s.accs j - if id=j then q*p+fee else 0
 onep:∀k j,posOf t.accs k j=posOf s.accs k j+if id=j/\k=mk then q else 0
theorem tradeOf_facts {s t:Tn}{id mk q p fee:Int}(h:tradeOfR s id mk q p fee=.ok t)(hs:Str s)(hid:hasA s.accs id=true):TFact s t id mk.toNat q p fee:=by
 unfold tradeOfR at h;obtain⟨hk,hi⟩:=accAt_has hs.srt hid;split at h
 ·rename_i he
  cases h;obtain⟨t1,t2,-⟩:=tradeErr_ok he;have ha:=hs.accOk hk;have hg:=accAt_get hk;have hset:s.accs.set (plc s.accs id) (traded (accAt s (plc s.accs id)) mk q p fee)=(s.setA (plc s.accs id) (traded (accAt s (plc s.accs id)) mk q p fee)).accs:=rfl
  have hone:∀j,accOf (s.setA (plc s.accs id) (traded (accAt s (plc s.accs id)) mk q p fee)).accs j=if id=j then traded (accAt s (plc s.accs id)) mk q p fee else accOf s.accs j:=by
   intro j;rw [<- hset,accOf_set hs.srt _ hk _ j (by rw [hg];rfl)];show (if j=(accAt s (plc s.accs id)).1 then _ else _)=_;rw [hi];by_cases e:id=j
   ·rw [if_pos e,if_pos e.symm]
   ·rw [if_neg e,if_neg (fun f=>e f.symm)]
  have hacc:=accOf_plc hs.srt hid;refine⟨⟨ids_set hk (by rw [hg];rfl),rfl,rfl,rfl,rfl,rfl⟩,hs.setA hk rfl (traded_ok ha he),rfl,rfl,rfl,?_,fun k=>?_,fun j=>?_,fun k j=>?_⟩
  ·unfold sumBal;rw [<- hset,sum_set _ _ _ hk,<- hg];show _+((accAt s (plc s.accs id)).2.1 - q*p - fee)=_;omega
  ·unfold sumPos;rw [<- hset,sum_set _ _ _ hk,<- hg,posAt_traded t2];omega
  ·unfold balOf;rw [hone];by_cases e:id=j
   ·rw [if_pos e,if_pos e,<- e,hacc];show (accAt s (plc s.accs id)).2.1 - q*p - fee=_;omega
   ·rw [if_neg e,if_neg e];omega
  ·unfold posOf;rw [hone];by_cases e:id=j
   ·rw [if_pos e,posAt_traded t2,<- e,hacc];by_cases e2:k=mk.toNat
    ·rw [if_pos e2,if_pos ⟨rfl,e2⟩]
    ·rw [if_neg e2,if_neg (fun f=>e2 f.2)]
   ·rw [if_neg e,if_neg (fun f=>e f.1)];omega
 ·cases h
structure TFact2 (s t:Tn) (mk:Nat) (f:Fil) (fee:Int):Prop where
 kin:Kin s t
 str:Str t
 ins:t.ins=s.ins+fee
 mkts:t.mkts=s.mkts
 evs:t.evs=s.evs
 sums:Sums s->Sums t
 one:∀j,balOf t.accs j=balOf s.accs j+((if f.2.2.1=j then f.2.2.2.2.1*f.2.2.2.2.2.2*f.2.2.2.2.2.1 else 0) - (if f.2.2.2.1=j then f.2.2.2.2.1*f.2.2.2.2.2.2*f.2.2.2.2.2.1+fee else 0))
 onep:∀k j,posOf t.accs k j=posOf s.accs k j+if k=mk then filPos j f else 0
theorem trade_facts {s t:Tn}{mk:Int}{f:Fil}{fee:Int}(h:tradeR s mk f fee=.ok t)(hs:Str s)(h1:hasA s.accs f.2.2.1=true)(h2:hasA s.accs f.2.2.2.1=true)(hf:0<=fee):TFact2 s t mk.toNat f fee:=by
 obtain⟨mkr,tkr,ma,ta,sd,pr,qt⟩:=f;unfold tradeR at h;dsimp only at h h1 h2 ⊢;generalize hq:sd*qt=q at h;split at h
 ·rename_i u hu;have A:=tradeOf_facts hu hs h2;split at h
  ·rename_i v hv;have B:=tradeOf_facts hv A.str (by rw [has_ids A.kin.ids];exact h1);unfold insR at h;split at h
   ·rename_i he;obtain⟨m1,m2,m3,e⟩:=add_ok he;cases h
    have hin:v.ins=s.ins:=by rw [B.ins,A.ins]
    have K:Kin s v:=A.kin.trans B.kin;have m3':=money_true m3;have hneg:-q*pr = -(q*pr):=Int.neg_mul _ _;refine⟨⟨K.ids,K.bks,K.next,K.res,K.inn,K.out⟩,⟨B.str.m1,B.str.m2,B.str.srt,B.str.acc,B.str.mkt,B.str.who,B.str.nx,?_,B.str.res,B.str.inn,B.str.out⟩,?_,?_,?_,?_,fun j=>?_,fun k j=>?_⟩
    ·show rng (addV v.ins fee);rw [e];have:=hs.ins;rw [hin] at m3' ⊢;exact⟨by omega,by omega⟩
    ·show addV v.ins fee=_;rw [e,hin]
    ·show v.mkts=s.mkts;rw [B.mkts,A.mkts]
    ·show v.evs=s.evs;rw [B.evs,A.evs]
    ·intro S;refine⟨?_,fun k=>?_⟩
     ·show addV v.ins fee+v.res+sumBal v.accs=v.inn - v.out;rw [e,B.bal,A.bal,K.res,K.inn,K.out,hin,hneg];have:=S.bal;omega
     ·show sumPos k v.accs=0;rw [B.pos,A.pos,S.pos];by_cases g:k=mk.toNat
      ·rw [if_pos g,if_pos g];omega
      ·rw [if_neg g,if_neg g];omega
    ·show balOf v.accs j=_;rw [B.one,A.one,hneg];dsimp only;rw [hq];by_cases g1:ma=j
     ·by_cases g2:ta=j
      ·simp only [g1,g2,if_true];omega
      ·simp only [g1,g2,if_true,if_false];omega
     ·by_cases g2:ta=j
      ·simp only [g1,g2,if_true,if_false];omega
      ·simp only [g1,g2,if_false];omega
    ·show posOf v.accs k j=_;rw [B.onep,A.onep];unfold filPos;dsimp only;rw [hq];by_cases g:k=mk.toNat
     ·simp only [g,and_true,if_true];by_cases g1:ma=j
      ·by_cases g2:ta=j
       ·simp only [g1,g2,if_true];omega
       ·simp only [g1,g2,if_true,if_false];omega
      ·by_cases g2:ta=j
       ·simp only [g1,g2,if_true,if_false];omega
       ·simp only [g1,g2,if_false];omega
     ·simp only [g,and_false,if_false];omega
   ·cases h
  ·cases h
 ·cases h
theorem fee_pos (q p:Int):0<=(feeR q p).1:=by
 unfold feeR;split
 ·have:0<=max (q*p) (-(q*p))*5:=by omega
  dsimp only;unfold divUp;rw [if_pos rfl];omega
 ·exact Int.le_refl 0
theorem feeOf_is (free:Bool)(f:Fil):(feeOf free f).1=feeF free f/\0<=(feeOf free f).1:=by
 unfold feeOf feeF;cases free
 ·exact⟨rfl,fee_pos _ _⟩
 ·exact⟨rfl,Int.le_refl 0⟩
structure FFact (s t:Tn) (mk:Nat) (free:Bool) (F:List Fil):Prop where
 kin:Kin s t
 str:Str t
 ins:s.ins<=t.ins/\(free=true->t.ins=s.ins)
 sums:Sums s->Sums t
 led:Led free s t
 evs:t.evs=s.evs++F.map (evFilled mk)
 posn:∀k j,posOf t.accs k j=posOf s.accs k j+if k=mk then (F.map (filPos j)).sum else 0
theorem led_fill {free:Bool}{s t:Tn}{mk:Nat}{f:Fil}(e:Ev)(he:e=evFilled mk f\/∃ac,e=evClosed mk ac f)(A:TFact2 s t mk f (feeF free f))(u:Tn)(h1:u.accs=t.accs)(h2:u.evs=t.evs++[e]):Led free s u:=by
 have k1:¬e.1=5:=by
  rcases he with rfl | ⟨ac,rfl⟩
  ·exact(by decide:¬(3:Int)=5)
  ·exact(by decide:¬(6:Int)=5)
 have k2:e.1=3\/e.1=6:=by
  rcases he with rfl | ⟨ac,rfl⟩
  ·exact .inl rfl
  ·exact .inr rfl
 have k3:e.2.2.1=mk:=by rcases he with rfl | ⟨ac,rfl⟩<;>rfl
 have k4:e.2.2.2.2.2.2=f:=by rcases he with rfl | ⟨ac,rfl⟩<;>rfl
 refine⟨[e],by rw [h2,A.evs],fun id=>?_,fun k id=>?_⟩
 ·rw [h1,A.one];unfold sumBalE evBal;simp only [List.map_cons,List.map_nil,List.sum_cons,List.sum_nil];rw [if_neg k1,if_pos k2,k4];unfold filBal;omega
 ·rw [h1,A.onep];unfold sumPosE evPos;simp only [List.map_cons,List.map_nil,List.sum_cons,List.sum_nil];rw [k3,k4];by_cases g:k=mk
  ·rw [if_pos g,if_pos ⟨k2,by rw [g]⟩];omega
  ·rw [if_neg g,if_neg (fun x=>g (by have:=x.2;omega))];omega
theorem Led.then {free:Bool}{s t u:Tn}(h:Led free s t)(h1:u.accs=t.accs)(h2:u.evs=t.evs):Led free s u:=h.trans (.none h2 h1)
theorem fills_facts (mk:Nat)(free:Bool):∀(F:List Fil)(s t:Tn),fillsR mk free F s=.ok t->Str s->mk<s.mkts.length->(∀f,f∈F->hasA s.accs f.2.2.1=true/\hasA s.accs f.2.2.2.1=true/\0<=f.2.2.2.2.2.1/\f.2.2.2.2.2.1<=10000)->FFact s t mk free F
 |[],s,t,h,hs,_,_=>by
  cases h
  exact⟨.refl s,hs,⟨Int.le_refl _,fun _=>rfl⟩,id,.refl _ _,by simp,fun k j=>by simp⟩
 |f::F,s,t,h,hs,hk,hF=>by
  unfold fillsR at h
  split at h
  ·split at h
   ·rename_i u hu
    obtain⟨f1,f2,f3,f4⟩:=hF f (by simp)
    obtain⟨e1,e2⟩:=feeOf_is free f;have A:=trade_facts hu hs f1 f2 e2;have hlen:=A.kin.len
    have S1:Str ((u.setL (mk:Int).toNat f.2.2.2.2.2.1).tell (evFilled mk f)):=(A.str.setL (by rw [hlen];simpa using hk) ⟨f3,f4⟩).tell _
    have K1:Kin s ((u.setL (mk:Int).toNat f.2.2.2.2.2.1).tell (evFilled mk f)):=(A.kin.setL _ _).tell _
    have B:=fills_facts mk free F _ t h S1 (by rw [K1.len];exact hk) (fun g hg=>by rw [has_ids K1.ids,has_ids K1.ids];exact hF g (by simp [hg]))
    rw [e1] at A e2;rw [show (mk:Int).toNat=mk from Int.toNat_natCast mk] at A
    refine⟨K1.trans B.kin,B.str,⟨?_,fun hf=>?_⟩,fun S=>B.sums ((A.sums S).setM _ _ |>.tell _),(led_fill (evFilled mk f) (.inl rfl) A ((u.setL (mk:Int).toNat f.2.2.2.2.2.1).tell (evFilled mk f)) rfl rfl).trans B.led,?_,fun k j=>?_⟩
    ·have:=B.ins.1
     have h2:((u.setL (mk:Int).toNat f.2.2.2.2.2.1).tell (evFilled mk f)).ins=u.ins:=rfl;rw [h2,A.ins] at this
     omega
    ·have:=B.ins.2 hf
     have h2:((u.setL (mk:Int).toNat f.2.2.2.2.2.1).tell (evFilled mk f)).ins=u.ins:=rfl;rw [h2,A.ins] at this;rw [this];unfold feeF;rw [if_pos hf]
     omega
    ·rw [B.evs]
     show (u.evs++[evFilled mk f])++_=_
     rw [A.evs];simp
    ·rw [B.posn]
     show posOf u.accs k j+_=_
     rw [A.onep]
     by_cases g:k=mk
     ·rw [if_pos g,if_pos g,if_pos g,List.map_cons,List.sum_cons];omega
     ·rw [if_neg g,if_neg g,if_neg g];omega
   ·cases h
  ·cases h
theorem takes_all (o:Odr):∀(xs:List Odr)(left:Int),0<=left->(∀x,x∈xs->1<=oqt x) ->
  (∀f,f∈(takes o left xs).2.1->∃x,x∈xs/\f.1=oid x/\f.2.1=oid o/\f.2.2.1=oac x/\f.2.2.2.1=oac o/\f.2.2.2.2.1=osd o/\f.2.2.2.2.2.1=opr x/\1<=f.2.2.2.2.2.2/\¬oac x=oac o) /\
  sumQ (takes o left xs).2.1+(takes o left xs).2.2.1=left/\0<=(takes o left xs).2.2.1 /\
  ∀y,y∈(takes o left xs).1->∃x,x∈xs/\oid y=oid x/\oac y=oac x
 |[],left,hl,_=>by
  rw [takes_nil]
  refine⟨fun f hf=>(by cases hf),by simp [sumQ],hl,fun y hy=>(by cases hy)⟩
 |x::l,left,hl,hx=>by
  by_cases h:0<left/\xes o (opr x)=true
  ·by_cases h2:oac x=oac o
   ·rw [takes_own h.1 h.2 h2]
    exact⟨fun f hf=>(by cases hf),by simp [sumQ],hl,fun y hy=>⟨y,hy,rfl,rfl⟩⟩
   ·by_cases h3:oqt x<=left
    ·rw [takes_full h.1 h.2 h2 h3]
     obtain⟨i1,i2,i3,i4⟩:=takes_all o l (left - oqt x) (by omega) (fun y hy=>hx y (by simp [hy]))
     dsimp only
     refine⟨fun f hf=>?_,?_,i3,fun y hy=>?_⟩
     ·rcases List.mem_cons.1 hf with rfl | hf
      ·exact⟨x,by simp,rfl,rfl,rfl,rfl,rfl,rfl,hx x (by simp),h2⟩
      ·obtain⟨y,hy,r⟩:=i1 f hf
       exact⟨y,by simp [hy],r⟩
     ·unfold sumQ at i2 ⊢
      rw [List.map_cons,List.sum_cons]
      show oqt x+_+_=_
      omega
     ·obtain⟨z,hz,r⟩:=i4 y hy
      exact⟨z,by simp [hz],r⟩
    ·rw [takes_part h.1 h.2 h2 h3]
     dsimp only
     refine⟨fun f hf=>?_,?_,Int.le_refl 0,fun y hy=>?_⟩
     ·rcases List.mem_singleton.1 hf with rfl
      exact⟨x,by simp,rfl,rfl,rfl,rfl,rfl,rfl,(by show 1<=left;omega),h2⟩
     ·unfold sumQ
      show (left+0)+0=left
      omega
     ·rcases List.mem_cons.1 hy with rfl | hy
      ·exact⟨x,by simp,rfl,rfl⟩
      ·exact⟨y,by simp [hy],rfl,rfl⟩
  ·rw [takes_stop h]
   exact⟨fun f hf=>(by cases hf),by simp [sumQ],hl,fun y hy=>⟨y,hy,rfl,rfl⟩⟩
theorem take_fills {b a:List Odr}{o:Odr}(h:Right b a)(ho:okOrder o=0) :
  (∀f,f∈(takeT b a o).2.1->∃x,x∈b++a/\f.2.2.1=oac x/\f.2.2.2.1=oac o/\f.2.2.2.2.1=osd o/\(1<=f.2.2.2.2.2.1/\f.2.2.2.2.2.1<=10000)/\1<=f.2.2.2.2.2.2/\¬oac x=oac o) /\
  sumQ (takeT b a o).2.1+(takeT b a o).2.2.1=oqt o/\0<=(takeT b a o).2.2.1 /\
  ∀y,y∈takeB b a o++takeA b a o->∃x,x∈b++a/\oid y=oid x/\oac y=oac x:=by
 have hq:=okOrder_pq ho;have hok:∀x,x∈(if osd o=1 then a else b)->okOrder x=0/\x∈b++a:=by
  intro x hx;by_cases hs:osd o=1
  ·rw [if_pos hs] at hx;exact⟨h.a.ok x hx,by simp [hx]⟩
  ·rw [if_neg hs] at hx;exact⟨h.b.ok x hx,by simp [hx]⟩
 obtain⟨i1,i2,i3,i4⟩:=takes_all o (if osd o=1 then a else b) (oqt o) (by omega) (fun x hx=>(okOrder_pq (hok x hx).1).2.2.1);refine⟨fun f hf=>?_,i2,i3,fun y hy=>?_⟩
 ·obtain⟨x,hx,-,-,e1,e2,e3,e4,e5,e6⟩:=i1 f hf;have:=okOrder_pq (hok x hx).1;exact⟨x,(hok x hx).2,e1,e2,e3,by omega,e5,e6⟩
 ·unfold takeB takeA at hy;by_cases hs:osd o=1
  ·rw [if_pos hs,if_pos hs] at hy;rcases List.mem_append.1 hy with hy | hy
   ·exact⟨y,by simp [hy],rfl,rfl⟩
   ·obtain⟨x,hx,r⟩:=i4 y hy;exact⟨x,(hok x hx).2,r⟩
  ·rw [if_neg hs,if_neg hs] at hy;rcases List.mem_append.1 hy with hy | hy
   ·obtain⟨x,hx,r⟩:=i4 y hy;exact⟨x,(hok x hx).2,r⟩
   ·exact⟨y,by simp [hy],rfl,rfl⟩
theorem sum_taker {id sd:Int}:∀(F:List Fil),(∀f,f∈F->f.2.2.2.1=id/\¬f.2.2.1=id/\f.2.2.2.2.1=sd)->(F.map (filPos id)).sum=sd*sumQ F
 |[],_=>by simp [sumQ]
 |f::F,h=>by
  obtain⟨h1,h2,h3⟩:=h f (by simp);have ih:=sum_taker F (fun g hg=>h g (by simp [hg]));rw [List.map_cons,List.sum_cons,ih];unfold filPos sumQ;rw [if_pos h1,if_neg h2,h3,List.map_cons,List.sum_cons,Int.mul_add];show _-0+_=sd*f.2.2.2.2.2.2+_;omega
structure SFact (s t:Tn):Prop where
 ids:t.accs.map (·.1)=s.accs.map (·.1)
 len:t.mkts.length=s.mkts.length
 next:t.next=s.next
 res:t.res=s.res
 inn:t.inn=s.inn
 out:t.out=s.out
 ins:t.ins<=s.ins
 str:Str t
 sums:Sums t
 led:Led true s t
 sub:∀k o,o∈(mktAt t k).1++(mktAt t k).2.1->∃p,p∈(mktAt s k).1++(mktAt s k).2.1/\oac o=oac p
theorem SFact.refl {s:Tn}(h:Str s)(h2:Sums s):SFact s s:=⟨rfl,rfl,rfl,rfl,rfl,rfl,Int.le_refl _,h,h2,.refl _ _,fun _ o ho=>⟨o,ho,rfl⟩⟩
theorem SFact.trans {s t u:Tn}(h:SFact s t)(k:SFact t u):SFact s u :=
 ⟨k.ids.trans h.ids,k.len.trans h.len,k.next.trans h.next,k.res.trans h.res,k.inn.trans h.inn,k.out.trans h.out,Int.le_trans k.ins h.ins,k.str,k.sums,h.led.trans k.led,fun i o ho=>by
  obtain⟨p,hp,e⟩:=k.sub i o ho;obtain⟨r,hr,e2⟩:=h.sub i p hp;exact⟨r,hr,e.trans e2⟩⟩
theorem SFact.lenA {s t:Tn}(h:SFact s t):t.accs.length=s.accs.length:=by simpa using congrArg List.length h.ids
theorem ids_at {s t:Tn}(h:t.accs.map (·.1)=s.accs.map (·.1))(i:Nat):(accAt t i).1=(accAt s i).1:=by
 have e:=congrArg (fun l=>l[i]?) h;simp only [List.getElem?_map] at e;unfold accAt;simp only [List.getD_eq_getElem?_getD];revert e
 cases t.accs[i]?<;>cases s.accs[i]?<;>intro e<;>simp_all
theorem mktAt_set {s:Tn}{k:Nat}(hk:k<s.mkts.length)(m:Mp)(j:Nat):mktAt (s.setM k m) j=if j=k then m else mktAt s j:=by
 unfold mktAt Tn.setM;simp only [List.getD_eq_getElem?_getD,List.getElem?_set];by_cases e:k=j
 ·subst e;simp [hk]
 ·rw [if_neg e,if_neg (fun f=>e f.symm)]
theorem most_le (k:Nat)(sg:Int)(s:Tn):∀(l:List Acc)(i best:Nat),l=s.accs.drop i->best<s.accs.length ->
  mostL k sg s i l best<s.accs.length/\sg*posAt (accAt s best) k<=sg*posAt (accAt s (mostL k sg s i l best)) k/\∀a,a∈l->sg*posAt a k<=sg*posAt (accAt s (mostL k sg s i l best)) k
 |[],i,best,_,hb=>⟨hb,Int.le_refl _,fun a ha=>by cases ha⟩
 |a::l,i,best,hl,hb=>by
  have hi:i<s.accs.length:=by
   have:=congrArg List.length hl;simp at this;omega
  have hd:s.accs.drop i=s.accs[i]::s.accs.drop (i+1):=List.drop_eq_getElem_cons hi;rw [hd] at hl;simp only [List.cons.injEq] at hl;have ha:accAt s i=a:=by rw [accAt_get hi,hl.1]
  unfold mostL;by_cases h:sg*posAt (accAt s best) k<sg*posAt a k
  ·rw [if_pos h];obtain⟨r1,r2,r3⟩:=most_le k sg s l (i+1) i hl.2 hi;rw [ha] at r2;refine⟨r1,by omega,fun b hb=>?_⟩;rcases List.mem_cons.1 hb with rfl | hb
   ·exact r2
   ·exact r3 b hb
  ·rw [if_neg h];obtain⟨r1,r2,r3⟩:=most_le k sg s l (i+1) best hl.2 hb;refine⟨r1,r2,fun b hb=>?_⟩;rcases List.mem_cons.1 hb with rfl | hb
   ·omega
   ·exact r3 b hb
theorem sum_neg {f:Acc->Int}:∀(l:List Acc),(∀a,a∈l->f a<=0)->(l.map f).sum<=0/\∀a,a∈l->(l.map f).sum<=f a
 |[],_=>⟨by simp,fun a ha=>by cases ha⟩
 |b::l,h=>by
  obtain⟨i1,i2⟩:=sum_neg l (fun a ha=>h a (by simp [ha]));have h0:=h b (by simp);rw [List.map_cons,List.sum_cons];refine⟨by omega,fun a ha=>?_⟩;rcases List.mem_cons.1 ha with rfl | ha
  ·omega
  ·have:=i2 a ha;omega
theorem sum_mul (sg:Int)(f:Acc->Int):∀(l:List Acc),(l.map fun a=>sg*f a).sum=sg*(l.map f).sum
 |[]=>by simp
 |b::l=>by rw [List.map_cons,List.sum_cons,List.map_cons,List.sum_cons,sum_mul sg f l,Int.mul_add]
theorem most_pos {s:Tn}{k:Nat}{id sd q:Int}(hs:Str s)(hm:Sums s)(hid:hasA s.accs id=true)(hp:posOf s.accs k id = -sd*q)(hsd:sd=1\/sd = -1)(hq:0<q) :
  mostOf k sd s<s.accs.length/\1<=sd*posAt (accAt s (mostOf k sd s)) k:=by
 obtain⟨h1,h2⟩:=accAt_has hs.srt hid;have hn:0<s.accs.length:=by omega
 obtain⟨r1,r2,r3⟩:=most_le k sd s s.accs 0 0 (by simp) hn;refine⟨r1,?_⟩;show 1<=sd*posAt (accAt s (mostL k sd s 0 s.accs 0)) k;generalize sd*posAt (accAt s (mostL k sd s 0 s.accs 0)) k=mx at r3;by_cases hc:1<=mx
 ·exact hc
 ·have hz:=sum_neg (f:=fun a=>sd*posAt a k) s.accs (fun a ha=>by have:=r3 a ha;omega);have e0:(s.accs.map fun a=>sd*posAt a k).sum=0:=by
   rw [sum_mul sd (fun a=>posAt a k)];have:(s.accs.map fun a=>posAt a k).sum=0:=hm.pos k;rw [this];omega
  rw [e0] at hz;have hmem:accAt s (plc s.accs id)∈s.accs:=by rw [accAt_get h1];exact List.getElem_mem h1
  have h3:=hz.2 _ hmem;have hacc:posAt (accAt s (plc s.accs id)) k = -sd*q:=by rw [<- accOf_plc hs.srt hid];exact hp
  rw [hacc] at h3;rcases hsd with rfl | rfl<;>omega
theorem has_at {s:Tn}{i:Nat}(h:i<s.accs.length):hasA s.accs (accAt s i).1=true:=by
 rw [has_iff];exact⟨accAt s i,by rw [accAt_get h];exact List.getElem_mem h,rfl⟩
theorem posOf_at {s:Tn}(hs:Srt s.accs){i:Nat}(h:i<s.accs.length)(k:Nat):posOf s.accs k (accAt s i).1=posAt (accAt s i) k:=by
 unfold posOf;rw [accOf_at hs h]
theorem tell_fact2 {s t:Tn}{mk:Nat}{f:Fil}(A:TFact2 s t mk f 0)(hS:Sums s)(e:Ev)(he:e=evFilled mk f\/∃ac,e=evClosed mk ac f):SFact s (t.tell e):=by
 have A':TFact2 s t mk f (feeF true f):=by unfold feeF;rw [if_pos rfl];exact A
 refine⟨A.kin.ids,A.kin.len,A.kin.next,A.kin.res,A.kin.inn,A.kin.out,?_,A.str.tell _,(A.sums hS).tell _,led_fill (free:=true) e he A' _ rfl rfl,fun k o ho=>?_⟩
 ·show t.ins<=s.ins;rw [A.ins];omega
 ·refine⟨o,?_,rfl⟩;have hm:mktAt (t.tell e) k=mktAt s k:=by
   show t.mkts.getD k noMp=s.mkts.getD k noMp;rw [A.mkts]
  rw [hm] at ho;exact ho
theorem others_facts (k:Nat)(id sd pr:Int)(hsd:sd=1\/sd = -1):∀(n:Nat)(q:Int)(s t:Tn),othersR k id sd pr n q s=.ok t->q.toNat<=n->0<=q->Str s->Sums s->hasA s.accs id=true->posOf s.accs k id = -sd*q ->
  SFact s t/\posOf t.accs k id=0/\∀j,¬j=k->posOf t.accs j id=posOf s.accs j id
 |0,q,s,t,h,hn,hq,hs,hS,_,hp=>by
  cases h
  have:q=0:=by omega
  subst this
  exact⟨.refl hs hS,by rw [hp];omega,fun _ _=>rfl⟩
 |n+1,q,s,t,h,hn,hq,hs,hS,hid,hp=>by
  unfold othersR at h
  by_cases hq0:0<q
  case neg =>
   rw [if_neg hq0] at h;cases h
   have:q=0:=by omega
   subst this
   exact⟨.refl hs hS,by rw [hp];omega,fun _ _=>rfl⟩
  obtain⟨m1,m2⟩:=most_pos hs hS hid hp hsd hq0;rw [if_pos hq0] at h;have hma:=has_at m1;have hmp:=posOf_at hs.srt m1 k;generalize (accAt s (mostOf k sd s)).1=mid at h hma hmp;rw [<- hmp] at h m2;generalize hx:min q (sd*posOf s.accs k mid)=x at h
  have hx1:1<=x/\x<=q:=by omega
  have hne:¬mid=id:=by
   intro e
   rw [e,hp] at m2
   rcases hsd with rfl | rfl<;>omega
  split at h
  ·rename_i u hu
   have A:=trade_facts hu hs hma hid (Int.le_refl 0);rw [Int.toNat_natCast] at A;have F:=tell_fact2 A hS (evClosed k mid (0,0,mid,id,sd,pr,x)) (.inr ⟨mid,rfl⟩)
   have hp2:posOf (u.tell (evClosed k mid (0,0,mid,id,sd,pr,x))).accs k id = -sd*(q - x):=by
    show posOf u.accs k id=_
    rw [A.onep,if_pos rfl,hp];unfold filPos;dsimp only;rw [if_pos rfl,if_neg hne,Int.mul_sub,Int.neg_mul,Int.neg_mul]
    omega
   obtain⟨r1,r2,r3⟩:=others_facts k id sd pr hsd n (q - x) _ t h (by omega) (by omega) F.str F.sums (by rw [has_ids F.ids];exact hid) hp2
   refine⟨F.trans r1,r2,fun j hj=>?_⟩
   rw [r3 j hj]
   show posOf u.accs j id=_
   rw [A.onep,if_neg hj]
   omega
  ·cases h
theorem rem_str {s:Tn}(hs:Str s){k:Nat}(hk:k<s.mkts.length)(id:Int)(o:Odr):Str (remR s k id o):=by
 obtain⟨h1,h2,h3,h4⟩:=hs.at hk;refine(hs.setB hk (remove_right id h1) (fun x hx=>h4 x ?_)).tell _;rcases List.mem_append.1 hx with hx | hx
 ·exact List.mem_append.2 (.inl (mem_without.1 hx).1)
 ·exact List.mem_append.2 (.inr (mem_without.1 hx).1)
theorem rem_facts {s:Tn}(hs:Str s)(hS:Sums s){k:Nat}(hk:k<s.mkts.length)(id:Int)(o:Odr):SFact s (remR s k id o):=by
 refine⟨rfl,by simp [remR,Tn.setB,Tn.setM,Tn.tell],rfl,rfl,rfl,rfl,Int.le_refl _,rem_str hs hk id o,⟨hS.bal,hS.pos⟩,.quiet (evGone k (oid o) (oac o) (oqt o)) rfl rfl (.inr (.inr rfl)),fun j x hx=>?_⟩;have hm:mktAt (remR s k id o) j=mktAt (s.setB k (without id (mktAt s k).1) (without id (mktAt s k).2.1)) j:=rfl;rw [hm] at hx;unfold Tn.setB at hx;rw [mktAt_set hk] at hx;by_cases e:j=k
 ·subst e;rw [if_pos rfl] at hx;rcases List.mem_append.1 hx with hx | hx
  ·exact⟨x,List.mem_append.2 (.inl (mem_without.1 hx).1),rfl⟩
  ·exact⟨x,List.mem_append.2 (.inr (mem_without.1 hx).1),rfl⟩
 ·rw [if_neg e] at hx;exact⟨x,hx,rfl⟩
theorem drop_facts (id:Int)(k:Nat):∀(l:List Odr)(s t:Tn),dropL id k l s=.ok t->Str s->Sums s->k<s.mkts.length->SFact s t/\t.accs=s.accs
 |[],s,t,h,hs,hS,_=>by cases h;exact⟨.refl hs hS,rfl⟩
 |o::l,s,t,h,hs,hS,hk=>by
  unfold dropL at h;split at h
  ·split at h
   ·have F:=rem_facts hs hS hk (oid o) o;obtain⟨G,e⟩:=drop_facts id k l _ t h F.str F.sums (by rw [F.len];exact hk);exact⟨F.trans G,e⟩
   ·cases h
  ·exact drop_facts id k l s t h hs hS hk
theorem dropM_facts (id:Int):∀(n k:Nat)(s t:Tn),dropM id n k s=.ok t->Str s->Sums s->k+n=s.mkts.length->SFact s t/\t.accs=s.accs
 |0,k,s,t,h,hs,hS,_=>by cases h;exact⟨.refl hs hS,rfl⟩
 |n+1,k,s,t,h,hs,hS,hk=>by
  unfold dropM at h;split at h
  ·rename_i u hu;obtain⟨F,e⟩:=drop_facts id k _ s u hu hs hS (by omega);obtain⟨G,e2⟩:=dropM_facts id n (k+1) u t h F.str F.sums (by rw [F.len];omega);exact⟨F.trans G,e2.trans e⟩
  ·cases h
theorem take_str {s:Tn}(hs:Str s){k:Nat}(hk:k<s.mkts.length){o:Odr}(ho:okOrder o=0):Str (s.setB k (takeB (mktAt s k).1 (mktAt s k).2.1 o) (takeA (mktAt s k).1 (mktAt s k).2.1 o)):=by
 obtain⟨h1,h2,h3,h4⟩:=hs.at hk;refine hs.setB hk (take_right h1 ho) (fun x hx=>?_);obtain⟨y,hy,e1,e2⟩:=(take_fills h1 ho).2.2.2 x hx;rw [e1,e2];exact h4 y hy
theorem take_fact {s:Tn}(hs:Str s)(hS:Sums s){k:Nat}(hk:k<s.mkts.length){o:Odr}(ho:okOrder o=0):SFact s (s.setB k (takeB (mktAt s k).1 (mktAt s k).2.1 o) (takeA (mktAt s k).1 (mktAt s k).2.1 o)):=by
 refine⟨rfl,by simp [Tn.setB,Tn.setM],rfl,rfl,rfl,rfl,Int.le_refl _,take_str hs hk ho,⟨hS.bal,hS.pos⟩,.none rfl rfl,fun j x hx=>?_⟩;unfold Tn.setB at hx;rw [mktAt_set hk] at hx;by_cases e:j=k
 ·subst e;rw [if_pos rfl] at hx;obtain⟨y,hy,e1,e2⟩:=(take_fills (hs.at hk).1 ho).2.2.2 x hx;exact⟨y,hy,e2⟩
 ·rw [if_neg e] at hx;exact⟨x,hx,rfl⟩
theorem ffact_sfact {s t:Tn}{k:Nat}{F:List Fil}(h:FFact s t k true F)(hS:Sums s):SFact s t :=
 ⟨h.kin.ids,h.kin.len,h.kin.next,h.kin.res,h.kin.inn,h.kin.out,by rw [h.ins.2 rfl];exact Int.le_refl _,h.str,h.sums hS,h.led,fun j o ho=>by
  obtain⟨e1,e2,-⟩:=h.kin.book j;rw [e1,e2] at ho;exact⟨o,ho,rfl⟩⟩
theorem taken_pre {s u:Tn}{k:Nat}{o:Odr}(hs:Str s)(hS:Sums s)(hk:k<s.mkts.length)(ho:okOrder o=0)(hid:hasA s.accs (oac o)=true)(hp:posOf s.accs k (oac o) = -(osd o)*oqt o)
  (hu:fillsR k true (takeT (mktAt s k).1 (mktAt s k).2.1 o).2.1 (s.setB k (takeB (mktAt s k).1 (mktAt s k).2.1 o) (takeA (mktAt s k).1 (mktAt s k).2.1 o))=.ok u) :
  SFact s u/\0<=(takeT (mktAt s k).1 (mktAt s k).2.1 o).2.2.1/\posOf u.accs k (oac o) = -(osd o)*(takeT (mktAt s k).1 (mktAt s k).2.1 o).2.2.1/\∀j,¬j=k->posOf u.accs j (oac o)=posOf s.accs j (oac o):=by
 obtain⟨f1,f2,f3,-⟩:=take_fills (hs.at hk).1 ho;have T:=take_fact hs hS hk ho;have F:=fills_facts k true _ _ u hu T.str (by rw [T.len];exact hk) (fun f hf=>by
  obtain⟨x,hx,e1,e2,e3,e4,e5,e6⟩:=f1 f hf;refine⟨?_,?_,by omega,by omega⟩
  ·rw [e1];exact((hs.at hk).2.2.2 x hx).1
  ·rw [e2];exact hid)
 refine⟨T.trans (ffact_sfact F T.sums),f3,?_,fun j hj=>?_⟩
 ·rw [F.posn,if_pos rfl,sum_taker (id:=oac o) (sd:=osd o) _ (fun f hf=>by
   obtain⟨x,hx,e1,e2,e3,e4,e5,e6⟩:=f1 f hf;exact⟨e2,by rw [e1];exact e6,e3⟩)]
  show posOf s.accs k (oac o)+_=_;rw [hp,<- f2,Int.neg_mul,Int.neg_mul,Int.mul_add];omega
 ·rw [F.posn,if_neg hj];show posOf s.accs j (oac o)+0=_;omega
theorem closeO_is (a:Acc)(k:Nat)(pr:Int):oac (closeO a k pr)=a.1/\(osd (closeO a k pr)=1\/osd (closeO a k pr) = -1)/\posAt a k = -(osd (closeO a k pr))*oqt (closeO a k pr):=by
 unfold closeO;split
 ·exact⟨rfl,.inl rfl,by show posAt a k = -1 * -(posAt a k);omega⟩
 ·exact⟨rfl,.inr rfl,by show posAt a k = - -1*posAt a k;omega⟩
theorem closeIn_facts {s t:Tn}{i k:Nat}{marks:List Int}(h:closeInR s i k marks=.ok t)(hs:Str s)(hS:Sums s)(hi:i<s.accs.length)(hk:k<s.mkts.length) :
  SFact s t/\posAt (accAt t i) k=0/\∀j,¬j=k->posAt (accAt t i) j=posAt (accAt s i) j:=by
 unfold closeInR at h;split at h
 ·obtain⟨c1,c2,c3⟩:=closeO_is (accAt s i) k (bankR (accAt s i).1 (accAt s i).2.1 (accAt s i).2.2 marks k).1;generalize closeO (accAt s i) k (bankR (accAt s i).1 (accAt s i).2.1 (accAt s i).2.2 marks k).1=o at h c1 c2 c3;unfold closeInO at h;split at h
  ·rename_i ht;have ho:=(takeErr_zero.1 ht).2;have hid:hasA s.accs (oac o)=true:=by rw [c1];exact has_at hi
   have hp:posOf s.accs k (oac o) = -(osd o)*oqt o:=by rw [c1,posOf_at hs.srt hi];exact c3
   split at h
   ·rename_i u hu;obtain⟨G,g1,g2,g3⟩:=taken_pre hs hS hk ho hid hp hu;obtain⟨H,h1,h2⟩:=others_facts k (oac o) (osd o) (opr o) c2 _ _ u t h (Nat.le_refl _) g1 G.str G.sums (by rw [has_ids G.ids];exact hid) g2;have GH:=G.trans H;have hit:i<t.accs.length:=by rw [GH.lenA];exact hi
    have ei:(accAt t i).1=oac o:=by rw [ids_at GH.ids,c1]
    refine⟨GH,?_,fun j hj=>?_⟩
    ·rw [<- posOf_at H.str.srt hit,ei];exact h1
    ·rw [<- posOf_at H.str.srt hit,ei,h2 j hj,g3 j hj,c1,posOf_at hs.srt hi]
   ·cases h
  ·cases h
 ·cases h
theorem closeM_facts (i:Nat)(marks:List Int):∀(n k:Nat)(s t:Tn),closeM i marks n k s=.ok t->Str s->Sums s->i<s.accs.length->k+n=s.mkts.length->SFact s t/\(∀j,j<k+n->(j<k->posAt (accAt s i) j=0)->posAt (accAt t i) j=0)
 |0,k,s,t,h,hs,hS,_,_=>by cases h;exact⟨.refl hs hS,fun j hj h0=>h0 (by omega)⟩
 |n+1,k,s,t,h,hs,hS,hi,hk=>by
  unfold closeM at h;split at h
  ·rename_i hz;obtain⟨G,g⟩:=closeM_facts i marks n (k+1) s t h hs hS hi (by omega);refine⟨G,fun j hj h0=>g j (by omega) (fun hj'=>?_)⟩;by_cases e:j=k
   ·rw [e];exact hz
   ·exact h0 (by omega)
  ·split at h
   ·rename_i u hu;obtain⟨F,f1,f2⟩:=closeIn_facts hu hs hS hi (by omega);obtain⟨G,g⟩:=closeM_facts i marks n (k+1) u t h F.str F.sums (by rw [F.lenA];exact hi) (by rw [F.len];omega);refine⟨F.trans G,fun j hj h0=>g j (by omega) (fun hj'=>?_)⟩;by_cases e:j=k
    ·rw [e];exact f1
    ·rw [f2 j e];exact h0 (by omega)
   ·cases h
structure MFact (s t:Tn) (k:Nat) (n:Int):Prop where
 ids:t.accs.map (·.1)=s.accs.map (·.1)
 mkts:t.mkts=s.mkts
 next:t.next=s.next
 res:t.res=s.res
 inn:t.inn=s.inn
 out:t.out=s.out
 ins:t.ins=s.ins
 str:Str t
 bal:sumBal t.accs=sumBal s.accs+n
 pos:∀j,sumPos j t.accs=sumPos j s.accs
 led:∀free,Led free s t
 accs:t.accs=s.accs.set k ((accAt s k).1,(accAt s k).2.1+n,(accAt s k).2.2)
 evs:t.evs=s.evs++[evMoved (accAt s k).1 n]
theorem move_facts {s t:Tn}{k:Nat}{n:Int}(h:moveR s k n=.ok t)(hs:Str s)(hk:k<s.accs.length):MFact s t k n:=by
 unfold moveR at h;split at h
 ·rename_i he
  cases h;obtain⟨m1,m2,m3,e⟩:=add_ok he;rw [e];have hg:=accAt_get hk;obtain⟨a1,a2,a3,a4,a5⟩:=accErr_ok (hs.accOk hk);have hset:(((s.setA k ((accAt s k).1,(accAt s k).2.1+n,(accAt s k).2.2)).tell (evMoved (accAt s k).1 n))).accs=s.accs.set k ((accAt s k).1,(accAt s k).2.1+n,(accAt s k).2.2):=rfl
  refine⟨ids_set hk (by rw [hg]),rfl,rfl,rfl,rfl,rfl,rfl,(hs.setA (a:=((accAt s k).1,(accAt s k).2.1+n,(accAt s k).2.2)) hk rfl (accErr_mk a1 a2 a3 m3 a5)).tell _,?_,fun j=>?_,fun free=>⟨[evMoved (accAt s k).1 n],rfl,fun id=>?_,fun j id=>?_⟩,rfl,rfl⟩
  ·unfold sumBal;rw [hset,sum_set _ _ _ hk,<- hg];dsimp only;omega
  ·unfold sumPos;rw [hset,sum_set _ _ _ hk,<- hg];unfold posAt;dsimp only;omega
  ·unfold balOf sumBalE evBal;rw [hset,accOf_set hs.srt _ hk _ id (by rw [hg])];simp only [List.map_cons,List.map_nil,List.sum_cons,List.sum_nil,if_true];by_cases e2:id=(accAt s k).1
   ·subst e2;rw [if_pos rfl,if_pos rfl,accOf_at hs.srt hk];show (accAt s k).2.1+n=_;omega
   ·rw [if_neg e2,if_neg (fun f=>e2 f.symm)];omega
  ·unfold posOf sumPosE evPos;rw [hset,accOf_set hs.srt _ hk _ id (by rw [hg])];simp only [List.map_cons,List.map_nil,List.sum_cons,List.sum_nil];have h5:¬(((evMoved (accAt s k).1 n).1=3\/(evMoved (accAt s k).1 n).1=6)/\(evMoved (accAt s k).1 n).2.2.1=(j:Int)):=fun x=>by rcases x.1 with y | y<;>exact absurd y (by show ¬(5:Int)=_;decide)
   rw [if_neg h5];by_cases e2:id=(accAt s k).1
   ·subst e2;rw [if_pos rfl,accOf_at hs.srt hk];show posAt (accAt s k) j=_;omega
   ·rw [if_neg e2];omega
 ·cases h
theorem cover_facts {s t:Tn}{i:Nat}(h:coverR s i=.ok t)(hs:Str s)(hS:Sums s)(hi:i<s.accs.length):SFact s t/\(0<=(accAt t i).2.1\/t.ins=0)/\(∀k,posAt (accAt t i) k=posAt (accAt s i) k)/\t.mkts=s.mkts/\(∀id,¬id=(accAt s i).1->accOf t.accs id=accOf s.accs id):=by
 unfold coverR at h;split at h
 ·rename_i h0
  cases h
  exact⟨.refl hs hS,.inl (by omega),fun _=>rfl,rfl,fun _ _=>rfl⟩
 ·rename_i h0;have h1:=hs.ins;have hs2:Str { s with ins:=s.ins - min (-(accAt s i).2.1) s.ins }:=⟨hs.m1,hs.m2,hs.srt,hs.acc,hs.mkt,hs.who,hs.nx,by show rng (s.ins - min (-(accAt s i).2.1) s.ins);unfold rng;omega,hs.res,hs.inn,hs.out⟩;have A:=move_facts h hs2 hi;have hacc:accAt t i=((accAt s i).1,(accAt s i).2.1+min (-(accAt s i).2.1) s.ins,(accAt s i).2.2):=by
   unfold accAt;rw [A.accs];simp only [List.getD_eq_getElem?_getD,List.getElem?_set];have hi':i<({ s with ins:=s.ins - min (-(accAt s i).2.1) s.ins }:Tn).accs.length:=hi;simp only [hi',if_true,Option.getD_some];rfl
  have hin:t.ins=s.ins - min (-(accAt s i).2.1) s.ins:=A.ins;refine⟨⟨A.ids,by rw [A.mkts],A.next,A.res,A.inn,A.out,by rw [hin];omega,A.str,⟨?_,fun j=>?_⟩,(Led.none (t:={ s with ins:=s.ins - min (-(accAt s i).2.1) s.ins }) rfl rfl).trans (A.led true),fun k o ho=>⟨o,?_,rfl⟩⟩,?_,fun k=>?_,A.mkts,fun id hid=>?_⟩
  ·have:=hS.bal;rw [A.bal,A.res,A.inn,A.out,hin];show s.ins - min (-(accAt s i).2.1) s.ins+s.res+(sumBal s.accs+min (-(accAt s i).2.1) s.ins)=s.inn - s.out;omega
  ·rw [A.pos];exact hS.pos j
  ·have hm:mktAt t k=mktAt s k:=by
    show t.mkts.getD k noMp=s.mkts.getD k noMp;rw [A.mkts]
   rw [hm] at ho;exact ho
  ·rw [hacc,hin];dsimp only;omega
  ·rw [hacc];rfl
  ·rw [A.accs];have e1:=accOf_set hs2.srt i hi ((accAt s i).1,(accAt s i).2.1+min (-(accAt s i).2.1) s.ins,(accAt s i).2.2) id (by show (accAt s i).1=(s.accs[i]'hi).1;rw [accAt_get hi]);rw [if_neg hid] at e1;exact e1
theorem closeAll_facts {s t:Tn}{i:Nat}{marks:List Int}(h:closeAllR s i marks=.ok t)(hs:Str s)(hS:Sums s)(hi:i<s.accs.length):SFact s t/\(∀k,k<s.mkts.length->posAt (accAt t i) k=0)/\(0<=(accAt t i).2.1\/t.ins=0):=by
 unfold closeAllR at h;split at h
 ·rename_i u hu;obtain⟨D,d⟩:=dropM_facts _ _ _ s u hu hs hS (by omega);split at h
  ·rename_i v hv;have hiu:i<u.accs.length:=by rw [d];exact hi
   obtain⟨C,c⟩:=closeM_facts i marks _ 0 u v hv D.str D.sums hiu (by omega);have hiv:i<v.accs.length:=by rw [C.lenA];exact hiu
   obtain⟨G,g1,g2,-,-⟩:=cover_facts h C.str C.sums hiv;exact⟨(D.trans C).trans G,fun k hk=>by rw [g2];exact c k (by rw [D.len];omega) (fun h0=>by omega),g1⟩
  ·cases h
 ·cases h
theorem sweepL_facts (marks:List Int):∀(n i:Nat)(s t:Tn),sweepL marks n i s=.ok t->Str s->Sums s->i+n=s.accs.length->SFact s t
 |0,_,s,t,h,hs,hS,_=>by cases h;exact .refl hs hS
 |n+1,i,s,t,h,hs,hS,hi=>by
  unfold sweepL at h;split at h
  ·split at h
   ·exact sweepL_facts marks n (i+1) s t h hs hS (by omega)
   ·split at h
    ·rename_i u hu;obtain⟨F,-,-⟩:=closeAll_facts hu hs hS (by omega);exact F.trans (sweepL_facts marks n (i+1) u t h F.str F.sums (by rw [F.lenA];omega))
    ·cases h
  ·cases h
theorem sweep_facts {s t:Tn}(h:sweepR s=.ok t)(hs:Str s)(hS:Sums s):SFact s t:=by
 unfold sweepR at h;split at h
 ·exact sweepL_facts _ _ 0 s t h hs hS (by omega)
 ·cases h
structure Keep (s t:Tn):Prop where
 str:Str t
 sums:Sums t
 next:s.next<=t.next/\t.next<=s.next+1
 inn:s.inn<=t.inn
 out:s.out<=t.out
 len:t.mkts.length=s.mkts.length
theorem SFact.keep {s t:Tn}(h:SFact s t):Keep s t:=⟨h.str,h.sums,by rw [h.next];omega,by rw [h.inn];exact Int.le_refl _,by rw [h.out];exact Int.le_refl _,h.len⟩
theorem pay_ok {ac n:Int}(h:payE ac n=0):(1<=n/\n<=1000000000000)/\0<=ac/\ac<=7:=by
 unfold payE at h;split at h
 ·cases h
 ·split at h
  ·cases h
  ·omega
theorem put_mem {l:List Acc}{a x:Acc}:x∈putA l a↔x=a\/x∈l:=by
 unfold putA;rw [List.mem_append,List.mem_cons]
 conv=>rhs;rw [<- List.take_append_drop (plc l a.1) l]
 rw [List.mem_append];constructor
 ·rintro (h | h | h)
  ·exact .inr (.inl h)
  ·exact .inl h
  ·exact .inr (.inr h)
 ·rintro (h | h | h)
  ·exact .inr (.inl h)
  ·exact .inl h
  ·exact .inr (.inr h)
theorem put_len (l:List Acc)(a:Acc):(putA l a).length=l.length+1:=by
 unfold putA;have:=plc_le l a.1;simp;omega
theorem put_srt:∀{l:List Acc}{a:Acc},Srt l->hasA l a.1=false->Srt (putA l a)
 |[],a,_,_=>by simp [putA,plc]
 |b::l,a,hs,hn=>by
  have hs':=List.pairwise_cons.1 hs;have hn':¬b.1=a.1/\hasA l a.1=false:=by
   unfold hasA at hn ⊢;simpa using hn
  by_cases g:b.1<a.1
  ·have e:putA (b::l) a=b::putA l a:=by
    unfold putA;rw [plc,if_pos g,List.take_succ_cons,List.drop_succ_cons,List.cons_append]
   rw [e];refine List.pairwise_cons.2 ⟨fun x hx=>?_,put_srt hs'.2 hn'.2⟩;rcases put_mem.1 hx with rfl | hx
   ·exact g
   ·exact hs'.1 x hx
  ·have e:putA (b::l) a=a::b::l:=by
    unfold putA;rw [plc,if_neg g,List.take_zero,List.drop_zero,List.nil_append]
   rw [e];refine List.pairwise_cons.2 ⟨fun x hx=>?_,hs⟩;rcases List.mem_cons.1 hx with rfl | hx
   ·omega
   ·have:=hs'.1 x hx;omega
theorem put_sum (f:Acc->Int)(l:List Acc)(a:Acc):((putA l a).map f).sum=(l.map f).sum+f a:=by
 unfold putA
 conv=>rhs;rw [<- List.take_append_drop (plc l a.1) l]
 simp only [List.map_append,List.map_cons,List.sum_append,List.sum_cons];omega
theorem zeros_all (n:Nat):(List.replicate n (0:Int)).all pos1=true:=by
 rw [List.all_eq_true];intro x hx;rw [(List.mem_replicate.1 hx).2];decide
theorem posAt_zero (id bal:Int)(n k:Nat):posAt (id,bal,List.replicate n 0) k=0:=by
 unfold posAt;simp only [List.getD_eq_getElem?_getD,List.getElem?_replicate];split<;>rfl
theorem accOf_put {l:List Acc}{a:Acc}(hn:hasA l a.1=false)(id:Int):accOf (putA l a) id=if id=a.1 then a else accOf l id:=by
 have hno:∀x,x∈l->¬x.1=a.1:=by
  intro x hx e;have:hasA l a.1=true:=(has_iff _ _).2 ⟨x,hx,e⟩;rw [hn] at this;cases this
 unfold accOf putA;rw [List.find?_append,List.find?_cons];by_cases e:id=a.1
 ·subst e;rw [if_pos rfl];have:(l.take (plc l a.1)).find? (fun x=>decide (x.1=a.1))=none:=by
   rw [List.find?_eq_none];intro x hx;simpa using hno x (List.mem_of_mem_take hx)
  rw [this];simp
 ·rw [if_neg e,show decide (a.1=id)=false by simp;omega]
  conv=>rhs;rw [<- List.take_append_drop (plc l a.1) l]
  rw [List.find?_append]
theorem open_facts {s:Tn}(hs:Str s)(hS:Sums s){id:Int}(hid:0<=id/\id<=7):Str (openR s id)/\Sums (openR s id)/\plc s.accs id<(openR s id).accs.length/\(accAt (openR s id) (plc s.accs id)).1=id/\(openR s id).mkts=s.mkts/\(∀free,Led free s (openR s id))/\(∀j,balOf (openR s id).accs j=balOf s.accs j):=by
 unfold openR;split
 ·rename_i h;obtain⟨h1,h2⟩:=accAt_has hs.srt h;exact⟨hs,hS,h1,h2,rfl,fun _=>.refl _ _,fun _=>rfl⟩
 ·rename_i h;have h:hasA s.accs id=false:=by simpa using h
  have hb:∀j,balOf (putA s.accs (id,0,List.replicate s.mkts.length 0)) j=balOf s.accs j:=by
   intro j;unfold balOf;rw [accOf_put h];by_cases e:j=id
   ·rw [if_pos e];have:accOf s.accs j=(j,0,[]):=by
     unfold accOf;have:s.accs.find? (fun a=>decide (a.1=j))=none:=by
      rw [List.find?_eq_none];intro x hx;have:hasA s.accs id=true->False:=by rw [h];intro h;cases h
      simp only [decide_eq_true_eq];intro e2;exact this ((has_iff _ _).2 ⟨x,hx,by rw [e2,e]⟩)
     rw [this];rfl
    rw [this]
   ·rw [if_neg e]
  have hlen:=put_len s.accs (id,0,List.replicate s.mkts.length 0);have hpl:=plc_le s.accs id;refine⟨⟨hs.m1,hs.m2,put_srt hs.srt h,fun a ha=>?_,hs.mkt,fun m hm o ho=>?_,hs.nx,hs.ins,hs.res,hs.inn,hs.out⟩,⟨?_,fun k=>?_⟩,?_,?_,rfl,fun free=>⟨[],by simp,fun j=>?_,fun k j=>?_⟩,hb⟩
  ·rcases put_mem.1 ha with rfl | ha
   ·have:=hs.m1;have:=hs.m2;have hm:betw 1 (s.mkts.length:Int) 2=true:=betw_mk (by omega);exact accErr_mk (betw_mk hid) hm (by simp) (show money 0=true by decide) (zeros_all _)
   ·exact hs.acc a ha
  ·obtain⟨h1,h2⟩:=hs.who m hm o ho;refine⟨?_,h2⟩;rw [has_iff] at h1 ⊢;obtain⟨a,ha,e⟩:=h1;exact⟨a,put_mem.2 (.inr ha),e⟩
  ·have:=hS.bal;unfold sumBal at this ⊢;show s.ins+s.res+((putA s.accs (id,0,List.replicate s.mkts.length 0)).map fun a=>a.2.1).sum=_;rw [put_sum];dsimp only;omega
  ·have:=hS.pos k;unfold sumPos at this ⊢;show ((putA s.accs (id,0,List.replicate s.mkts.length 0)).map fun a=>posAt a k).sum=_;rw [put_sum,this,posAt_zero];omega
  ·show plc s.accs id<(putA s.accs (id,0,List.replicate s.mkts.length 0)).length;omega
  ·unfold accAt;show ((putA s.accs (id,0,List.replicate s.mkts.length 0)).getD (plc s.accs id) noAcc).1=id;unfold putA;simp only [List.getD_eq_getElem?_getD];rw [List.getElem?_append_right (by simp;omega)];simp [hpl]
  ·show balOf (putA s.accs (id,0,List.replicate s.mkts.length 0)) j=_;rw [hb];simp [sumBalE]
  ·show posOf (putA s.accs (id,0,List.replicate s.mkts.length 0)) k j=_;unfold posOf;rw [accOf_put h];by_cases e:j=id
   ·rw [if_pos e,posAt_zero];have:accOf s.accs j=(j,0,[]):=by
     unfold accOf;have:s.accs.find? (fun a=>decide (a.1=j))=none:=by
      rw [List.find?_eq_none];intro x hx;have:hasA s.accs id=true->False:=by rw [h];intro h;cases h
      simp only [decide_eq_true_eq];intro e2;exact this ((has_iff _ _).2 ⟨x,hx,by rw [e2,e]⟩)
     rw [this];rfl
    rw [this];simp [posAt,sumPosE]
   ·rw [if_neg e];simp [sumPosE]
theorem deposit_facts {s t:Tn}{ac n:Int}(h:depositR s ac n=.ok t)(hs:Str s)(hS:Sums s):Keep s t/\(∀free,Led free s t):=by
 unfold depositR at h;split at h
 ·rename_i hp;obtain⟨p1,p2⟩:=pay_ok hp;split at h
  ·rename_i he;obtain⟨m1,m2,m3,e⟩:=add_ok he;have m3':=money_true m3;have hi:=hs.inn;generalize hs1:({ s with inn:=addV s.inn n }:Tn)=s1 at h;have hs2:Str s1:=by
    subst hs1;exact⟨hs.m1,hs.m2,hs.srt,hs.acc,hs.mkt,hs.who,hs.nx,hs.ins,hs.res,by show rng (addV s.inn n);rw [e];unfold rng at *;omega,hs.out⟩
   have hacc:s1.accs=s.accs:=by subst hs1;rfl
   have O1:=open_facts (s:={ s1 with inn:=s.inn }) (id:=ac) ⟨hs2.m1,hs2.m2,hs2.srt,hs2.acc,hs2.mkt,hs2.who,hs2.nx,hs2.ins,hs2.res,hs.inn,hs2.out⟩ (by subst hs1;exact⟨hS.bal,hS.pos⟩) p2;obtain⟨o1,o2,o3,o4,o5,o6,o7⟩:=O1;have hop:openR s1 ac = { openR { s1 with inn:=s.inn } ac with inn:=s1.inn }:=by
    unfold openR;split<;>rfl
   have hst:Str (openR s1 ac):=by
    rw [hop];exact⟨o1.m1,o1.m2,o1.srt,o1.acc,o1.mkt,o1.who,o1.nx,o1.ins,o1.res,hs2.inn,o1.out⟩
   have hpl:plc s.accs ac<(openR s1 ac).accs.length:=by rw [hop,<- hacc];exact o3
   have A:=move_facts h hst hpl;have hin:s1.inn=s.inn+n:=by subst hs1;exact e
   have hopi:(openR s1 ac).inn=s1.inn:=by rw [hop]
   have hres:(openR s1 ac).ins=s.ins/\(openR s1 ac).res=s.res/\(openR s1 ac).next=s.next/\(openR s1 ac).out=s.out/\(openR s1 ac).mkts=s.mkts:=by
    unfold openR;subst hs1;split<;>exact⟨rfl,rfl,rfl,rfl,rfl⟩
   refine⟨⟨A.str,⟨?_,fun k=>?_⟩,?_,?_,?_,?_⟩,fun free=>?_⟩
   ·have:=o2.bal;have e1:(openR s1 ac).accs=(openR { s1 with inn:=s.inn } ac).accs:=by rw [hop]
    have hb2:(openR { s1 with inn:=s.inn } ac).ins=s.ins/\(openR { s1 with inn:=s.inn } ac).res=s.res/\(openR { s1 with inn:=s.inn } ac).inn=s.inn/\(openR { s1 with inn:=s.inn } ac).out=s.out:=by
     unfold openR;subst hs1;split<;>exact⟨rfl,rfl,rfl,rfl⟩
    rw [hb2.1,hb2.2.1,hb2.2.2.1,hb2.2.2.2] at this;rw [A.bal,A.ins,A.res,A.inn,A.out,hopi,hin,hres.1,hres.2.1,hres.2.2.2.1,e1];omega
   ·rw [A.pos];have e1:(openR s1 ac).accs=(openR { s1 with inn:=s.inn } ac).accs:=by rw [hop]
    rw [e1];exact o2.pos k
   ·rw [A.next,hres.2.2.1];omega
   ·rw [A.inn,hopi,hin];omega
   ·rw [A.out,hres.2.2.2.1];exact Int.le_refl _
   ·rw [A.mkts,hres.2.2.2.2]
   ·have L1:Led free s (openR s1 ac):=by
     refine Led.trans (Led.none (t:={ s1 with inn:=s.inn }) ?_ ?_) ((o6 free).then ?_ ?_)
     ·subst hs1;rfl
     ·subst hs1;rfl
     ·rw [hop]
     ·rw [hop]
    exact L1.trans (A.led free)
  ·cases h
 ·cases h
theorem withdraw_facts {s t:Tn}{ac n:Int}(h:withdrawR s ac n=.ok t)(hs:Str s)(hS:Sums s):Keep s t/\(∀free,Led free s t):=by
 unfold withdrawR at h;split at h
 ·rename_i hp;obtain⟨p1,p2⟩:=pay_ok hp;split at h
  ·rename_i hh;obtain⟨h1,h2⟩:=accAt_has hs.srt hh;split at h
   ·rename_i he;obtain⟨m1,m2,m3,e⟩:=add_ok he;have m3':=money_true m3;have hi:=hs.out;split at h
    ·rename_i u hu;split at h
     ·cases h
      have hs2:Str { s with out:=addV s.out n }:=⟨hs.m1,hs.m2,hs.srt,hs.acc,hs.mkt,hs.who,hs.nx,hs.ins,hs.res,hs.inn,by show rng (addV s.out n);rw [e];unfold rng at *;omega⟩;have A:=move_facts hu hs2 h1;have ho:({ s with out:=addV s.out n }:Tn).out=s.out+n:=e;refine⟨⟨A.str,⟨?_,fun k=>?_⟩,?_,?_,?_,?_⟩,fun free=>(Led.none (t:={ s with out:=addV s.out n }) rfl rfl).trans (A.led free)⟩
      ·have:=hS.bal;rw [A.bal,A.ins,A.res,A.inn,A.out,ho];show s.ins+s.res+(sumBal s.accs + -n)=s.inn - (s.out+n);omega
      ·rw [A.pos];exact hS.pos k
      ·rw [A.next];show s.next<=s.next/\s.next<=s.next+1;omega
      ·rw [A.inn];exact Int.le_refl _
      ·rw [A.out,ho];omega
      ·rw [A.mkts]
     ·cases h
    ·cases h
   ·cases h
  ·cases h
 ·cases h
theorem come_orders {b a:List Odr}{o:Odr}{how:Int}(h:comeE b a o how=0):∀y,y∈comeB b a o how++comeA b a o how->(oid y=oid o/\oac y=oac o)\/∃x,x∈b++a/\oid y=oid x/\oac y=oac x:=by
 obtain⟨hR,hok,-⟩:=come_facts h;have T:=(take_fills hR hok).2.2.2;intro y hy;unfold comeB comeA at hy;cases hs:stays how (takeT b a o).2.2.1
 ·rw [hs] at hy;simp only [Bool.false_eq_true,if_false] at hy;unfold restB restA at hy;split at hy
  ·rcases List.mem_append.1 hy with hy | hy
   ·rcases mem_laid.1 hy with rfl | hy
    ·exact .inl ⟨rfl,rfl⟩
    ·exact .inr (T y (List.mem_append.2 (.inl hy)))
   ·exact .inr (T y (List.mem_append.2 (.inr hy)))
  ·rcases List.mem_append.1 hy with hy | hy
   ·exact .inr (T y (List.mem_append.2 (.inl hy)))
   ·rcases mem_laid.1 hy with rfl | hy
    ·exact .inl ⟨rfl,rfl⟩
    ·exact .inr (T y (List.mem_append.2 (.inr hy)))
 ·rw [hs] at hy;simp only [if_true] at hy;exact .inr (T y hy)
theorem order_ok {s:Tn}{c:Cm}(h:orderE s c=0):okOrder (s.next,c.ac,c.o.2.2)=0/\(c.red=true->c.how=2)/\hasA s.accs c.ac=true/\hasM s c.mkt=true/\¬s.next=100000/\(c.red=true->0 < -(osd c.o)*posAt (accAt s (plc s.accs c.ac)) c.mkt.toNat):=by
 unfold orderE at h;split at h
 ·rename_i g;exact absurd h g
 rename_i g1;split at h
 ·cases h
 rename_i g2;split at h
 ·cases h
 rename_i g3;split at h
 ·cases h
 rename_i g4;split at h
 ·cases h
 rename_i g5;refine⟨Decidable.not_not.1 g1,fun hr=>?_,?_,?_,g4,fun hr=>?_⟩
 ·exact Decidable.not_not.1 fun e=>g2 ⟨hr,e⟩
 ·cases hh:hasA s.accs c.ac
  ·exact absurd (.inl hh) g3
  ·rfl
 ·cases hh:hasM s c.mkt
  ·exact absurd (.inr hh) g3
  ·rfl
 ·exact Int.not_le.1 fun e=>g5 ⟨hr,e⟩
theorem hasM_iff {s:Tn}{mk:Int}:hasM s mk=true↔0<=mk/\mk<s.mkts.length:=by simp [hasM]
theorem came_facts {s:Tn}{mk:Nat}{o:Odr}{how:Int}(hs:Str s)(hS:Sums s)(hk:mk<s.mkts.length)(he:comeE (mktAt s mk).1 (mktAt s mk).2.1 o how=0)(ho:oid o=s.next)(hn:¬s.next=100000)(hac:hasA s.accs (oac o)=true) :
  Str (cameR s mk o how)/\Sums (cameR s mk o how)/\(cameR s mk o how).mkts.length=s.mkts.length:=by
 obtain⟨h1,h2,h3,h4⟩:=hs.at hk;have hnx:=hs.nx;have hs1:Str (Tn.tell { s with next:=s.next+1 } (evAccepted mk (oid o) (oac o))):=by
  refine Str.tell (s:={ s with next:=s.next+1 }) ⟨hs.m1,hs.m2,hs.srt,hs.acc,hs.mkt,fun m hm x hx=>?_,?_,hs.ins,hs.res,hs.inn,hs.out⟩ _
  ·obtain⟨w1,w2⟩:=hs.who m hm x hx;exact⟨w1,by show oid x<s.next+1;omega⟩
  ·show 1<=s.next+1/\s.next+1<=100000;omega
 unfold cameR;rw [Int.toNat_natCast];refine⟨hs1.setB hk (come_right he) (fun y hy=>?_),⟨hS.bal,hS.pos⟩,by simp [Tn.setB,Tn.setM,Tn.tell]⟩;show hasA s.accs (oac y)=true/\oid y<s.next+1;rcases come_orders he y hy with⟨e1,e2⟩ | ⟨x,hx,e1,e2⟩
 ·rw [e1,e2,ho];exact⟨hac,by omega⟩
 ·obtain⟨w1,w2⟩:=h4 x hx;rw [e1,e2];exact⟨w1,by omega⟩
theorem place_fills {s:Tn}{mk:Nat}{o:Odr}{how:Int}(hs:Str s)(hk:mk<s.mkts.length)(he:comeE (mktAt s mk).1 (mktAt s mk).2.1 o how=0)(hac:hasA s.accs (oac o)=true) :
  ∀f,f∈(takeT (mktAt s mk).1 (mktAt s mk).2.1 o).2.1->hasA (cameR s mk o how).accs f.2.2.1=true/\hasA (cameR s mk o how).accs f.2.2.2.1=true/\0<=f.2.2.2.2.2.1/\f.2.2.2.2.2.1<=10000:=by
 obtain⟨hR,hok,-⟩:=come_facts he;intro f hf;obtain⟨x,hx,e1,e2,e3,e4,e5,e6⟩:=(take_fills hR hok).1 f hf;refine⟨?_,?_,by omega,by omega⟩
 ·rw [e1];exact((hs.at hk).2.2.2 x hx).1
 ·rw [e2];exact hac
theorem gone_is (s:Tn)(mk:Int)(o:Odr)(n:Int):(goneIf s mk o n).accs=s.accs/\(goneIf s mk o n).mkts=s.mkts/\(goneIf s mk o n).ins=s.ins/\(goneIf s mk o n).res=s.res/\(goneIf s mk o n).next=s.next/\(goneIf s mk o n).inn=s.inn/\(goneIf s mk o n).out=s.out:=by
 unfold goneIf;split<;>exact⟨rfl,rfl,rfl,rfl,rfl,rfl,rfl⟩
theorem gone_facts {s:Tn}(hs:Str s)(mk:Int)(o:Odr)(n:Int):Str (goneIf s mk o n)/\(Sums s->Sums (goneIf s mk o n))/\∀free,Led free s (goneIf s mk o n):=by
 unfold goneIf;split
 ·exact⟨hs.tell _,fun S=>S.tell _,fun free=>.quiet (evGone mk (oid o) (oac o) n) rfl rfl (.inr (.inr rfl))⟩
 ·exact⟨hs,id,fun free=>.refl _ _⟩
structure PFact (s t u:Tn) (mk:Nat) (o:Odr) (how:Int):Prop where
 hk:mk<s.mkts.length
 he:comeE (mktAt s mk).1 (mktAt s mk).2.1 o how=0
 fills:fillsR mk false (takeT (mktAt s mk).1 (mktAt s mk).2.1 o).2.1 (cameR s mk o how)=.ok u
 ff:FFact (cameR s mk o how) u mk false (takeT (mktAt s mk).1 (mktAt s mk).2.1 o).2.1
 is:t=goneIf u mk o (comeL how (takeT (mktAt s mk).1 (mktAt s mk).2.1 o).2.2.1)
theorem place_is {s t:Tn}{mk:Nat}{o:Odr}{how:Int}{red:Bool}(h:placeO s mk o how red=.ok t)(hs:Str s)(hS:Sums s)(hk:mk<s.mkts.length)(ho:oid o=s.next)(hn:¬s.next=100000)(hac:hasA s.accs (oac o)=true) :
  ∃u,PFact s t u mk o how/\(red=false->readyWithE t mk o=0):=by
 unfold placeO at h;rw [Int.toNat_natCast] at h;split at h
 ·rename_i he;obtain⟨c1,c2,c3⟩:=came_facts hs hS hk he ho hn hac;split at h
  ·rename_i u hu;have F:=fills_facts mk false _ _ u hu c1 (by rw [c3];exact hk) (place_fills hs hk he hac);split at h
   ·rename_i hr
    cases h
    exact⟨u,⟨hk,he,hu,F,rfl⟩,fun e=>by rw [hr] at e;cases e⟩
   ·split at h
    ·rename_i hz
     cases h
     exact⟨u,⟨hk,he,hu,F,rfl⟩,fun _=>hz⟩
    ·cases h
  ·cases h
 ·cases h
theorem PFact.facts {s t u:Tn}{mk:Nat}{o:Odr}{how:Int}(P:PFact s t u mk o how)(hs:Str s)(hS:Sums s)(ho:oid o=s.next)(hn:¬s.next=100000)(hac:hasA s.accs (oac o)=true):Keep s t/\Led false s t/\t.next=s.next+1/\t.res=s.res/\t.inn=s.inn/\t.out=s.out/\t.accs.map (·.1)=s.accs.map (·.1):=by
 obtain⟨c1,c2,c3⟩:=came_facts hs hS P.hk P.he ho hn hac;obtain⟨g1,g2,g3,g4,g5,g6,g7⟩:=gone_is u mk o (comeL how (takeT (mktAt s mk).1 (mktAt s mk).2.1 o).2.2.1);obtain⟨f1,f2,f3⟩:=gone_facts P.ff.str mk o (comeL how (takeT (mktAt s mk).1 (mktAt s mk).2.1 o).2.2.1);have e:=P.is;rw [<- e] at g1 g2 g3 g4 g5 g6 g7 f1 f2 f3;have hn1:t.next=s.next+1:=by rw [g5,P.ff.kin.next];rfl
 have hi:t.inn=s.inn:=by rw [g6,P.ff.kin.inn];rfl
 have hu:t.out=s.out:=by rw [g7,P.ff.kin.out];rfl
 refine⟨⟨f1,f2 (P.ff.sums c2),by omega,by omega,by omega,by rw [g2,P.ff.kin.len,c3]⟩,?_,hn1,by rw [g4,P.ff.kin.res];rfl,hi,hu,by rw [g1,P.ff.kin.ids];rfl⟩;exact(Led.quiet (t:=cameR s mk o how) (evAccepted mk (oid o) (oac o)) rfl rfl (.inr (.inl rfl))).trans (P.ff.led.trans (f3 false))
theorem place_facts {s t:Tn}{c:Cm}(h:placeR s c=.ok t)(hs:Str s)(hS:Sums s):Keep s t/\Led false s t:=by
 unfold placeR at h;split at h
 ·rename_i he;obtain⟨o1,o2,o3,o4,o5,o6⟩:=order_ok he;obtain⟨m1,m2⟩:=hasM_iff.1 o4;obtain⟨k,hk⟩:∃k:Nat,c.mkt=k:=⟨c.mkt.toNat,by omega⟩;rw [hk] at h m2;obtain⟨u,P,-⟩:=place_is h hs hS (by omega) rfl o5 o3;obtain⟨K,L,-⟩:=P.facts hs hS rfl o5 o3;exact⟨K,L⟩
 ·cases h
theorem cancelL_facts {s t:Tn}{ac n:Int}(hs:Str s)(hS:Sums s):∀(l:List Mp)(k:Nat),l=s.mkts.drop k->cancelL s ac n k l=.ok t->SFact s t/\t.accs=s.accs/\t.ins=s.ins/\(∀free,Led free s t)
 |[],k,_,h=>by cases h
 |m::l,k,hl,h=>by
  have hk:k<s.mkts.length:=by
   have:=congrArg List.length hl;simp at this;omega
  rw [List.drop_eq_getElem_cons hk] at hl;simp only [List.cons.injEq] at hl;unfold cancelL at h;split at h
  ·cases h
   exact⟨rem_facts hs hS hk n _,rfl,rfl,fun free=>.quiet (evGone k (oid (findO m.1 m.2.1 n)) (oac (findO m.1 m.2.1 n)) (oqt (findO m.1 m.2.1 n))) rfl rfl (.inr (.inr rfl))⟩
  ·exact cancelL_facts hs hS l (k+1) hl.2 h
theorem index_facts {s t:Tn}{mk n:Int}(h:indexR s mk n=.ok t)(hs:Str s)(hS:Sums s):Keep s t/\(∀free,Led free s t)/\t.accs=s.accs/\t.ins=s.ins/\t.res=s.res:=by
 unfold indexR at h;split at h
 ·rename_i hm;have hm:=hasM_iff.1 hm;split at h
  ·cases h
  ·cases h
   rename_i hn;exact⟨⟨hs.setI (by omega) (by omega),⟨hS.bal,hS.pos⟩,by show s.next<=s.next/\s.next<=s.next+1;omega,Int.le_refl _,Int.le_refl _,by simp [Tn.setI,Tn.setM]⟩,fun free=>.none rfl rfl,rfl,rfl,rfl⟩
 ·cases h
theorem posS_is (k:Nat):∀(l:List Acc),posS k l=sumPos k l
 |[]=>rfl
 |a::l=>by unfold posS;rw [posS_is k l];rfl
theorem balS_is:∀(l:List Acc),balS l=sumBal l
 |[]=>rfl
 |a::l=>by unfold balS;rw [balS_is l];rfl
theorem paid_led (mk mark rate:Int)(free:Bool):∀(l:List Acc),Srt l->(∀id,balOf (l.map (FuP.setA mk mark rate)) id=balOf l id+sumBalE free id (paidEv l (l.map (FuP.setA mk mark rate))))/\(∀k id,posOf (l.map (FuP.setA mk mark rate)) k id=posOf l k id+sumPosE k id (paidEv l (l.map (FuP.setA mk mark rate))))/\∀id,(∀a,a∈l->¬a.1=id)->sumBalE free id (paidEv l (l.map (FuP.setA mk mark rate)))=0
 |[],_=>⟨fun _=>by simp [paidEv,sumBalE],fun _ _=>by simp [paidEv,sumPosE],fun _ _=>rfl⟩
 |a::l,hs=>by
  have hs':=List.pairwise_cons.1 hs;obtain⟨i1,i2,i3⟩:=paid_led mk mark rate free l hs'.2;have hev:∀id,sumBalE free id (paidEv (a::l) ((a::l).map (FuP.setA mk mark rate)))=(if a.1=id then (FuP.setA mk mark rate a).2.1 - a.2.1 else 0)+sumBalE free id (paidEv l (l.map (FuP.setA mk mark rate))):=by
   intro id;rw [List.map_cons,paidEv];by_cases hz:(FuP.setA mk mark rate a).2.1 - a.2.1=0
   ·rw [if_pos hz,hz];split<;>omega
   ·rw [if_neg hz];unfold sumBalE;rw [List.map_cons,List.sum_cons];congr 1
  have hep:∀k id,sumPosE k id (paidEv (a::l) ((a::l).map (FuP.setA mk mark rate)))=sumPosE k id (paidEv l (l.map (FuP.setA mk mark rate))):=by
   intro k id;rw [List.map_cons,paidEv];by_cases hz:(FuP.setA mk mark rate a).2.1 - a.2.1=0
   ·rw [if_pos hz]
   ·rw [if_neg hz];unfold sumPosE;rw [List.map_cons,List.sum_cons];have h5:evPos k id (evMoved (FuP.setA mk mark rate a).1 ((FuP.setA mk mark rate a).2.1 - a.2.1))=0:=by
     unfold evPos;rw [if_neg];intro x;rcases x.1 with y | y<;>exact absurd y (by show ¬(5:Int)=_;decide)
    rw [h5];omega
  have hoff:∀id,a.1=id->∀b,b∈l->¬b.1=id:=fun id e b hb e2=>by have:=hs'.1 b hb;omega
  have hfa:∀(f:Acc->Acc) (id:Int),(∀b,(f b).1=b.1)->accOf ((a::l).map f) id=if a.1=id then f a else accOf (l.map f) id:=by
   intro f id hf;unfold accOf;rw [List.map_cons,List.find?_cons,hf];by_cases e:a.1=id
   ·rw [show decide (a.1=id)=true by simpa using e,if_pos e];rfl
   ·rw [show decide (a.1=id)=false by simpa using e,if_neg e]
  have hf1:∀b,(FuP.setA mk mark rate b).1=b.1:=fun b=>rfl;have hid:∀id,accOf (a::l) id=if a.1=id then a else accOf l id:=by
   intro id;have:=hfa (fun b=>b) id (fun _=>rfl);simpa using this
  refine⟨fun id=>?_,fun k id=>?_,fun id hn=>?_⟩
  ·rw [hev];unfold balOf;rw [hfa _ id hf1,hid];by_cases e:a.1=id
   ·rw [if_pos e,if_pos e,if_pos e,i3 id (hoff id e)];omega
   ·rw [if_neg e,if_neg e,if_neg e];have:=i1 id;unfold balOf at this;omega
  ·rw [hep];unfold posOf;rw [hfa _ id hf1,hid];by_cases e:a.1=id
   ·rw [if_pos e,if_pos e];have h0:=i2 k id;have hnone:∀f:Acc->Acc,(∀b,(f b).1=b.1)->accOf (l.map f) id=(id,0,[]):=by
     intro f hf;unfold accOf;have:(l.map f).find? (fun x=>decide (x.1=id))=none:=by
      rw [List.find?_eq_none];intro x hx;obtain⟨b,hb,rfl⟩:=List.mem_map.1 hx;rw [hf];simpa using hoff id e b hb
     rw [this];rfl
    unfold posOf at h0;rw [hnone _ hf1] at h0;have h1:=hnone (fun b=>b) (fun _=>rfl);rw [List.map_id'] at h1;rw [h1] at h0;have:posAt (FuP.setA mk mark rate a) k=posAt a k:=rfl;omega
   ·rw [if_neg e,if_neg e];exact i2 k id
  ·rw [hev,if_neg (hn a (by simp)),i3 id (fun b hb=>hn b (by simp [hb]))];omega
theorem fund_facts {s t:Tn}{mk n:Int}(h:fundR s mk n=.ok t)(hs:Str s)(hS:Sums s):Keep s t/\(∀free,Led free s t):=by
 unfold fundR at h;split at h
 ·split at h
  ·split at h
   ·rename_i he;split at h
    ·rename_i ha;generalize (fundMark s mk).1=mark at h he ha;have hz:settleP s.accs mk mark n=(s.accs.map (FuP.setA mk mark n),FuP.setL mk mark n s.accs,0)/\setE mk mark n s.accs=0:=by
      unfold settleP at he ⊢;by_cases h8:8<s.accs.length
      ·rw [if_pos h8] at he;cases he
      ·rw [if_neg h8] at he ⊢;by_cases h0:setE mk mark n s.accs=0
       ·rw [if_pos h0];exact⟨rfl,h0⟩
       ·rw [if_neg h0] at he;exact absurd he h0
     obtain⟨hz,h0⟩:=hz;rw [hz] at h ha;dsimp only at h ha;obtain⟨m1,m2,m3,e⟩:=add_ok ha;rw [e] at h;cases h
     have hleft:=left_even h0 (by rw [posS_is];exact hS.pos _);have m3':=money_true m3;have hr:=hs.res;have hall:=setE_zero h0;have hids:(s.accs.map (FuP.setA mk mark n)).map (·.1)=s.accs.map (·.1):=by rw [List.map_map];rfl
     have hpos:∀k,sumPos k (s.accs.map (FuP.setA mk mark n))=sumPos k s.accs:=by
      intro k;unfold sumPos;rw [List.map_map];rfl
     refine⟨⟨⟨hs.m1,hs.m2,srt_ids hids hs.srt,fun a ha=>?_,hs.mkt,fun m hm o ho=>?_,hs.nx,hs.ins,?_,hs.inn,hs.out⟩,⟨?_,fun k=>?_⟩,?_,Int.le_refl _,Int.le_refl _,rfl⟩,fun free=>?_⟩
     ·obtain⟨b,hb,rfl⟩:=List.mem_map.1 ha;obtain⟨a1,a2,a3,a4,a5⟩:=accErr_ok (hs.acc b hb);exact accErr_mk a1 a2 a3 (hall b hb).2 a5
     ·show hasA (s.accs.map (FuP.setA mk mark n)) (oac o)=true/\oid o<s.next;rw [has_ids hids];exact hs.who m hm o ho
     ·show rng (s.res+FuP.setL mk mark n s.accs);unfold rng at *;omega
     ·have:=hS.bal;have hb:=no_money (mk:=mk) (mark:=mark) (rate:=n) s.accs;rw [balS_is,balS_is] at hb;show s.ins+(s.res+FuP.setL mk mark n s.accs)+sumBal (s.accs.map (FuP.setA mk mark n))=s.inn - s.out;omega
     ·show sumPos k (s.accs.map (FuP.setA mk mark n))=0;rw [hpos];exact hS.pos k
     ·show s.next<=s.next/\s.next<=s.next+1;omega
     ·obtain⟨p1,p2,-⟩:=paid_led mk mark n free s.accs hs.srt;exact⟨_,rfl,p1,p2⟩
    ·cases h
   ·cases h
  ·cases h
 ·cases h
theorem turn_keeps {s t:Tn}{c:Cm}(h:turnR s c=.ok t)(hs:Str s)(hS:Sums s):Keep s t/\(∀free,(c.kind=3->free=false)->(c.kind=7->free=true)->Led free s t):=by
 unfold turnR at h;split at h
 ·obtain⟨K,L⟩:=deposit_facts h hs hS;exact⟨K,fun free _ _=>L free⟩
 ·split at h
  ·obtain⟨K,L⟩:=withdraw_facts h hs hS;exact⟨K,fun free _ _=>L free⟩
  ·split at h
   ·rename_i h3;obtain⟨K,L⟩:=place_facts h hs hS;exact⟨K,fun free hf _=>by rw [hf h3];exact L⟩
   ·split at h
    ·obtain⟨K,-,-,L⟩:=cancelL_facts hs hS s.mkts 0 (by simp) h;exact⟨K.keep,fun free _ _=>L free⟩
    ·split at h
     ·obtain⟨K,L,-⟩:=index_facts h hs hS;exact⟨K,fun free _ _=>L free⟩
     ·split at h
      ·obtain⟨K,L⟩:=fund_facts h hs hS;exact⟨K,fun free _ _=>L free⟩
      ·split at h
       ·rename_i h7;have K:=sweep_facts h hs hS;exact⟨K.keep,fun free _ hf=>by rw [hf h7];exact K.led⟩
       ·cases h
theorem str_evs {s:Tn}(h:Str s)(L:List Ev):Str { s with evs:=L }:=⟨h.m1,h.m2,h.srt,h.acc,h.mkt,h.who,h.nx,h.ins,h.res,h.inn,h.out⟩
theorem sums_evs {s:Tn}(h:Sums s)(L:List Ev):Sums { s with evs:=L }:=⟨h.bal,h.pos⟩
theorem do_right {s:Tn}(c:Cm)(h:checkE s=0):(doR s c).2=0/\checkE (doR s c).1=0:=by
 obtain⟨hs,hS⟩:=checkE_zero.1 h;unfold doR;rw [if_pos h]
 cases ht:turnR { s with evs:=[] } c with
 |ok t =>
  have K:=(turn_keeps ht (str_evs hs []) (sums_evs hS [])).1;exact⟨rfl,checkE_zero.2 ⟨K.str,K.sums⟩⟩
 |error e=>exact⟨rfl,h⟩
theorem do_bad {s:Tn}(c:Cm)(h:¬checkE s=0):doR s c=(noTn,checkE s):=by
 unfold doR;rw [if_neg h]
theorem runL_ok:∀(l:List Cm)(s:Tn)(L:List (List Ev)),checkE s=0->∃t K,runL l s L=.ok (t,L++K)/\checkE t=0/\K.length=l.length/\(∀L',runL l s L'=.ok (t,L'++K))/\(l=[]->t=s)
 |[],s,L,h=>⟨s,[],by simp [runL],h,rfl,fun L'=>by simp [runL],fun _=>rfl⟩
 |c::l,s,L,h=>by
  obtain⟨d1,d2⟩:=do_right c h;obtain⟨t,K,h1,h2,h3,h4,-⟩:=runL_ok l (doR s c).1 (L++[(doR s c).1.evs]) d2;refine⟨t,(doR s c).1.evs::K,?_,h2,by simp [h3],fun L'=>?_,fun e=>by cases e⟩
  ·unfold runL;rw [if_pos d1,h1];simp
  ·unfold runL;rw [if_pos d1,h4];simp
end Go.Proofs.YthdjfhnhjiageaaGreatDoor.Vn
