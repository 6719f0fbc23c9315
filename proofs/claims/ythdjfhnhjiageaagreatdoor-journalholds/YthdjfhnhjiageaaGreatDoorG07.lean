import Derived.WalkKit
namespace Go.Proofs.YthdjfhnhjiageaaGreatDoor.Bk
abbrev Odr:=Int × Int × Int × Int × Int
abbrev oid (o:Odr):Int:=o.1
abbrev oac (o:Odr):Int:=o.2.1
abbrev osd (o:Odr):Int:=o.2.2.1
abbrev opr (o:Odr):Int:=o.2.2.2.1
abbrev oqt (o:Odr):Int:=o.2.2.2.2
abbrev noOdr:Odr:=(0,0,0,0,0)
def okOrder (o:Odr):Int :=
 if oid o<1\/100000<oid o\/oac o<0\/8<=oac o then 5
 else if osd o≠1/\osd o≠-1 then 4
 else if opr o<1\/10000<opr o\/oqt o<1\/1000<oqt o then 3
 else 0
def ahead (a b:Odr):Bool :=
 if opr a=opr b then decide (oid a<oid b) else if osd a=1 then decide (opr b<opr a) else decide (opr a<opr b)
def sideErr (side:Int):Option Odr->List Int->List Odr->Int
 |_,_,[]=>0
 |prev,seen,o::l =>
  if okOrder o≠0 then okOrder o
  else if osd o≠side\/(prev.elim false fun p=>!ahead p o)=true then 4
  else if oid o∈seen then 6
  else sideErr side (some o) (seen++[oid o]) l
def crosses (o:Odr):List Odr->Bool
 |[]=>false
 |x::_=>if osd o=1 then decide (opr x<=opr o) else decide (opr o<=opr x)
def crossed (bids asks:List Odr):Bool :=
 match bids with
 |[]=>false
 |b::_=>crosses b asks
def bookErr (bids asks:List Odr):Int :=
 if 40<bids.length+asks.length then 2
 else if sideErr 1 none [] bids≠0 then sideErr 1 none [] bids
 else if sideErr (-1) none (bids.map oid) asks≠0 then sideErr (-1) none (bids.map oid) asks
 else if crossed bids asks then 4 else 0
def hasId (id:Int) (o:Odr):Bool:=decide (oid o=id)
def mayRest (bids asks:List Odr) (o:Odr):Int :=
 if bookErr bids asks≠0 then bookErr bids asks
 else if bids.any (hasId (oid o)) || asks.any (hasId (oid o)) then 6
 else if okOrder o≠0 then okOrder o
 else if 40<=bids.length+asks.length then 7
 else if crosses o (if osd o = -1 then bids else asks) then 9 else 0
def place (l:List Odr) (o:Odr):Nat:=l.countP fun x=>ahead x o
def laid (l:List Odr) (o:Odr):List Odr:=l.take (place l o)++o::l.drop (place l o)
def without (id:Int) (l:List Odr):List Odr:=l.filter fun x=>!hasId id x
def firstPrice:List Odr->Int
 |[]=>0
 |o::_=>opr o
structure Side (side:Int) (l:List Odr):Prop where
 ok:∀o,o∈l->okOrder o=0
 sd:∀o,o∈l->osd o=side
 srt:l.Pairwise fun a b=>ahead a b=true
theorem okOrder_id {o:Odr}(h:okOrder o=0):1<=oid o/\oid o<=100000:=by
 unfold okOrder at h;split at h
 ·cases h
 ·omega
theorem okOrder_sd {o:Odr}(h:okOrder o=0):osd o=1\/osd o = -1:=by
 unfold okOrder at h;split at h
 ·cases h
 ·split at h
  ·cases h
  ·omega
theorem okOrder_pq {o:Odr}(h:okOrder o=0):1<=opr o/\opr o<=10000/\1<=oqt o/\oqt o<=1000:=by
 unfold okOrder at h;split at h
 ·cases h
 ·split at h
  ·cases h
  ·split at h
   ·cases h
   ·omega
theorem okOrder_ac {o:Odr}(h:okOrder o=0):0<=oac o/\oac o<=7:=by
 unfold okOrder at h;split at h
 ·cases h
 ·omega
theorem ahead_iff (a b:Odr):ahead a b=true↔(opr a=opr b/\oid a<oid b)\/(opr a≠opr b/\osd a=1/\opr b<opr a)\/(opr a≠opr b/\osd a≠1/\opr a<opr b):=by
 unfold ahead;split
 ·simp;omega
 ·split<;>simp<;>omega
theorem ahead_trans {a b c:Odr}(hs:osd a=osd b)(h1:ahead a b=true)(h2:ahead b c=true):ahead a c=true:=by
 rw [ahead_iff] at *;omega
theorem ahead_total {a b:Odr}(hs:osd a=osd b)(hi:oid a≠oid b)(h1:ahead a b=false):ahead b a=true:=by
 cases h:ahead b a
 ·have h1':¬ahead a b=true:=by rw [h1];decide
  have h':¬ahead b a=true:=by rw [h];decide
  rw [ahead_iff] at *;omega
 ·rfl
theorem sideErr_zero {side:Int}:∀(l:List Odr)(prev:Option Odr)(seen:List Int),sideErr side prev seen l=0 ->
  (∀o,o∈l->okOrder o=0)/\(∀o,o∈l->osd o=side)/\(∀p,prev=some p->∀o,l.head? = some o->ahead p o=true)/\l.Pairwise (fun a b=>ahead a b=true)/\(l.map oid).Nodup/\(∀i,i∈seen->i ∉ l.map oid)
 |[],_,_,_=>by simp
 |o::l,prev,seen,h=>by
  unfold sideErr at h;split at h
  ·exact absurd h (by assumption)
  next h1 =>
   split at h
   ·cases h
   next h2 =>
    split at h
    ·cases h
    next h3 =>
     obtain⟨a1,a2,a3,a4,a5,a6⟩:=sideErr_zero l (some o) (seen++[oid o]) h;have hso:osd o=side:=by
      by_cases e:osd o=side
      ·exact e
      ·exact absurd (Or.inl e) h2
     have h1':okOrder o=0:=by
      by_cases e:okOrder o=0
      ·exact e
      ·exact absurd e h1
     have hall:∀x,x∈l->ahead o x=true:=by
      intro x hx
      cases l with
      |nil=>cases hx
      |cons y l =>
       have hy:=a3 o rfl y rfl;rcases List.mem_cons.1 hx with rfl | hx
       ·exact hy
       ·exact ahead_trans (by rw [hso,a2 y (by simp)]) hy ((List.pairwise_cons.1 a4).1 x hx)
     refine⟨?_,?_,?_,?_,?_,?_⟩
     ·intro x hx;rcases List.mem_cons.1 hx with rfl | hx
      ·exact h1'
      ·exact a1 x hx
     ·intro x hx;rcases List.mem_cons.1 hx with rfl | hx
      ·exact hso
      ·exact a2 x hx
     ·intro p hp x hx;subst hp;simp only [List.head?_cons,Option.some.injEq] at hx;subst hx;cases e:ahead p o
      ·exact absurd (Or.inr (by simp [e])) h2
      ·rfl
     ·exact List.pairwise_cons.2 ⟨hall,a4⟩
     ·rw [List.map_cons,List.nodup_cons];exact⟨a6 _ (by simp),a5⟩
     ·intro i hi;rw [List.map_cons,List.mem_cons];rintro (e | e)
      ·rw [e] at hi;exact h3 hi
      ·exact a6 i (by simp [hi]) e
theorem sideErr_mk {side:Int}:∀(l:List Odr)(prev:Option Odr)(seen:List Int),
  (∀o,o∈l->okOrder o=0)->(∀o,o∈l->osd o=side)->(∀p,prev=some p->∀o,l.head? = some o->ahead p o=true)->l.Pairwise (fun a b=>ahead a b=true)->(l.map oid).Nodup->(∀i,i∈seen->i ∉ l.map oid)->sideErr side prev seen l=0
 |[],_,_,_,_,_,_,_,_=>by simp [sideErr]
 |o::l,prev,seen,a1,a2,a3,a4,a5,a6=>by
  unfold sideErr;rw [if_neg (by simp [a1 o (by simp)]),if_neg ?_,if_neg ?_]
  ·refine sideErr_mk l (some o) (seen++[oid o]) (fun x hx=>a1 x (by simp [hx])) (fun x hx=>a2 x (by simp [hx])) ?_ (List.pairwise_cons.1 a4).2 ?_ ?_
   ·intro p hp x hx
    cases hp
    cases l with
    |nil=>cases hx
    |cons y l =>
     simp only [List.head?_cons,Option.some.injEq] at hx;subst hx;exact(List.pairwise_cons.1 a4).1 _ (by simp)
   ·rw [List.map_cons,List.nodup_cons] at a5;exact a5.2
   ·rw [List.map_cons,List.nodup_cons] at a5;intro i hi;rcases List.mem_append.1 hi with hi | hi
    ·intro e;exact a6 i hi (by rw [List.map_cons];simp [e])
    ·simp only [List.mem_singleton] at hi;subst hi;exact a5.1
  ·intro e;exact a6 _ e (by simp)
  ·rintro (e | e)
   ·exact e (a2 o (by simp))
   ·cases prev with
    |none=>simp at e
    |some p=>simp [a3 p rfl o rfl] at e
structure Right (bids asks:List Odr):Prop where
 few:bids.length+asks.length<=40
 b:Side 1 bids
 a:Side (-1) asks
 nod:(bids.map oid++asks.map oid).Nodup
 un:∀x y,bids.head? = some x->asks.head? = some y->opr x<opr y
theorem crossed_iff {bids asks:List Odr}(hb:∀o,o∈bids->osd o=1):crossed bids asks=false↔∀x y,bids.head? = some x->asks.head? = some y->opr x<opr y:=by
 cases bids with
 |nil=>simp [crossed]
 |cons b bs =>
  cases asks with
  |nil=>simp [crossed,crosses]
  |cons a as =>
   have:=hb b (by simp);simp only [crossed,crosses,this,if_true,List.head?_cons,Option.some.injEq];constructor
   ·rintro h x y rfl rfl;simp at h;omega
   ·intro h;have:=h b a rfl rfl;simp;omega
theorem bookErr_zero {bids asks:List Odr}:bookErr bids asks=0↔Right bids asks:=by
 constructor
 ·intro h;unfold bookErr at h;split at h
  ·cases h
  next h0 =>
   split at h
   ·exact absurd h (by assumption)
   next h1 =>
    split at h
    ·exact absurd h (by assumption)
    next h2 =>
     split at h
     ·cases h
     next h3 =>
      have h1':sideErr 1 none [] bids=0:=Decidable.not_not.1 h1;have h2':sideErr (-1) none (bids.map oid) asks=0:=Decidable.not_not.1 h2;obtain⟨a1,a2,_,a4,a5,_⟩:=sideErr_zero _ _ _ h1';obtain⟨b1,b2,_,b4,b5,b6⟩:=sideErr_zero _ _ _ h2';refine⟨by omega,⟨a1,a2,a4⟩,⟨b1,b2,b4⟩,?_,?_⟩
      ·rw [List.nodup_append];exact⟨a5,b5,fun x hx y hy e=>b6 x hx (e▸hy)⟩
      ·exact(crossed_iff a2).1 (by simpa using h3)
 ·rintro ⟨h0,⟨a1,a2,a4⟩,⟨b1,b2,b4⟩,hn,hu⟩;rw [List.nodup_append] at hn;have e1:sideErr 1 none [] bids=0:=sideErr_mk _ _ _ a1 a2 (by simp) a4 hn.1 (by simp);have e2:sideErr (-1) none (bids.map oid) asks=0:=sideErr_mk _ _ _ b1 b2 (by simp) b4 hn.2.1 (fun i hi hj=>hn.2.2 i hi i hj rfl);have e3:=(crossed_iff (asks:=asks) a2).2 hu;simp [bookErr,e1,e2,e3];omega
theorem hasId_iff (id:Int)(o:Odr):hasId id o=true↔oid o=id:=by simp [hasId]
theorem any_hasId (id:Int)(l:List Odr):l.any (hasId id)=true↔id∈l.map oid:=by
 simp only [List.any_eq_true,List.mem_map,hasId_iff]
theorem place_parts (o:Odr):∀(l:List Odr),(∀x,x∈l->osd x=osd o)->l.Pairwise (fun a b=>ahead a b=true) ->
  (∀x,x∈l.take (place l o)->ahead x o=true)/\(∀x,x∈l.drop (place l o)->ahead x o=false)/\place l o<=l.length
 |[],_,_=>by simp [place]
 |y::l,hs,hp=>by
  obtain⟨h1,h2⟩:=List.pairwise_cons.1 hp;obtain⟨i1,i2,i3⟩:=place_parts o l (fun x hx=>hs x (by simp [hx])) h2
  cases hy:ahead y o with
  |true =>
   have e:place (y::l) o=place l o+1:=by simp [place,hy]
   rw [e];refine⟨?_,?_,by simp;omega⟩
   ·intro x hx;rw [List.take_succ_cons,List.mem_cons] at hx;rcases hx with rfl | hx
    ·exact hy
    ·exact i1 x hx
   ·intro x hx;rw [List.drop_succ_cons] at hx;exact i2 x hx
  |false =>
   have hno:∀x,x∈l->ahead x o=false:=by
    intro x hx
    cases e:ahead x o
    ·rfl
    ·have:=ahead_trans (by rw [hs y (by simp),hs x (by simp [hx])]) (h1 x hx) e;rw [hy] at this;cases this
   have e0:place l o=0:=by
    unfold place;rw [List.countP_eq_zero];intro x hx;simp [hno x hx]
   have e:place (y::l) o=0:=by
    unfold place at e0 ⊢;rw [List.countP_cons,e0];simp [hy]
   rw [e];refine⟨by simp,?_,by simp⟩;intro x hx;simp only [List.drop_zero,List.mem_cons] at hx;rcases hx with rfl | hx
   ·exact hy
   ·exact hno x hx
theorem mem_laid {l:List Odr}{o x:Odr}:x∈laid l o↔x=o\/x∈l:=by
 unfold laid;constructor
 ·intro h;rcases List.mem_append.1 h with h | h
  ·exact .inr (List.mem_of_mem_take h)
  ·rcases List.mem_cons.1 h with h | h
   ·exact .inl h
   ·exact .inr (List.mem_of_mem_drop h)
 ·rintro (h | h)
  ·simp [h]
  ·rw [<- List.take_append_drop (place l o) l] at h;rcases List.mem_append.1 h with h | h
   ·exact List.mem_append.2 (.inl h)
   ·exact List.mem_append.2 (.inr (List.mem_cons_of_mem _ h))
theorem length_laid (l:List Odr)(o:Odr):(laid l o).length=l.length+1:=by
 unfold laid;rw [List.length_append,List.length_cons,List.length_take,List.length_drop];omega
theorem laid_side {s:Int}{l:List Odr}{o:Odr}(h:Side s l)(ho:okOrder o=0)(hs:osd o=s)(hn:oid o ∉ l.map oid):Side s (laid l o):=by
 obtain⟨p1,p2,_⟩:=place_parts o l (fun x hx=>by rw [h.sd x hx,hs]) h.srt;have hmem:=@List.take_append_drop _ (place l o) l;refine⟨?_,?_,?_⟩
 ·intro x hx;rcases mem_laid.1 hx with rfl | hx
  ·exact ho
  ·exact h.ok x hx
 ·intro x hx;rcases mem_laid.1 hx with rfl | hx
  ·exact hs
  ·exact h.sd x hx
 ·have hp:=h.srt;rw [<- hmem,List.pairwise_append] at hp;obtain⟨q1,q2,q3⟩:=hp;unfold laid;rw [List.pairwise_append,List.pairwise_cons];refine⟨q1,⟨?_,q2⟩,?_⟩
  ·intro x hx;have hx':=List.mem_of_mem_drop hx;refine ahead_total (by rw [h.sd x hx',hs]) ?_ (p2 x hx);intro e;exact hn (List.mem_map.2 ⟨x,hx',e⟩)
  ·intro x hx y hy;rcases List.mem_cons.1 hy with rfl | hy
   ·exact p1 x hx
   ·exact q3 x hx y hy
theorem without_none {id:Int}{l:List Odr}(h:id ∉ l.map oid):without id l=l:=by
 unfold without;rw [List.filter_eq_self];intro x hx;have:oid x≠id:=fun e=>h (List.mem_map.2 ⟨x,hx,e⟩);simp [hasId,this]
theorem laid_ids (l:List Odr)(o:Odr):(laid l o).map oid=(l.map oid).take (place l o)++oid o::(l.map oid).drop (place l o):=by
 simp [laid,List.map_take,List.map_drop]
theorem nodup_put {α:Type}(A B C:List α)(x:α)(k:Nat)(h:(A++B++C).Nodup)(hx:x ∉ A++B++C):(A++(B.take k++x::B.drop k)++C).Nodup:=by
 have hb:=List.take_append_drop k B;rw [<- hb] at h hx;generalize B.take k=P at *;generalize B.drop k=Q at *;simp only [List.append_assoc,List.cons_append] at *;rw [List.nodup_append] at h ⊢;rw [List.nodup_append] at h ⊢;simp only [List.mem_append,not_or] at hx;obtain⟨h1,⟨h2,h3,h4⟩,h5⟩:=h;refine⟨h1,⟨h2,?_,?_⟩,?_⟩
 ·rw [List.nodup_cons];exact⟨by simp [hx],h3⟩
 ·intro a ha b hb;rcases List.mem_cons.1 hb with rfl | hb
  ·rintro rfl;exact hx.2.1 ha
  ·exact h4 a ha b hb
 ·intro a ha b hb;rcases List.mem_append.1 hb with hb' | hb'
  ·exact h5 a ha b (by simp [hb'])
  ·rcases List.mem_cons.1 hb' with rfl | hb'
   ·rintro rfl;exact hx.1 ha
   ·exact h5 a ha b (List.mem_append.2 (.inr hb'))
theorem head_bid {l:List Odr}(h:Side 1 l){x y:Odr}(hx:l.head? = some x)(hy:y∈l):opr y<=opr x:=by
 cases l with
 |nil=>cases hy
 |cons z l =>
  simp only [List.head?_cons,Option.some.injEq] at hx;subst hx;rcases List.mem_cons.1 hy with rfl | hy
  ·exact Int.le_refl _
  ·have:=(List.pairwise_cons.1 h.srt).1 y hy;have hs:=h.sd z (by simp);rw [ahead_iff] at this;omega
theorem head_ask {l:List Odr}(h:Side (-1) l){x y:Odr}(hx:l.head? = some x)(hy:y∈l):opr x<=opr y:=by
 cases l with
 |nil=>cases hy
 |cons z l =>
  simp only [List.head?_cons,Option.some.injEq] at hx;subst hx;rcases List.mem_cons.1 hy with rfl | hy
  ·exact Int.le_refl _
  ·have:=(List.pairwise_cons.1 h.srt).1 y hy;have hs:=h.sd z (by simp);rw [ahead_iff] at this;omega
theorem Right.below {bids asks:List Odr}(h:Right bids asks){x y:Odr}(hx:x∈bids)(hy:y∈asks):opr x<opr y:=by
 cases hb:bids.head? with
 |none=>rw [List.head?_eq_none_iff] at hb;subst hb;cases hx
 |some p =>
  cases ha:asks.head? with
  |none=>rw [List.head?_eq_none_iff] at ha;subst ha;cases hy
  |some q =>
   have:=h.un p q hb ha;have:=head_bid h.b hb hx;have:=head_ask h.a ha hy;omega
theorem mem_of_head? {l:List Odr}{x:Odr}(h:l.head? = some x):x∈l:=by
 cases l with
 |nil=>cases h
 |cons y l=>simp only [List.head?_cons,Option.some.injEq] at h;simp [h]
theorem crosses_false {o:Odr}(hs:osd o=1\/osd o = -1){l:List Odr}:crosses o l=false↔∀x,l.head? = some x->(osd o=1->opr o<opr x)/\(osd o = -1->opr x<opr o):=by
 cases l with
 |nil=>simp [crosses]
 |cons y l =>
  simp only [crosses,List.head?_cons,Option.some.injEq];constructor
  ·rintro h x rfl;split at h<;>simp at h<;>constructor<;>intro _<;>omega
  ·intro h;have:=h y rfl;split<;>simp<;>omega
def restB (bids:List Odr) (o:Odr):List Odr:=if osd o=1 then laid bids o else bids
def restA (asks:List Odr) (o:Odr):List Odr:=if osd o=1 then asks else laid asks o
theorem mayRest_zero {bids asks:List Odr}{o:Odr}:mayRest bids asks o=0 ↔
  Right bids asks/\oid o ∉ bids.map oid/\oid o ∉ asks.map oid/\okOrder o=0/\bids.length+asks.length<40/\(osd o=1->∀x,x∈asks->opr o<opr x)/\(osd o = -1->∀x,x∈bids->opr x<opr o):=by
 constructor
 ·intro h;unfold mayRest at h;split at h
  ·exact absurd h (by assumption)
  next h0 =>
   have hR:=bookErr_zero.1 (Decidable.not_not.1 h0);split at h
   ·cases h
   next h1 =>
    split at h
    ·exact absurd h (by assumption)
    next h2 =>
     split at h
     ·cases h
     next h3 =>
      cases h4:crosses o (if osd o = -1 then bids else asks)
      case true=>rw [h4] at h;cases h
      case false =>
       have ho:=Decidable.not_not.1 h2;have h1':¬(oid o∈bids.map oid\/oid o∈asks.map oid):=by
        rw [Bool.or_eq_true,any_hasId,any_hasId] at h1;exact h1
       have h4':=(crosses_false (okOrder_sd ho)).1 h4;refine⟨hR,fun e=>h1' (.inl e),fun e=>h1' (.inr e),ho,by omega,?_,?_⟩
       ·intro hs x hx;rw [if_neg (by omega)] at h4'
        cases ha:asks.head? with
        |none=>rw [List.head?_eq_none_iff] at ha;subst ha;cases hx
        |some q =>
         have:=(h4' q ha).1 hs;have:=head_ask hR.a ha hx;omega
       ·intro hs x hx;rw [if_pos hs] at h4'
        cases ha:bids.head? with
        |none=>rw [List.head?_eq_none_iff] at ha;subst ha;cases hx
        |some q =>
         have:=(h4' q ha).2 hs;have:=head_bid hR.b ha hx;omega
 ·rintro ⟨hR,n1,n2,ho,hl,c1,c2⟩;unfold mayRest;rw [if_neg (by rw [bookErr_zero.2 hR];simp),if_neg,if_neg (by simp [ho]),if_neg (by omega),if_neg]
  ·have:crosses o (if osd o = -1 then bids else asks)=false:=by
    rw [crosses_false (okOrder_sd ho)];intro x hx;constructor
    ·intro hs;rw [if_neg (by omega)] at hx;exact c1 hs x (mem_of_head? hx)
    ·intro hs;rw [if_pos hs] at hx;exact c2 hs x (mem_of_head? hx)
   simp [this]
  ·rw [Bool.or_eq_true,any_hasId,any_hasId];rintro (e | e)
   ·exact n1 e
   ·exact n2 e
theorem rest_right {bids asks:List Odr}{o:Odr}(h:mayRest bids asks o=0):Right (restB bids o) (restA asks o):=by
 obtain⟨hR,n1,n2,ho,hl,c1,c2⟩:=mayRest_zero.1 h;have hn:oid o ∉ bids.map oid++asks.map oid:=by simp only [List.mem_append,not_or];exact⟨n1,n2⟩
 unfold restB restA;by_cases hs:osd o=1
 ·rw [if_pos hs,if_pos hs];refine⟨by rw [length_laid];omega,laid_side hR.b ho hs n1,hR.a,?_,?_⟩
  ·rw [laid_ids];exact nodup_put [] _ _ _ _ (by simpa using hR.nod) (by simpa using hn)
  ·intro x y hx hy;rcases mem_laid.1 (mem_of_head? hx) with rfl | hx
   ·exact c1 hs y (mem_of_head? hy)
   ·exact hR.below hx (mem_of_head? hy)
 ·have hs':osd o = -1:=by rcases okOrder_sd ho with e | e<;>omega
  rw [if_neg hs,if_neg hs];refine⟨by rw [length_laid];omega,hR.b,laid_side hR.a ho hs' n2,?_,?_⟩
  ·rw [laid_ids];have:=nodup_put (bids.map oid) (asks.map oid) [] (oid o) (place asks o) (by simpa using hR.nod) (by simpa using hn);simpa using this
  ·intro x y hx hy;rcases mem_laid.1 (mem_of_head? hy) with rfl | hy
   ·exact c2 hs' x (mem_of_head? hx)
   ·exact hR.below (mem_of_head? hx) hy
def findIn (id:Int) (bids asks:List Odr):Option Odr:=(bids++asks).find? (hasId id)
theorem find_mem {id:Int}{l:List Odr}{o:Odr}(h:l.find? (hasId id)=some o):o∈l/\oid o=id :=
 ⟨List.mem_of_find?_eq_some h,by simpa [hasId] using List.find?_some h⟩
theorem without_sub (id:Int)(l:List Odr):(without id l).Sublist l:=List.filter_sublist
theorem without_side {s:Int}{l:List Odr}(id:Int)(h:Side s l):Side s (without id l) :=
 ⟨fun o ho=>h.ok o ((without_sub id l).subset ho),fun o ho=>h.sd o ((without_sub id l).subset ho),h.srt.sublist (without_sub id l)⟩
theorem mem_without {id:Int}{l:List Odr}{x:Odr}:x∈without id l↔x∈l/\oid x≠id:=by
 simp [without,List.mem_filter,hasId]
theorem remove_right {bids asks:List Odr}(id:Int)(h:Right bids asks):Right (without id bids) (without id asks):=by
 refine⟨?_,without_side id h.b,without_side id h.a,?_,?_⟩
 ·have:=(without_sub id bids).length_le;have:=(without_sub id asks).length_le;have:=h.few;omega
 ·exact h.nod.sublist (((without_sub id bids).map oid).append ((without_sub id asks).map oid))
 ·intro x y hx hy;exact h.below (mem_without.1 (mem_of_head? hx)).1 (mem_without.1 (mem_of_head? hy)).1
abbrev Fil:=Int × Int × Int × Int × Int × Int × Int
def fillOf (x o:Odr) (q:Int):Fil:=(oid x,oid o,oac x,oac o,osd o,opr x,q)
def xes (o:Odr) (pr:Int):Bool:=if osd o=1 then decide (pr<=opr o) else decide (opr o<=pr)
def less (x:Odr) (q:Int):Odr:=(oid x,oac x,osd x,opr x,oqt x - q)
def takes (o:Odr):Int->List Odr->List Odr × List Fil × Int × Bool
 |left,[]=>([],[],left,false)
 |left,x::l =>
  if 0<left/\xes o (opr x)=true then
   if oac x=oac o then (x::l,[],left,true)
   else if oqt x<=left then ((takes o (left - oqt x) l).1,fillOf x o (oqt x)::(takes o (left - oqt x) l).2.1,(takes o (left - oqt x) l).2.2.1,(takes o (left - oqt x) l).2.2.2)
   else (less x left::l,[fillOf x o left],0,false)
  else (x::l,[],left,false)
theorem takes_nil (o:Odr)(left:Int):takes o left []=([],[],left,false):=rfl
theorem takes_stop {o:Odr}{left:Int}{x:Odr}{l:List Odr}(h:¬(0<left/\xes o (opr x)=true)):takes o left (x::l)=(x::l,[],left,false):=by
 unfold takes;rw [if_neg h]
theorem takes_zero {o:Odr}{left:Int}(l:List Odr)(h:¬0<left):takes o left l=(l,[],left,false):=by
 cases l with
 |nil=>rfl
 |cons x l=>exact takes_stop fun e=>h e.1
theorem takes_own {o:Odr}{left:Int}{x:Odr}{l:List Odr}(h:0<left)(h1:xes o (opr x)=true)(h2:oac x=oac o):takes o left (x::l)=(x::l,[],left,true):=by
 unfold takes;rw [if_pos ⟨h,h1⟩,if_pos h2]
theorem takes_full {o:Odr}{left:Int}{x:Odr}{l:List Odr}(h:0<left)(h1:xes o (opr x)=true)(h2:¬oac x=oac o)(h3:oqt x<=left) :
  takes o left (x::l)=((takes o (left - oqt x) l).1,fillOf x o (oqt x)::(takes o (left - oqt x) l).2.1,(takes o (left - oqt x) l).2.2.1,(takes o (left - oqt x) l).2.2.2):=by
 conv=>lhs;unfold takes
 rw [if_pos ⟨h,h1⟩,if_neg h2,if_pos h3]
theorem takes_part {o:Odr}{left:Int}{x:Odr}{l:List Odr}(h:0<left)(h1:xes o (opr x)=true)(h2:¬oac x=oac o)(h3:¬oqt x<=left) :
  takes o left (x::l)=(less x left::l,[fillOf x o left],0,false):=by
 unfold takes;rw [if_pos ⟨h,h1⟩,if_neg h2,if_neg h3]
structure TInv (o:Odr) (q0:Int) (xs:List Odr) (F:List Fil) (left:Int) (Y:List Odr):Prop where
 all:takes o q0 xs=((takes o left Y).1,F++(takes o left Y).2.1,(takes o left Y).2.2.1,(takes o left Y).2.2.2)
 pos:0<=left
 le:left<=q0
 qty:∀x,x∈Y->1<=oqt x/\oqt x<=1000
theorem TInv.start {o:Odr}{q0:Int}{xs:List Odr}(h0:0<=q0)(h:∀x,x∈xs->1<=oqt x/\oqt x<=1000):TInv o q0 xs [] q0 xs:=⟨rfl,h0,Int.le_refl _,h⟩
theorem TInv.full {o:Odr}{q0 left:Int}{xs Y:List Odr}{F:List Fil}{x:Odr}(t:TInv o q0 xs F left (x::Y))(h:0<left)(h1:xes o (opr x)=true)(h2:¬oac x=oac o)(h3:oqt x<=left) :
  TInv o q0 xs (F++[fillOf x o (oqt x)]) (left - oqt x) Y:=by
 have hq:=t.qty x (by simp);refine⟨?_,by omega,by have:=t.le;omega,fun y hy=>t.qty y (by simp [hy])⟩;rw [t.all,takes_full h h1 h2 h3];simp
theorem TInv.part {o:Odr}{q0 left:Int}{xs Y:List Odr}{F:List Fil}{x:Odr}(t:TInv o q0 xs F left (x::Y))(h:0<left)(h1:xes o (opr x)=true)(h2:¬oac x=oac o)(h3:¬oqt x<=left) :
  TInv o q0 xs (F++[fillOf x o left]) 0 (less x left::Y):=by
 have hq:=t.qty x (by simp);refine⟨?_,by omega,by have:=t.le;have:=t.pos;omega,?_⟩
 ·rw [t.all,takes_part h h1 h2 h3,takes_zero (left:=0) _ (by omega)];simp
 ·intro y hy;rcases List.mem_cons.1 hy with rfl | hy
  ·show 1<=oqt x - left/\oqt x - left<=1000;omega
  ·exact t.qty y (by simp [hy])
theorem TInv.stop {o:Odr}{q0 left:Int}{xs Y:List Odr}{F:List Fil}{m:Bool}(t:TInv o q0 xs F left Y)(h:takes o left Y=(Y,[],left,m)):takes o q0 xs=(Y,F,left,m):=by
 rw [t.all,h];simp
end Go.Proofs.YthdjfhnhjiageaaGreatDoor.Bk
