import Derived.BigQuiet
import Derived.WalkKit
namespace Go.Proofs.YthdjfhnhjiageaaGreatDoor.Mix
structure InC (C:World->Prop) where
 w:World
 h:C w
section
variable {P:Program} {ops:Array Oper} {md:Region.Mode}
def Yields (P:Program) (ops:Array Oper) (C:World->Prop) (o:Oper) (v:Value) (a:Act):Prop :=
 (Region.wanted o (yielded ops a.tmps)=true/\∀w,C w->((execOp a.eval o).run P w=.ok (.value v) w\/((execOp a.eval o).run P w=.ok .skip w/\v=undef))) \/
 (Region.wanted o (yielded ops a.tmps)=false/\v=undef)
theorem Yields.sub {C C':World->Prop}{o:Oper}{v:Value}{a:Act}(h:Yields P ops C o v a)(hs:∀x,C' x->C x):Yields P ops C' o v a:=by
 rcases h with⟨h1,h2⟩ | h
 ·exact .inl ⟨h1,fun w hw=>h2 w (hs w hw)⟩
 ·exact .inr h
theorem Yields.same {C:World->Prop}{o:Oper}{v:Value}{a a':Act}(hy:Yields P ops C o v a)(he:execOp a'.eval o=execOp a.eval o)
  (hw:Region.wanted o (yielded ops a'.tmps)=Region.wanted o (yielded ops a.tmps)):Yields P ops C o v a':=by
 unfold Yields at *;rw [he,hw];exact hy
def noExit:Exit->Act->World->Prop:=fun _ _ _=>False
def firm (P:Program) (ops:Array Oper) (i:Nat) (K:(World->Prop)->Act->Prop) (C:World->Prop) (a:Act):Prop :=
 ∀w,C w->match ops[i]? with
  |none=>∃C',C' w/\(∀x,C' x->C x)/\K C' a
  |some o=>if Region.wanted o (yielded ops a.tmps) then o.wp P a w (fun a' w'=>∃C',C' w'/\(∀x,C' x->C x)/\K C' a') noExit else ∃C',C' w/\(∀x,C' x->C x)/\K C' (a.put o.dst undef)
def anyM (P:Program) (md:Region.Mode) (ops:Array Oper) (Q:Act->World->Prop):Nat->Array Bool->(World->Prop)->Act->Prop
 |0,listed,C,a=>Region.ready md ops listed=[]/\∀w,C w->Q a w
 |fuel+1,listed,C,a =>
  (Region.ready md ops listed=[]->∀w,C w->Q a w) /\
  ∀i∈Region.ready md ops listed,firm P ops i (anyM P md ops Q fuel (listed.setIfInBounds i true)) C a
theorem firm_mono {i:Nat}{C:World->Prop}{a:Act}{K K':(World->Prop)->Act->Prop}(h:∀C' a',(∀x,C' x->C x)->K C' a'->K' C' a')(hh:firm P ops i K C a):firm P ops i K' C a:=by
 intro w hw;have:=hh w hw
 cases ho:ops[i]? with
 |none=>simp only [ho] at this ⊢;obtain⟨C',h1,h2,h3⟩:=this;exact⟨C',h1,h2,h C' _ h2 h3⟩
 |some o =>
  simp only [ho] at this ⊢;split
  ·rename_i hwt;rw [if_pos hwt] at this;exact Oper.wp_mono (fun a' w' ⟨C',h1,h2,h3⟩=>⟨C',h1,h2,h C' a' h2 h3⟩) this
  ·rename_i hwt;rw [if_neg hwt] at this;obtain⟨C',h1,h2,h3⟩:=this;exact⟨C',h1,h2,h C' _ h2 h3⟩
theorem Yields.firm {i:Nat}{o:Oper}{v:Value}{C:World->Prop}{a:Act}(hi:ops[i]? = some o)(hy:Yields P ops C o v a){K:(World->Prop)->Act->Prop}(h:K C (a.put o.dst v)):firm P ops i K C a:=by
 intro w hw;simp only [hi];rcases hy with⟨hwt,hv⟩ | ⟨hwt,rfl⟩
 ·rw [if_pos hwt];unfold Oper.wp;rcases hv w hw with e | ⟨e,rfl⟩
  ·rw [e];exact⟨C,hw,fun _ h=>h,h⟩
  ·rw [e];exact⟨C,hw,fun _ h=>h,h⟩
 ·rw [if_neg (by rw [hwt];exact Bool.false_ne_true)];exact⟨C,hw,fun _ h=>h,h⟩
theorem put_defers (a:Act)(x:Option Tmp)(v:Value)(d:Deferred):{ a.put x v with defers:=d::(a.put x v).defers } = ({ a with defers:=d::a.defers }:Act).put x v:=by
 cases x<;>rfl
theorem firm_put {j:Nat}{oi oj:Oper}{v:Value}{C:World->Prop}(hj:ops[j]? = some oj)(hap:oi.apart ops oj=true)
  (hsi:∀cs b,oi.op≠.select cs b) (hsj:∀cs b,oj.op≠.select cs b) {K:(World->Prop)->Act->Prop} {a:Act}
  (hy:Yields P ops C oi v a) (h:firm P ops j K C (a.put oi.dst v)) :
  firm P ops j (fun C' a'=>Yields P ops C' oi v a'/\K C' (a'.put oi.dst v)) C a:=by
 obtain⟨h1,h2,h3⟩:=Oper.apart_spec hap
 have keep:∀(a:Act),Yields P ops C oi v a->∀u,Yields P ops C oi v (a.put oj.dst u):=fun a hy u =>
  hy.same (execOp_put oi hsi a oj.dst u h3) (wanted_put oi a oj.dst u h3)
 intro w hw;have H:=h w hw;simp only [hj] at H ⊢;rw [wanted_put oj a oi.dst v h1] at H;split
 ·rename_i hwt;rw [if_pos hwt] at H;unfold Oper.wp at H ⊢;rw [execOp_put oj hsj a oi.dst v h1] at H;generalize (execOp a.eval oj).run P w=r at H ⊢
  cases r with
  |ok n w' =>
   cases n<;>simp only [Oper.upon] at H ⊢
   case value u =>
    obtain⟨C',c1,c2,c3⟩:=H;exact⟨C',c1,c2,(keep a hy u).sub c2,by rw [<- Act.put_comm a v u h2];exact c3⟩
   case skip =>
    obtain⟨C',c1,c2,c3⟩:=H;exact⟨C',c1,c2,(keep a hy undef).sub c2,by rw [<- Act.put_comm a v undef h2];exact c3⟩
   case defer d =>
    obtain⟨C',c1,c2,c3⟩:=H;refine⟨C',c1,c2,?_,?_⟩
    ·have hy':Yields P ops C oi v ({ a with defers:=d::a.defers }:Act):=hy;exact(keep _ hy' undef).sub c2
    ·rw [put_defers] at c3;rw [<- Act.put_comm _ v undef h2];exact c3
   case enter f args =>
    refine Calls.mono H fun e w'' he=>?_
    cases e with
    |returned u =>
     obtain⟨C',c1,c2,c3⟩:=he;exact⟨C',c1,c2,(keep a hy u).sub c2,by rw [<- Act.put_comm a v u h2];exact c3⟩
    |panicked chain=>exact he
    |outgrown=>exact he
   case row row args =>
    refine Rows.mono H fun u w'' he=>?_;obtain⟨C',c1,c2,c3⟩:=he;exact⟨C',c1,c2,(keep a hy u).sub c2,by rw [<- Act.put_comm a v u h2];exact c3⟩
  |halt x w'=>cases x<;>simp only [Oper.upon] at H ⊢<;>exact H
 ·rename_i hwt;rw [if_neg hwt] at H;obtain⟨C',c1,c2,c3⟩:=H;exact⟨C',c1,c2,(keep a hy undef).sub c2,by rw [<- Act.put_comm a v undef h2];exact c3⟩
theorem anyM_first {Q:Act->World->Prop}{i:Nat}{oi:Oper}{v:Value}(hi:ops[i]? = some oi)(hsel:∀(j:Nat)(o:Oper) cs b,ops[j]? = some o->o.op≠.select cs b) :
  ∀(fuel:Nat) (listed:Array Bool) (C:World->Prop) (a:Act),
   (∀j oj,ops[j]? = some oj->j≠i->listed.getD j true=false->(∀e∈oj.after,Region.binds md e=true->e.on≠i)->oi.apart ops oj=true) ->
   i∈Region.ready md ops listed->Yields P ops C oi v a ->
   anyM P md ops Q fuel (listed.setIfInBounds i true) C (a.put oi.dst v)->anyM P md ops Q (fuel+1) listed C a:=by
 intro fuel;induction fuel with
 |zero =>
  intro listed C a _ hr hy H;refine⟨fun h=>(by rw [h] at hr;cases hr),fun j hj=>?_⟩;by_cases hji:j=i
  ·subst hji;exact hy.firm hi H
  ·have:=ready_mono hj hji;rw [H.1] at this;cases this
 |succ fuel ih =>
  intro listed C a hfree hr hy H;refine⟨fun h=>(by rw [h] at hr;cases hr),fun j hj=>?_⟩;by_cases hji:j=i
  ·subst hji;exact hy.firm hi H
  ·have h1:=H.2 j (ready_mono hj hji);obtain⟨hjun,oj,hoj,hall⟩:=mem_ready.1 hj;have hnot:∀e∈oj.after,Region.binds md e=true->e.on≠i:=fun e he hb heq=>by
    have h1:=hall e he hb;have h0:=(mem_ready.1 hr).1;rw [heq] at h1;rcases Nat.lt_or_ge i listed.size with h' | h'
    ·simp [h'] at h0 h1;rw [h0] at h1;cases h1
    ·simp [Array.getElem?_eq_none h'] at h1
   have h2:=firm_put hoj (hfree j oj hoj hji hjun hnot) (fun cs b=>hsel i oi cs b hi) (fun cs b=>hsel j oj cs b hoj) hy h1
   have hfree':∀k ok,ops[k]? = some ok->k≠i->(listed.setIfInBounds j true).getD k true=false ->
     (∀e∈ok.after,Region.binds md e=true->e.on≠i)->oi.apart ops ok=true:=fun k ok hk hki hun hno=>by
    refine hfree k ok hk hki ?_ hno
    by_cases hjk:j=k
    ·subst hjk;exact hjun
    ·rw [getD_set_ne true hjk] at hun;exact hun
   refine firm_mono (fun C' a' _ h3=>ih (listed.setIfInBounds j true) C' a' hfree' (ready_mono hr (Ne.symm hji)) h3.1 ?_) h2;rw [Array.setIfInBounds_comm _ _ hji];exact h3.2
theorem wp_exits {o:Oper}{a:Act}{w:World}{K:Act->World->Prop}{Q:Exit->Act->World->Prop}(h:o.wp P a w K noExit):o.wp P a w K Q:=by
 unfold Oper.wp at *;generalize (execOp a.eval o).run P w=r at *
 cases r with
 |ok n w' =>
  cases n<;>simp only [Oper.upon] at h ⊢<;>try exact h
  case enter f args =>
   refine Calls.mono h fun e w'' he=>?_
   cases e with
   |returned u=>exact he
   |panicked chain=>exact False.elim he
   |outgrown=>obtain⟨_,_,hf⟩:=he;exact False.elim hf
 |halt x w'=>cases x<;>simp only [Oper.upon] at h ⊢<;>exact False.elim h
theorem any_of_anyM {Q:Act->World->Prop}{Q':Exit->Act->World->Prop}(hQ:∀a w,Q a w->Q' .normal a w):∀(fuel:Nat)(listed:Array Bool)(C:World->Prop)(a:Act)(w:World),C w ->
  anyM P md ops Q fuel listed C a->wpAny P md ops Q' fuel listed a w
 |0,_,_,_,_,hw,h=>⟨h.1,hQ _ _ (h.2 _ hw)⟩
 |fuel+1,listed,C,a,w,hw,h=>by
  refine⟨fun h0=>hQ _ _ (h.1 h0 _ hw),fun i hi=>?_⟩;have:=h.2 i hi w hw;unfold wpOp
  cases ho:ops[i]? with
  |none=>simp only [ho] at this ⊢;obtain⟨C',h1,_,h3⟩:=this;exact any_of_anyM hQ fuel _ C' a w h1 h3
  |some o =>
   simp only [ho] at this ⊢;split
   ·rename_i hwt;rw [if_pos hwt] at this;exact .inl (wp_exits (Oper.wp_mono (fun a' w' ⟨C',h1,_,h3⟩=>any_of_anyM hQ fuel _ C' a' w' h1 h3) this))
   ·rename_i hwt;rw [if_neg hwt] at this;obtain⟨C',h1,_,h3⟩:=this;exact any_of_anyM hQ fuel _ C' _ w h1 h3
/-! the order of the walk: what reads comes as soon as it can; the others where nothing else can come. -/
def plain:Op->Bool
 |.move _=>true
 |.assign _=>true
 |.load _ _=>true
 |.fieldAddr _ _ _=>true
 |.field _ _ _=>true
 |.slice _ _ _ _ _=>true
 |.indexAddr _ _ _=>true
 |.index _ _ _=>true
 |.binOp _ _ _ _ _=>true
 |.unOp _ _ _=>true
 |.build _ _=>true
 |.extract _ _=>true
 |_=>false
theorem run_value_only {s:Sem Value}{P:Program}{w w':World}{n:Next}(h:(do pure (Next.value (<- s)):Sem Next).run P w=.ok n w'):∃v,n=.value v:=by
 simp only [Sem.run_bind] at h
 cases hs:s.run P w with
 |ok v w1=>rw [hs] at h;simp [Result.andThen] at h;exact⟨v,h.1.symm⟩
 |halt x w1=>rw [hs] at h;simp [Result.andThen] at h
theorem plain_value {o:Oper}(h:plain o.op=true){ρ:Operand->Value}{w w':World}{n:Next}(hr:(execOp ρ o).run P w=.ok n w'):∃v,n=.value v:=by
 unfold execOp at hr
 cases ho:o.op<;>rw [ho] at h hr<;>first | (cases h;done) | exact run_value_only hr | (simp at hr;exact⟨_,hr.1.symm⟩)
def segFrom (md:Region.Mode) (ops:Array Oper):List (Nat × Bool)->Array Bool->Bool
 |[],listed=>(Region.ready md ops listed).isEmpty
 | (k,true)::rest,listed=>(Region.ready md ops listed).contains k&&Region.free md ops listed k&&(match ops[k]? with | some o=>plain o.op | none=>false)&&segFrom md ops rest (listed.setIfInBounds k true)
 | (k,false)::rest,listed=>Region.ready md ops listed == [k]&&segFrom md ops rest (listed.setIfInBounds k true)
def mix (P:Program) (ops:Array Oper) (Q:Act->World->Prop):List (Nat × Bool)->(World->Prop)->Act->Prop
 |[],C,a=>∀p:InC C,Q a p.w
 | (k,true)::rest,C,a=>wpQuiet P ops (fun x=>∃p:InC C,x=p.w) (mix P ops Q rest C) (ops[k]?.toList) a
 | (k,false)::rest,C,a=>∀p:InC C,wpList P ops (fun e a' w'=>e=.normal/\∃C',C' w'/\(∀x,C' x->C x)/\mix P ops Q rest C' a') (ops[k]?.toList) a p.w
theorem yields_of_quiet {o:Oper}{C:World->Prop}{K:Act->Prop}{a:Act}(hp:plain o.op=true)(h:wpQuiet P ops (fun x=>∃p:InC C,x=p.w) K [o] a):∃v,Yields P ops C o v a/\K (a.put o.dst v):=by
 unfold wpQuiet at h;split at h
 ·rename_i hw;obtain⟨v,h1,h2⟩:=h;refine⟨v,.inl ⟨hw,fun w hC=>?_⟩,h2⟩;have:=h1 w ⟨⟨w,hC⟩,rfl⟩;unfold Oper.quietAt at this;generalize hr:(execOp a.eval o).run P w=r at this
  cases r with
  |ok n w' =>
   obtain⟨u,rfl⟩:=plain_value hp hr;obtain⟨e1,e2⟩:=this;rw [e1,e2];exact .inl rfl
  |halt x w'=>exact False.elim this
 ·rename_i hw;exact⟨undef,.inr ⟨by simpa using hw,rfl⟩,h⟩
theorem anyM_mix {Q:Act->World->Prop}(hs:Region.noSelect ops=true):∀(l:List (Nat × Bool))(listed:Array Bool)(C:World->Prop)(a:Act),
  segFrom md ops l listed=true->mix P ops Q l C a->anyM P md ops Q l.length listed C a
 |[],listed,C,a,hB,h=>⟨by simpa [segFrom] using hB,fun w hw=>h ⟨w,hw⟩⟩
 | (k,true)::rest,listed,C,a,hB,h=>by
  simp only [segFrom,Bool.and_eq_true] at hB;obtain⟨⟨⟨hr,hf⟩,hp⟩,hB'⟩:=hB
  cases ho:ops[k]? with
  |none=>rw [ho] at hp;cases hp
  |some o =>
   rw [ho] at hp;unfold mix at h;rw [ho] at h;obtain⟨v,hy,hK⟩:=yields_of_quiet hp h
   exact anyM_first ho (Region.noSelect_spec hs) rest.length listed C a (Region.free_spec ho hf) (by simpa using hr) hy (anyM_mix hs rest _ _ _ hB' hK)
 | (k,false)::rest,listed,C,a,hB,h=>by
  simp only [segFrom,Bool.and_eq_true,beq_iff_eq] at hB;obtain⟨hr,hB'⟩:=hB
  refine⟨fun h0=>(by rw [hr] at h0;cases h0),fun i hi w hw=>?_⟩
  rw [hr,List.mem_singleton] at hi;subst hi;have H:=h ⟨w,hw⟩
  have hir:i∈Region.ready md ops listed:=by rw [hr];simp
  obtain⟨_,o,ho,_⟩:=mem_ready.1 hir;rw [ho] at H ⊢;simp only [Option.toList_some] at H ⊢;unfold wpList at H
  split
  ·rename_i hwt
   rw [if_pos hwt] at H
   rcases H with H | ⟨_,hl⟩
   ·refine Oper.wp_mono (fun a' w' hK=>?_) (o:=o) (Q:=noExit) (K:=fun a' w'=>wpList P ops (fun e a' w'=>e=.normal/\∃C',C' w'/\(∀x,C' x->C x)/\mix P ops Q rest C' a') [] a' w') ?_
    ·obtain⟨_,C',h1,h2,h3⟩:=hK
     exact⟨C',h1,h2,anyM_mix hs rest _ _ _ hB' h3⟩
    ·unfold Oper.wp at H ⊢
     generalize (execOp a.eval o).run P w=r at H ⊢
     cases r with
     |ok n w' =>
      cases n<;>simp only [Oper.upon] at H ⊢<;>try exact H
      case enter f args =>
       refine Calls.mono H fun e w'' he=>?_
       cases e with
       |returned u=>exact he
       |panicked chain=>cases he.1
       |outgrown=>obtain⟨_,_,he,_⟩:=he;cases he
     |halt x w'=>cases x<;>simp only [Oper.upon] at H ⊢<;>first | exact H | cases H.1
   ·obtain⟨_,_,he,_⟩:=hl
    cases he
  ·rename_i hwt
   rw [if_neg hwt] at H;obtain⟨_,C',h1,h2,h3⟩:=H;exact⟨C',h1,h2,anyM_mix hs rest _ _ _ hB' h3⟩
theorem mix_end {Q:Act->World->Prop}{C:World->Prop}{a:Act}(h:∀p:InC C,Q a p.w):mix P ops Q [] C a:=h
def nth:List Oper->Nat->Option Oper
 |[],_=>none
 |o::_,0=>some o
 |_::l,k+1=>nth l k
theorem nth_eq:∀(l:List Oper)(k:Nat),l.toArray[k]? = nth l k
 |[],k=>by simp [nth]
 |o::l,0=>by simp [nth]
 |o::l,k+1=>by
  have:=nth_eq l k;simp only [List.getElem?_toArray] at this ⊢;simpa [nth] using this
theorem mix_still {Q:Act->World->Prop}{C:World->Prop}{a:Act}{k:Nat}{rest:List (Nat × Bool)}{o:Oper}{l:List Oper}(ho:nth l k=some o)(h:wpQuiet P l.toArray (fun x=>∃p:InC C,x=p.w) (mix P l.toArray Q rest C) [o] a):mix P l.toArray Q ((k,true)::rest) C a:=by
 unfold mix;rw [nth_eq,ho];exact h
theorem mix_main {Q:Act->World->Prop}{C:World->Prop}{a:Act}{k:Nat}{rest:List (Nat × Bool)}{o:Oper}{l:List Oper}(ho:nth l k=some o)(h:∀p:InC C,wpList P l.toArray (fun e a' w'=>e=.normal/\∃C',C' w'/\(∀x,C' x->C x)/\mix P l.toArray Q rest C' a') [o] a p.w):mix P l.toArray Q ((k,false)::rest) C a:=by
 unfold mix;rw [nth_eq,ho];exact h
theorem wp_region_mix {id:Nat}{Q:Exit->Act->World->Prop}{a:Act}{w:World}{l:List Oper}(order:List (Nat × Bool))(C:World->Prop)(hm:P.follows .mixedOrders=true)
  (hB:(Region.noSelect l.toArray&&order.length == l.toArray.size&&segFrom .any l.toArray order (Array.replicate l.toArray.size false))=true) (hC:C { w with drawn:=w.drawn+1 })
  (h:mix P l.toArray (Q .normal) order C a):(Code.region id l.toArray true).wp P Q a w:=by
 simp only [Bool.and_eq_true,beq_iff_eq] at hB;obtain⟨⟨h1,h2⟩,h3⟩:=hB;refine wp_region_any hm ?_;have:=anyM_mix h1 order _ C a h3 h;rw [h2] at this;exact any_of_anyM (fun _ _ h=>h) _ _ C a _ hC this
end
end Go.Proofs.YthdjfhnhjiageaaGreatDoor.Mix
namespace Go.Proofs.YthdjfhnhjiageaaGreatDoor.Mix
inductive Tr where
 |done:Tr
 |still:Nat->Tr->Tr
 |main:Nat->Tr->Tr
 |fork:Nat->Tr->Nat->Tr->Tr
def Tr.depth:Tr->Nat
 |.done=>0
 |.still _ t=>t.depth+1
 |.main _ t=>t.depth+1
 |.fork _ t _ _=>t.depth+1
section
variable {P:Program} {ops:Array Oper} {md:Region.Mode}
def plainB:Op->Bool
 |.call c=>match c.callee with
  |.builtin .len=>true
  |.builtin .min=>true
  |.builtin .max=>true
  |_=>false
 |op=>plain op
theorem then_value {r:Result Value}{n:Next}{w':World}(h:(r.andThen fun a w'=>Result.ok (Next.value a) w')=.ok n w'):∃v,n=.value v:=by
 cases r with
 |ok v w1=>simp [Result.andThen] at h;exact⟨v,h.1.symm⟩
 |halt x w1=>simp [Result.andThen] at h
theorem plainB_value {o:Oper}(h:plainB o.op=true){ρ:Operand->Value}{w w':World}{n:Next}(hr:(execOp ρ o).run P w=.ok n w'):∃v,n=.value v:=by
 cases ho:o.op
 case call c =>
  rw [ho] at h;unfold execOp at hr;rw [ho] at hr;obtain⟨callee,args,argTypes⟩:=c;cases callee
  case builtin b =>
   cases b<;>simp only [plainB] at h<;>first | (cases h;done) | (simp only [resolve,invoke,builtin,Sem.run_bind,Sem.run_pure,Result.andThen_ok] at hr;exact then_value hr)
  all_goals (cases h;done)
 all_goals (rw [ho] at h;exact plain_value (by rw [ho];exact h) hr)
theorem yields_of_quietB {o:Oper}{C:World->Prop}{K:Act->Prop}{a:Act}(hp:plainB o.op=true)(h:wpQuiet P ops (fun x=>∃p:InC C,x=p.w) K [o] a):∃v,Yields P ops C o v a/\K (a.put o.dst v):=by
 unfold wpQuiet at h;split at h
 ·rename_i hw;obtain⟨v,h1,h2⟩:=h;refine⟨v,.inl ⟨hw,fun w hC=>?_⟩,h2⟩;have:=h1 w ⟨⟨w,hC⟩,rfl⟩;unfold Oper.quietAt at this;generalize hr:(execOp a.eval o).run P w=r at this
  cases r with
  |ok n w' =>
   obtain⟨u,rfl⟩:=plainB_value hp hr;obtain⟨e1,e2⟩:=this;rw [e1,e2];exact .inl rfl
  |halt x w'=>exact False.elim this
 ·rename_i hw;exact⟨undef,.inr ⟨by simpa using hw,rfl⟩,h⟩
def segT (md:Region.Mode) (ops:Array Oper):Tr->Array Bool->Bool
 |.done,listed=>(Region.ready md ops listed).isEmpty
 |.still k rest,listed=>(Region.ready md ops listed).contains k&&Region.free md ops listed k&&(match ops[k]? with | some o=>plainB o.op | none=>false)&&segT md ops rest (listed.setIfInBounds k true)
 |.main k rest,listed=>Region.ready md ops listed == [k]&&segT md ops rest (listed.setIfInBounds k true)
 |.fork k t k' t',listed=>Region.ready md ops listed == [k,k']&&t.depth == t'.depth&&segT md ops t (listed.setIfInBounds k true)&&segT md ops t' (listed.setIfInBounds k' true)
def mixT (P:Program) (ops:Array Oper) (Q:Act->World->Prop):Tr->(World->Prop)->Act->Prop
 |.done,C,a=>∀p:InC C,Q a p.w
 |.still k rest,C,a=>wpQuiet P ops (fun x=>∃p:InC C,x=p.w) (mixT P ops Q rest C) (ops[k]?.toList) a
 |.main k rest,C,a=>∀p:InC C,wpList P ops (fun e a' w'=>e=.normal/\∃C',C' w'/\(∀x,C' x->C x)/\mixT P ops Q rest C' a') (ops[k]?.toList) a p.w
 |.fork k t k' t',C,a=>(∀p:InC C,wpList P ops (fun e a' w'=>e=.normal/\∃C',C' w'/\(∀x,C' x->C x)/\mixT P ops Q t C' a') (ops[k]?.toList) a p.w) /\
   ∀p:InC C,wpList P ops (fun e a' w'=>e=.normal/\∃C',C' w'/\(∀x,C' x->C x)/\mixT P ops Q t' C' a') (ops[k']?.toList) a p.w
theorem firm_main {i:Nat}{C:World->Prop}{a:Act}{K:(World->Prop)->Act->Prop}{o:Oper}(ho:ops[i]? = some o)
  (h:∀p:InC C,wpList P ops (fun e a' w'=>e=.normal/\∃C',C' w'/\(∀x,C' x->C x)/\K C' a') (ops[i]?.toList) a p.w):firm P ops i K C a:=by
 intro w hw;have H:=h ⟨w,hw⟩;rw [ho] at H ⊢;simp only [Option.toList_some] at H ⊢;unfold wpList at H;split
 ·rename_i hwt;rw [if_pos hwt] at H;rcases H with H | ⟨_,hl⟩
  ·refine Oper.wp_mono (fun a' w' hK=>?_) (o:=o) (Q:=noExit) (K:=fun a' w'=>wpList P ops (fun e a' w'=>e=.normal/\∃C',C' w'/\(∀x,C' x->C x)/\K C' a') [] a' w') ?_
   ·exact hK.2
   ·unfold Oper.wp at H ⊢;generalize (execOp a.eval o).run P w=r at H ⊢
    cases r with
    |ok n w' =>
     cases n<;>simp only [Oper.upon] at H ⊢<;>try exact H
     case enter f args =>
      refine Calls.mono H fun e w'' he=>?_
      cases e with
      |returned u=>exact he
      |panicked chain=>cases he.1
      |outgrown=>obtain⟨_,_,he,_⟩:=he;cases he
    |halt x w'=>cases x<;>simp only [Oper.upon] at H ⊢<;>first | exact H | cases H.1
  ·obtain⟨_,_,he,_⟩:=hl
   cases he
 ·rename_i hwt;rw [if_neg hwt] at H;exact H.2
theorem anyM_tree {Q:Act->World->Prop}(hs:Region.noSelect ops=true):∀(t:Tr)(listed:Array Bool)(C:World->Prop)(a:Act),
  segT md ops t listed=true->mixT P ops Q t C a->anyM P md ops Q t.depth listed C a
 |.done,listed,C,a,hB,h=>⟨by simpa [segT] using hB,fun w hw=>h ⟨w,hw⟩⟩
 |.still k rest,listed,C,a,hB,h=>by
  simp only [segT,Bool.and_eq_true] at hB;obtain⟨⟨⟨hr,hf⟩,hp⟩,hB'⟩:=hB
  cases ho:ops[k]? with
  |none=>rw [ho] at hp;cases hp
  |some o =>
   rw [ho] at hp;unfold mixT at h;rw [ho] at h;obtain⟨v,hy,hK⟩:=yields_of_quietB hp h
   exact anyM_first ho (Region.noSelect_spec hs) rest.depth listed C a (Region.free_spec ho hf) (by simpa using hr) hy (anyM_tree hs rest _ _ _ hB' hK)
 |.main k rest,listed,C,a,hB,h=>by
  simp only [segT,Bool.and_eq_true,beq_iff_eq] at hB;obtain⟨hr,hB'⟩:=hB
  refine⟨fun h0=>(by rw [hr] at h0;cases h0),fun i hi=>?_⟩
  have hir:=hi;rw [hr,List.mem_singleton] at hi;subst hi;obtain⟨_,o,ho,_⟩:=mem_ready.1 hir
  exact firm_mono (fun C' a' _ h3=>anyM_tree hs rest _ _ _ hB' h3) (firm_main ho h)
 |.fork k t k' t',listed,C,a,hB,h=>by
  simp only [segT,Bool.and_eq_true,beq_iff_eq] at hB;obtain⟨⟨⟨hr,hd⟩,hB1⟩,hB2⟩:=hB
  refine⟨fun h0=>(by rw [hr] at h0;cases h0),fun i hi=>?_⟩
  have hir:=hi;rw [hr,List.mem_cons,List.mem_singleton] at hi;obtain⟨_,o,ho,_⟩:=mem_ready.1 hir
  rcases hi with rfl | rfl
  ·exact firm_mono (fun C' a' _ h3=>anyM_tree hs t _ _ _ hB1 h3) (firm_main ho h.1)
  ·refine firm_mono (fun C' a' _ h3=>?_) (firm_main ho h.2)
   have:=anyM_tree hs t' _ _ _ hB2 h3;rw [<- hd] at this;exact this
theorem mixT_end {Q:Act->World->Prop}{C:World->Prop}{a:Act}(h:∀p:InC C,Q a p.w):mixT P ops Q .done C a:=h
theorem mixT_still {Q:Act->World->Prop}{C:World->Prop}{a:Act}{k:Nat}{rest:Tr}{o:Oper}{l:List Oper}(ho:nth l k=some o)(h:wpQuiet P l.toArray (fun x=>∃p:InC C,x=p.w) (mixT P l.toArray Q rest C) [o] a):mixT P l.toArray Q (.still k rest) C a:=by
 unfold mixT;rw [nth_eq,ho];exact h
theorem mixT_main {Q:Act->World->Prop}{C:World->Prop}{a:Act}{k:Nat}{rest:Tr}{o:Oper}{l:List Oper}(ho:nth l k=some o)(h:∀p:InC C,wpList P l.toArray (fun e a' w'=>e=.normal/\∃C',C' w'/\(∀x,C' x->C x)/\mixT P l.toArray Q rest C' a') [o] a p.w):mixT P l.toArray Q (.main k rest) C a:=by
 unfold mixT;rw [nth_eq,ho];exact h
theorem mixT_fork {Q:Act->World->Prop}{C:World->Prop}{a:Act}{k k':Nat}{t t':Tr}{o o':Oper}{l:List Oper}(ho:nth l k=some o)(ho':nth l k'=some o')
  (h:∀p:InC C,wpList P l.toArray (fun e a' w'=>e=.normal/\∃C',C' w'/\(∀x,C' x->C x)/\mixT P l.toArray Q t C' a') [o] a p.w)
  (h':∀p:InC C,wpList P l.toArray (fun e a' w'=>e=.normal/\∃C',C' w'/\(∀x,C' x->C x)/\mixT P l.toArray Q t' C' a') [o'] a p.w):mixT P l.toArray Q (.fork k t k' t') C a:=by
 unfold mixT;rw [nth_eq,ho,nth_eq,ho'];exact⟨h,h'⟩
theorem wp_region_tree {id:Nat}{Q:Exit->Act->World->Prop}{a:Act}{w:World}{l:List Oper}(t:Tr)(C:World->Prop)(hm:P.follows .mixedOrders=true)
  (hB:(Region.noSelect l.toArray&&t.depth == l.toArray.size&&segT .any l.toArray t (Array.replicate l.toArray.size false))=true) (hC:C { w with drawn:=w.drawn+1 })
  (h:mixT P l.toArray (Q .normal) t C a):(Code.region id l.toArray true).wp P Q a w:=by
 simp only [Bool.and_eq_true,beq_iff_eq] at hB;obtain⟨⟨h1,h2⟩,h3⟩:=hB;refine wp_region_any hm ?_;have:=anyM_tree h1 t _ C a h3 h;rw [h2] at this;exact any_of_anyM (fun _ _ h=>h) _ _ C a _ hC this
end
end Go.Proofs.YthdjfhnhjiageaaGreatDoor.Mix
namespace Go.Proofs.YthdjfhnhjiageaaGreatDoor.Mix
open Go.RowKit
inductive Tg where
 |done:Tg
 |give:Nat->Tg->Tg
 |main:Nat->Tg->Tg
 |fork:Nat->Tg->Nat->Tg->Tg
 |fork3:Nat->Tg->Nat->Tg->Nat->Tg->Tg
def Tg.depth:Tg->Nat
 |.done=>0
 |.give _ t=>t.depth+1
 |.main _ t=>t.depth+1
 |.fork _ t _ _=>t.depth+1
 |.fork3 _ t _ _ _ _=>t.depth+1
section
variable {P:Program} {ops:Array Oper} {md:Region.Mode}
end
end Go.Proofs.YthdjfhnhjiageaaGreatDoor.Mix
namespace Go.Proofs.YthdjfhnhjiageaaGreatDoor.Mix
section
variable {P:Program} {ops:Array Oper} {md:Region.Mode} {S:World->Prop}
end
end Go.Proofs.YthdjfhnhjiageaaGreatDoor.Mix
