/-
  Package book by contracts: Best; the law's closed fact.
-/
import Derived.Test.YtpkbiafhnflmnaaGreatDoorS07
import Derived.Test.YtpkbiafhnflmnaaGreatDoorS10
import Derived.Test.YtpkbiafhnflmnaaGreatDoorS12
import Derived.Deep.RegionLaw
import Derived.Test.YtpkbiafhnflmnaaGreatDoorS09
namespace Go.Proofs.YtpkbiafhnflmnaaGreatDoor.Bk
open Go.RowKit Go.Sort Go.Maps Go.Proofs.YtpkbiafhnflmnaaGreatDoor.Mix
set_option maxHeartbeats 1000000 in
set_option maxRecDepth 100000 in
theorem mcopyOf_any (p:Option Addr) (c:Nat) (xs:List Odr) (w:World) (h:OV w p c xs) (hn:xs.length * 40<=140737488351232) :
  Calls Tryz.prog 139 #[.slice p xs.length c] w fun e w'=>∃ v,e=.returned v /\ w'.ownsRow w.heap.size 27 5 v xs.length (flat xs) /\ Below w.heap.size w w':=by
 obtain ⟨i0,hi,hz0,hz1,hz2⟩:=info_parts Tryz.infoO
 cases p with
 |none =>
  have hc0:=h.nil rfl; subst hc0; have hx:xs=[]:=List.eq_nil_of_length_eq_zero (Nat.le_zero.1 h.cap); subst hx
  go_enter Tryz.func139,Tryz.ntmps139
  go_wp2_with (at_builtin; refine wpList_append_own_none rfl _ _ 48 rfl w.heap.size 27 i0 5 Tryz.underlying48 hi _ 0 [] rfl (World.ownsRow_nil _ _ _ _) rfl ?_)
  go_ret
  exact ⟨_,rfl,World.ownsRow_nil _ _ _ _,Below.refl _ _⟩
 |some ad =>
  have hcells:Hid (∀ j u,(flat xs)[j]? = some u->w.cell? (ad.add j)=some u):=by
   rcases h.row with rfl | ⟨b,off,he,hc⟩
   ·intro j u hu; simp [flat] at hu
   ·cases he; exact flat_cells hc
  have hfl:=hide (flat_length xs); have hf1:=hide (flat_one xs); generalize hfx:flat xs=fl at hcells hfl hf1 ⊢; generalize hxn:xs.length=n at hfl hn ⊢; clear h hfx hxn xs
  go_enter Tryz.func139,Tryz.ntmps139
  go_wp2_with (at_builtin; refine wpList_append_own _ rfl _ _ 48 rfl w.heap.size 27 i0 (odrV noOdr) 5 40 Tryz.underlying48 hi hz0 hz1 hz2 rfl (by decide) _ 0 [] rfl (World.ownsRow_nil _ _ _ _) ad n c fl rfl hfl.out hcells.out hf1.out (by unfold maxLen; omega) (by omega) (Nat.le_refl _) ?_; intro v' w1 hown1 hgrow1 hnil1)
  go_ret
  refine ⟨_,rfl,?_,?_⟩
  ·rw [Nat.zero_add,List.nil_append] at hown1; exact hown1
  ·exact (Below.refl _ _).grown hgrow1 (Nat.le_refl _) (fun k hk=>by cases hk)
theorem cross1_any (price pr:Int) (B:Nat) (w:World) (hc:w.cell? ⟨B,3,none⟩ = some (.int .i64 pr)) :
  Calls Tryz.prog 156 #[.int .i64 price,.pointer (some ⟨B,0,none⟩)] w fun e w'=>e=.returned (.bool (decide (price<=pr))) /\ w'=w:=by
 go_enter Tryz.func156,Tryz.ntmps156
 go_wp2
 go_ret
 exact ⟨rfl,rfl⟩
theorem cross2_any (price pr:Int) (B:Nat) (w:World) (hc:w.cell? ⟨B,3,none⟩ = some (.int .i64 pr)) :
  Calls Tryz.prog 157 #[.int .i64 price,.pointer (some ⟨B,0,none⟩)] w fun e w'=>e=.returned (.bool (decide (pr<=price))) /\ w'=w:=by
 go_enter Tryz.func157,Tryz.ntmps157
 go_wp2
 go_ret
 exact ⟨rfl,rfl⟩
/-- a function that tells which prices o trades at, over the box B of o. -/
structure XFn (o:Odr) (fid:FuncId):Prop where
 enters:∀ args w,(callFunc fid args).run Tryz.prog w=.ok (.enter fid args) w
 tells:∀ (price:Int) (B:Nat) (w:World),w.cell? ⟨B,3,none⟩ = some (.int .i64 (opr o))->Calls Tryz.prog fid #[.int .i64 price,.pointer (some ⟨B,0,none⟩)] w fun e w'=>e=.returned (.bool (xes o price)) /\ w'=w
theorem crossing_any (a ac sd pr q:Int) (w:World) :
  Calls Tryz.prog 150 #[.agg #[.int .i64 a,.int .i64 ac,.int .i64 sd,.int .i64 pr,.int .i64 q]] w fun e w' =>
   ∃ fid,e=.returned (.func (.func fid) #[] #[.pointer (some ⟨w.heap.size,0,none⟩)]) /\ XFn (a,ac,sd,pr,q) fid /\ w'=w.alloc (.cells #[.int .i64 a,.int .i64 ac,.int .i64 sd,.int .i64 pr,.int .i64 q] 27):=by
 by_cases h:sd=1
 ·have X:XFn (a,ac,sd,pr,q) 156:=⟨enters_of Tryz.func156 (by kernel_rfl) rfl,fun price B w hc=>by
   have:=cross1_any price pr B w hc; unfold xes; rw [if_pos h]; exact this⟩
  subst h
  go_enter Tryz.func150,Tryz.ntmps150
  go_wp2
  go_ret
  exact ⟨_,rfl,X,rfl⟩
 ·have X:XFn (a,ac,sd,pr,q) 157:=⟨enters_of Tryz.func157 (by kernel_rfl) rfl,fun price B w hc=>by
   have:=cross2_any price pr B w hc; unfold xes; rw [if_neg h]; exact this⟩
  have e2:(sd == 1)=false:=by simp [h]
  go_enter Tryz.func150,Tryz.ntmps150
  go_wp2
  go_ret
  exact ⟨_,rfl,X,rfl⟩
abbrev filV (f:Fil):Value:=.agg #[.int .i64 f.1,.int .i64 f.2.1,.int .i64 f.2.2.1,.int .i64 f.2.2.2.1,.int .i64 f.2.2.2.2.1,.int .i64 f.2.2.2.2.2.1,.int .i64 f.2.2.2.2.2.2]
set_option maxHeartbeats 1000000 in
set_option maxRecDepth 100000 in
theorem fill_any (a ac sd pr q a' ac' sd' pr' q' n:Int) (w:World) :
  Calls Tryz.prog 151 #[.agg #[.int .i64 a,.int .i64 ac,.int .i64 sd,.int .i64 pr,.int .i64 q],.agg #[.int .i64 a',.int .i64 ac',.int .i64 sd',.int .i64 pr',.int .i64 q'],.int .i64 n] w fun e w' =>
   e=.returned (filV (fillOf (a,ac,sd,pr,q) (a',ac',sd',pr',q') n)) /\ Below w.heap.size w w':=by
 go_enter Tryz.func151,Tryz.ntmps151
 go_wp2
 refine bodyPost_ret (v:=filV (fillOf (a,ac,sd,pr,q) (a',ac',sd',pr',q') n)) (by simp [results,Tryz.results151,go_sem,fillOf]) rfl ⟨rfl,?_⟩
 exact (((Below.refl _ w).alloc (Nat.le_refl _) _).alloc (by simp) _).alloc (by simp; omega) _
def encF (f:Fil):List Value:=[.int .i64 f.1,.int .i64 f.2.1,.int .i64 f.2.2.1,.int .i64 f.2.2.2.1,.int .i64 f.2.2.2.2.1,.int .i64 f.2.2.2.2.2.1,.int .i64 f.2.2.2.2.2.2]
def flatF (fs:List Fil):List Value:=fs.flatMap encF
theorem flatF_append (xs ys:List Fil):flatF (xs ++ ys)=flatF xs ++ flatF ys:=by unfold flatF; rw [List.flatMap_append]
theorem flatF_one (x:Fil):flatF [x]=encF x:=by simp [flatF]
theorem encF_cell (x:Fil):∀ u ∈ encF x,u.oneCell'=true:=by
 intro u hu
 simp only [encF,List.mem_cons,List.not_mem_nil,or_false] at hu
 rcases hu with rfl | rfl | rfl | rfl | rfl | rfl | rfl <;> rfl
abbrev noFil:Fil:=(0,0,0,0,0,0,0)
theorem Tryz.infoF:(Tryz.prog.info? 68).map (fun i=>(i.zero,i.size,i.bytes))=some (some (filV noFil),7,56):=by kernel_rfl
theorem two_lt {x:World} {t:Nat} (h:Two x t):t < x.heap.size:=by
 obtain ⟨_,_,h⟩:=h
 exact (Array.getElem?_eq_some_iff.1 h).1
def sliceLen:Value->Nat
 |.slice _ n _=>n
 |_=>0
end Go.Proofs.YtpkbiafhnflmnaaGreatDoor.Bk
namespace Go.Proofs.YtpkbiafhnflmnaaGreatDoor.Mix
inductive Tr where
 |done:Tr
 |still:Nat->Tr->Tr
 |main:Nat->Tr->Tr
 |fork:Nat->Tr->Nat->Tr->Tr
def Tr.depth:Tr->Nat
 |.done=>0
 |.still _ t=>t.depth + 1
 |.main _ t=>t.depth + 1
 |.fork _ t _ _=>t.depth + 1
section
variable {P:Program} {ops:Array Oper} {md:Region.Mode}
/-- what reads, builtins among them. -/
def plainB:Op->Bool
 |.call c=>match c.callee with
  |.builtin .len=>true
  |.builtin .min=>true
  |.builtin .max=>true
  |_=>false
 |op=>plain op
theorem then_value {r:Result Value} {n:Next} {w':World} (h:(r.andThen fun a w'=>Result.ok (Next.value a) w')=.ok n w'):∃ v,n=.value v:=by
 cases r with
 |ok v w1=>simp [Result.andThen] at h; exact ⟨v,h.1.symm⟩
 |halt x w1=>simp [Result.andThen] at h
theorem plainB_value {o:Oper} (h:plainB o.op=true) {ρ:Operand->Value} {w w':World} {n:Next} (hr:(execOp ρ o).run P w=.ok n w'):∃ v,n=.value v:=by
 cases ho:o.op
 case call c =>
  rw [ho] at h; unfold execOp at hr; rw [ho] at hr; obtain ⟨callee,args,argTypes⟩:=c; cases callee
  case builtin b =>
   cases b <;> simp only [plainB] at h <;> first | (cases h; done) | (simp only [resolve,invoke,builtin,Sem.run_bind,Sem.run_pure,Result.andThen_ok] at hr; exact then_value hr)
  all_goals (cases h; done)
 all_goals (rw [ho] at h; exact plain_value (by rw [ho]; exact h) hr)
theorem yields_of_quietB {o:Oper} {C:World->Prop} {K:Act->Prop} {a:Act} (hp:plainB o.op=true) (h:wpQuiet P ops (fun x=>∃ p:InC C,x=p.w) K [o] a):∃ v,Yields P ops C o v a /\ K (a.put o.dst v):=by
 unfold wpQuiet at h
 split at h
 ·rename_i hw
  obtain ⟨v,h1,h2⟩:=h
  refine ⟨v,.inl ⟨hw,fun w hC=>?_⟩,h2⟩
  have:=h1 w ⟨⟨w,hC⟩,rfl⟩; unfold Oper.quietAt at this; generalize hr:(execOp a.eval o).run P w=r at this
  cases r with
  |ok n w' =>
   obtain ⟨u,rfl⟩:=plainB_value hp hr; obtain ⟨e1,e2⟩:=this; rw [e1,e2]; exact .inl rfl
  |halt x w'=>exact False.elim this
 ·rename_i hw
  exact ⟨undef,.inr ⟨by simpa using hw,rfl⟩,h⟩
def segT (md:Region.Mode) (ops:Array Oper):Tr->Array Bool->Bool
 |.done,listed=>(Region.ready md ops listed).isEmpty
 |.still k rest,listed=>(Region.ready md ops listed).contains k && Region.free md ops listed k && (match ops[k]? with | some o=>plainB o.op | none=>false) && segT md ops rest (listed.setIfInBounds k true)
 |.main k rest,listed=>Region.ready md ops listed == [k] && segT md ops rest (listed.setIfInBounds k true)
 |.fork k t k' t',listed=>Region.ready md ops listed == [k,k'] && t.depth == t'.depth && segT md ops t (listed.setIfInBounds k true) && segT md ops t' (listed.setIfInBounds k' true)
def mixT (P:Program) (ops:Array Oper) (Q:Act->World->Prop):Tr->(World->Prop)->Act->Prop
 |.done,C,a=>∀ p:InC C,Q a p.w
 |.still k rest,C,a=>wpQuiet P ops (fun x=>∃ p:InC C,x=p.w) (mixT P ops Q rest C) (ops[k]?.toList) a
 |.main k rest,C,a=>∀ p:InC C,wpList P ops (fun e a' w'=>e=.normal /\ ∃ C',C' w' /\ (∀ x,C' x->C x) /\ mixT P ops Q rest C' a') (ops[k]?.toList) a p.w
 |.fork k t k' t',C,a=>(∀ p:InC C,wpList P ops (fun e a' w'=>e=.normal /\ ∃ C',C' w' /\ (∀ x,C' x->C x) /\ mixT P ops Q t C' a') (ops[k]?.toList) a p.w) /\
   ∀ p:InC C,wpList P ops (fun e a' w'=>e=.normal /\ ∃ C',C' w' /\ (∀ x,C' x->C x) /\ mixT P ops Q t' C' a') (ops[k']?.toList) a p.w
theorem firm_main {i:Nat} {C:World->Prop} {a:Act} {K:(World->Prop)->Act->Prop} {o:Oper} (ho:ops[i]? = some o)
  (h:∀ p:InC C,wpList P ops (fun e a' w'=>e=.normal /\ ∃ C',C' w' /\ (∀ x,C' x->C x) /\ K C' a') (ops[i]?.toList) a p.w):firm P ops i K C a:=by
 intro w hw
 have H:=h ⟨w,hw⟩; rw [ho] at H ⊢; simp only [Option.toList_some] at H ⊢; unfold wpList at H
 split
 ·rename_i hwt
  rw [if_pos hwt] at H
  rcases H with H | ⟨_,hl⟩
  ·refine Oper.wp_mono (fun a' w' hK=>?_) (o:=o) (Q:=noExit) (K:=fun a' w'=>wpList P ops (fun e a' w'=>e=.normal /\ ∃ C',C' w' /\ (∀ x,C' x->C x) /\ K C' a') [] a' w') ?_
   ·exact hK.2
   ·unfold Oper.wp at H ⊢
    generalize (execOp a.eval o).run P w=r at H ⊢
    cases r with
    |ok n w' =>
     cases n <;> simp only [Oper.upon] at H ⊢ <;> try exact H
     case enter f args =>
      refine Calls.mono H fun e w'' he=>?_
      cases e with
      |returned u=>exact he
      |panicked chain=>cases he.1
      |outgrown=>obtain ⟨_,_,he,_⟩:=he; cases he
    |halt x w'=>cases x <;> simp only [Oper.upon] at H ⊢ <;> first | exact H | cases H.1
  ·obtain ⟨_,_,he,_⟩:=hl
   cases he
 ·rename_i hwt
  rw [if_neg hwt] at H; exact H.2
theorem anyM_tree {Q:Act->World->Prop} (hs:Region.noSelect ops=true):∀ (t:Tr) (listed:Array Bool) (C:World->Prop) (a:Act),
  segT md ops t listed=true->mixT P ops Q t C a->anyM P md ops Q t.depth listed C a
 |.done,listed,C,a,hB,h=>⟨by simpa [segT] using hB,fun w hw=>h ⟨w,hw⟩⟩
 |.still k rest,listed,C,a,hB,h=>by
  simp only [segT,Bool.and_eq_true] at hB; obtain ⟨⟨⟨hr,hf⟩,hp⟩,hB'⟩:=hB
  cases ho:ops[k]? with
  |none=>rw [ho] at hp; cases hp
  |some o =>
   rw [ho] at hp; unfold mixT at h; rw [ho] at h; obtain ⟨v,hy,hK⟩:=yields_of_quietB hp h
   exact anyM_first ho (Region.noSelect_spec hs) rest.depth listed C a (Region.free_spec ho hf) (by simpa using hr) hy (anyM_tree hs rest _ _ _ hB' hK)
 |.main k rest,listed,C,a,hB,h=>by
  simp only [segT,Bool.and_eq_true,beq_iff_eq] at hB; obtain ⟨hr,hB'⟩:=hB
  refine ⟨fun h0=>(by rw [hr] at h0; cases h0),fun i hi=>?_⟩
  have hir:=hi; rw [hr,List.mem_singleton] at hi; subst hi; obtain ⟨_,o,ho,_⟩:=mem_ready.1 hir
  exact firm_mono (fun C' a' _ h3=>anyM_tree hs rest _ _ _ hB' h3) (firm_main ho h)
 |.fork k t k' t',listed,C,a,hB,h=>by
  simp only [segT,Bool.and_eq_true,beq_iff_eq] at hB; obtain ⟨⟨⟨hr,hd⟩,hB1⟩,hB2⟩:=hB
  refine ⟨fun h0=>(by rw [hr] at h0; cases h0),fun i hi=>?_⟩
  have hir:=hi; rw [hr,List.mem_cons,List.mem_singleton] at hi; obtain ⟨_,o,ho,_⟩:=mem_ready.1 hir
  rcases hi with rfl | rfl
  ·exact firm_mono (fun C' a' _ h3=>anyM_tree hs t _ _ _ hB1 h3) (firm_main ho h.1)
  ·refine firm_mono (fun C' a' _ h3=>?_) (firm_main ho h.2)
   have:=anyM_tree hs t' _ _ _ hB2 h3; rw [<- hd] at this; exact this
theorem mixT_end {Q:Act->World->Prop} {C:World->Prop} {a:Act} (h:∀ p:InC C,Q a p.w):mixT P ops Q .done C a:=h
theorem mixT_still {Q:Act->World->Prop} {C:World->Prop} {a:Act} {k:Nat} {rest:Tr} {o:Oper} {l:List Oper} (ho:nth l k=some o) (h:wpQuiet P l.toArray (fun x=>∃ p:InC C,x=p.w) (mixT P l.toArray Q rest C) [o] a):mixT P l.toArray Q (.still k rest) C a:=by
 unfold mixT; rw [nth_eq,ho]; exact h
theorem mixT_main {Q:Act->World->Prop} {C:World->Prop} {a:Act} {k:Nat} {rest:Tr} {o:Oper} {l:List Oper} (ho:nth l k=some o) (h:∀ p:InC C,wpList P l.toArray (fun e a' w'=>e=.normal /\ ∃ C',C' w' /\ (∀ x,C' x->C x) /\ mixT P l.toArray Q rest C' a') [o] a p.w):mixT P l.toArray Q (.main k rest) C a:=by
 unfold mixT; rw [nth_eq,ho]; exact h
theorem mixT_fork {Q:Act->World->Prop} {C:World->Prop} {a:Act} {k k':Nat} {t t':Tr} {o o':Oper} {l:List Oper} (ho:nth l k=some o) (ho':nth l k'=some o')
  (h:∀ p:InC C,wpList P l.toArray (fun e a' w'=>e=.normal /\ ∃ C',C' w' /\ (∀ x,C' x->C x) /\ mixT P l.toArray Q t C' a') [o] a p.w)
  (h':∀ p:InC C,wpList P l.toArray (fun e a' w'=>e=.normal /\ ∃ C',C' w' /\ (∀ x,C' x->C x) /\ mixT P l.toArray Q t' C' a') [o'] a p.w):mixT P l.toArray Q (.fork k t k' t') C a:=by
 unfold mixT; rw [nth_eq,ho,nth_eq,ho']; exact ⟨h,h'⟩
theorem wp_region_tree {id:Nat} {Q:Exit->Act->World->Prop} {a:Act} {w:World} {l:List Oper} (t:Tr) (C:World->Prop) (hm:P.follows .mixedOrders=true)
  (hB:(Region.noSelect l.toArray && t.depth == l.toArray.size && segT .any l.toArray t (Array.replicate l.toArray.size false))=true) (hC:C { w with drawn:=w.drawn + 1 })
  (h:mixT P l.toArray (Q .normal) t C a):(Code.region id l.toArray true).wp P Q a w:=by
 simp only [Bool.and_eq_true,beq_iff_eq] at hB; obtain ⟨⟨h1,h2⟩,h3⟩:=hB
 refine wp_region_any hm ?_
 have:=anyM_tree h1 t _ C a h3 h; rw [h2] at this
 exact any_of_anyM (fun _ _ h=>h) _ _ C a _ hC this
end
end Go.Proofs.YtpkbiafhnflmnaaGreatDoor.Mix
namespace Go.Proofs.YtpkbiafhnflmnaaGreatDoor.Bk
open Go.RowKit Go.Sort Go.Maps Go.Proofs.YtpkbiafhnflmnaaGreatDoor.Mix
/-- a slice of orders stays as it is while two cells of another block are written. -/
theorem ov_two {w:World} {p:Option Addr} {c t:Nat} {xs:List Odr} (h:OV w p c xs) (hp:∀ a,p=some a->a.block ≠ t) (v0 v1:Value):OV ((w.setCell ⟨t,0,none⟩ v0).setCell ⟨t,1,none⟩ v1) p c xs:=by
 refine ⟨?_,h.nil,h.cap⟩
 rcases h.row with rfl | ⟨b,off,rfl,hc⟩
 ·exact .inl rfl
 ·refine .inr ⟨b,off,rfl,fun j hj i v hv=>?_⟩
  have hb:b ≠ t:=hp _ rfl; rw [set_other _ hb,set_other _ hb]; exact hc j hj i v hv
end Go.Proofs.YtpkbiafhnflmnaaGreatDoor.Bk
