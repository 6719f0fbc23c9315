import Derived.Test.YthdjfhnhjiageaaGreatDoorG18
import Derived.Test.YthdjfhnhjiageaaGreatDoorG19
import Derived.Deep.RegionHeld3
import Derived.Deep.AppendLies
import Derived.Test.YthdjfhnhjiageaaGreatDoorG17
set_option maxHeartbeats 8000000
set_option maxRecDepth 100000
namespace Go.Proofs.YthdjfhnhjiageaaGreatDoor.Vn
open Go.RowKit Num Fix AcP FuP Bk Rm Ac
theorem hide {p:Prop}(h:p):Hid p:=h
theorem new_cell (w:World)(cs:Array Value)(t:TypeId)(i:Nat)(v:Value)(h:cs[i]? = some v):(w.alloc (.cells cs t)).cell? ⟨w.heap.size,i,none⟩=some v:=Ac.new_cell w cs t i v h
structure But (F:Nat->Prop) (w w':World):Prop where
 os:w'.os=w.os
 tape:w'.tape=w.tape
 output:w'.output=w.output
 size:w.heap.size<=w'.heap.size
 block:∀k,k<w.heap.size->¬F k->w'.heap[k]? = w.heap[k]?
theorem But.refl (F:Nat->Prop)(w:World):But F w w:=⟨rfl,rfl,rfl,Nat.le_refl _,fun _ _ _=>rfl⟩
theorem But.trans {F G:Nat->Prop}{a b c:World}(h:But F a b)(k:But G b c)(hG:∀i,G i->F i\/a.heap.size<=i):But F a c :=
 ⟨k.os.trans h.os,k.tape.trans h.tape,k.output.trans h.output,Nat.le_trans h.size k.size,fun i hi hF =>
  (k.block i (Nat.lt_of_lt_of_le hi h.size) (fun g=>by rcases hG i g with f | f;exact hF f;omega)).trans (h.block i hi hF)⟩
theorem But.of_below {F:Nat->Prop}{w w':World}(h:Below w.heap.size w w'):But F w w':=⟨h.os,h.tape,h.output,h.size,fun k hk _=>h.block k hk⟩
theorem But.next {F:Nat->Prop}{a b c:World}(h:But F a b)(k:Below b.heap.size b c):But F a c:=h.trans (G:=F) (.of_below k) (fun _ f=>.inl f)
theorem But.drew {F:Nat->Prop}{a w:World}(h:But F a w):But F a w.drew:=⟨h.os,h.tape,h.output,h.size,h.block⟩
theorem But.setCell {F:Nat->Prop}{a w:World}(h:But F a w){p:Addr}(hp:F p.block\/a.heap.size<=p.block)(u:Value):But F a (w.setCell p u) :=
 h.trans (G:=fun i=>i=p.block) ⟨rfl,rfl,rfl,by simp [World.setCell],fun k _ hk=>Below.heap_setCell _ _ _ _ hk⟩ (fun i hi=>by subst hi;exact hp)
theorem But.grown {F:Nat->Prop}{a w w':World}{row:Option Nat}(h:But F a w)(hg:w.grownBy w' row)(hr:∀k,row=some k->F k\/a.heap.size<=k):But F a w' :=
 h.trans (G:=fun i=>some i=row) ⟨hg.os,hg.tape,hg.output,hg.size,fun k hk hn=>hg.block k hk hn⟩ (fun i hi=>hr i hi.symm)
theorem But.mono {F G:Nat->Prop}{w w':World}(h:But F w w')(hG:∀k,F k->G k\/w.heap.size<=k):But G w w' :=
 ⟨h.os,h.tape,h.output,h.size,fun k hk hn=>h.block k hk (fun f=>by rcases hG k f with g | g;exact hn g;omega)⟩
theorem But.cell {F:Nat->Prop}{w w':World}(h:But F w w'){p:Addr}(hp:¬F p.block){v:Value}(hv:w.cell? p=some v):w'.cell? p=some v :=
 (World.cell?_of_block (w:=w) (h.block p.block (World.block_lt_of_cell? _ _ hv) hp)).trans hv
abbrev Out (F:Nat->Prop) (p:Option Addr):Prop:=∀x,p=some x->¬F x.block
abbrev Off {α:Type} (F:Nat->Prop) (p:Option Addr) (l:List α):Prop:=l=[]\/Out F p
theorem row_but {F:Nat->Prop}{w w':World}{p:Option Addr}{xs:List Int}(h:Row w p xs)(hb:But F w w')(hp:Off F p xs):Row w' p xs:=by
 rcases h with h | ⟨b,off,rfl,hc⟩
 ·exact .inl h
 ·rcases hp with hp | hp
  ·exact .inl hp
  ·exact .inr ⟨b,off,rfl,fun i hi=>hb.cell (p:=⟨b,off+i,none⟩) (hp ⟨b,off,none⟩ rfl) (hc i hi)⟩
theorem orow_but {F:Nat->Prop}{w w':World}{p:Option Addr}{xs:List Odr}(h:ORow w p xs)(hb:But F w w')(hp:Off F p xs):ORow w' p xs:=by
 rcases h with h | ⟨b,off,rfl,hc⟩
 ·exact .inl h
 ·rcases hp with hp | hp
  ·exact .inl hp
  ·exact .inr ⟨b,off,rfl,fun j hj i v hv=>hb.cell (p:=⟨b,off+j*5+i,none⟩) (hp ⟨b,off,none⟩ rfl) (hc j hj i v hv)⟩
theorem ov_but {F:Nat->Prop}{w w':World}{p:Option Addr}{c:Nat}{xs:List Odr}(h:OV w p c xs)(hb:But F w w')(hp:Off F p xs):OV w' p c xs:=⟨orow_but h.row hb hp,h.nil,h.cap⟩
theorem aok_but {F:Nat->Prop}{w w':World}{a:Am}(h:AOk w a)(hb:But F w w')(hp:Off F a.p a.pos):AOk w' a:=⟨h.len,h.few,h.nil,row_but h.row hb hp⟩
theorem own_but {F:Nat->Prop}{w w':World}{B:Nat}{t:TypeId}{z n:Nat}{v:Value}{xs:List Value}(h:w.ownsRow B t z v n xs)(hb:But F w w')(hp:∀k,v.ownBlock=some k->¬F k):w'.ownsRow B t z v n xs:=by
 refine⟨h.1,?_⟩;rcases h.2 with e | ⟨g,cap,cur,rfl,hB,hg,rest⟩
 ·exact .inl e
 ·exact .inr ⟨g,cap,cur,rfl,hB,(hb.block g (Array.getElem?_eq_some_iff.1 hg).1 (hp g rfl)).trans hg,rest⟩
theorem flat_len {α:Type}{enc:α->List Value}{z:Nat}(hz:∀a,(enc a).length=z):∀(l:List α),(l.flatMap enc).length=l.length*z
 |[]=>by simp
 |a::l=>by
  rw [List.flatMap_cons,List.length_append,hz,flat_len hz l,List.length_cons,Nat.add_mul];omega
theorem flat_get {α:Type}{enc:α->List Value}{z:Nat}(hz:∀a,(enc a).length=z):∀(l:List α)(j:Nat)(h:j<l.length)(i:Nat),i<z->(l.flatMap enc)[j*z+i]? = (enc (l[j]'h))[i]?
 |a::l,0,_,i,hi=>by
  rw [List.flatMap_cons,Nat.zero_mul,Nat.zero_add,List.getElem?_append_left (by rw [hz];exact hi)]
  rfl
 |a::l,j+1,h,i,hi=>by
  rw [List.flatMap_cons,List.getElem?_append_right (by rw [hz,Nat.add_mul];omega),show (j+1)*z+i - (enc a).length=j*z+i by rw [hz,Nat.add_mul];omega]
  exact flat_get hz l j (by simpa using h) i hi
theorem flat_set {α:Type}{enc:α->List Value}{z:Nat}(hz:∀a,(enc a).length=z):∀(l:List α)(j:Nat)(h:j<l.length)(i:Nat)(b:α)(u:Value),i<z->enc b=(enc (l[j]'h)).set i u->(l.flatMap enc).set (j*z+i) u=(l.set j b).flatMap enc
 |a::l,0,_,i,b,u,hi,he=>by
  rw [List.flatMap_cons,Nat.zero_mul,Nat.zero_add,List.set_append,if_pos (by rw [hz];exact hi),List.set_cons_zero,List.flatMap_cons,he]
  rfl
 |a::l,j+1,h,i,b,u,hi,he=>by
  rw [List.flatMap_cons,List.set_append,if_neg (by rw [hz,Nat.add_mul];omega),show (j+1)*z+i - (enc a).length=j*z+i by rw [hz,Nat.add_mul];omega]
  rw [flat_set hz l j (by simpa using h) i b u hi he,List.set_cons_succ,List.flatMap_cons]
theorem flatA_is:∀(l:List Am),flatA l=l.flatMap encA
 |[]=>rfl
 |a::l=>by rw [flatA,List.flatMap_cons,flatA_is l]
theorem encA_len (a:Am):(encA a).length=3:=rfl
theorem mCells_len (m:Mkt):(mCells m).length=4:=rfl
def encE (x:Ev):List Value:=[.int .i64 x.1,.int .i64 x.2.1,.int .i64 x.2.2.1,.int .i64 x.2.2.2.1,.int .i64 x.2.2.2.2.1,.int .i64 x.2.2.2.2.2.1]++encF x.2.2.2.2.2.2
theorem encE_len (x:Ev):(encE x).length=13:=rfl
abbrev flatE (l:List Ev):List Value:=l.flatMap encE
abbrev flatM (l:List Mkt):List Value:=l.flatMap mCells
def mpOf (m:Mkt):Mp:=(mB m,mA m,mI m,mL m)
theorem off_mono {α:Type}{F G:Nat->Prop}{p:Option Addr}{l:List α}(h:Off F p l)(hG:∀b,G b->F b):Off G p l:=h.imp id (fun h x hx g=>h x hx (hG _ g))
theorem off_row {F:Nat->Prop}{w:World}{p:Option Addr}{l:List Int}(h:Row w p l)(hF:Off F p l){g:Nat}(hg:F g\/w.heap.size<=g):Off (fun b=>F b\/b=g) p l:=by
 rcases h with h | ⟨b,off,rfl,hc⟩
 ·exact .inl h
 ·rcases hF with hF | hF
  ·exact .inl hF
  ·cases l with
   |nil=>exact .inl rfl
   |cons x l =>
    refine .inr ?_;rintro y hy (f | f)
    ·exact hF y hy f
    ·cases hy
     have:=World.block_lt_of_cell? w _ (hc 0 (by simp));rcases hg with e | e
     ·exact hF _ rfl (by rw [f];exact e)
     ·simp only at f this;omega
theorem off_orow {F:Nat->Prop}{w:World}{p:Option Addr}{l:List Odr}(h:ORow w p l)(hF:Off F p l){g:Nat}(hg:F g\/w.heap.size<=g):Off (fun b=>F b\/b=g) p l:=by
 rcases h with h | ⟨b,off,rfl,hc⟩
 ·exact .inl h
 ·rcases hF with hF | hF
  ·exact .inl hF
  ·cases l with
   |nil=>exact .inl rfl
   |cons x l =>
    refine .inr ?_;rintro y hy (f | f)
    ·exact hF y hy f
    ·cases hy
     have:=World.block_lt_of_cell? w _ (hc 0 (by simp) 0 (.int .i64 (oid x)) rfl);rcases hg with e | e
     ·exact hF _ rfl (by rw [f];exact e)
     ·simp only at f this;omega
abbrev turnC (va vm ve:Value) (s:Tn):Array Value:=#[va,vm,.int .i64 s.ins,.int .i64 s.res,.int .i64 s.next,.int .i64 s.inn,.int .i64 s.out,ve]
structure TV (w:World) (T:Nat) (F:Nat->Prop) (s:Tn) (A:List Am) (M:List Mkt) (va vm ve:Value):Prop where
 accs:A.map Am.acc=s.accs
 mkts:M.map mpOf=s.mkts
 own:F T
 lt:∀b,F b->b<w.heap.size
 turn:w.heap[T]? = some (.cells (turnC va vm ve s) 117 (0,0))
 rowA:w.ownsRow 0 89 3 va A.length (A.flatMap encA)
 rowM:w.ownsRow 0 96 4 vm M.length (flatM M)
 rowE:w.ownsRow 0 64 13 ve s.evs.length (flatE s.evs)
 fA:∀k,va.ownBlock=some k->F k
 fM:∀k,vm.ownBlock=some k->F k
 fE:∀k,ve.ownBlock=some k->F k
 each:∀a,a∈A->AOk w a/\Off F a.p a.pos
 eachM:∀m,m∈M->OV w m.1.1 m.1.2.1 (mB m)/\OV w m.2.1.1 m.2.1.2.1 (mA m)/\Off F m.1.1 (mB m)/\Off F m.2.1.1 (mA m)
structure Rows (L:Nat->Prop) (A:List Am) (M:List Mkt):Prop where
 a:∀x,x∈A->Off L x.p x.pos
 m:∀x,x∈M->Off L x.1.1 (mB x)/\Off L x.2.1.1 (mA x)
theorem rows_none (A:List Am)(M:List Mkt):Rows (fun _=>False) A M:=⟨fun _ _=>.inr fun _ _=>id,fun _ _=>⟨.inr fun _ _=>id,.inr fun _ _=>id⟩⟩
theorem Rows.setA {L:Nat->Prop}{A:List Am}{M:List Mkt}(h:Rows L A M)(k:Nat){a:Am}(ha:Off L a.p a.pos):Rows L (A.set k a) M :=
 ⟨fun x hx=>by rcases List.mem_or_eq_of_mem_set hx with hx | rfl;exact h.a x hx;exact ha,h.m⟩
theorem Rows.setM {L:Nat->Prop}{A:List Am}{M:List Mkt}(h:Rows L A M)(k:Nat){m:Mkt}(h1:Off L m.1.1 (mB m))(h2:Off L m.2.1.1 (mA m)):Rows L A (M.set k m) :=
 ⟨h.a,fun x hx=>by rcases List.mem_or_eq_of_mem_set hx with hx | rfl;exact h.m x hx;exact⟨h1,h2⟩⟩
def TA (w:World) (T:Nat) (F L:Nat->Prop) (s:Tn):Prop:=∃A M va vm ve,TV w T F s A M va vm ve/\Rows L A M/\∀b,L b->b<w.heap.size
abbrev Newer (w:World) (F G:Nat->Prop):Prop:=∀b,G b->F b\/w.heap.size<=b
theorem TV.below {w w':World}{T:Nat}{F:Nat->Prop}{s:Tn}{A:List Am}{M:List Mkt}{va vm ve:Value}(h:TV w T F s A M va vm ve)(hb:Below w.heap.size w w'):TV w' T F s A M va vm ve:=by
 have hb':But (fun _=>False) w w':=.of_below hb;refine⟨h.accs,h.mkts,h.own,fun b hF=>Nat.lt_of_lt_of_le (h.lt b hF) hb.size,?_,own_but h.rowA hb' (fun _ _=>id),own_but h.rowM hb' (fun _ _=>id),own_but h.rowE hb' (fun _ _=>id),h.fA,h.fM,h.fE,fun a ha=>⟨(h.each a ha).1.below hb,(h.each a ha).2⟩,fun m hm=>?_⟩
 ·rw [hb.block T (h.lt T h.own)];exact h.turn
 ·obtain⟨o1,o2,r⟩:=h.eachM m hm;exact⟨o1.below hb,o2.below hb,r⟩
theorem TV.apart {w w':World}{T:Nat}{F G:Nat->Prop}{s:Tn}{A:List Am}{M:List Mkt}{va vm ve:Value}(h:TV w T F s A M va vm ve)(hb:But G w w')(hG:∀b,G b->¬F b)(hA:∀a,a∈A->Off G a.p a.pos)(hM:∀m,m∈M->Off G m.1.1 (mB m)/\Off G m.2.1.1 (mA m)):TV w' T F s A M va vm ve:=by
 refine⟨h.accs,h.mkts,h.own,fun b hF=>Nat.lt_of_lt_of_le (h.lt b hF) hb.size,?_,own_but h.rowA hb (fun k hk g=>hG k g (h.fA k hk)),own_but h.rowM hb (fun k hk g=>hG k g (h.fM k hk)),own_but h.rowE hb (fun k hk g=>hG k g (h.fE k hk)),h.fA,h.fM,h.fE,fun a ha=>⟨aok_but (h.each a ha).1 hb (hA a ha),(h.each a ha).2⟩,fun m hm=>?_⟩
 ·rw [hb.block T (h.lt T h.own) (fun g=>hG T g h.own)];exact h.turn
 ·obtain⟨o1,o2,r⟩:=h.eachM m hm;exact⟨ov_but o1 hb (hM m hm).1,ov_but o2 hb (hM m hm).2,r⟩
theorem TV.cell {w:World}{T:Nat}{F:Nat->Prop}{s:Tn}{A:List Am}{M:List Mkt}{va vm ve:Value}(h:TV w T F s A M va vm ve)(i:Nat):w.cell? ⟨T,i,none⟩=(turnC va vm ve s)[i]?:=by
 simp [World.cell?,h.turn]
theorem TV.frozen {w:World}{T:Nat}{F:Nat->Prop}{s:Tn}{A:List Am}{M:List Mkt}{va vm ve:Value}(h:TV w T F s A M va vm ve)(i:Nat):w.frozen? ⟨T,i,none⟩=false:=by
 simp [World.frozen?,h.turn]
theorem own_type {w:World}{B:Nat}{t u:TypeId}{z n b:Nat}{v:Value}{xs:List Value}{cs:Array Value}(h:w.ownsRow B t z v n xs)(hb:w.heap[b]? = some (.cells cs u (0,0)))(hne:¬t=u):∀k,v.ownBlock=some k->¬k=b:=by
 intro k hk e;subst e;rcases h.2 with⟨rfl,_⟩ | ⟨g,cap,cur,rfl,hB,hg,rest⟩
 ·simp [Value.ownBlock] at hk
 ·simp [Value.ownBlock] at hk;subst hk;rw [hg] at hb;simp at hb;exact hne hb.2
theorem own_types {w:World}{B C:Nat}{t u:TypeId}{z n y m:Nat}{v v':Value}{xs ys:List Value}(h:w.ownsRow B t z v n xs)(h':w.ownsRow C u y v' m ys)(hne:¬t=u):∀k,v.ownBlock=some k->∀j,v'.ownBlock=some j->¬k=j:=by
 intro k hk j hj;rcases h'.2 with⟨rfl,_⟩ | ⟨g,cap,cur,rfl,hB,hg,rest⟩
 ·simp [Value.ownBlock] at hj
 ·simp [Value.ownBlock] at hj;subst hj;exact own_type h hg hne k hk
abbrev turnP (T:Nat):Value:=.pointer (some ⟨T,0,none⟩)
abbrev evV (x:Ev):Value:=.agg #[.int .i64 x.1,.int .i64 x.2.1,.int .i64 x.2.2.1,.int .i64 x.2.2.2.1,.int .i64 x.2.2.2.2.1,.int .i64 x.2.2.2.2.2.1,.int .i64 x.2.2.2.2.2.2.1,.int .i64 x.2.2.2.2.2.2.2.1,.int .i64 x.2.2.2.2.2.2.2.2.1,.int .i64 x.2.2.2.2.2.2.2.2.2.1,.int .i64 x.2.2.2.2.2.2.2.2.2.2.1,.int .i64 x.2.2.2.2.2.2.2.2.2.2.2.1,.int .i64 x.2.2.2.2.2.2.2.2.2.2.2.2]
theorem row_two (w:World)(x n:Int):Row (w.alloc (.cells #[.int .i64 x,.int .i64 n] 3)) (some ⟨w.heap.size,0,none⟩) [x,n]:=by
 refine .inr ⟨_,_,rfl,fun i hi=>?_⟩;match i,hi with
 |0,_=>exact new_cell w _ _ 0 _ rfl
 |1,_=>exact new_cell w _ _ 1 _ rfl
theorem cell_old {w:World}{a:Addr}{v:Value}(h:w.cell? a=some v)(o:Obj):(w.alloc o).cell? a=some v:=(World.cell?_alloc_lt _ _ _ (World.block_lt_of_cell? w _ h)).trans h
theorem frozen_old {w:World}{a:Addr}{v:Value}(hc:w.cell? a=some v)(h:w.frozen? a=false)(o:Obj):(w.alloc o).frozen? a=false:=by
 have:=World.frozen?_of_block (w:=w) (w':=w.alloc o) (a:=a) (Below.heap_alloc w o _ (World.block_lt_of_cell? w _ hc));rw [this];exact h
theorem grow_ok (a:Addr)(x n:Int)(w:World)(hc:w.cell? a=some (.int .i64 x))(hf:w.frozen? a=false)(he:addE x n=0) :
  Calls Tryz.prog 116 #[.pointer (some a),.int .i64 n] w fun e w'=>e=.returned (.int .i64 0)/\∃o,w'=(w.alloc o).setCell a (.int .i64 (addV x n)):=by
 have AD:=add_any (some ⟨w.heap.size,0,none⟩) 2 2 [x,n] (w.alloc (.cells #[.int .i64 x,.int .i64 n] 3)) rfl (by decide) (row_two w x n);rw [add_is,he] at AD;have c1:=cell_old hc (.cells #[.int .i64 x,.int .i64 n] 3);have c2:=frozen_old hc hf (.cells #[.int .i64 x,.int .i64 n] 3);generalize addV x n=v at AD ⊢;clear he hf;go_enter Tryz.func116,Tryz.ntmps116;go_wp2_with (go_at_call 155;refine AD.mono ?_;rintro e w' ⟨rfl,rfl⟩);go_ret;exact⟨rfl,_,rfl⟩
theorem grow_bad (a:Addr)(x n:Int)(w:World)(hc:w.cell? a=some (.int .i64 x))(he:¬addE x n=0) :
  Calls Tryz.prog 116 #[.pointer (some a),.int .i64 n] w fun e w'=>e=.returned (.int .i64 (addE x n))/\Below w.heap.size w w':=by
 have AD:=add_any (some ⟨w.heap.size,0,none⟩) 2 2 [x,n] (w.alloc (.cells #[.int .i64 x,.int .i64 n] 3)) rfl (by decide) (row_two w x n);rw [add_is] at AD;have B:=hide ((Below.refl w.heap.size w).alloc (Nat.le_refl _) (.cells #[.int .i64 x,.int .i64 n] 3));have c1:=cell_old hc (.cells #[.int .i64 x,.int .i64 n] 3);generalize addV x n=v at AD;generalize addE x n=r at AD he ⊢;go_enter Tryz.func116,Tryz.ntmps116;go_wp2_with (go_at_call 155;refine AD.mono ?_;rintro e w' ⟨rfl,rfl⟩);go_ret;exact⟨rfl,B.out⟩
theorem heap_set {w:World}{g:Nat}{cs:Array Value}{t:TypeId}(h:w.heap[g]? = some (.cells cs t (0,0)))(j:Nat)(v:Value):(w.setCell ⟨g,j,none⟩ v).heap[g]? = some (.cells (cs.setIfInBounds j v) t (0,0)):=by
 simp [World.setCell,Array.getElem?_modify,h]
theorem but_one (w:World)(a:Addr)(v:Value):But (fun b=>b=a.block) w (w.setCell a v):=(But.refl (fun b=>b=a.block) w).setCell (p:=a) (.inl rfl) v
theorem TV.own_set {w w':World}{T:Nat}{F:Nat->Prop}{s s':Tn}{A:List Am}{M:List Mkt}{va vm ve:Value}(h:TV w T F s A M va vm ve)(hb:But (fun b=>b=T) w w')(ht:w'.heap[T]? = some (.cells (turnC va vm ve s') 117 (0,0)))(e1:s'.accs=s.accs)(e2:s'.mkts=s.mkts)(e3:s'.evs=s.evs):TV w' T F s' A M va vm ve:=by
 have nA:=own_type h.rowA h.turn (by decide);have nM:=own_type h.rowM h.turn (by decide);have nE:=own_type h.rowE h.turn (by decide);refine⟨by rw [e1];exact h.accs,by rw [e2];exact h.mkts,h.own,fun b hF=>Nat.lt_of_lt_of_le (h.lt b hF) hb.size,ht,own_but h.rowA hb nA,own_but h.rowM hb nM,by rw [e3];exact own_but h.rowE hb nE,h.fA,h.fM,h.fE,fun a ha=>⟨aok_but (h.each a ha).1 hb (off_mono (h.each a ha).2 (fun b e=>by rw [e];exact h.own)),(h.each a ha).2⟩,fun m hm=>?_⟩;obtain⟨o1,o2,r1,r2⟩:=h.eachM m hm;exact⟨ov_but o1 hb (off_mono r1 (fun b e=>by rw [e];exact h.own)),ov_but o2 hb (off_mono r2 (fun b e=>by rw [e];exact h.own)),r1,r2⟩
theorem TV.setIns {w:World}{T:Nat}{F:Nat->Prop}{s:Tn}{A:List Am}{M:List Mkt}{va vm ve:Value}(h:TV w T F s A M va vm ve)(n:Int):TV (w.setCell ⟨T,2,none⟩ (.int .i64 n)) T F { s with ins:=n } A M va vm ve:=h.own_set (but_one w ⟨T,2,none⟩ _) (heap_set h.turn 2 _) rfl rfl rfl
theorem TV.setRes {w:World}{T:Nat}{F:Nat->Prop}{s:Tn}{A:List Am}{M:List Mkt}{va vm ve:Value}(h:TV w T F s A M va vm ve)(n:Int):TV (w.setCell ⟨T,3,none⟩ (.int .i64 n)) T F { s with res:=n } A M va vm ve:=h.own_set (but_one w ⟨T,3,none⟩ _) (heap_set h.turn 3 _) rfl rfl rfl
theorem TV.setNext {w:World}{T:Nat}{F:Nat->Prop}{s:Tn}{A:List Am}{M:List Mkt}{va vm ve:Value}(h:TV w T F s A M va vm ve)(n:Int):TV (w.setCell ⟨T,4,none⟩ (.int .i64 n)) T F { s with next:=n } A M va vm ve:=h.own_set (but_one w ⟨T,4,none⟩ _) (heap_set h.turn 4 _) rfl rfl rfl
theorem TV.setInn {w:World}{T:Nat}{F:Nat->Prop}{s:Tn}{A:List Am}{M:List Mkt}{va vm ve:Value}(h:TV w T F s A M va vm ve)(n:Int):TV (w.setCell ⟨T,5,none⟩ (.int .i64 n)) T F { s with inn:=n } A M va vm ve:=h.own_set (but_one w ⟨T,5,none⟩ _) (heap_set h.turn 5 _) rfl rfl rfl
theorem TV.setOut {w:World}{T:Nat}{F:Nat->Prop}{s:Tn}{A:List Am}{M:List Mkt}{va vm ve:Value}(h:TV w T F s A M va vm ve)(n:Int):TV (w.setCell ⟨T,6,none⟩ (.int .i64 n)) T F { s with out:=n } A M va vm ve:=h.own_set (but_one w ⟨T,6,none⟩ _) (heap_set h.turn 6 _) rfl rfl rfl
theorem TV.told {w W1 W2:World}{T:Nat}{F:Nat->Prop}{s:Tn}{A:List Am}{M:List Mkt}{va vm ve:Value}(h:TV w T F s A M va vm ve)(ev:Ev)(hB:Below w.heap.size w W1){g cap:Nat}
  (ho:W2.ownsRow 0 64 13 (.slice (some ⟨g,0,none⟩) (s.evs.length+1) cap) (s.evs.length+1) (flatE s.evs++encE ev)) (hgr:W1.grownBy W2 ve.ownBlock) (hat:ve.ownBlock=some g\/w.heap.size<=g) (hlt:g<W2.heap.size) :
  TV (W2.setCell ⟨T,7,none⟩ (.slice (some ⟨g,0,none⟩) (s.evs.length+1) cap)) T (fun b=>F b\/b=g) (s.tell ev) A M va vm (.slice (some ⟨g,0,none⟩) (s.evs.length+1) cap)/\But F w (W2.setCell ⟨T,7,none⟩ (.slice (some ⟨g,0,none⟩) (s.evs.length+1) cap)):=by
 have hT:=h.lt T h.own;have nA:=own_type h.rowA h.turn (by decide);have nM:=own_type h.rowM h.turn (by decide);have nE:=own_type h.rowE h.turn (by decide);have nAE:=own_types h.rowA h.rowE (by decide);have nME:=own_types h.rowM h.rowE (by decide);have b1:But (fun b=>some b=ve.ownBlock) w W2:=(But.of_below hB).grown hgr (fun k hk=>.inl hk.symm);have b2:But (fun b=>some b=ve.ownBlock\/b=T) w (W2.setCell ⟨T,7,none⟩ (.slice (some ⟨g,0,none⟩) (s.evs.length+1) cap)):=(b1.mono (fun k hk=>.inl (.inl hk))).setCell (.inl (.inr rfl)) _;have t2:W2.heap[T]? = some (.cells (turnC va vm ve s) 117 (0,0)):=by
  rw [b1.block T hT (fun e=>nE T e.symm rfl)];exact h.turn
 have hgT:¬g=T:=own_type ho t2 (by decide) g rfl;have hsub:∀b,some b=ve.ownBlock\/b=T->F b:=by
  rintro b (hb | rfl)
  ·exact h.fE b hb.symm
  ·exact h.own
 have hg:F g\/w.heap.size<=g:=hat.imp (h.fE g) id;refine⟨⟨h.accs,h.mkts,.inl h.own,fun b hF=>?_,?_,own_but h.rowA b2 ?_,own_but h.rowM b2 ?_,?_,fun k hk=>.inl (h.fA k hk),fun k hk=>.inl (h.fM k hk),fun k hk=>.inr (by simpa [Value.ownBlock] using hk.symm),fun a ha=>⟨aok_but (h.each a ha).1 b2 (off_mono (h.each a ha).2 hsub),off_row (h.each a ha).1.row (h.each a ha).2 hg⟩,fun m hm=>?_⟩,b2.mono (fun k hk=>.inl (hsub k hk))⟩
 ·rcases hF with f | f
  ·exact Nat.lt_of_lt_of_le (h.lt b f) b2.size
  ·rw [f];simpa [World.setCell] using hlt
 ·exact heap_set t2 7 _
 ·rintro k hk (e | e)
  ·exact nAE k hk k e.symm rfl
  ·exact nA k hk e
 ·rintro k hk (e | e)
  ·exact nME k hk k e.symm rfl
  ·exact nM k hk e
 ·have e1:(s.tell ev).evs.length=s.evs.length+1:=by simp [Tn.tell]
  have e2:flatE (s.tell ev).evs=flatE s.evs++encE ev:=by simp [Tn.tell,flatE]
  rw [e1,e2];exact own_but ho (but_one W2 ⟨T,7,none⟩ _) (fun k hk=>by simp [Value.ownBlock] at hk;subst hk;exact hgT)
 ·obtain⟨o1,o2,r1,r2⟩:=h.eachM m hm;exact⟨ov_but o1 b2 (off_mono r1 hsub),ov_but o2 b2 (off_mono r2 hsub),off_orow o1.row r1 hg,off_orow o2.row r2 hg⟩
abbrev noEv:Ev:=(0,0,0,0,0,0,noFil)
theorem encE_one (x:Ev):∀u∈encE x,u.oneCell'=true:=by
 intro u hu;simp [encE,encF] at hu;rcases hu with rfl | rfl | rfl | rfl | rfl | rfl | rfl | rfl | rfl | rfl | rfl | rfl | rfl<;>rfl
def Stepped (w:World) (T:Nat) (F L:Nat->Prop) (s:Tn) (w':World):Prop:=∃G,TA w' T G L s/\Newer w F G/\But F w w'
abbrev Told (w:World) (T:Nat) (F:Nat->Prop) (s:Tn) (A:List Am) (M:List Mkt) (va vm:Value) (ev:Ev) (e:Ending) (w':World):Prop :=
 e=.returned (.tuple #[])/\∃g cap,TV w' T (fun b=>F b\/b=g) (s.tell ev) A M va vm (.slice (some ⟨g,0,none⟩) (s.evs.length+1) cap)/\(F g\/w.heap.size<=g)/\But F w w'
theorem cell_set_far (w:World)(a b:Addr){v:Value}(h:¬b.block=a.block):(w.setCell a v).cell? b=w.cell? b:=World.cell?_of_block (Below.heap_setCell w a v b.block h)
theorem tell_any (T:Nat)(F:Nat->Prop)(s:Tn)(A:List Am)(M:List Mkt)(va vm ve:Value)(ev:Ev)(w:World)(h:TV w T F s A M va vm ve)(hE:s.evs.length<=1000000) :
  Calls Tryz.prog 121 #[turnP T,evV ev] w (Told w T F s A M va vm ev):=by
 have mixed:Tryz.prog.follows .mixedOrders=true:=by kernel_rfl
 obtain⟨i0,hi,hz0,hz1,hz2⟩:=info_parts (show (Tryz.prog.info? 64).map (fun i=>(i.zero,i.size,i.bytes))=some (some (evV noEv),13,104) by kernel_rfl);obtain⟨x1,x2,x3,x4,x5,x6,y1,y2,y3,y4,y5,y6,y7⟩:=ev;have hT:=h.lt T h.own;have c7:w.cell? ⟨T,7,none⟩=some ve:=by rw [h.cell];rfl
 have f7:w.frozen? ⟨T,7,none⟩=false:=h.frozen 7;have H:=hide h;have HE:=hide hE;obtain⟨n,hn⟩:∃n,n=s.evs.length:=⟨_,rfl⟩;have RE:Hid (w.ownsRow 0 64 13 ve n (flatE s.evs)):=by rw [hn];exact h.rowE
 have NE:Hid (¬ve.ownBlock=some T):=fun e=>own_type h.rowE h.turn (by decide) T e rfl;clear h hE;go_enter Tryz.func121,Tryz.ntmps121;go_wp2_with fail;have HT:=hide hT;have HN:=hide hn;have e1:∀i v,[Value.int .i64 x1,.int .i64 x2,.int .i64 x3,.int .i64 x4,.int .i64 x5,.int .i64 x6,.int .i64 y1,.int .i64 y2,.int .i64 y3,.int .i64 y4,.int .i64 y5,.int .i64 y6,.int .i64 y7][i]? = some v->_:=fun i v hv=>new_cell w #[.int .i64 x1,.int .i64 x2,.int .i64 x3,.int .i64 x4,.int .i64 x5,.int .i64 x6,.int .i64 y1,.int .i64 y2,.int .i64 y3,.int .i64 y4,.int .i64 y5,.int .i64 y6,.int .i64 y7] 64 i v (by simpa using hv);obtain⟨W,hW⟩:∃W,W=w.alloc (.cells #[.int .i64 x1,.int .i64 x2,.int .i64 x3,.int .i64 x4,.int .i64 x5,.int .i64 x6,.int .i64 y1,.int .i64 y2,.int .i64 y3,.int .i64 y4,.int .i64 y5,.int .i64 y6,.int .i64 y7] 64):=⟨_,rfl⟩;rw [<- hW] at e1 ⊢;have c7':W.cell? ⟨T,7,none⟩=some ve:=by rw [hW];exact cell_old c7 _
 have f7':W.frozen? ⟨T,7,none⟩=false:=by rw [hW];exact frozen_old c7 f7 _
 have REW:Hid (W.ownsRow 0 64 13 ve n (flatE s.evs)):=by rw [hW];exact RE.out.alloc _
 have BW:Hid (Below w.heap.size w W):=by rw [hW];exact(Below.refl _ w).alloc (Nat.le_refl _) _
 have b0:=e1 0 (.int .i64 x1) rfl;have b1:=e1 1 (.int .i64 x2) rfl;have b2:=e1 2 (.int .i64 x3) rfl;have b3:=e1 3 (.int .i64 x4) rfl;have b4:=e1 4 (.int .i64 x5) rfl;have b5:=e1 5 (.int .i64 x6) rfl;have b6:=e1 6 (.int .i64 y1) rfl;have b7:=e1 7 (.int .i64 y2) rfl;have b8:=e1 8 (.int .i64 y3) rfl;have b9:=e1 9 (.int .i64 y4) rfl;have b10:=e1 10 (.int .i64 y5) rfl;have b11:=e1 11 (.int .i64 y6) rfl;have b12:=e1 12 (.int .i64 y7) rfl;have hB:w.heap.size<W.heap.size:=by rw [hW];simp
 have hTW:T<W.heap.size:=by omega
 clear e1 hW hn hT c7 f7 RE;generalize hwB:w.heap.size=B at *;have HS:=hide hwB;clear hwB;have hTB:¬T=B:=by have:=HT.out;omega
 have NB:Hid (¬ve.ownBlock=some B):=fun e=>by
  have:=(H.out.rowE.lt B e).2;have:=HS.out;omega
 obtain⟨X,hX⟩:∃X,X=(W.alloc (.cells #[.int .i64 x1,.int .i64 x2,.int .i64 x3,.int .i64 x4,.int .i64 x5,.int .i64 x6,.int .i64 y1,.int .i64 y2,.int .i64 y3,.int .i64 y4,.int .i64 y5,.int .i64 y6,.int .i64 y7] 64)).drew:=⟨_,rfl⟩;have REX:Hid (X.ownsRow 0 64 13 ve n (flatE s.evs)):=by rw [hX];exact(REW.out.alloc _).drew
 have NEWS:Hid (∀j u,(encE (x1,x2,x3,x4,x5,x6,y1,y2,y3,y4,y5,y6,y7))[j]? = some u->X.cell? ((⟨W.heap.size,0,none⟩:Addr).add j)=some u):=by
  rw [hX];exact World.news_of_block (cs:=#[.int .i64 x1,.int .i64 x2,.int .i64 x3,.int .i64 x4,.int .i64 x5,.int .i64 x6,.int .i64 y1,.int .i64 y2,.int .i64 y3,.int .i64 y4,.int .i64 y5,.int .i64 y6,.int .i64 y7]) (heap_alloc_new W _)
 have XH:X.heap.size=W.heap.size+1:=by rw [hX];simp
 have h63:n+1<=maxLen:=by have:=HE.out;have:=HN.out;unfold maxLen;omega
 have hby:(n+1)*104<=140737488355328:=by have:=HE.out;have:=HN.out;omega
 have CX:Hid (∀a v,W.cell? a=some v->X.cell? a=some v):=fun a v h=>by rw [hX];exact cell_old h _
 have FX:Hid (X.frozen? ⟨T,7,none⟩=false):=by rw [hX];exact frozen_old c7' f7' _
 have HX:=hide hX;clear hX;go_region_law ((rw [<- HX.out];refine step_append_lies _ (by rfl) (.tmp 8) (.tmp 10) 59 (by rfl) 0 64 i0 (evV noEv) 13 104 Tryz.underlying59 hi hz0 hz1 hz2 (by rfl) (by decide) ve n (flatE s.evs) (by rfl) REX.out ⟨W.heap.size,0,none⟩ 1 1 (encE (x1,x2,x3,x4,x5,x6,y1,y2,y3,y4,y5,y6,y7)) (by rfl) (by rfl) NEWS.out (encE_one _) (by decide) h63 hby (Nat.zero_le _) (W.heap.size+1) XH ?_;intro g cap w1 hown hgrow hat hlt;have f1:=(hgrow.frozen_far ⟨T,7,none⟩ (by simp;omega) (by simp;intro e;exact NE.out e.symm)).trans FX.out;have z1:=(hgrow.cell_far ⟨T,7,none⟩ (by simp;omega) (by simp;intro e;exact NE.out e.symm)).trans (CX.out _ _ c7')));all_goals go_wp2
 all_goals go_end0
 all_goals
  have hBX:Below w.heap.size w X:=by
   rw [HS.out,HX.out];exact(BW.out.alloc (by omega) _).drew
  rw [HN.out] at hown ⊢;have TL:=H.out.told (x1,x2,x3,x4,x5,x6,y1,y2,y3,y4,y5,y6,y7) hBX hown hgrow (hat.imp id (fun e=>by have:=HS.out;omega)) hlt;exact⟨rfl,g,cap,TL.1,hat.imp (H.out.fE g) (fun e=>by have:=HS.out;omega),TL.2⟩
theorem moved_any (T:Nat)(F:Nat->Prop)(s:Tn)(A:List Am)(M:List Mkt)(va vm ve:Value)(id n:Int)(w:World)(h:TV w T F s A M va vm ve)(hE:s.evs.length<=1000000) :
  Calls Tryz.prog 131 #[turnP T,.int .i64 id,.int .i64 n] w (Told w T F s A M va vm (evMoved id n)):=by
 have TL:=hide (tell_any T F s A M va vm ve (evMoved id n) w h hE);clear h hE;go_enter Tryz.func131,Tryz.ntmps131;go_wp2_with fail;refine TL.out.mono ?_;rintro e w' ⟨rfl,H⟩;have HH:=hide H;clear H;go_wp2;go_end0;exact⟨rfl,HH.out⟩
theorem gone_any (T:Nat)(F:Nat->Prop)(s:Tn)(A:List Am)(M:List Mkt)(va vm ve:Value)(mk n:Int)(o:Odr)(w:World)(h:TV w T F s A M va vm ve)(hE:s.evs.length<=1000000) :
  Calls Tryz.prog 125 #[turnP T,.int .i64 mk,odrV o,.int .i64 n] w (Told w T F s A M va vm (evGone mk (oid o) (oac o) n)):=by
 obtain⟨a,ac,sd,pr,q⟩:=o;have b1:=(Below.refl w.heap.size w).alloc (Nat.le_refl _) (.cells #[.int .i64 a,.int .i64 ac,.int .i64 sd,.int .i64 pr,.int .i64 q] 26);have TL:=hide (tell_any T F s A M va vm ve (evGone mk a ac n) _ (h.below b1) hE);have B1:=hide b1;clear h hE b1;go_enter Tryz.func125,Tryz.ntmps125;go_wp2_with fail;refine TL.out.mono ?_;rintro e w' ⟨rfl,g,cap,t1,t2,t3⟩;have HH:Hid (∃g cap,TV w' T (fun b=>F b\/b=g) (s.tell (evGone mk a ac n)) A M va vm (.slice (some ⟨g,0,none⟩) (s.evs.length+1) cap)/\(F g\/w.heap.size<=g)/\But F w w'):=⟨g,cap,t1,t2.imp id (Nat.le_trans B1.out.size),(But.of_below B1.out).trans t3 (fun _ f=>.inl f)⟩;clear t1 t2 t3;go_wp2;go_end0;exact⟨rfl,HH.out⟩
theorem hasMarket_any (T:Nat)(F:Nat->Prop)(s:Tn)(A:List Am)(M:List Mkt)(va vm ve:Value)(mk:Int)(w:World)(h:TV w T F s A M va vm ve) :
  Calls Tryz.prog 128 #[turnP T,.int .i64 mk] w fun e w'=>e=.returned (.bool (hasM s mk))/\w'=w:=by
 have c1:w.cell? ⟨T,1,none⟩=some vm:=by rw [h.cell];rfl
 have hl:M.length=s.mkts.length:=by rw [<- h.mkts];simp
 obtain⟨p,c,rfl⟩:∃p c,vm=.slice p M.length c:=by
  rcases h.rowM.2 with⟨rfl,e⟩ | ⟨g,cap,cur,rfl,-⟩
  ·exact⟨_,_,by rw [e]⟩
  ·exact⟨_,_,rfl⟩
 unfold hasM;rw [<- hl];generalize M.length=n at *;clear h hl;by_cases h1:0<=mk
 ·by_cases h2:mk<n
  ·rw [show decide (0<=mk/\mk<n)=true by simp [h1,h2]];go_enter Tryz.func128,Tryz.ntmps128;go_wp2;go_ret;exact⟨rfl,rfl⟩
  ·rw [show decide (0<=mk/\mk<n)=false by simp [h2]];go_enter Tryz.func128,Tryz.ntmps128;go_wp2;go_ret;exact⟨rfl,rfl⟩
 ·rw [show decide (0<=mk/\mk<n)=false by simp [h1]];have h1':mk<0:=by omega
  go_enter Tryz.func128,Tryz.ntmps128;go_wp2;go_ret;exact⟨rfl,rfl⟩
abbrev cmV (c:Cm):Value:=.agg #[.int .i64 c.kind,.int .i64 c.ac,.int .i64 c.mkt,.int .i64 c.n,.int .i64 c.o.1,.int .i64 c.o.2.1,.int .i64 c.o.2.2.1,.int .i64 c.o.2.2.2.1,.int .i64 c.o.2.2.2.2,.int .i64 c.how,.bool c.red]
theorem checkPayment_any (c:Cm)(w:World) :
  Calls Tryz.prog 115 #[cmV c] w fun e w'=>e=.returned (.int .i64 (payE c.ac c.n))/\Below w.heap.size w w':=by
 obtain⟨kind,ac,mkt,n,⟨o1,o2,o3,o4,o5⟩,how,red⟩:=c;have B:=hide ((Below.refl w.heap.size w).alloc (Nat.le_refl _) (.cells #[.int .i64 kind,.int .i64 ac,.int .i64 mkt,.int .i64 n,.int .i64 o1,.int .i64 o2,.int .i64 o3,.int .i64 o4,.int .i64 o5,.int .i64 how,.bool red] 28));unfold payE;dsimp only;by_cases h1:n<1
 ·rw [if_pos (.inl h1)];go_enter Tryz.func115,Tryz.ntmps115;go_wp2;go_ret;exact⟨rfl,B.out⟩
 by_cases h2:1000000000000<n
 ·rw [if_pos (.inr h2)];go_enter Tryz.func115,Tryz.ntmps115;go_wp2;go_ret;exact⟨rfl,B.out⟩
 rw [if_neg (by omega)];by_cases h3:ac<0
 ·rw [if_pos (.inl h3)];go_enter Tryz.func115,Tryz.ntmps115;go_wp2;go_ret;exact⟨rfl,B.out⟩
 by_cases h4:8<=ac
 ·rw [if_pos (.inr h4)];go_enter Tryz.func115,Tryz.ntmps115;go_wp2;go_ret;exact⟨rfl,B.out⟩
 rw [if_neg (by omega)];go_enter Tryz.func115,Tryz.ntmps115;go_wp2;go_ret;exact⟨rfl,B.out⟩
theorem noFee_any (q p:Int)(w:World):Calls Tryz.prog 210 #[.int .i64 q,.int .i64 p] w fun e w'=>e=.returned (.tuple #[.int .i64 0,.int .i64 0])/\w'=w:=by
 go_enter Tryz.func210,Tryz.ntmps210;go_wp2;refine bodyPost_ret (v:=.tuple #[.int .i64 0,.int .i64 0]) (by simp [results,Tryz.results210,go_sem]) rfl ?_;exact⟨rfl,rfl⟩
open Go.Sort Go.Maps Mix
instance:Inhabited Am:=⟨⟨0,0,none,0,0,[]⟩⟩
def ARow (w:World) (p:Option Addr) (A:List Am):Prop:=A=[]\/∃b off,p=some ⟨b,off,none⟩/\∀j u,(A.flatMap encA)[j]? = some u->w.cell? ⟨b,off+j,none⟩=some u
theorem arow_below {w w':World}{p:Option Addr}{A:List Am}(h:ARow w p A)(hb:Below w.heap.size w w'):ARow w' p A:=by
 rcases h with h | ⟨b,off,rfl,hc⟩
 ·exact .inl h
 ·exact .inr ⟨b,off,rfl,fun j u hu=>(hb.cell (World.block_lt_of_cell? _ _ (hc j u hu))).trans (hc j u hu)⟩
theorem arow_cells {w:World}{b off:Nat}{A:List Am}(hc:∀j u,(A.flatMap encA)[j]? = some u->w.cell? ⟨b,off+j,none⟩=some u){k:Nat}(hk:k<A.length) :
  w.cell? ⟨b,off+k*3,none⟩=some (.int .i64 (A[k]'hk).id)/\w.cell? ⟨b,off+k*3+1,none⟩=some (.int .i64 (A[k]'hk).bal)/\w.cell? ⟨b,off+k*3+2,none⟩=some (.slice (A[k]'hk).p (A[k]'hk).n (A[k]'hk).c):=by
 have h0:=flat_get encA_len A k hk 0 (by omega);have h1:=flat_get encA_len A k hk 1 (by omega);have h2:=flat_get encA_len A k hk 2 (by omega);exact⟨hc (k*3) _ h0,hc (k*3+1) _ h1,hc (k*3+2) _ h2⟩
theorem own_arow {w:World}{B:Nat}{v:Value}{A:List Am}(h:w.ownsRow B 89 3 v A.length (A.flatMap encA)):∃p c,v=.slice p A.length c/\ARow w p A/\A.length<=c/\(p=none->c=0)/\A.length<=maxLen:=by
 have h':=h;rcases h.2 with⟨rfl,e⟩ | ⟨g,cap,cur,rfl,hb,hg,hn,hm,hs,ht⟩
 ·exact⟨none,0,by rw [e],.inl (List.eq_nil_of_length_eq_zero e),by omega,fun _=>rfl,by omega⟩
 ·refine⟨_,_,rfl,.inr ⟨g,0,rfl,fun j u hu=>?_⟩,hn,(fun e=>by cases e),by omega⟩;have hj:j<A.length*3:=by
   have:=(List.getElem?_eq_some_iff.1 hu).1;rw [flat_len encA_len] at this;exact this
  rw [Nat.zero_add,h'.cellAt j hj];exact hu
theorem place1_any (b off n c B0 B1 i:Nat)(A:List Am)(id:Int)(w:World)(hi:i<n)(hn:A.length=n)
  (hc:∀j u,(A.flatMap encA)[j]? = some u->w.cell? ⟨b,off+j,none⟩=some u) (h0:w.cell? ⟨B0,0,none⟩=some (.slice (some ⟨b,off,none⟩) n c)) (k0:w.cell? ⟨B1,0,none⟩=some (.int .i64 id)) :
  Calls Tryz.prog 114 #[.int .i64 i,.pointer (some ⟨B0,0,none⟩),.pointer (some ⟨B1,0,none⟩)] w fun e w'=>e=.returned (.bool (decide (id<=(A[i]!).id)))/\∃k os,w'=grow (w.drewN k) os:=by
 have mixed:Tryz.prog.follows .mixedOrders=true:=by kernel_rfl
 subst hn;obtain⟨c0,-,-⟩:=arow_cells hc hi;rw [getElem!_pos A i hi];generalize (A[i]'hi).id=x at c0 ⊢;have g0:=fun n os=>cell_grown (World.block_lt_of_cell? _ _ h0) h0 n os;have l0:=fun n os=>cell_grown (World.block_lt_of_cell? _ _ k0) k0 n os;have m0:=fun n os=>cell_grown (World.block_lt_of_cell? _ _ c0) c0 n os;have hiz:(i:Int)<(A.length:Int):=by omega
 generalize A.length=n at *;clear hc h0 k0 c0;go_enter Tryz.func114,Tryz.ntmps114;go_wp2_with fail;refine wp_region_quiet_grown (by assumption) (by kernel_rfl) ?_;repeat (go_big_quiet_step (fail))
 refine wpQuiet_nil ?_;intro _ hwq;obtain⟨⟨nq,osq⟩,hwq'⟩:=hwq;subst hwq';go_wp2;go_ret;exact⟨rfl,_,_,rfl⟩
theorem plc_count (L:List Acc)(id:Int)(hs:Srt L):L.countP (fun a=>decide (a.1<id))=plc L id:=by
 induction L with
 |nil=>rfl
 |cons a l ih =>
  have hs':=List.pairwise_cons.1 hs;rw [List.countP_cons,ih hs'.2];by_cases g:a.1<id
  ·rw [plc,if_pos g];simp [g]
  ·rw [plc,if_neg g]
   have:plc l id=0:=by
    cases l with
    |nil=>rfl
    |cons b l =>
     have:=hs'.1 b (by simp);rw [plc,if_neg (by omega)]
   rw [this];simp [g]
theorem search_acc (b off c B0 B1:Nat)(A:List Am)(id:Int)(w:World)(hn:A.length<=140737488351232)(hs:Srt (A.map Am.acc))
  (hc:∀j u,(A.flatMap encA)[j]? = some u->w.cell? ⟨b,off+j,none⟩=some u) (h0:w.cell? ⟨B0,0,none⟩=some (.slice (some ⟨b,off,none⟩) A.length c)) (k0:w.cell? ⟨B1,0,none⟩=some (.int .i64 id)) :
  Calls Tryz.prog 113 #[.int .i64 A.length,.func (.func 114) #[] #[.pointer (some ⟨B0,0,none⟩),.pointer (some ⟨B1,0,none⟩)]] w fun e w'=>e=.returned (.int .i64 (plc (A.map Am.acc) id:Nat))/\Below w.heap.size w w':=by
 have eg:∀args w,(callFunc 114 args).run Tryz.prog w=.ok (.enter 114 args) w:=enters_of Tryz.func114 (by kernel_rfl) rfl
 have hcon:=Any.sort_Search Tryz.searchB 114 #[.pointer (some ⟨B0,0,none⟩),.pointer (some ⟨B1,0,none⟩)] A.length (fun i=>decide (id<=(A[i]!).id)) w eg (by omega)
  (fun m os i hi=>place1_any b off A.length c B0 B1 i A id (grow (w.drewN m) os) hi rfl
   (fun j u hu=>cell_grown (World.block_lt_of_cell? _ _ (hc j u hu)) (hc j u hu) m os)
   (cell_grown (World.block_lt_of_cell? _ _ h0) h0 m os) (cell_grown (World.block_lt_of_cell? _ _ k0) k0 m os))
  (fun i j hij hj hp=>by
   simp only [decide_eq_true_eq] at hp ⊢
   have hi:i<A.length:=by omega
   rw [getElem!_pos A i hi] at hp;rw [getElem!_pos A j hj]
   rcases Nat.lt_or_ge i j with h | h
   ·have:=List.pairwise_iff_getElem.1 hs i j (by simpa using hi) (by simpa using hj) h
    simp [Am.acc] at this
    omega
   ·have:i=j:=by omega
    subst this;exact hp)
 have hcount:(List.range A.length).countP (fun i=>!decide (id<=(A[i]!).id))=plc (A.map Am.acc) id:=by
  rw [<- plc_count _ _ hs,List.countP_map];have:=Go.Lib.countP_range A.toArray (fun a=>decide (a.id<id));simp only [List.size_toArray] at this;rw [show ((fun a:Acc=>decide (a.1<id)) ∘ Am.acc)=(fun a:Am=>decide (a.id<id)) from rfl,<- this];refine List.countP_congr fun i hi=>?_;simp only [List.mem_range] at hi;rw [getElem!_pos A i hi,getElem!_pos A.toArray i (by simpa using hi)];simp
 rw [hcount] at hcon;refine hcon.mono ?_;rintro e w' ⟨rfl,q1,os1,rfl⟩;exact⟨rfl,grow_below _ _ _⟩
theorem plc_there (L:List Acc)(id:Int)(hs:Srt L):hasA L id=true↔∃h:plc L id<L.length,(L[plc L id]'h).1=id:=by
 constructor
 ·exact plc_has hs
 ·rintro ⟨h,e⟩;exact(has_iff _ _).2 ⟨_,List.getElem_mem h,e⟩
theorem placeOf_any (p:Option Addr)(n c:Nat)(A:List Am)(id:Int)(w:World)(hl:A.length=n)(hn:n<=140737488351232)(h:ARow w p A)(hs:Srt (A.map Am.acc)) :
  Calls Tryz.prog 85 #[.slice p n c,.int .i64 id] w fun e w'=>e=.returned (.tuple #[.int .i64 (plc (A.map Am.acc) id:Nat),.bool (hasA (A.map Am.acc) id)])/\Below w.heap.size w w':=by
 have mixed:Tryz.prog.follows .mixedOrders=true:=by kernel_rfl
 subst hl;have b2:=((Below.refl w.heap.size w).alloc (Nat.le_refl _) (.cells #[.slice p A.length c] 48)).alloc (by simp) (.cells #[.int .i64 id] 3);obtain⟨W,hW⟩:∃W,W=(w.alloc (.cells #[.slice p A.length c] 48)).alloc (.cells #[.int .i64 id] 3):=⟨_,rfl⟩;have e0:W.cell? ⟨w.heap.size,0,none⟩=some (.slice p A.length c):=by rw [hW];exact cell_old (new_cell w _ _ 0 _ rfl) _
 have e1:W.cell? ⟨w.heap.size+1,0,none⟩=some (.int .i64 id):=by
  rw [hW];have:=new_cell (w.alloc (.cells #[.slice p A.length c] 48)) #[.int .i64 id] 3 0 _ rfl;rw [show (w.alloc (.cells #[.slice p A.length c] 48)).heap.size=w.heap.size+1 by simp] at this;exact this
 rw [<- hW] at b2;have hW0:W.heap.size=w.heap.size+1+1:=by rw [hW];simp
 have SE:Hid (Calls Tryz.prog 113 #[.int .i64 A.length,.func (.func 114) #[] #[.pointer (some ⟨w.heap.size,0,none⟩),.pointer (some ⟨w.heap.size+1,0,none⟩)]] W fun e w'=>e=.returned (.int .i64 (plc (A.map Am.acc) id:Nat))/\Below W.heap.size W w'):=by
  rcases arow_below h b2 with e | ⟨b,off,rfl,hc⟩
  ·subst e;exact search_none _ W
  ·exact search_acc b off c w.heap.size (w.heap.size+1) A id W hn hs hc e0 e1
 have HR:=hide (arow_below h b2);have B2:=hide b2;obtain⟨k,hk⟩:∃k,k=plc (A.map Am.acc) id:=⟨_,rfl⟩;have HT0:Hid (∀t,hasA (A.map Am.acc) id=t->(k<A.length/\∃x,(∃h:k<A.length,x=(A[k]'h).id)/\t=(x == id))\/(¬k<A.length/\t=false)):=by
  intro t ht;subst ht;have hth:=plc_there (A.map Am.acc) id hs;rw [<- hk] at hth;by_cases hlt:k<A.length
  ·refine .inl ⟨hlt,(A[k]'hlt).id,⟨hlt,rfl⟩,?_⟩;by_cases e:(A[k]'hlt).id=id
   ·rw [show ((A[k]'hlt).id == id)=true by simpa using e];exact hth.2 ⟨by simpa using hlt,by simpa [Am.acc] using e⟩
   ·rw [show ((A[k]'hlt).id == id)=false by simpa using e]
    cases hc:hasA (A.map Am.acc) id
    ·rfl
    ·obtain⟨h1,h2⟩:=hth.1 hc;exact absurd (by simpa [Am.acc] using h2) e
  ·refine .inr ⟨hlt,?_⟩
   cases hc:hasA (A.map Am.acc) id
   ·rfl
   ·obtain⟨h1,h2⟩:=hth.1 hc;exact absurd (by simpa using h1) hlt
 rw [<- hk] at SE ⊢;clear hk;obtain⟨t,ht⟩:∃t,hasA (A.map Am.acc) id=t:=⟨_,rfl⟩;have HT:=hide (HT0.out t ht);clear HT0;rw [ht];have HW:=hide hW;have HN:=hide hW0;clear h hs ht hW hW0 b2;go_enter Tryz.func85,Tryz.ntmps85;go_wp2_with (first | rw [<- HW.out] | (go_at_call 113;fail));refine SE.out.mono ?_;rintro e V ⟨rfl,hb⟩;have BV:=hide (B2.out.trans (hb.mono B2.out.size));have f0:=(hb.cell (p:=⟨w.heap.size,0,none⟩) (by rw [HN.out];simp;omega)).trans e0;have f1:=(hb.cell (p:=⟨w.heap.size+1,0,none⟩) (by rw [HN.out];simp)).trans e1;have HV:=hide (arow_below HR.out hb);clear hb e0 e1 HR SE B2 HW HN;rcases HT.out with⟨hlt,x,⟨hh,hx⟩,rfl⟩ | ⟨hlt,rfl⟩
 ·rcases HV.out with e | ⟨b,off,rfl,hc⟩
  ·subst e;simp at hlt
  ·obtain⟨c0,-,-⟩:=arow_cells hc hh;rw [<- hx] at c0;have hz:(k:Int)<(A.length:Int):=by omega
   clear hc HV HT hx hh hlt;generalize A.length=m at *;go_wp2_with fail;go_quiet (fail);go_wp2;refine bodyPost_ret (v:=.tuple #[.int .i64 (k:Nat),.bool (x == id)]) (by simp [results,Tryz.results85,go_sem]) rfl ?_;exact⟨rfl,BV.out.trans ⟨rfl,rfl,rfl,Nat.le_refl _,fun _ _=>rfl⟩⟩
 ·have hz:decide ((k:Int)<(A.length:Int))=false:=by simp;omega
  have hz1:decide (k<A.length)=false:=by simp;omega
  have hz2:¬(k:Int)<(A.length:Int):=by omega
  have hz3:A.length<=k:=by omega
  clear HV HT hlt;generalize A.length=m at *;go_wp2_with fail;go_quiet (fail);go_wp2;refine bodyPost_ret (v:=.tuple #[.int .i64 (k:Nat),.bool false]) (by simp [results,Tryz.results85,go_sem]) rfl ?_;exact⟨rfl,BV.out.trans ⟨rfl,rfl,rfl,Nat.le_refl _,fun _ _=>rfl⟩⟩
open Go.Sort Go.Maps Mix
theorem TV.lenA {w:World}{T:Nat}{F:Nat->Prop}{s:Tn}{A:List Am}{M:List Mkt}{va vm ve:Value}(h:TV w T F s A M va vm ve):A.length=s.accs.length:=by rw [<- h.accs];simp
theorem TV.lenM {w:World}{T:Nat}{F:Nat->Prop}{s:Tn}{A:List Am}{M:List Mkt}{va vm ve:Value}(h:TV w T F s A M va vm ve):M.length=s.mkts.length:=by rw [<- h.mkts];simp
theorem TV.isAcc {w:World}{T:Nat}{F:Nat->Prop}{s:Tn}{A:List Am}{M:List Mkt}{va vm ve:Value}(h:TV w T F s A M va vm ve){k:Nat}(hk:k<A.length):accAt s k=((A[k]'hk).id,(A[k]'hk).bal,(A[k]'hk).pos):=by
 have hk':k<s.accs.length:=by rw [<- h.lenA];exact hk
 have:s.accs[k]=(A.map Am.acc)[k]'(by simpa using hk):=by simp [h.accs]
 rw [accAt_get hk',this];simp [Am.acc]
theorem TV.atA {w:World}{T:Nat}{F:Nat->Prop}{s:Tn}{A:List Am}{M:List Mkt}{va vm ve:Value}(h:TV w T F s A M va vm ve){k:Nat}(hk:k<A.length) :
  ∃g cap,va=.slice (some ⟨g,0,none⟩) A.length cap/\F g/\A.length<=cap/\A.length<=maxLen/\(∀j,w.frozen? ⟨g,j,none⟩=false) /\
   w.cell? ⟨g,k*3,none⟩=some (.int .i64 (A[k]'hk).id)/\w.cell? ⟨g,k*3+1,none⟩=some (.int .i64 (A[k]'hk).bal)/\w.cell? ⟨g,k*3+2,none⟩=some (.slice (A[k]'hk).p (A[k]'hk).n (A[k]'hk).c):=by
 have hr:=h.rowA;rcases hr.2 with⟨rfl,e⟩ | ⟨g,cap,cur,rfl,hb,hg,hn,hm,hs,ht⟩
 ·omega
 ·have hc:∀j u,(A.flatMap encA)[j]? = some u->w.cell? ⟨g,0+j,none⟩=some u:=fun j u hu=>by
   have hj:j<A.length*3:=by
    have:=(List.getElem?_eq_some_iff.1 hu).1;rw [flat_len encA_len] at this;exact this
   rw [Nat.zero_add,hr.cellAt j hj];exact hu
  have:=arow_cells hc hk;simp only [Nat.zero_add] at this;exact⟨g,cap,rfl,h.fA g rfl,hn,by omega,fun j=>hr.frozenAt j,this⟩
theorem TV.putA {w w':World}{T:Nat}{F:Nat->Prop}{s:Tn}{A:List Am}{M:List Mkt}{va vm ve:Value}(h:TV w T F s A M va vm ve){k:Nat}(_hk:k<A.length){a:Am}(ha:AOk w a)(hp:Off F a.p a.pos){g:Nat}(hg:va.ownBlock=some g)
  (hb:But (fun b=>b=g) w w') (ho:w'.ownsRow 0 89 3 va A.length ((A.set k a).flatMap encA)):TV w' T F (s.setA k a.acc) (A.set k a) M va vm ve:=by
 have nT:=own_type h.rowA h.turn (by decide) g hg;have nM:=own_types h.rowM h.rowA (by decide);have nE:=own_types h.rowE h.rowA (by decide);have hF:=h.fA g hg;have hsub:∀b,b=g->F b:=fun b e=>by rw [e];exact hF
 refine⟨?_,h.mkts,h.own,fun b hF=>Nat.lt_of_lt_of_le (h.lt b hF) hb.size,?_,by simpa using ho,own_but h.rowM hb (fun k hk e=>nM k hk g hg e),own_but h.rowE hb (fun k hk e=>nE k hk g hg e),h.fA,h.fM,h.fE,fun x hx=>?_,fun m hm=>?_⟩
 ·rw [List.map_set,h.accs];rfl
 ·rw [hb.block T (h.lt T h.own) (fun e=>nT e.symm)];exact h.turn
 ·rcases List.mem_or_eq_of_mem_set hx with hx | rfl
  ·exact⟨aok_but (h.each x hx).1 hb (off_mono (h.each x hx).2 hsub),(h.each x hx).2⟩
  ·exact⟨aok_but ha hb (off_mono hp hsub),hp⟩
 ·obtain⟨o1,o2,r1,r2⟩:=h.eachM m hm;exact⟨ov_but o1 hb (off_mono r1 hsub),ov_but o2 hb (off_mono r2 hsub),r1,r2⟩
theorem TV.putBal {w:World}{T:Nat}{F:Nat->Prop}{s:Tn}{A:List Am}{M:List Mkt}{vm ve:Value}{g cap:Nat}(h:TV w T F s A M (.slice (some ⟨g,0,none⟩) A.length cap) vm ve){k:Nat}(hk:k<A.length)(n:Int) :
  TV (w.setCell ⟨g,k*3+1,none⟩ (.int .i64 n)) T F (s.setA k ((accAt s k).1,n,(accAt s k).2.2)) (A.set k { (A[k]'hk) with bal:=n }) M (.slice (some ⟨g,0,none⟩) A.length cap) vm ve:=by
 have hst:=(h.rowA.stored (k*3+1) (.int .i64 n)).1;rw [flat_set encA_len A k hk 1 { (A[k]'hk) with bal:=n } (.int .i64 n) (by omega) rfl] at hst;have hm:=h.each _ (List.getElem_mem hk);have ha:AOk w { (A[k]'hk) with bal:=n }:=⟨hm.1.len,hm.1.few,hm.1.nil,hm.1.row⟩;have:=h.putA hk ha hm.2 (g:=g) rfl (but_one w ⟨g,k*3+1,none⟩ _) hst;rw [h.isAcc hk];exact this
theorem TV.putAcc {w:World}{T:Nat}{F:Nat->Prop}{s:Tn}{A:List Am}{M:List Mkt}{vm ve:Value}{g cap:Nat}(h:TV w T F s A M (.slice (some ⟨g,0,none⟩) A.length cap) vm ve){k:Nat}(hk:k<A.length){a:Am}(ha:AOk w a)(hp:Off F a.p a.pos) :
  TV (((w.setCell ⟨g,k*3,none⟩ (.int .i64 a.id)).setCell ⟨g,k*3+1,none⟩ (.int .i64 a.bal)).setCell ⟨g,k*3+2,none⟩ (.slice a.p a.n a.c)) T F (s.setA k a.acc) (A.set k a) M (.slice (some ⟨g,0,none⟩) A.length cap) vm ve:=by
 have s1:=(h.rowA.stored (k*3+0) (.int .i64 a.id)).1;rw [flat_set encA_len A k hk 0 { (A[k]'hk) with id:=a.id } (.int .i64 a.id) (by omega) rfl] at s1;have l1:(A.set k { (A[k]'hk) with id:=a.id }).length=A.length:=by simp
 have hk1:k<(A.set k { (A[k]'hk) with id:=a.id }).length:=by rw [l1];exact hk
 have s2:=(s1.stored (k*3+1) (.int .i64 a.bal)).1;rw [flat_set encA_len _ k hk1 1 { (A[k]'hk) with id:=a.id,bal:=a.bal } (.int .i64 a.bal) (by omega) (by simp [encA])] at s2;have hk2:k<((A.set k { (A[k]'hk) with id:=a.id }).set k { (A[k]'hk) with id:=a.id,bal:=a.bal }).length:=by simpa using hk
 have s3:=(s2.stored (k*3+2) (.slice a.p a.n a.c)).1;rw [flat_set encA_len _ k hk2 2 a (.slice a.p a.n a.c) (by omega) (by simp [encA])] at s3;simp only [List.set_set,Nat.add_zero] at s3;refine h.putA hk ha hp (g:=g) rfl ?_ s3;exact((but_one w ⟨g,k*3,none⟩ _).setCell (p:=⟨g,k*3+1,none⟩) (.inl rfl) _).setCell (p:=⟨g,k*3+2,none⟩) (.inl rfl) _
theorem cell_set_off (w:World)(g:Nat){i j:Nat}{v:Value}(h:¬i=j):(w.setCell ⟨g,j,none⟩ v).cell? ⟨g,i,none⟩=w.cell? ⟨g,i,none⟩:=by
 apply World.cell?_setCell_other;intro e;exact h (congrArg Addr.off e).symm
theorem newer_one {w:World}{F:Nat->Prop}{g:Nat}(h:F g\/w.heap.size<=g):Newer w F (fun b=>F b\/b=g):=fun b hb=>hb.elim .inl (fun e=>by rw [e];exact h)
theorem move_ok (T:Nat)(F L:Nat->Prop)(s t:Tn)(k:Nat)(n:Int)(w:World)(h:TA w T F L s)(hk:k<s.accs.length)(hE:s.evs.length<=1000000)(hm:moveR s k n=.ok t) :
  Calls Tryz.prog 117 #[turnP T,.int .i64 (k:Nat),.int .i64 n] w fun e w'=>e=.returned (.int .i64 0)/\Stepped w T F L t w':=by
 obtain⟨A,M,va,vm,ve,h,hrw,hlt⟩:=h;have hkA:k<A.length:=by rw [h.lenA];exact hk
 obtain⟨g,cap,rfl,hF,hcap,hmax,fz,c0,c1,c2⟩:=h.atA hkA;have f1:=fz (k*3+1);have t0:w.cell? ⟨T,0,none⟩=some (.slice (some ⟨g,0,none⟩) A.length cap):=by rw [h.cell];rfl
 unfold moveR at hm;split at hm
 case isFalse=>cases hm
 rename_i he
 cases hm;rw [h.isAcc hkA] at he ⊢;dsimp only at he ⊢;have GR:=hide (grow_ok ⟨g,k*3+1,none⟩ _ n w c1 f1 he);obtain⟨x,hx⟩:∃x,x=(A[k]'hkA).id:=⟨_,rfl⟩;obtain⟨v,hv⟩:∃v,v=addV (A[k]'hkA).bal n:=⟨_,rfl⟩;rw [<- hv] at GR ⊢
 -- behind grow
 have MV:Hid (∀o,Calls Tryz.prog 131 #[turnP T,.int .i64 x,.int .i64 n] ((w.alloc o).setCell ⟨g,k*3+1,none⟩ (.int .i64 v)) fun e w'=>e=.returned (.tuple #[])/\Stepped w T F L ((s.setA k (x,v,(A[k]'hkA).pos)).tell (evMoved x n)) w'):=by
  intro o;have b1:=(Below.refl w.heap.size w).alloc (Nat.le_refl _) o;have h1:=(h.below b1).putBal hkA v;rw [h.isAcc hkA] at h1;refine(moved_any T F _ _ M _ vm ve x n _ h1 hE).mono ?_;rintro e w' ⟨rfl,g',cap',tv,hg',hb'⟩;have bb:But F w ((w.alloc o).setCell ⟨g,k*3+1,none⟩ (.int .i64 v)):=(But.of_below b1).setCell (p:=⟨g,k*3+1,none⟩) (.inl hF) _;have ta:TA w' T (fun b=>F b\/b=g') L ((s.setA k (x,v,(A[k]'hkA).pos)).tell (evMoved x n)):=by
   rw [hx];rw [hx] at tv;exact⟨_,_,_,_,_,tv,hrw.setA k (show Off L (A[k]'hkA).p (A[k]'hkA).pos from hrw.a _ (List.getElem_mem hkA)),fun b hb=>Nat.lt_of_lt_of_le (hlt b hb) (Nat.le_trans bb.size hb'.size)⟩
  exact⟨rfl,_,ta,newer_one (hg'.imp id (fun e=>by simp [World.setCell] at e;omega)),bb.trans hb' (fun _ f=>.inl f)⟩
 have z0:∀o,((w.alloc o).setCell ⟨g,k*3+1,none⟩ (.int .i64 v)).cell? ⟨T,0,none⟩=some (.slice (some ⟨g,0,none⟩) A.length cap):=fun o=>by
  rw [cell_set_far _ _ _ (fun e=>own_type h.rowA h.turn (by decide) g rfl e.symm)];exact cell_old t0 o
 have z1:∀o,((w.alloc o).setCell ⟨g,k*3+1,none⟩ (.int .i64 v)).cell? ⟨g,k*3,none⟩=some (.int .i64 x):=fun o=>by
  rw [cell_set_off _ _ (by omega),hx];exact cell_old c0 o
 rw [<- hx];have hz:(k:Int)<(A.length:Int):=by omega
 generalize (A[k]'hkA).pos=ps at MV ⊢;clear hrw hlt h c0 c2 fz he hE hv hx hF hk hcap hmax f1 c1;generalize A.length=m at *;go_enter Tryz.func117,Tryz.ntmps117;go_wp2_with fail;refine GR.out.mono ?_;rintro e w1 ⟨rfl,o,hw1⟩;have y0:=z0 o;have y1:=z1 o;have MV1:=hide (MV.out o);rw [<- hw1] at y0 y1 MV1;clear z0 z1 MV GR t0 hw1;go_wp2_with fail;refine MV1.out.mono ?_;rintro e w2 ⟨rfl,hs2⟩;have HS:=hide hs2;clear hs2 MV1;go_wp2;go_ret;exact⟨rfl,HS.out⟩
theorem move_bad (T:Nat)(F L:Nat->Prop)(s:Tn)(k:Nat)(n r:Int)(w:World)(h:TA w T F L s)(hk:k<s.accs.length)(hm:moveR s k n=.error r) :
  Calls Tryz.prog 117 #[turnP T,.int .i64 (k:Nat),.int .i64 n] w fun e w'=>e=.returned (.int .i64 r)/\¬r=0/\Below w.heap.size w w':=by
 obtain⟨A,M,va,vm,ve,h,-,-⟩:=h;have hkA:k<A.length:=by rw [h.lenA];exact hk
 obtain⟨g,cap,rfl,hF,hcap,hmax,fz,c0,c1,c2⟩:=h.atA hkA;have t0:w.cell? ⟨T,0,none⟩=some (.slice (some ⟨g,0,none⟩) A.length cap):=by rw [h.cell];rfl
 unfold moveR at hm;split at hm
 ·cases hm
 rename_i he
 cases hm;rw [h.isAcc hkA] at he ⊢;dsimp only at he ⊢;have GR:=hide (grow_bad ⟨g,k*3+1,none⟩ _ n w c1 he);generalize addE (A[k]'hkA).bal n=r at *
 have hz:(k:Int)<(A.length:Int):=by omega
 clear h c0 c2 fz hF hk hcap hmax c1 hkA;generalize A.length=m at *;go_enter Tryz.func117,Tryz.ntmps117;go_wp2_with fail;refine GR.out.mono ?_;rintro e w1 ⟨rfl,hb⟩;have B:=hide hb;clear hb GR;go_wp2;go_ret;exact⟨rfl,he,B.out⟩
open Go.Sort Go.Maps Mix
theorem Str.few {s:Tn}(h:Str s):s.accs.length<=8:=by
 have:=few_accs s.accs 0 h.srt (fun a ha=>betw_true (accErr_ok (h.acc a ha)).1) (by omega);omega
theorem TV.place {w:World}{T:Nat}{F:Nat->Prop}{s:Tn}{A:List Am}{M:List Mkt}{va vm ve:Value}(h:TV w T F s A M va vm ve)(hs:Str s)(id:Int) :
  ∃p c,va=.slice p A.length c/\w.cell? ⟨T,0,none⟩=some (.slice p A.length c)/\Calls Tryz.prog 85 #[.slice p A.length c,.int .i64 id] w fun e w'=>e=.returned (.tuple #[.int .i64 (plc s.accs id:Nat),.bool (hasA s.accs id)])/\Below w.heap.size w w':=by
 obtain⟨p,c,rfl,hr,-,-,hm⟩:=own_arow h.rowA;have t0:w.cell? ⟨T,0,none⟩=some (.slice p A.length c):=by rw [h.cell];rfl
 have hfew:A.length<=140737488351232:=by rw [h.lenA];have:=hs.few;omega
 have:=placeOf_any p A.length c A id w rfl hfew hr (by rw [h.accs];exact hs.srt);rw [h.accs] at this;exact⟨p,c,rfl,t0,this⟩
theorem own_am {w:World}{B:Nat}{v:Value}{n:Nat}{xs:List Int}(h:w.ownsRow B 3 1 v n (xs.map (Value.int .i64))):∃p c,v=.slice p n c/\xs.length=n/\(p=none->c=0)/\Row w p xs/\∀x,p=some x->B<=x.block:=by
 have hl:xs.length=n:=by simpa using h.1
 have hr:=Own.row_own h;rcases h.2 with⟨rfl,rfl⟩ | ⟨g,cap,cur,rfl,hb,-⟩
 ·exact⟨none,0,rfl,hl,fun _=>rfl,.inl (List.eq_nil_of_length_eq_zero hl),fun x hx=>by cases hx⟩
 ·obtain⟨-,a,c,e,-,hrow⟩:=hr
  cases e
  exact⟨_,_,rfl,hl,(fun e=>by cases e),hrow,fun x hx=>by cases hx;exact hb⟩
theorem tradeOf_ok (T:Nat)(F L:Nat->Prop)(s t:Tn)(id mk q pr fee:Int)(w:World)(h:TA w T F L s)(hs:Str s)(hid:hasA s.accs id=true)(hm:tradeOfR s id mk q pr fee=.ok t) :
  Calls Tryz.prog 200 #[turnP T,.int .i64 id,.int .i64 mk,.int .i64 q,.int .i64 pr,.int .i64 fee] w fun e w'=>e=.returned (.int .i64 0)/\Stepped w T F L t w':=by
 obtain⟨A,M,va,vm,ve,h,hrw,hlt⟩:=h;obtain⟨p,c,rfl,t0,PL⟩:=h.place hs id;obtain⟨hkS,-⟩:=accAt_has hs.srt hid;obtain⟨k,hk⟩:∃k,k=plc s.accs id:=⟨_,rfl⟩;unfold tradeOfR at hm;rw [<- hk] at PL hkS hm;rw [hid] at PL;have hkA:k<A.length:=by rw [h.lenA];exact hkS
 obtain⟨g,cap,e,hF,hcap,hmax,fz,c0,c1,c2⟩:=h.atA hkA;cases e
 split at hm
 case isFalse=>cases hm
 rename_i he
 cases hm;rw [h.isAcc hkA] at he ⊢;have hmem:=h.each _ (List.getElem_mem hkA);generalize hA:(A[k]'hkA)=a at *;obtain⟨aid,bal,ap,an,ac,pos⟩:=a;dsimp only at he c0 c1 c2 hmem ⊢
 have TR:Hid (∀W,Below w.heap.size w W->_):=fun W hW=>trade_good aid bal ap an ac pos mk q pr fee W hmem.1.len (row_below hmem.1.row hW) he;have PL':=hide PL;have H:=hide h;have hz:(k:Int)<(A.length:Int):=by omega
 have HRW:=hide hrw;have HLT:=hide hlt;clear hrw hlt;have HK:=hide hk;have HA:=hide hA;clear PL h hk hA;go_enter Tryz.func200,Tryz.ntmps200;go_wp2_with fail;refine PL'.out.mono ?_;rintro e W1 ⟨rfl,b1⟩;have u0:=(b1.cell (World.block_lt_of_cell? _ _ t0)).trans t0;have d0:=(b1.cell (World.block_lt_of_cell? _ _ c0)).trans c0;have d1:=(b1.cell (World.block_lt_of_cell? _ _ c1)).trans c1;have d2:=(b1.cell (World.block_lt_of_cell? _ _ c2)).trans c2;have B1:=hide b1;have TR1:=hide (TR.out W1 b1);clear b1 TR t0 c0 c1 c2 PL';go_wp2_with fail;refine TR1.out.mono ?_;rintro e W2 ⟨v,rfl,ho,b2⟩;obtain⟨px,cx,rfl,hl,hnil,hrow,hblk⟩:=own_am ho;have v0:=(b2.cell (World.block_lt_of_cell? _ _ u0)).trans u0;clear TR1 u0 d0 d1 d2;go_wp2_with fail;obtain⟨W3,hW3⟩:∃W3,W3=W2.alloc (.cells #[.int .i64 aid,.int .i64 (bal - q*pr - fee),.slice px an cx] 89):=⟨_,rfl⟩;rw [<- hW3];have b3:Below w.heap.size w W3:=by
  rw [hW3];exact(B1.out.trans (b2.mono B1.out.size)).alloc (Nat.le_trans B1.out.size b2.size) _
 have x0:W3.cell? ⟨T,0,none⟩=some (.slice (some ⟨g,0,none⟩) A.length c):=by rw [hW3];exact cell_old v0 _
 have y0:W3.cell? ⟨W2.heap.size,0,none⟩=some (.int .i64 aid):=by rw [hW3];exact new_cell W2 _ _ 0 _ rfl
 have y1:W3.cell? ⟨W2.heap.size,1,none⟩=some (.int .i64 (bal - q*pr - fee)):=by rw [hW3];exact new_cell W2 _ _ 1 _ rfl
 have y2:W3.cell? ⟨W2.heap.size,2,none⟩=some (.slice px an cx):=by rw [hW3];exact new_cell W2 _ _ 2 _ rfl
 have h3:=H.out.below b3;have row3:Row W3 px (pos.set mk.toNat (pos.getD mk.toNat 0+q)):=by rw [hW3];exact row_below hrow ((Below.refl _ W2).alloc (Nat.le_refl _) _)
 have OK3:Hid (AOk W3 ⟨aid,bal - q*pr - fee,px,an,cx,pos.set mk.toNat (pos.getD mk.toNat 0+q)⟩):=⟨hl,hmem.1.few,hnil,row3⟩;have OL3:Hid (Off L px (pos.set mk.toNat (pos.getD mk.toNat 0+q))):=.inr fun x hx f=>by
  have:=hblk x hx;have:=HLT.out _ f;have:=B1.out.size;omega
 have OF3:Hid (Off F px (pos.set mk.toNat (pos.getD mk.toNat 0+q))):=.inr fun x hx f=>by
  have:=hblk x hx;have:=H.out.lt _ f;have:=B1.out.size;omega
 obtain⟨g',cap',e',-,-,-,fz3,z0,z1,z2⟩:=h3.atA hkA;cases e';have q0:=fz3 (k*3);have q1:=fz3 (k*3+1);have q2:=fz3 (k*3+2);have TVX:=hide (h3.putAcc hkA OK3.out OF3.out);have BW3:=hide b3;clear hW3 b3 h3 row3 OK3 OF3 fz3 v0 b2 hrow hnil hblk hl ho hmem B1 H fz;generalize W2.heap.size=b4 at *
 go_region;go_wp2;go_ret;refine⟨rfl,F,⟨_,_,_,_,_,TVX.out.below (Below.refl _ _).drew,HRW.out.setA k OL3.out,fun b hb=>Nat.lt_of_lt_of_le (HLT.out b hb) ?_⟩,fun b hb=>.inl hb,?_⟩
 ·have:=BW3.out.size;simpa [World.setCell] using this
 exact But.drew ((((But.of_below BW3.out).setCell (p:=⟨g,k*3,none⟩) (.inl hF) _).setCell (p:=⟨g,k*3+1,none⟩) (.inl hF) _).setCell (p:=⟨g,k*3+2,none⟩) (.inl hF) _)
theorem tradeOf_bad (T:Nat)(F L:Nat->Prop)(s:Tn)(id mk q pr fee r:Int)(w:World)(h:TA w T F L s)(hs:Str s)(hid:hasA s.accs id=true)(f1:-9223372036854775808<=fee)(f2:fee<=9223372036854775807)(hm:tradeOfR s id mk q pr fee=.error r) :
  Calls Tryz.prog 200 #[turnP T,.int .i64 id,.int .i64 mk,.int .i64 q,.int .i64 pr,.int .i64 fee] w fun e w'=>e=.returned (.int .i64 r)/\¬r=0/\Below w.heap.size w w':=by
 obtain⟨A,M,va,vm,ve,h,-,-⟩:=h;obtain⟨p,c,rfl,t0,PL⟩:=h.place hs id;obtain⟨hkS,-⟩:=accAt_has hs.srt hid;obtain⟨k,hk⟩:∃k,k=plc s.accs id:=⟨_,rfl⟩;unfold tradeOfR at hm;rw [<- hk] at PL hkS hm;rw [hid] at PL;have hkA:k<A.length:=by rw [h.lenA];exact hkS
 obtain⟨g,cap,e,hF,hcap,hmax,fz,c0,c1,c2⟩:=h.atA hkA;cases e
 split at hm
 ·cases hm
 rename_i he
 cases hm;rw [h.isAcc hkA] at he ⊢;have hmem:=h.each _ (List.getElem_mem hkA);generalize hA:(A[k]'hkA)=a at *;obtain⟨aid,bal,ap,an,ac,pos⟩:=a;dsimp only at he c0 c1 c2 hmem ⊢
 have TR:Hid (∀W,Below w.heap.size w W->_):=fun W hW=>trade_bad aid bal ap an ac pos mk q pr fee W hmem.1.len (by have:=hmem.1.few;dsimp only at this;omega) (row_below hmem.1.row hW) f1 f2 he;have PL':=hide PL;have hz:(k:Int)<(A.length:Int):=by omega
 generalize tradeErr aid bal pos mk q pr fee=r at *;clear PL h hk hA;go_enter Tryz.func200,Tryz.ntmps200;go_wp2_with fail;refine PL'.out.mono ?_;rintro e W1 ⟨rfl,b1⟩;have u0:=(b1.cell (World.block_lt_of_cell? _ _ t0)).trans t0;have d0:=(b1.cell (World.block_lt_of_cell? _ _ c0)).trans c0;have d1:=(b1.cell (World.block_lt_of_cell? _ _ c1)).trans c1;have d2:=(b1.cell (World.block_lt_of_cell? _ _ c2)).trans c2;have B1:=hide b1;have TR1:=hide (TR.out W1 b1);clear b1 TR t0 c0 c1 c2 PL';go_wp2_with fail;refine TR1.out.mono ?_;rintro e W2 ⟨rfl,b2⟩;have B3:Hid (∀o,Below w.heap.size w (W2.alloc o)):=fun o=>(B1.out.trans (b2.mono B1.out.size)).alloc (Nat.le_trans B1.out.size b2.size) o;clear TR1 u0 d0 d1 d2 b2 B1;go_wp2;go_ret;exact⟨rfl,he,B3.out _⟩
end Go.Proofs.YthdjfhnhjiageaaGreatDoor.Vn
