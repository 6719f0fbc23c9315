/-
  Package venue by contracts: what came of it is told.
-/
import Derived.Test.YtpkbiafhnflmnaaGreatDoorS17
import Derived.Test.YtpkbiafhnflmnaaGreatDoorS20
import Derived.Test.YtpkbiafhnflmnaaGreatDoorS21
import Derived.Test.YtpkbiafhnflmnaaGreatDoorS13
import Derived.Test.YtpkbiafhnflmnaaGreatDoorS05
import Derived.Deep.RegionHeld3
import Derived.Deep.AppendLies
namespace Go.Proofs.YtpkbiafhnflmnaaGreatDoor.Vn
open Go.RowKit Go.Proofs.YtpkbiafhnflmnaaGreatDoor.Num Go.Proofs.YtpkbiafhnflmnaaGreatDoor.Fix Go.Proofs.YtpkbiafhnflmnaaGreatDoor.AcP Go.Proofs.YtpkbiafhnflmnaaGreatDoor.FuP Go.Proofs.YtpkbiafhnflmnaaGreatDoor.Bk Go.Proofs.YtpkbiafhnflmnaaGreatDoor.Rm Go.Proofs.YtpkbiafhnflmnaaGreatDoor.Ac
theorem hide {p:Prop} (h:p):Hid p:=h
theorem new_cell (w:World) (cs:Array Value) (t:TypeId) (i:Nat) (v:Value) (h:cs[i]? = some v):(w.alloc (.cells cs t)).cell? ⟨w.heap.size,i,none⟩ = some v:=Ac.new_cell w cs t i v h
/-- all that was there is as it was, but for the blocks of F. -/
structure But (F:Nat->Prop) (w w':World):Prop where
 os:w'.os=w.os
 tape:w'.tape=w.tape
 output:w'.output=w.output
 size:w.heap.size<=w'.heap.size
 block:∀ k,k < w.heap.size->¬ F k->w'.heap[k]? = w.heap[k]?
theorem But.refl (F:Nat->Prop) (w:World):But F w w:=⟨rfl,rfl,rfl,Nat.le_refl _,fun _ _ _=>rfl⟩
theorem But.trans {F G:Nat->Prop} {a b c:World} (h:But F a b) (k:But G b c) (hG:∀ i,G i->F i \/ a.heap.size<=i):But F a c :=
 ⟨k.os.trans h.os,k.tape.trans h.tape,k.output.trans h.output,Nat.le_trans h.size k.size,fun i hi hF =>
  (k.block i (Nat.lt_of_lt_of_le hi h.size) (fun g=>by rcases hG i g with f | f; exact hF f; omega)).trans (h.block i hi hF)⟩
theorem But.of_below {F:Nat->Prop} {w w':World} (h:Below w.heap.size w w'):But F w w':=⟨h.os,h.tape,h.output,h.size,fun k hk _=>h.block k hk⟩
theorem But.next {F:Nat->Prop} {a b c:World} (h:But F a b) (k:Below b.heap.size b c):But F a c:=h.trans (G:=F) (.of_below k) (fun _ f=>.inl f)
theorem But.drew {F:Nat->Prop} {a w:World} (h:But F a w):But F a w.drew:=⟨h.os,h.tape,h.output,h.size,h.block⟩
theorem But.setCell {F:Nat->Prop} {a w:World} (h:But F a w) {p:Addr} (hp:F p.block \/ a.heap.size<=p.block) (u:Value):But F a (w.setCell p u) :=
 h.trans (G:=fun i=>i=p.block) ⟨rfl,rfl,rfl,by simp [World.setCell],fun k _ hk=>Below.heap_setCell _ _ _ _ hk⟩ (fun i hi=>by subst hi; exact hp)
theorem But.grown {F:Nat->Prop} {a w w':World} {row:Option Nat} (h:But F a w) (hg:w.grownBy w' row) (hr:∀ k,row=some k->F k \/ a.heap.size<=k):But F a w' :=
 h.trans (G:=fun i=>some i=row) ⟨hg.os,hg.tape,hg.output,hg.size,fun k hk hn=>hg.block k hk hn⟩ (fun i hi=>hr i hi.symm)
theorem But.mono {F G:Nat->Prop} {w w':World} (h:But F w w') (hG:∀ k,F k->G k \/ w.heap.size<=k):But G w w' :=
 ⟨h.os,h.tape,h.output,h.size,fun k hk hn=>h.block k hk (fun f=>by rcases hG k f with g | g; exact hn g; omega)⟩
theorem But.cell {F:Nat->Prop} {w w':World} (h:But F w w') {p:Addr} (hp:¬ F p.block) {v:Value} (hv:w.cell? p=some v):w'.cell? p=some v :=
 (World.cell?_of_block (w:=w) (h.block p.block (World.block_lt_of_cell? _ _ hv) hp)).trans hv
/-- the blocks of what is only read lie apart from those that are written. -/
abbrev Out (F:Nat->Prop) (p:Option Addr):Prop:=∀ x,p=some x->¬ F x.block
abbrev Off {α:Type} (F:Nat->Prop) (p:Option Addr) (l:List α):Prop:=l=[] \/ Out F p
theorem row_but {F:Nat->Prop} {w w':World} {p:Option Addr} {xs:List Int} (h:Row w p xs) (hb:But F w w') (hp:Off F p xs):Row w' p xs:=by
 rcases h with h | ⟨b,off,rfl,hc⟩
 ·exact .inl h
 ·rcases hp with hp | hp
  ·exact .inl hp
  ·exact .inr ⟨b,off,rfl,fun i hi=>hb.cell (p:=⟨b,off + i,none⟩) (hp ⟨b,off,none⟩ rfl) (hc i hi)⟩
theorem orow_but {F:Nat->Prop} {w w':World} {p:Option Addr} {xs:List Odr} (h:ORow w p xs) (hb:But F w w') (hp:Off F p xs):ORow w' p xs:=by
 rcases h with h | ⟨b,off,rfl,hc⟩
 ·exact .inl h
 ·rcases hp with hp | hp
  ·exact .inl hp
  ·exact .inr ⟨b,off,rfl,fun j hj i v hv=>hb.cell (p:=⟨b,off + j * 5 + i,none⟩) (hp ⟨b,off,none⟩ rfl) (hc j hj i v hv)⟩
theorem ov_but {F:Nat->Prop} {w w':World} {p:Option Addr} {c:Nat} {xs:List Odr} (h:OV w p c xs) (hb:But F w w') (hp:Off F p xs):OV w' p c xs:=⟨orow_but h.row hb hp,h.nil,h.cap⟩
theorem aok_but {F:Nat->Prop} {w w':World} {a:Am} (h:AOk w a) (hb:But F w w') (hp:Off F a.p a.pos):AOk w' a:=⟨h.len,h.few,h.nil,row_but h.row hb hp⟩
theorem own_but {F:Nat->Prop} {w w':World} {B:Nat} {t:TypeId} {z n:Nat} {v:Value} {xs:List Value} (h:w.ownsRow B t z v n xs) (hb:But F w w') (hp:∀ k,v.ownBlock=some k->¬ F k):w'.ownsRow B t z v n xs:=by
 refine ⟨h.1,?_⟩
 rcases h.2 with e | ⟨g,cap,cur,rfl,hB,hg,rest⟩
 ·exact .inl e
 ·exact .inr ⟨g,cap,cur,rfl,hB,(hb.block g (Array.getElem?_eq_some_iff.1 hg).1 (hp g rfl)).trans hg,rest⟩
/-- lists whose elements take as many cells each. -/
theorem flat_len {α:Type} {enc:α->List Value} {z:Nat} (hz:∀ a,(enc a).length=z):∀ (l:List α),(l.flatMap enc).length=l.length * z
 |[]=>by simp
 |a :: l=>by
  rw [List.flatMap_cons,List.length_append,hz,flat_len hz l,List.length_cons,Nat.add_mul]
  omega
theorem flat_get {α:Type} {enc:α->List Value} {z:Nat} (hz:∀ a,(enc a).length=z):∀ (l:List α) (j:Nat) (h:j < l.length) (i:Nat),i < z->(l.flatMap enc)[j * z + i]? = (enc (l[j]'h))[i]?
 |a :: l,0,_,i,hi=>by
  rw [List.flatMap_cons,Nat.zero_mul,Nat.zero_add,List.getElem?_append_left (by rw [hz]; exact hi)]
  rfl
 |a :: l,j + 1,h,i,hi=>by
  rw [List.flatMap_cons,List.getElem?_append_right (by rw [hz,Nat.add_mul]; omega),show (j + 1) * z + i - (enc a).length=j * z + i by rw [hz,Nat.add_mul]; omega]
  exact flat_get hz l j (by simpa using h) i hi
theorem flat_set {α:Type} {enc:α->List Value} {z:Nat} (hz:∀ a,(enc a).length=z):∀ (l:List α) (j:Nat) (h:j < l.length) (i:Nat) (b:α) (u:Value),i < z->enc b=(enc (l[j]'h)).set i u->(l.flatMap enc).set (j * z + i) u=(l.set j b).flatMap enc
 |a :: l,0,_,i,b,u,hi,he=>by
  rw [List.flatMap_cons,Nat.zero_mul,Nat.zero_add,List.set_append,if_pos (by rw [hz]; exact hi),List.set_cons_zero,List.flatMap_cons,he]
  rfl
 |a :: l,j + 1,h,i,b,u,hi,he=>by
  rw [List.flatMap_cons,List.set_append,if_neg (by rw [hz,Nat.add_mul]; omega),show (j + 1) * z + i - (enc a).length=j * z + i by rw [hz,Nat.add_mul]; omega]
  rw [flat_set hz l j (by simpa using h) i b u hi he,List.set_cons_succ,List.flatMap_cons]
theorem flatA_is:∀ (l:List Am),flatA l=l.flatMap encA
 |[]=>rfl
 |a :: l=>by rw [flatA,List.flatMap_cons,flatA_is l]
theorem encA_len (a:Am):(encA a).length=3:=rfl
theorem mCells_len (m:Mkt):(mCells m).length=4:=rfl
/-- an event, as it lies. -/
def encE (x:Ev):List Value:=[.int .i64 x.1,.int .i64 x.2.1,.int .i64 x.2.2.1,.int .i64 x.2.2.2.1,.int .i64 x.2.2.2.2.1,.int .i64 x.2.2.2.2.2.1] ++ encF x.2.2.2.2.2.2
theorem encE_len (x:Ev):(encE x).length=13:=rfl
abbrev flatE (l:List Ev):List Value:=l.flatMap encE
abbrev flatM (l:List Mkt):List Value:=l.flatMap mCells
def mpOf (m:Mkt):Mp:=(mB m,mA m,mI m,mL m)
theorem off_mono {α:Type} {F G:Nat->Prop} {p:Option Addr} {l:List α} (h:Off F p l) (hG:∀ b,G b->F b):Off G p l:=h.imp id (fun h x hx g=>h x hx (hG _ g))
theorem off_row {F:Nat->Prop} {w:World} {p:Option Addr} {l:List Int} (h:Row w p l) (hF:Off F p l) {g:Nat} (hg:F g \/ w.heap.size<=g):Off (fun b=>F b \/ b=g) p l:=by
 rcases h with h | ⟨b,off,rfl,hc⟩
 ·exact .inl h
 ·rcases hF with hF | hF
  ·exact .inl hF
  ·cases l with
   |nil=>exact .inl rfl
   |cons x l =>
    refine .inr ?_
    rintro y hy (f | f)
    ·exact hF y hy f
    ·cases hy
     have:=World.block_lt_of_cell? w _ (hc 0 (by simp))
     rcases hg with e | e
     ·exact hF _ rfl (by rw [f]; exact e)
     ·simp only at f this
      omega
theorem off_orow {F:Nat->Prop} {w:World} {p:Option Addr} {l:List Odr} (h:ORow w p l) (hF:Off F p l) {g:Nat} (hg:F g \/ w.heap.size<=g):Off (fun b=>F b \/ b=g) p l:=by
 rcases h with h | ⟨b,off,rfl,hc⟩
 ·exact .inl h
 ·rcases hF with hF | hF
  ·exact .inl hF
  ·cases l with
   |nil=>exact .inl rfl
   |cons x l =>
    refine .inr ?_
    rintro y hy (f | f)
    ·exact hF y hy f
    ·cases hy
     have:=World.block_lt_of_cell? w _ (hc 0 (by simp) 0 (.int .i64 (oid x)) rfl)
     rcases hg with e | e
     ·exact hF _ rfl (by rw [f]; exact e)
     ·simp only at f this
      omega
abbrev turnC (va vm ve:Value) (s:Tn):Array Value:=#[va,vm,.int .i64 s.ins,.int .i64 s.res,.int .i64 s.next,.int .i64 s.inn,.int .i64 s.out,ve]
/-- a turn in memory. -/
structure TV (w:World) (T:Nat) (F:Nat->Prop) (s:Tn) (A:List Am) (M:List Mkt) (va vm ve:Value):Prop where
 accs:A.map Am.acc=s.accs
 mkts:M.map mpOf=s.mkts
 own:F T
 lt:∀ b,F b->b < w.heap.size
 turn:w.heap[T]? = some (.cells (turnC va vm ve s) 90 (0,0))
 rowA:w.ownsRow 0 40 3 va A.length (A.flatMap encA)
 rowM:w.ownsRow 0 52 4 vm M.length (flatM M)
 rowE:w.ownsRow 0 70 13 ve s.evs.length (flatE s.evs)
 fA:∀ k,va.ownBlock=some k->F k
 fM:∀ k,vm.ownBlock=some k->F k
 fE:∀ k,ve.ownBlock=some k->F k
 each:∀ a,a ∈ A->AOk w a /\ Off F a.p a.pos
 eachM:∀ m,m ∈ M->OV w m.1.1 m.1.2.1 (mB m) /\ OV w m.2.1.1 m.2.1.2.1 (mA m) /\ Off F m.1.1 (mB m) /\ Off F m.2.1.1 (mA m)
/-- the lists that are only read lie apart from these blocks, too. -/
structure Rows (L:Nat->Prop) (A:List Am) (M:List Mkt):Prop where
 a:∀ x,x ∈ A->Off L x.p x.pos
 m:∀ x,x ∈ M->Off L x.1.1 (mB x) /\ Off L x.2.1.1 (mA x)
theorem rows_none (A:List Am) (M:List Mkt):Rows (fun _=>False) A M:=⟨fun _ _=>.inr fun _ _=>id,fun _ _=>⟨.inr fun _ _=>id,.inr fun _ _=>id⟩⟩
theorem Rows.setA {L:Nat->Prop} {A:List Am} {M:List Mkt} (h:Rows L A M) (k:Nat) {a:Am} (ha:Off L a.p a.pos):Rows L (A.set k a) M :=
 ⟨fun x hx=>by rcases List.mem_or_eq_of_mem_set hx with hx | rfl; exact h.a x hx; exact ha,h.m⟩
theorem Rows.setM {L:Nat->Prop} {A:List Am} {M:List Mkt} (h:Rows L A M) (k:Nat) {m:Mkt} (h1:Off L m.1.1 (mB m)) (h2:Off L m.2.1.1 (mA m)):Rows L A (M.set k m) :=
 ⟨h.a,fun x hx=>by rcases List.mem_or_eq_of_mem_set hx with hx | rfl; exact h.m x hx; exact ⟨h1,h2⟩⟩
/-- a turn in memory, wherever its lists are; what it reads lies apart from L. -/
def TA (w:World) (T:Nat) (F L:Nat->Prop) (s:Tn):Prop:=∃ A M va vm ve,TV w T F s A M va vm ve /\ Rows L A M /\ ∀ b,L b->b < w.heap.size
/-- what may be written behind it is what could be ahead, or is new. -/
abbrev Newer (w:World) (F G:Nat->Prop):Prop:=∀ b,G b->F b \/ w.heap.size<=b
theorem TV.below {w w':World} {T:Nat} {F:Nat->Prop} {s:Tn} {A:List Am} {M:List Mkt} {va vm ve:Value} (h:TV w T F s A M va vm ve) (hb:Below w.heap.size w w'):TV w' T F s A M va vm ve:=by
 have hb':But (fun _=>False) w w':=.of_below hb
 refine ⟨h.accs,h.mkts,h.own,fun b hF=>Nat.lt_of_lt_of_le (h.lt b hF) hb.size,?_,own_but h.rowA hb' (fun _ _=>id),own_but h.rowM hb' (fun _ _=>id),own_but h.rowE hb' (fun _ _=>id),h.fA,h.fM,h.fE,fun a ha=>⟨(h.each a ha).1.below hb,(h.each a ha).2⟩,fun m hm=>?_⟩
 ·rw [hb.block T (h.lt T h.own)]; exact h.turn
 ·obtain ⟨o1,o2,r⟩:=h.eachM m hm
  exact ⟨o1.below hb,o2.below hb,r⟩
/-- what lies apart is changed. -/
theorem TV.apart {w w':World} {T:Nat} {F G:Nat->Prop} {s:Tn} {A:List Am} {M:List Mkt} {va vm ve:Value} (h:TV w T F s A M va vm ve) (hb:But G w w') (hG:∀ b,G b->¬ F b) (hA:∀ a,a ∈ A->Off G a.p a.pos) (hM:∀ m,m ∈ M->Off G m.1.1 (mB m) /\ Off G m.2.1.1 (mA m)):TV w' T F s A M va vm ve:=by
 refine ⟨h.accs,h.mkts,h.own,fun b hF=>Nat.lt_of_lt_of_le (h.lt b hF) hb.size,?_,own_but h.rowA hb (fun k hk g=>hG k g (h.fA k hk)),own_but h.rowM hb (fun k hk g=>hG k g (h.fM k hk)),own_but h.rowE hb (fun k hk g=>hG k g (h.fE k hk)),h.fA,h.fM,h.fE,fun a ha=>⟨aok_but (h.each a ha).1 hb (hA a ha),(h.each a ha).2⟩,fun m hm=>?_⟩
 ·rw [hb.block T (h.lt T h.own) (fun g=>hG T g h.own)]; exact h.turn
 ·obtain ⟨o1,o2,r⟩:=h.eachM m hm
  exact ⟨ov_but o1 hb (hM m hm).1,ov_but o2 hb (hM m hm).2,r⟩
/-- the cells of the turn itself. -/
theorem TV.cell {w:World} {T:Nat} {F:Nat->Prop} {s:Tn} {A:List Am} {M:List Mkt} {va vm ve:Value} (h:TV w T F s A M va vm ve) (i:Nat):w.cell? ⟨T,i,none⟩ = (turnC va vm ve s)[i]?:=by
 simp [World.cell?,h.turn]
theorem TV.frozen {w:World} {T:Nat} {F:Nat->Prop} {s:Tn} {A:List Am} {M:List Mkt} {va vm ve:Value} (h:TV w T F s A M va vm ve) (i:Nat):w.frozen? ⟨T,i,none⟩ = false:=by
 simp [World.frozen?,h.turn]
/-- rows of unlike elements lie in unlike blocks. -/
theorem own_type {w:World} {B:Nat} {t u:TypeId} {z n b:Nat} {v:Value} {xs:List Value} {cs:Array Value} (h:w.ownsRow B t z v n xs) (hb:w.heap[b]? = some (.cells cs u (0,0))) (hne:¬ t=u):∀ k,v.ownBlock=some k->¬ k=b:=by
 intro k hk e
 subst e
 rcases h.2 with ⟨rfl,_⟩ | ⟨g,cap,cur,rfl,hB,hg,rest⟩
 ·simp [Value.ownBlock] at hk
 ·simp [Value.ownBlock] at hk
  subst hk; rw [hg] at hb; simp at hb; exact hne hb.2
theorem own_types {w:World} {B C:Nat} {t u:TypeId} {z n y m:Nat} {v v':Value} {xs ys:List Value} (h:w.ownsRow B t z v n xs) (h':w.ownsRow C u y v' m ys) (hne:¬ t=u):∀ k,v.ownBlock=some k->∀ j,v'.ownBlock=some j->¬ k=j:=by
 intro k hk j hj
 rcases h'.2 with ⟨rfl,_⟩ | ⟨g,cap,cur,rfl,hB,hg,rest⟩
 ·simp [Value.ownBlock] at hj
 ·simp [Value.ownBlock] at hj
  subst hj; exact own_type h hg hne k hk
abbrev turnP (T:Nat):Value:=.pointer (some ⟨T,0,none⟩)
abbrev evV (x:Ev):Value:=.agg #[.int .i64 x.1,.int .i64 x.2.1,.int .i64 x.2.2.1,.int .i64 x.2.2.2.1,.int .i64 x.2.2.2.2.1,.int .i64 x.2.2.2.2.2.1,.int .i64 x.2.2.2.2.2.2.1,.int .i64 x.2.2.2.2.2.2.2.1,.int .i64 x.2.2.2.2.2.2.2.2.1,.int .i64 x.2.2.2.2.2.2.2.2.2.1,.int .i64 x.2.2.2.2.2.2.2.2.2.2.1,.int .i64 x.2.2.2.2.2.2.2.2.2.2.2.1,.int .i64 x.2.2.2.2.2.2.2.2.2.2.2.2]
theorem row_two (w:World) (x n:Int):Row (w.alloc (.cells #[.int .i64 x,.int .i64 n] 3)) (some ⟨w.heap.size,0,none⟩) [x,n]:=by
 refine .inr ⟨_,_,rfl,fun i hi=>?_⟩
 match i,hi with
 |0,_=>exact new_cell w _ _ 0 _ rfl
 |1,_=>exact new_cell w _ _ 1 _ rfl
theorem cell_old {w:World} {a:Addr} {v:Value} (h:w.cell? a=some v) (o:Obj):(w.alloc o).cell? a=some v:=(World.cell?_alloc_lt _ _ _ (World.block_lt_of_cell? w _ h)).trans h
theorem frozen_old {w:World} {a:Addr} {v:Value} (hc:w.cell? a=some v) (h:w.frozen? a=false) (o:Obj):(w.alloc o).frozen? a=false:=by
 have:=World.frozen?_of_block (w:=w) (w':=w.alloc o) (a:=a) (Below.heap_alloc w o _ (World.block_lt_of_cell? w _ hc))
 rw [this]; exact h
set_option maxHeartbeats 1000000 in
theorem grow_ok (a:Addr) (x n:Int) (w:World) (hc:w.cell? a=some (.int .i64 x)) (hf:w.frozen? a=false) (he:addE x n=0) :
  Calls Tryz.prog 102 #[.pointer (some a),.int .i64 n] w fun e w'=>e=.returned (.int .i64 0) /\ ∃ o,w'=(w.alloc o).setCell a (.int .i64 (addV x n)):=by
 have AD:=add_any (some ⟨w.heap.size,0,none⟩) 2 2 [x,n] (w.alloc (.cells #[.int .i64 x,.int .i64 n] 3)) rfl (by decide) (row_two w x n)
 rw [add_is,he] at AD; have c1:=cell_old hc (.cells #[.int .i64 x,.int .i64 n] 3); have c2:=frozen_old hc hf (.cells #[.int .i64 x,.int .i64 n] 3); generalize addV x n=v at AD ⊢; clear he hf
 go_enter Tryz.func102,Tryz.ntmps102
 go_wp2_with (go_at_call 61; refine AD.mono ?_; rintro e w' ⟨rfl,rfl⟩)
 go_ret
 exact ⟨rfl,_,rfl⟩
set_option maxHeartbeats 1000000 in
theorem grow_bad (a:Addr) (x n:Int) (w:World) (hc:w.cell? a=some (.int .i64 x)) (he:¬ addE x n=0) :
  Calls Tryz.prog 102 #[.pointer (some a),.int .i64 n] w fun e w'=>e=.returned (.int .i64 (addE x n)) /\ Below w.heap.size w w':=by
 have AD:=add_any (some ⟨w.heap.size,0,none⟩) 2 2 [x,n] (w.alloc (.cells #[.int .i64 x,.int .i64 n] 3)) rfl (by decide) (row_two w x n)
 rw [add_is] at AD; have B:=hide ((Below.refl w.heap.size w).alloc (Nat.le_refl _) (.cells #[.int .i64 x,.int .i64 n] 3)); have c1:=cell_old hc (.cells #[.int .i64 x,.int .i64 n] 3); generalize addV x n=v at AD; generalize addE x n=r at AD he ⊢
 go_enter Tryz.func102,Tryz.ntmps102
 go_wp2_with (go_at_call 61; refine AD.mono ?_; rintro e w' ⟨rfl,rfl⟩)
 go_ret
 exact ⟨rfl,B.out⟩
/-- a number of the turn is another one now. -/
theorem heap_set {w:World} {g:Nat} {cs:Array Value} {t:TypeId} (h:w.heap[g]? = some (.cells cs t (0,0))) (j:Nat) (v:Value):(w.setCell ⟨g,j,none⟩ v).heap[g]? = some (.cells (cs.setIfInBounds j v) t (0,0)):=by
 simp [World.setCell,Array.getElem?_modify,h]
theorem but_one (w:World) (a:Addr) (v:Value):But (fun b=>b=a.block) w (w.setCell a v):=(But.refl (fun b=>b=a.block) w).setCell (p:=a) (.inl rfl) v
/-- the turn's own cells are others now. -/
theorem TV.own_set {w w':World} {T:Nat} {F:Nat->Prop} {s s':Tn} {A:List Am} {M:List Mkt} {va vm ve:Value} (h:TV w T F s A M va vm ve) (hb:But (fun b=>b=T) w w') (ht:w'.heap[T]? = some (.cells (turnC va vm ve s') 90 (0,0))) (e1:s'.accs=s.accs) (e2:s'.mkts=s.mkts) (e3:s'.evs=s.evs):TV w' T F s' A M va vm ve:=by
 have nA:=own_type h.rowA h.turn (by decide)
 have nM:=own_type h.rowM h.turn (by decide)
 have nE:=own_type h.rowE h.turn (by decide)
 refine ⟨by rw [e1]; exact h.accs,by rw [e2]; exact h.mkts,h.own,fun b hF=>Nat.lt_of_lt_of_le (h.lt b hF) hb.size,ht,own_but h.rowA hb nA,own_but h.rowM hb nM,by rw [e3]; exact own_but h.rowE hb nE,h.fA,h.fM,h.fE,fun a ha=>⟨aok_but (h.each a ha).1 hb (off_mono (h.each a ha).2 (fun b e=>by rw [e]; exact h.own)),(h.each a ha).2⟩,fun m hm=>?_⟩
 obtain ⟨o1,o2,r1,r2⟩:=h.eachM m hm
 exact ⟨ov_but o1 hb (off_mono r1 (fun b e=>by rw [e]; exact h.own)),ov_but o2 hb (off_mono r2 (fun b e=>by rw [e]; exact h.own)),r1,r2⟩
theorem TV.setIns {w:World} {T:Nat} {F:Nat->Prop} {s:Tn} {A:List Am} {M:List Mkt} {va vm ve:Value} (h:TV w T F s A M va vm ve) (n:Int):TV (w.setCell ⟨T,2,none⟩ (.int .i64 n)) T F { s with ins:=n } A M va vm ve:=h.own_set (but_one w ⟨T,2,none⟩ _) (heap_set h.turn 2 _) rfl rfl rfl
theorem TV.setRes {w:World} {T:Nat} {F:Nat->Prop} {s:Tn} {A:List Am} {M:List Mkt} {va vm ve:Value} (h:TV w T F s A M va vm ve) (n:Int):TV (w.setCell ⟨T,3,none⟩ (.int .i64 n)) T F { s with res:=n } A M va vm ve:=h.own_set (but_one w ⟨T,3,none⟩ _) (heap_set h.turn 3 _) rfl rfl rfl
theorem TV.setNext {w:World} {T:Nat} {F:Nat->Prop} {s:Tn} {A:List Am} {M:List Mkt} {va vm ve:Value} (h:TV w T F s A M va vm ve) (n:Int):TV (w.setCell ⟨T,4,none⟩ (.int .i64 n)) T F { s with next:=n } A M va vm ve:=h.own_set (but_one w ⟨T,4,none⟩ _) (heap_set h.turn 4 _) rfl rfl rfl
theorem TV.setInn {w:World} {T:Nat} {F:Nat->Prop} {s:Tn} {A:List Am} {M:List Mkt} {va vm ve:Value} (h:TV w T F s A M va vm ve) (n:Int):TV (w.setCell ⟨T,5,none⟩ (.int .i64 n)) T F { s with inn:=n } A M va vm ve:=h.own_set (but_one w ⟨T,5,none⟩ _) (heap_set h.turn 5 _) rfl rfl rfl
theorem TV.setOut {w:World} {T:Nat} {F:Nat->Prop} {s:Tn} {A:List Am} {M:List Mkt} {va vm ve:Value} (h:TV w T F s A M va vm ve) (n:Int):TV (w.setCell ⟨T,6,none⟩ (.int .i64 n)) T F { s with out:=n } A M va vm ve:=h.own_set (but_one w ⟨T,6,none⟩ _) (heap_set h.turn 6 _) rfl rfl rfl
/-- an event more. -/
theorem TV.told {w W1 W2:World} {T:Nat} {F:Nat->Prop} {s:Tn} {A:List Am} {M:List Mkt} {va vm ve:Value} (h:TV w T F s A M va vm ve) (ev:Ev) (hB:Below w.heap.size w W1) {g cap:Nat}
  (ho:W2.ownsRow 0 70 13 (.slice (some ⟨g,0,none⟩) (s.evs.length + 1) cap) (s.evs.length + 1) (flatE s.evs ++ encE ev)) (hgr:W1.grownBy W2 ve.ownBlock) (hat:ve.ownBlock=some g \/ w.heap.size<=g) (hlt:g < W2.heap.size) :
  TV (W2.setCell ⟨T,7,none⟩ (.slice (some ⟨g,0,none⟩) (s.evs.length + 1) cap)) T (fun b=>F b \/ b=g) (s.tell ev) A M va vm (.slice (some ⟨g,0,none⟩) (s.evs.length + 1) cap) /\ But F w (W2.setCell ⟨T,7,none⟩ (.slice (some ⟨g,0,none⟩) (s.evs.length + 1) cap)):=by
 have hT:=h.lt T h.own
 have nA:=own_type h.rowA h.turn (by decide)
 have nM:=own_type h.rowM h.turn (by decide)
 have nE:=own_type h.rowE h.turn (by decide)
 have nAE:=own_types h.rowA h.rowE (by decide)
 have nME:=own_types h.rowM h.rowE (by decide)
 have b1:But (fun b=>some b=ve.ownBlock) w W2:=(But.of_below hB).grown hgr (fun k hk=>.inl hk.symm)
 have b2:But (fun b=>some b=ve.ownBlock \/ b=T) w (W2.setCell ⟨T,7,none⟩ (.slice (some ⟨g,0,none⟩) (s.evs.length + 1) cap)):=(b1.mono (fun k hk=>.inl (.inl hk))).setCell (.inl (.inr rfl)) _
 have t2:W2.heap[T]? = some (.cells (turnC va vm ve s) 90 (0,0)):=by
  rw [b1.block T hT (fun e=>nE T e.symm rfl)]; exact h.turn
 have hgT:¬ g=T:=own_type ho t2 (by decide) g rfl
 have hsub:∀ b,some b=ve.ownBlock \/ b=T->F b:=by
  rintro b (hb | rfl)
  ·exact h.fE b hb.symm
  ·exact h.own
 have hg:F g \/ w.heap.size<=g:=hat.imp (h.fE g) id
 refine ⟨⟨h.accs,h.mkts,.inl h.own,fun b hF=>?_,?_,own_but h.rowA b2 ?_,own_but h.rowM b2 ?_,?_,fun k hk=>.inl (h.fA k hk),fun k hk=>.inl (h.fM k hk),fun k hk=>.inr (by simpa [Value.ownBlock] using hk.symm),fun a ha=>⟨aok_but (h.each a ha).1 b2 (off_mono (h.each a ha).2 hsub),off_row (h.each a ha).1.row (h.each a ha).2 hg⟩,fun m hm=>?_⟩,b2.mono (fun k hk=>.inl (hsub k hk))⟩
 ·rcases hF with f | f
  ·exact Nat.lt_of_lt_of_le (h.lt b f) b2.size
  ·rw [f]
   simpa [World.setCell] using hlt
 ·exact heap_set t2 7 _
 ·rintro k hk (e | e)
  ·exact nAE k hk k e.symm rfl
  ·exact nA k hk e
 ·rintro k hk (e | e)
  ·exact nME k hk k e.symm rfl
  ·exact nM k hk e
 ·have e1:(s.tell ev).evs.length=s.evs.length + 1:=by simp [Tn.tell]
  have e2:flatE (s.tell ev).evs=flatE s.evs ++ encE ev:=by simp [Tn.tell,flatE]
  rw [e1,e2]
  exact own_but ho (but_one W2 ⟨T,7,none⟩ _) (fun k hk=>by simp [Value.ownBlock] at hk; subst hk; exact hgT)
 ·obtain ⟨o1,o2,r1,r2⟩:=h.eachM m hm
  exact ⟨ov_but o1 b2 (off_mono r1 hsub),ov_but o2 b2 (off_mono r2 hsub),off_orow o1.row r1 hg,off_orow o2.row r2 hg⟩
abbrev noEv:Ev:=(0,0,0,0,0,0,noFil)
theorem encE_one (x:Ev):∀ u ∈ encE x,u.oneCell'=true:=by
 intro u hu
 simp [encE,encF] at hu
 rcases hu with rfl | rfl | rfl | rfl | rfl | rfl | rfl | rfl | rfl | rfl | rfl | rfl | rfl <;> rfl
/-- a turn behind a step: another state, wherever its lists are. -/
def Stepped (w:World) (T:Nat) (F L:Nat->Prop) (s:Tn) (w':World):Prop:=∃ G,TA w' T G L s /\ Newer w F G /\ But F w w'
/-- what telling leaves. -/
abbrev Told (w:World) (T:Nat) (F:Nat->Prop) (s:Tn) (A:List Am) (M:List Mkt) (va vm:Value) (ev:Ev) (e:Ending) (w':World):Prop :=
 e=.returned (.tuple #[]) /\ ∃ g cap,TV w' T (fun b=>F b \/ b=g) (s.tell ev) A M va vm (.slice (some ⟨g,0,none⟩) (s.evs.length + 1) cap) /\ (F g \/ w.heap.size<=g) /\ But F w w'
theorem cell_set_far (w:World) (a b:Addr) {v:Value} (h:¬ b.block=a.block):(w.setCell a v).cell? b=w.cell? b:=World.cell?_of_block (Below.heap_setCell w a v b.block h)
set_option maxHeartbeats 4000000 in
set_option maxRecDepth 100000 in
theorem tell_any (T:Nat) (F:Nat->Prop) (s:Tn) (A:List Am) (M:List Mkt) (va vm ve:Value) (ev:Ev) (w:World) (h:TV w T F s A M va vm ve) (hE:s.evs.length<=1000000) :
  Calls Tryz.prog 107 #[turnP T,evV ev] w (Told w T F s A M va vm ev):=by
 have mixed:Tryz.prog.follows .mixedOrders=true:=by kernel_rfl
 obtain ⟨i0,hi,hz0,hz1,hz2⟩:=info_parts (show (Tryz.prog.info? 70).map (fun i=>(i.zero,i.size,i.bytes))=some (some (evV noEv),13,104) by kernel_rfl)
 obtain ⟨x1,x2,x3,x4,x5,x6,y1,y2,y3,y4,y5,y6,y7⟩:=ev; have hT:=h.lt T h.own
 have c7:w.cell? ⟨T,7,none⟩ = some ve:=by rw [h.cell]; rfl
 have f7:w.frozen? ⟨T,7,none⟩ = false:=h.frozen 7; have H:=hide h; have HE:=hide hE; obtain ⟨n,hn⟩:∃ n,n=s.evs.length:=⟨_,rfl⟩
 have RE:Hid (w.ownsRow 0 70 13 ve n (flatE s.evs)):=by rw [hn]; exact h.rowE
 have NE:Hid (¬ ve.ownBlock=some T):=fun e=>own_type h.rowE h.turn (by decide) T e rfl
 clear h hE
 go_enter Tryz.func107,Tryz.ntmps107
 go_wp2_with fail
 have HT:=hide hT; have HN:=hide hn
 have e1:∀ i v,[Value.int .i64 x1,.int .i64 x2,.int .i64 x3,.int .i64 x4,.int .i64 x5,.int .i64 x6,.int .i64 y1,.int .i64 y2,.int .i64 y3,.int .i64 y4,.int .i64 y5,.int .i64 y6,.int .i64 y7][i]? = some v->_:=fun i v hv=>new_cell w #[.int .i64 x1,.int .i64 x2,.int .i64 x3,.int .i64 x4,.int .i64 x5,.int .i64 x6,.int .i64 y1,.int .i64 y2,.int .i64 y3,.int .i64 y4,.int .i64 y5,.int .i64 y6,.int .i64 y7] 70 i v (by simpa using hv)
 obtain ⟨W,hW⟩:∃ W,W=w.alloc (.cells #[.int .i64 x1,.int .i64 x2,.int .i64 x3,.int .i64 x4,.int .i64 x5,.int .i64 x6,.int .i64 y1,.int .i64 y2,.int .i64 y3,.int .i64 y4,.int .i64 y5,.int .i64 y6,.int .i64 y7] 70):=⟨_,rfl⟩; rw [<- hW] at e1 ⊢
 have c7':W.cell? ⟨T,7,none⟩ = some ve:=by rw [hW]; exact cell_old c7 _
 have f7':W.frozen? ⟨T,7,none⟩ = false:=by rw [hW]; exact frozen_old c7 f7 _
 have REW:Hid (W.ownsRow 0 70 13 ve n (flatE s.evs)):=by rw [hW]; exact RE.out.alloc _
 have BW:Hid (Below w.heap.size w W):=by rw [hW]; exact (Below.refl _ w).alloc (Nat.le_refl _) _
 have b0:=e1 0 (.int .i64 x1) rfl; have b1:=e1 1 (.int .i64 x2) rfl; have b2:=e1 2 (.int .i64 x3) rfl; have b3:=e1 3 (.int .i64 x4) rfl; have b4:=e1 4 (.int .i64 x5) rfl; have b5:=e1 5 (.int .i64 x6) rfl; have b6:=e1 6 (.int .i64 y1) rfl; have b7:=e1 7 (.int .i64 y2) rfl; have b8:=e1 8 (.int .i64 y3) rfl; have b9:=e1 9 (.int .i64 y4) rfl; have b10:=e1 10 (.int .i64 y5) rfl; have b11:=e1 11 (.int .i64 y6) rfl; have b12:=e1 12 (.int .i64 y7) rfl
 have hB:w.heap.size < W.heap.size:=by rw [hW]; simp
 have hTW:T < W.heap.size:=by omega
 clear e1 hW hn hT c7 f7 RE; generalize hwB:w.heap.size=B at *; have HS:=hide hwB; clear hwB
 have hTB:¬ T=B:=by have:=HT.out; omega
 have NB:Hid (¬ ve.ownBlock=some B):=fun e=>by
  have:=(H.out.rowE.lt B e).2; have:=HS.out
  omega
 obtain ⟨X,hX⟩:∃ X,X=(W.alloc (.cells #[.int .i64 x1,.int .i64 x2,.int .i64 x3,.int .i64 x4,.int .i64 x5,.int .i64 x6,.int .i64 y1,.int .i64 y2,.int .i64 y3,.int .i64 y4,.int .i64 y5,.int .i64 y6,.int .i64 y7] 70)).drew:=⟨_,rfl⟩
 have REX:Hid (X.ownsRow 0 70 13 ve n (flatE s.evs)):=by rw [hX]; exact (REW.out.alloc _).drew
 have NEWS:Hid (∀ j u,(encE (x1,x2,x3,x4,x5,x6,y1,y2,y3,y4,y5,y6,y7))[j]? = some u->X.cell? ((⟨W.heap.size,0,none⟩:Addr).add j)=some u):=by
  rw [hX]; exact World.news_of_block (cs:=#[.int .i64 x1,.int .i64 x2,.int .i64 x3,.int .i64 x4,.int .i64 x5,.int .i64 x6,.int .i64 y1,.int .i64 y2,.int .i64 y3,.int .i64 y4,.int .i64 y5,.int .i64 y6,.int .i64 y7]) (heap_alloc_new W _)
 have XH:X.heap.size=W.heap.size + 1:=by rw [hX]; simp
 have h63:n + 1<=maxLen:=by have:=HE.out; have:=HN.out; unfold maxLen; omega
 have hby:(n + 1) * 104<=140737488355328:=by have:=HE.out; have:=HN.out; omega
 have CX:Hid (∀ a v,W.cell? a=some v->X.cell? a=some v):=fun a v h=>by rw [hX]; exact cell_old h _
 have FX:Hid (X.frozen? ⟨T,7,none⟩ = false):=by rw [hX]; exact frozen_old c7' f7' _
 have HX:=hide hX; clear hX
 go_region_law ((rw [<- HX.out]; refine step_append_lies _ (by rfl) (.tmp 8) (.tmp 10) 30 (by rfl) 0 70 i0 (evV noEv) 13 104 Tryz.underlying30 hi hz0 hz1 hz2 (by rfl) (by decide) ve n (flatE s.evs) (by rfl) REX.out ⟨W.heap.size,0,none⟩ 1 1 (encE (x1,x2,x3,x4,x5,x6,y1,y2,y3,y4,y5,y6,y7)) (by rfl) (by rfl) NEWS.out (encE_one _) (by decide) h63 hby (Nat.zero_le _) (W.heap.size + 1) XH ?_; intro g cap w1 hown hgrow hat hlt; have f1:=(hgrow.frozen_far ⟨T,7,none⟩ (by simp; omega) (by simp; intro e; exact NE.out e.symm)).trans FX.out; have z1:=(hgrow.cell_far ⟨T,7,none⟩ (by simp; omega) (by simp; intro e; exact NE.out e.symm)).trans (CX.out _ _ c7')))
 all_goals go_wp2
 all_goals go_end0
 all_goals
  have hBX:Below w.heap.size w X:=by
   rw [HS.out,HX.out]
   exact (BW.out.alloc (by omega) _).drew
  rw [HN.out] at hown ⊢
  have TL:=H.out.told (x1,x2,x3,x4,x5,x6,y1,y2,y3,y4,y5,y6,y7) hBX hown hgrow (hat.imp id (fun e=>by have:=HS.out; omega)) hlt
  exact ⟨rfl,g,cap,TL.1,hat.imp (H.out.fE g) (fun e=>by have:=HS.out; omega),TL.2⟩
set_option maxHeartbeats 1000000 in
theorem moved_any (T:Nat) (F:Nat->Prop) (s:Tn) (A:List Am) (M:List Mkt) (va vm ve:Value) (id n:Int) (w:World) (h:TV w T F s A M va vm ve) (hE:s.evs.length<=1000000) :
  Calls Tryz.prog 115 #[turnP T,.int .i64 id,.int .i64 n] w (Told w T F s A M va vm (evMoved id n)):=by
 have TL:=hide (tell_any T F s A M va vm ve (evMoved id n) w h hE); clear h hE
 go_enter Tryz.func115,Tryz.ntmps115
 go_wp2_with fail
 refine TL.out.mono ?_
 rintro e w' ⟨rfl,H⟩
 have HH:=hide H; clear H
 go_wp2
 go_end0
 exact ⟨rfl,HH.out⟩
set_option maxHeartbeats 1000000 in
theorem gone_any (T:Nat) (F:Nat->Prop) (s:Tn) (A:List Am) (M:List Mkt) (va vm ve:Value) (mk n:Int) (o:Odr) (w:World) (h:TV w T F s A M va vm ve) (hE:s.evs.length<=1000000) :
  Calls Tryz.prog 110 #[turnP T,.int .i64 mk,odrV o,.int .i64 n] w (Told w T F s A M va vm (evGone mk (oid o) (oac o) n)):=by
 obtain ⟨a,ac,sd,pr,q⟩:=o; have b1:=(Below.refl w.heap.size w).alloc (Nat.le_refl _) (.cells #[.int .i64 a,.int .i64 ac,.int .i64 sd,.int .i64 pr,.int .i64 q] 27); have TL:=hide (tell_any T F s A M va vm ve (evGone mk a ac n) _ (h.below b1) hE); have B1:=hide b1; clear h hE b1
 go_enter Tryz.func110,Tryz.ntmps110
 go_wp2_with fail
 refine TL.out.mono ?_
 rintro e w' ⟨rfl,g,cap,t1,t2,t3⟩
 have HH:Hid (∃ g cap,TV w' T (fun b=>F b \/ b=g) (s.tell (evGone mk a ac n)) A M va vm (.slice (some ⟨g,0,none⟩) (s.evs.length + 1) cap) /\ (F g \/ w.heap.size<=g) /\ But F w w'):=⟨g,cap,t1,t2.imp id (Nat.le_trans B1.out.size),(But.of_below B1.out).trans t3 (fun _ f=>.inl f)⟩
 clear t1 t2 t3
 go_wp2
 go_end0
 exact ⟨rfl,HH.out⟩
theorem hasMarket_any (T:Nat) (F:Nat->Prop) (s:Tn) (A:List Am) (M:List Mkt) (va vm ve:Value) (mk:Int) (w:World) (h:TV w T F s A M va vm ve) :
  Calls Tryz.prog 113 #[turnP T,.int .i64 mk] w fun e w'=>e=.returned (.bool (hasM s mk)) /\ w'=w:=by
 have c1:w.cell? ⟨T,1,none⟩ = some vm:=by rw [h.cell]; rfl
 have hl:M.length=s.mkts.length:=by rw [<- h.mkts]; simp
 obtain ⟨p,c,rfl⟩:∃ p c,vm=.slice p M.length c:=by
  rcases h.rowM.2 with ⟨rfl,e⟩ | ⟨g,cap,cur,rfl,-⟩
  ·exact ⟨_,_,by rw [e]⟩
  ·exact ⟨_,_,rfl⟩
 unfold hasM; rw [<- hl]; generalize M.length=n at *; clear h hl
 by_cases h1:0<=mk
 ·by_cases h2:mk < n
  ·rw [show decide (0<=mk /\ mk < n)=true by simp [h1,h2]]
   go_enter Tryz.func113,Tryz.ntmps113
   go_wp2
   go_ret
   exact ⟨rfl,rfl⟩
  ·rw [show decide (0<=mk /\ mk < n)=false by simp [h2]]
   go_enter Tryz.func113,Tryz.ntmps113
   go_wp2
   go_ret
   exact ⟨rfl,rfl⟩
 ·rw [show decide (0<=mk /\ mk < n)=false by simp [h1]]
  have h1':mk < 0:=by omega
  go_enter Tryz.func113,Tryz.ntmps113
  go_wp2
  go_ret
  exact ⟨rfl,rfl⟩
/-- a command, as it is handed. -/
abbrev cmV (c:Cm):Value:=.agg #[.int .i64 c.kind,.int .i64 c.ac,.int .i64 c.mkt,.int .i64 c.n,.int .i64 c.o.1,.int .i64 c.o.2.1,.int .i64 c.o.2.2.1,.int .i64 c.o.2.2.2.1,.int .i64 c.o.2.2.2.2,.int .i64 c.how,.bool c.red]
theorem checkPayment_any (c:Cm) (w:World) :
  Calls Tryz.prog 101 #[cmV c] w fun e w'=>e=.returned (.int .i64 (payE c.ac c.n)) /\ Below w.heap.size w w':=by
 obtain ⟨kind,ac,mkt,n,⟨o1,o2,o3,o4,o5⟩,how,red⟩:=c; have B:=hide ((Below.refl w.heap.size w).alloc (Nat.le_refl _) (.cells #[.int .i64 kind,.int .i64 ac,.int .i64 mkt,.int .i64 n,.int .i64 o1,.int .i64 o2,.int .i64 o3,.int .i64 o4,.int .i64 o5,.int .i64 how,.bool red] 29)); unfold payE; dsimp only
 by_cases h1:n < 1
 ·rw [if_pos (.inl h1)]
  go_enter Tryz.func101,Tryz.ntmps101
  go_wp2
  go_ret
  exact ⟨rfl,B.out⟩
 by_cases h2:1000000000000 < n
 ·rw [if_pos (.inr h2)]
  go_enter Tryz.func101,Tryz.ntmps101
  go_wp2
  go_ret
  exact ⟨rfl,B.out⟩
 rw [if_neg (by omega)]
 by_cases h3:ac < 0
 ·rw [if_pos (.inl h3)]
  go_enter Tryz.func101,Tryz.ntmps101
  go_wp2
  go_ret
  exact ⟨rfl,B.out⟩
 by_cases h4:8<=ac
 ·rw [if_pos (.inr h4)]
  go_enter Tryz.func101,Tryz.ntmps101
  go_wp2
  go_ret
  exact ⟨rfl,B.out⟩
 rw [if_neg (by omega)]
 go_enter Tryz.func101,Tryz.ntmps101
 go_wp2
 go_ret
 exact ⟨rfl,B.out⟩
theorem noFee_any (q p:Int) (w:World):Calls Tryz.prog 147 #[.int .i64 q,.int .i64 p] w fun e w'=>e=.returned (.tuple #[.int .i64 0,.int .i64 0]) /\ w'=w:=by
 go_enter Tryz.func147,Tryz.ntmps147
 go_wp2
 refine bodyPost_ret (v:=.tuple #[.int .i64 0,.int .i64 0]) (by simp [results,Tryz.results147,go_sem]) rfl ?_
 exact ⟨rfl,rfl⟩
end Go.Proofs.YtpkbiafhnflmnaaGreatDoor.Vn
