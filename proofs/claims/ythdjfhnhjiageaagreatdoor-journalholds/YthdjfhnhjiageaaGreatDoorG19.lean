import Derived.Test.YthdjfhnhjiageaaGreatDoorG16
import Derived.Laws.CopyOwn
set_option maxHeartbeats 8000000
set_option maxRecDepth 100000
namespace Go.Proofs.YthdjfhnhjiageaaGreatDoor.Ac
open Go.RowKit Num Fix AcP FuP
theorem due_part {x m r:Int}(hx:pos1 x=true)(hm:betw 0 m 10000=true)(hr:betw (-100) r 100=true):partR (x*m) r 10000 true=(divUp (x*m*r) 10000 true,0):=by
 have h1:=worth_bd hx hm;have h2:=due_bd h1 hr;have h3:=betw_true hr;have h4:=up_bd (x*m*r);unfold partR;rw [if_pos ⟨money_mk (by omega),betw_mk (by omega),by decide⟩,if_pos (money_mk (by omega))]
theorem pays_acc (id bal:Int)(p:Option Addr)(n c:Nat)(pos:List Int)(mk mark rate:Int)(w:World)(hl:pos.length=n)(hn:n<=140737488351232)(h:Row w p pos)(he:¬accErr id bal pos n=0) :
  Calls Tryz.prog 173 #[accV id bal p n c,.int .i64 mk,.int .i64 mark,.int .i64 rate] w fun e w'=>e=.returned (.tuple #[.int .i64 0,.int .i64 (accErr id bal pos n)])/\Below w.heap.size w w':=by
 have CK:=hide (fun W hW=>check_any id bal p n c pos n W hl hn (row_below h hW));clear h;generalize accErr id bal pos n=r at he CK ⊢;go_enter Tryz.func173,Tryz.ntmps173;go_wp2_with fail;refine(CK.out _ (below_alloc w _)).mono ?_;rintro e W ⟨rfl,rfl⟩;go_wp2;go_ret2;exact⟨rfl,below_alloc2 _ _ _⟩
theorem pays_early (id bal:Int)(p:Option Addr)(n c:Nat)(pos:List Int)(mk mark rate:Int)(w:World)(hl:pos.length=n)(hn:n<=140737488351232)(h:Row w p pos)(he:accErr id bal pos n=0)(r:Int)
  (hr:(¬(0<=mk/\mk<n)/\r=5)\/((0<=mk/\mk<n)/\¬betw (-100) rate 100=true/\r=3)) :
  Calls Tryz.prog 173 #[accV id bal p n c,.int .i64 mk,.int .i64 mark,.int .i64 rate] w fun e w'=>e=.returned (.tuple #[.int .i64 0,.int .i64 r])/\Below w.heap.size w w':=by
 have CK:=hide (fun W hW=>check_any id bal p n c pos n W hl hn (row_below h hW));rw [he] at CK;clear h he hl;rcases hr with⟨h1,rfl⟩ | ⟨⟨h1,h2⟩,h3,rfl⟩;focus
  by_cases h2:mk<0;rotate_left;focus
   have h3:(n:Int)<=mk:=by omega
  all_goals
   clear h1
 rotate_left 2;focus
  have h4:=betw_false (by simpa using h3);clear h3;by_cases h5:rate < -100;rotate_left;focus
   have h6:100<rate:=by omega
  all_goals
   clear h4
 all_goals
  go_enter Tryz.func173,Tryz.ntmps173;go_wp2_with fail;refine(CK.out _ (below_alloc w _)).mono ?_;rintro e W ⟨rfl,rfl⟩;go_wp2;go_ret2;exact⟨rfl,below_alloc2 _ _ _⟩
theorem pays_mark (id bal:Int)(b off n c:Nat)(pos:List Int)(k:Nat)(mark rate:Int)(w:World)(hl:pos.length=n)(hn:n<=140737488351232)(h:Row w (some ⟨b,off,none⟩) pos)(he:accErr id bal pos n=0)(hk:k<n)(hr:betw (-100) rate 100=true)
  (x:Int) (hc:w.cell? ⟨b,off+k,none⟩=some (.int .i64 x)) (hm:betw 0 mark 10000=false) :
  Calls Tryz.prog 173 #[accV id bal (some ⟨b,off,none⟩) n c,.int .i64 k,.int .i64 mark,.int .i64 rate] w fun e w'=>e=.returned (.tuple #[.int .i64 0,.int .i64 3])/\Below w.heap.size w w':=by
 have CK:=hide (fun W hW=>check_any id bal (some ⟨b,off,none⟩) n c pos n W hl hn (row_below h hW));rw [he] at CK;have H2:∀o1 o2,((w.alloc o1).alloc o2).cell? ⟨b,off+k,none⟩=some (.int .i64 x):=fun o1 o2=>cell_alloc (cell_alloc hc o1) o2;have hkz:(k:Int)<n:=by omega
 obtain⟨r1,r2⟩:=betw_true hr;clear h he hl hc;have WO:=hide (fun W=>worth_no x mark W (.inr hm));clear hm hr;go_enter Tryz.func173,Tryz.ntmps173;go_wp2_with fail;refine(CK.out _ (below_alloc w _)).mono ?_;rintro e W ⟨rfl,rfl⟩;go_wp2_with (go_at_call 165;refine(WO.out _).mono ?_;rintro e w' ⟨rfl,rfl⟩);go_ret2;exact⟨rfl,below_alloc2 _ _ _⟩
theorem pays_done (id bal:Int)(b off n c:Nat)(pos:List Int)(k:Nat)(mark rate:Int)(w:World)(hl:pos.length=n)(hn:n<=140737488351232)(h:Row w (some ⟨b,off,none⟩) pos)(he:accErr id bal pos n=0)(hk:k<n)(hr:betw (-100) rate 100=true)
  (x:Int) (hc:w.cell? ⟨b,off+k,none⟩=some (.int .i64 x)) (hx:pos1 x=true) (hm:betw 0 mark 10000=true) :
  Calls Tryz.prog 173 #[accV id bal (some ⟨b,off,none⟩) n c,.int .i64 k,.int .i64 mark,.int .i64 rate] w fun e w'=>e=.returned (.tuple #[.int .i64 (divUp (x*mark*rate) 10000 true),.int .i64 0])/\Below w.heap.size w w':=by
 have CK:=hide (fun W hW=>check_any id bal (some ⟨b,off,none⟩) n c pos n W hl hn (row_below h hW));rw [he] at CK;have H2:∀o1 o2,((w.alloc o1).alloc o2).cell? ⟨b,off+k,none⟩=some (.int .i64 x):=fun o1 o2=>cell_alloc (cell_alloc hc o1) o2;have hkz:(k:Int)<n:=by omega
 obtain⟨r1,r2⟩:=betw_true hr;clear h he hl hc;have WO:=hide (fun W=>worth_yes x mark W hx hm);have PA:=hide (due_part hx hm hr);clear hm hr hx;generalize x*mark=co at WO PA ⊢;generalize divUp (co*rate) 10000 true=T at PA ⊢;go_enter Tryz.func173,Tryz.ntmps173;go_wp2_with fail;refine(CK.out _ (below_alloc w _)).mono ?_;rintro e W ⟨rfl,rfl⟩;go_wp2_with (go_at_call 165;refine(WO.out _).mono ?_;rintro e w' ⟨rfl,rfl⟩);refine(part_any _ _ _ _ _).mono ?_;rintro e w2 ⟨rfl,kk,rfl⟩;rw [PA.out];go_wp2;go_ret2;exact⟨rfl,Go.below_drewN (below_alloc2 _ _ _) _⟩
theorem pays_any (id bal:Int)(p:Option Addr)(n c:Nat)(pos:List Int)(mk mark rate:Int)(w:World)(hl:pos.length=n)(hn:n<=140737488351232)(h:Row w p pos) :
  Calls Tryz.prog 173 #[accV id bal p n c,.int .i64 mk,.int .i64 mark,.int .i64 rate] w fun e w'=>e=.returned (.tuple #[.int .i64 (paysR id bal pos mk mark rate).1,.int .i64 (paysR id bal pos mk mark rate).2])/\Below w.heap.size w w':=by
 by_cases h1:accErr id bal pos n=0
 ·by_cases h2:0<=mk/\mk<n
  ·by_cases h3:betw (-100) rate 100=true
   ·obtain⟨k,rfl⟩:∃k:Nat,mk=k:=⟨mk.toNat,by omega⟩;have hk:k<n:=by omega
    obtain⟨b,off,rfl,hc⟩:=row_at h (k:=k) (by omega);by_cases h4:betw 0 mark 10000=true
    ·rw [paysR_ok (by rw [hl];exact h1) (by rw [hl];exact h2) h3 h4];exact pays_done id bal b off n c pos k mark rate w hl hn h h1 hk h3 _ hc (all_get (accErr_ok h1).2.2.2.2 (by omega)) h4
    ·rw [paysR_mark (by rw [hl];exact h1) (by rw [hl];exact h2) h3 h4];exact pays_mark id bal b off n c pos k mark rate w hl hn h h1 hk h3 _ hc (by simpa using h4)
   ·rw [paysR_rate (by rw [hl];exact h1) (by rw [hl];exact h2) h3];exact pays_early id bal p n c pos mk mark rate w hl hn h h1 3 (.inr ⟨h2,h3,rfl⟩)
  ·rw [paysR_who (by rw [hl];exact h1) (by rw [hl];exact h2)];exact pays_early id bal p n c pos mk mark rate w hl hn h h1 5 (.inl ⟨h2,rfl⟩)
 ·rw [paysR_acc (by rw [hl];exact h1),hl];exact pays_acc id bal p n c pos mk mark rate w hl hn h h1
structure Am where
 id:Int
 bal:Int
 p:Option Addr
 n:Nat
 c:Nat
 pos:List Int
def Am.acc (a:Am):Acc:=(a.id,a.bal,a.pos)
def encA (a:Am):List Value:=[.int .i64 a.id,.int .i64 a.bal,.slice a.p a.n a.c]
def flatA:List Am->List Value
 |[]=>[]
 |a::l=>encA a++flatA l
theorem flatA_len:∀(l:List Am),(flatA l).length=l.length*3
 |[]=>rfl
 |a::l=>by
  have:=flatA_len l;simp [flatA,encA,this];omega
theorem flatA_one:∀(l:List Am),∀u∈flatA l,u.oneCell'=true
 |[],u,h=>by cases h
 |a::l,u,h=>by
  rcases List.mem_append.1 h with h | h
  ·simp [encA] at h;rcases h with rfl | rfl | rfl<;>rfl
  ·exact flatA_one l u h
theorem flatA_get:∀(l:List Am)(j:Nat)(h:j<l.length)(i:Nat),i<3->(flatA l)[j*3+i]? = (encA (l[j]'h))[i]?
 |a::l,0,_,i,hi=>by
  rw [flatA,Nat.zero_mul,Nat.zero_add,List.getElem?_append_left (by simp [encA];omega)]
  rfl
 |a::l,j+1,h,i,hi=>by
  rw [flatA,List.getElem?_append_right (by simp [encA];omega),show (j+1)*3+i - (encA a).length=j*3+i by simp [encA];omega]
  exact flatA_get l j (by simpa using h) i hi
theorem flatA_set1:∀(l:List Am)(a:Am)(m:List Am)(v:Int),(flatA (l++a::m)).set (l.length*3+1) (.int .i64 v)=flatA (l++{ a with bal:=v }::m)
 |[],a,m,v=>by simp [flatA,encA]
 |b::l,a,m,v=>by
  have:=flatA_set1 l a m v;rw [List.cons_append,flatA,List.cons_append,flatA,<- this,List.set_append,if_neg (by simp [encA];omega)];congr 2;simp [encA];omega
theorem flatA_set2:∀(l:List Am)(a:Am)(m:List Am)(p:Option Addr)(n c:Nat),(flatA (l++a::m)).set (l.length*3+2) (.slice p n c)=flatA (l++{ a with p:=p,n:=n,c:=c }::m)
 |[],a,m,p,n,c=>by simp [flatA,encA]
 |b::l,a,m,p,n,c=>by
  have:=flatA_set2 l a m p n c;rw [List.cons_append,flatA,List.cons_append,flatA,<- this,List.set_append,if_neg (by simp [encA];omega)];congr 2;simp [encA];omega
structure AOk (w:World) (a:Am):Prop where
 len:a.pos.length=a.n
 few:a.n*8<=140737488351232
 nil:a.p=none->a.c=0
 row:Row w a.p a.pos
theorem AOk.below {w w':World}{a:Am}(h:AOk w a)(hb:Below w.heap.size w w'):AOk w' a:=⟨h.len,h.few,h.nil,row_below h.row hb⟩
structure AL (w:World) (p:Option Addr) (l:List Am):Prop where
 row:l=[]\/∃b off,p=some ⟨b,off,none⟩/\∀j u,(flatA l)[j]? = some u->w.cell? ⟨b,off+j,none⟩=some u
 each:∀a,a∈l->AOk w a
theorem AL.below {w w':World}{p:Option Addr}{l:List Am}(h:AL w p l)(hb:Below w.heap.size w w'):AL w' p l:=by
 refine⟨?_,fun a ha=>(h.each a ha).below hb⟩;rcases h.row with h0 | ⟨b,off,rfl,hc⟩
 ·exact .inl h0
 ·exact .inr ⟨b,off,rfl,fun j u hu=>(hb.cell (World.block_lt_of_cell? _ _ (hc j u hu))).trans (hc j u hu)⟩
theorem al_nil (w:World)(p:Option Addr):AL w p []:=⟨.inl rfl,fun _ h=>by cases h⟩
theorem al_cells {w:World}{b off:Nat}{l:List Am}(hc:∀j u,(flatA l)[j]? = some u->w.cell? ⟨b,off+j,none⟩=some u){k:Nat}(hk:k<l.length) :
  w.cell? ⟨b,off+k*3,none⟩=some (.int .i64 (l[k]'hk).id)/\w.cell? ⟨b,off+k*3+1,none⟩=some (.int .i64 (l[k]'hk).bal)/\w.cell? ⟨b,off+k*3+2,none⟩=some (.slice (l[k]'hk).p (l[k]'hk).n (l[k]'hk).c):=by
 have h0:=flatA_get l k hk 0 (by omega);have h1:=flatA_get l k hk 1 (by omega);have h2:=flatA_get l k hk 2 (by omega);exact⟨hc (k*3) _ h0,hc (k*3+1) _ h1,hc (k*3+2) _ h2⟩
end Go.Proofs.YthdjfhnhjiageaaGreatDoor.Ac
namespace Go.Proofs.YthdjfhnhjiageaaGreatDoor.CopyK
open Go.RowKit
theorem run_copy_rowK (P:Program)(w:World)(dT sT ty elem:TypeId)(s:Nat)(g o dLen dCap:Nat)(a:Addr)(sLen sCap:Nat)(cur:Array Value)(t:TypeId)(cs:List Value)
  (hu:P.underlying dT=some (.slice elem)) (hs:(P.info? elem).map (·.size)=some s)
  (hg:w.heap[g]? = some (.cells cur t (0,0))) (hn:cs.length=Nat.min sLen dLen*s)
  (hsrc:∀j v,cs[j]? = some v->w.cell? (a.add j)=some v) (hfit:o+cs.length<=cur.size) (h1:∀v∈cs,v.oneCell'=true) :
  (Builtin.copy_ #[dT,sT] ty #[.slice (some ⟨g,o,none⟩) dLen dCap,.slice (some a) sLen sCap]).run P w =
   .ok (goInt (Nat.min sLen dLen)) (w.setRow g (cur.toList.take o++cs++cur.toList.drop (o+cs.length)).toArray):=by
 have hl:=run_loadCells_list (P:=P) w a cs hsrc;have hst:=run_storeCells_at P g o t cs 0 cur w hg (by simpa using hfit) h1
 cases hq:P.info? elem with
 |none=>simp [hq] at hs
 |some i =>
  have hi:i.size=s:=by simpa [hq] using hs
  simp [Builtin.copy_,run_underlying hu,Builtin.lenOf,Builtin.firstCells,sizeOf,typeInfo,hq,hi,<- hn,hl,hst]
theorem run_copy_noneK (P:Program)(w:World)(dT sT ty elem:TypeId)(s:Nat)(d a:Option Addr)(dLen dCap sLen sCap:Nat)(hu:P.underlying dT=some (.slice elem))(hs:(P.info? elem).map (·.size)=some s)(hn:Nat.min sLen dLen=0) :
  (Builtin.copy_ #[dT,sT] ty #[.slice d dLen dCap,.slice a sLen sCap]).run P w=.ok (goInt 0) w:=by
 cases hq:P.info? elem with
 |none=>simp [hq] at hs
 |some i =>
  have hl:∀(x:Addr),(loadCells x 0).run P w=.ok #[] w:=fun x=>by simpa using run_loadCells_list (P:=P) w x [] (by simp)
  cases d<;>cases a<;>simp [Builtin.copy_,run_underlying hu,Builtin.lenOf,Builtin.firstCells,sizeOf,typeInfo,hq,hn,storeCells,hl]
theorem wpList_copy_all {P:Program}{w:World}{ops:Array Oper}{rest:List Oper}{o:Oper}{a:Act}{Q:Exit->Act->World->Prop}(hgd:o.guard=none)(d s:Operand)(dT sT:TypeId)
  (ho:o.op=.call { callee:=.builtin .copy,args:=#[d,s],argTypes:=#[dT,sT] }) (elem:TypeId) (k:Nat) (hu:P.underlying dT=some (.slice elem)) (hsz:(P.info? elem).map (·.size)=some k)
  (g n dCap sCap:Nat) (sp:Option Addr) (hd:a.eval d=.slice (some ⟨g,0,none⟩) n dCap) (hs:a.eval s=.slice sp n sCap)
  (cur:Array Value) (t:TypeId) (hg:w.heap[g]? = some (.cells cur t (0,0))) (hc:cur.size=n*k) (cs:List Value) (hn:cs.length=n*k)
  (hpos:0<n->∃ad,sp=some ad/\∀j v,cs[j]? = some v->w.cell? (ad.add j)=some v)
  (h1:∀v∈cs,v.oneCell'=true) (B:Nat) (w0:World) (hb:Below B w0 w) (hBg:B<=g)
  (h:∀w',Hid (w'.heap[g]? = some (.cells cs.toArray t (0,0)))->Hid (Below B w0 w')->w'.heap.size=w.heap.size->wpList P ops Q rest (a.put o.dst (goInt n)) w') :
  wpList P ops Q (o::rest) a w:=by
 refine wpList_plain hgd fun K hK=>?_;by_cases h0:n=0
 ·subst h0;have hrun:=run_copy_noneK P w dT sT o.type elem k (some ⟨g,0,none⟩) sp 0 dCap 0 sCap hu hsz (by simp);unfold Oper.wp;simp [execOp,ho,resolve,invoke,builtin,hd,hs,hrun,Result.andThen];refine hK _ _ (h w ?_ hb rfl);show _=_;rw [hg];have e1:cur = #[]:=Array.eq_empty_of_size_eq_zero (by simpa using hc);have e2:cs=[]:=List.eq_nil_of_length_eq_zero (by simpa using hn);rw [e1,e2]
 ·obtain⟨ad,rfl,hsrc⟩:=hpos (by omega);have hrun:=run_copy_rowK P w dT sT o.type elem k g 0 n dCap ad n sCap cur t cs hu hsz hg (by simpa using hn) hsrc (by omega) h1;unfold Oper.wp;simp [execOp,ho,resolve,invoke,builtin,hd,hs,hrun,Result.andThen];refine hK _ _ (h _ ?_ (below_setRow hb hBg _) (by simp [World.setRow]));show _=_;rw [setRow_heap w g _ _ t _ hg];have e:cur.toList.drop cs.length=[]:=List.drop_eq_nil_of_le (by simp;omega);simp [e]
end Go.Proofs.YthdjfhnhjiageaaGreatDoor.CopyK
namespace Go.Proofs.YthdjfhnhjiageaaGreatDoor.Ac
open Go.RowKit Num Fix AcP FuP CopyK
theorem make_accs (k:Nat)(hk:k<=1000):∃cs:Array Value,(∀W:World,(Instr.makeSlice 48 (.int .i64 (k:Int)) (.int .i64 (k:Int))).run Tryz.prog W=.ok (.slice (some ⟨W.heap.size,0,none⟩) k k) (W.alloc (.cells cs 89)))/\cs.size=k*3:=by
 obtain⟨i0,hi,hz0,hz1,hz2⟩:=info_parts (show (Tryz.prog.info? 89).map (fun i=>(i.zero,i.size,i.bytes))=some (some noA,3,40) by kernel_rfl);refine⟨madeCells noA.cells (k*3),fun W=>?_,size_madeCells _ _⟩;have:=run_makeSlice W 48 89 i0 noA Tryz.underlying48 hi hz0 .i64 .i64 k k (by omega) (Int.le_refl _) (by rw [hz1];simp;omega) (by rw [hz2];omega) (by omega);rw [hz1] at this;simpa only [Int.toNat_natCast] using this
theorem out_cell {w:World}{g:Nat}{xs:List Value}{t:TypeId}(h:w.heap[g]? = some (.cells xs.toArray t (0,0)))(j:Nat):w.cell? ⟨g,j,none⟩=xs[j]?/\w.frozen? ⟨g,j,none⟩=false:=by
 constructor
 ·simp [World.cell?,h]
 ·simp [World.frozen?,h]
theorem out_set {w:World}{g:Nat}{xs:List Value}{t:TypeId}(h:w.heap[g]? = some (.cells xs.toArray t (0,0)))(j:Nat)(v:Value):(w.setCell ⟨g,j,none⟩ v).heap[g]? = some (.cells (xs.set j v).toArray t (0,0)):=by
 simp [World.setCell,Array.getElem?_modify,h]
theorem row_other {w:World}{p:Option Addr}{xs:List Int}(h:Row w p xs){a:Addr}(ha:∀x,p=some x->¬x.block=a.block)(v:Value):Row (w.setCell a v) p xs:=by
 rcases h with h | ⟨b,off,rfl,hc⟩
 ·exact .inl h
 ·refine .inr ⟨b,off,rfl,fun i hi=>?_⟩;rw [<- hc i hi];have:=ha _ rfl;simp only at this;simp [World.cell?,World.setCell,Array.getElem?_modify,show ¬a.block=b by omega]
def settleR (L:List Acc) (mk mark rate:Int):List Acc × Int × Int :=
 if 8<L.length then ([],0,2) else if setE mk mark rate L=0 then (L.map (setA mk mark rate),setL mk mark rate L,0) else ([],0,setE mk mark rate L)
structure SInv (mk mark rate:Int) (L D:List Am) (k:Nat) (s:Int) (w wr:World):Prop where
 len:D.length=k
 acc:D.map Am.acc=(L.take k).map (fun a=>setA mk mark rate a.acc)
 sum:s=setL mk mark rate ((L.take k).map Am.acc)
 heap:wr.heap[w.heap.size]? = some (.cells (flatA (D++L.drop k)).toArray 89 (0,0))
 below:Below w.heap.size w wr
 each:∀a,a∈D->AOk wr a/\∃x,a.p=some x/\w.heap.size<x.block
 err:setE mk mark rate (L.map Am.acc)=setE mk mark rate ((L.drop k).map Am.acc)
theorem add_two {bal pd:Int}(h1:money bal=true)(h2:-100000<=pd/\pd<=100000):addFrom 0 [bal,-pd]=if money (bal - pd)=true then (bal - pd,0) else (0,7):=by
 rw [addFrom_on h1 (by rw [Int.zero_add];exact h1),Int.zero_add]
 cases h:money (bal - pd)
 ·rw [addFrom_full (money_mk (by omega)) (by rw [<- Int.sub_eq_add_neg];exact h)];rfl
 ·rw [addFrom_on (money_mk (by omega)) (by rw [<- Int.sub_eq_add_neg];exact h),<- Int.sub_eq_add_neg];rfl
theorem drop_at {α:Type}{l:List α}{k:Nat}(h:k<l.length):l.drop k=l[k]::l.drop (k+1):=List.drop_eq_getElem_cons h
theorem take_at {α:Type}{l:List α}{k:Nat}(h:k<l.length):l.take (k+1)=l.take k++[l[k]]:=List.take_succ_eq_append_getElem h
theorem settle_err {L:List Acc}{mk mark rate:Int}(h:L.length<=8)(he:¬setE mk mark rate L=0):settleR L mk mark rate=([],0,setE mk mark rate L):=by
 unfold settleR;rw [if_neg (by omega),if_neg he]
theorem settle_ok {L:List Acc}{mk mark rate:Int}(h:L.length<=8)(he:setE mk mark rate L=0):settleR L mk mark rate=(L.map (setA mk mark rate),setL mk mark rate L,0):=by
 unfold settleR;rw [if_neg (by omega),if_pos he]
theorem SInv.bd {mk mark rate:Int}{L D:List Am}{k:Nat}{s:Int}{w wr:World}(h:SInv mk mark rate L D k s w wr)(hk:k<=8):-800000<=s/\s<=800000:=by
 have:=setL_bd (mk:=mk) (mark:=mark) (rate:=rate) ((L.take k).map Am.acc);rw [<- h.sum] at this;have h2:(((L.take k).map Am.acc).length:Int)<=8:=by simp;omega
 omega
theorem SInv.start {mk mark rate:Int}{L:List Am}{w wr:World}(hg:wr.heap[w.heap.size]? = some (.cells (flatA L).toArray 89 (0,0)))(hb:Below w.heap.size w wr):SInv mk mark rate L [] 0 0 w wr :=
 ⟨rfl,rfl,rfl,hg,hb,(fun _ h=>by cases h),rfl⟩
theorem SInv.next {mk mark rate:Int}{L D:List Am}{k:Nat}{s:Int}{w wr wn:World}(h:SInv mk mark rate L D k s w wr)(hk:k<L.length)(a:Am)(ha:a=L[k])(pd:Int)(hp:payA mk mark rate a.acc=(pd,0))(hm:money (a.bal - pd)=true)
  (x:Addr) (c:Nat) (hx:w.heap.size<x.block) (hc:AOk wn ⟨a.id,a.bal - pd,some x,a.n,c,a.pos⟩)
  (hg:wn.heap[w.heap.size]? = some (.cells (flatA (D++⟨a.id,a.bal - pd,some x,a.n,c,a.pos⟩::L.drop (k+1))).toArray 89 (0,0))) (hb:Below w.heap.size w wn)
  (hd:∀a,a∈D->AOk wn a):SInv mk mark rate L (D++[⟨a.id,a.bal - pd,some x,a.n,c,a.pos⟩]) (k+1) (s+pd) w wn:=by
 subst ha;refine⟨by simp [h.len],?_,?_,?_,hb,?_,?_⟩
 ·rw [List.map_append,h.acc,take_at hk,List.map_append];simp only [List.map_cons,List.map_nil];rw [show setA mk mark rate L[k].acc=(L[k].id,L[k].bal - pd,L[k].pos) from by unfold setA;rw [hp];rfl];rfl
 ·rw [take_at hk,List.map_append,h.sum];simp only [List.map_cons,List.map_nil];rw [setL_snoc,hp]
 ·rw [List.append_assoc];exact hg
 ·intro y hy;rcases List.mem_append.1 hy with hy | hy
  ·exact⟨hd y hy,(h.each y hy).2⟩
  ·simp at hy;subst hy;exact⟨hc,x,rfl,hx⟩
 ·rw [h.err,drop_at hk,List.map_cons,setE_on (by rw [hp]) (by rw [hp];exact hm)]
theorem mid_cells {D R:List Am}{a:Am}{k:Nat}(hk:D.length=k):(flatA (D++a::R))[k*3+1]? = some (.int .i64 a.bal)/\(flatA (D++a::R))[k*3+2]? = some (.slice a.p a.n a.c):=by
 subst hk;have h:D.length<(D++a::R).length:=by simp
 have e:(D++a::R)[D.length]'h=a:=by simp
 have h1:=flatA_get (D++a::R) D.length h 1 (by omega);have h2:=flatA_get (D++a::R) D.length h 2 (by omega);rw [e] at h1 h2;exact⟨h1,h2⟩
theorem aok_set {w:World}{a:Am}{g:Nat}(h:AOk w a)(hx:∃x,a.p=some x/\g<x.block)(j:Nat)(v:Value):AOk (w.setCell ⟨g,j,none⟩ v) a:=by
 obtain⟨x,hp,hg⟩:=hx;refine⟨h.len,h.few,h.nil,row_other h.row (fun y hy=>?_) v⟩;rw [hp] at hy;cases hy;simp only
 omega
theorem below_set {B g:Nat}{w x:World}(h:Below B w x)(hg:B<=g)(j:Nat)(v:Value):Below B w (x.setCell ⟨g,j,none⟩ v):=h.setCell hg v
end Go.Proofs.YthdjfhnhjiageaaGreatDoor.Ac
