import Derived.Test.YthdjfhnhjiageaaGreatDoorG40
set_option maxHeartbeats 8000000
set_option maxRecDepth 100000
namespace Go.Proofs.YthdjfhnhjiageaaGreatDoor.Vn
open Go.RowKit Num Fix AcP FuP Bk Rm Ac Go.Sort Go.Maps Mix RkP
theorem eqI_any (p p2:Option Addr)(n c c2:Nat)(xs ys:List Int)(w:World)(hl:xs.length=n)(hl2:ys.length=n)(hn:n<=140737488351232)(h:Row w p xs)(h':Row w p2 ys) :
  Calls Tryz.prog 67 #[.slice p n c,.slice p2 n c2] w fun e w'=>e=.returned (.bool (decide (xs=ys)))/\∃q,w'=w.drewN q:=by
 rcases h with rfl | ⟨b,off,rfl,hc⟩
 ·have h0:n=0:=by simpa using hl.symm
  subst h0;obtain rfl:ys=[]:=List.eq_nil_of_length_eq_zero hl2;refine(Tryz.slices_Equal_int_empty _ _ _ _ _ _ (by omega)).mono ?_;rintro e w' ⟨rfl,rfl⟩;exact⟨rfl,0,rfl⟩
 ·rcases h' with rfl | ⟨b2,off2,rfl,hc2⟩
  ·have h0:n=0:=by simpa using hl2.symm
   subst h0;obtain rfl:xs=[]:=List.eq_nil_of_length_eq_zero hl;refine(Tryz.slices_Equal_int_empty _ _ _ _ _ _ (by omega)).mono ?_;rintro e w' ⟨rfl,rfl⟩;exact⟨rfl,0,rfl⟩
  ·refine(Tryz.slices_Equal_int b off n c b2 off2 n c2 xs ys w (by omega) (by omega) (by omega) (by omega) hc hc2).mono ?_;rintro e w' ⟨rfl,q,rfl⟩;refine⟨?_,q,rfl⟩;rw [List.take_of_length_le (by omega),List.take_of_length_le (by omega)];by_cases e:xs=ys
   ·simp [e]
   ·simp [e]
def accEq (id bal:Int) (pos:List Int) (id2 bal2:Int) (pos2:List Int):Bool:=decide (id=id2)&&(decide (bal=bal2)&&decide (pos=pos2))
theorem drewN_below {w x:World}{B:Nat}(h:Below B w x)(q:Nat):Below B w (x.drewN q):=⟨h.os,h.tape,h.output,h.size,h.block⟩
theorem accSame_any (id bal:Int)(p:Option Addr)(n c:Nat)(pos:List Int)(id2 bal2:Int)(p2:Option Addr)(c2:Nat)(pos2:List Int)(w:World)(hl:pos.length=n)(hl2:pos2.length=n)(hn:n<=140737488351232)(h:Row w p pos)(h2:Row w p2 pos2) :
  Calls Tryz.prog 42 #[accV id bal p n c,accV id2 bal2 p2 n c2] w fun e w'=>e=.returned (.bool (accEq id bal pos id2 bal2 pos2))/\Below w.heap.size w w':=by
 by_cases e1:id=id2
 ·subst e1;by_cases e2:bal=bal2
  ·subst e2;have EQ:=hide (fun W hW=>eqI_any p p2 n c c2 pos pos2 W hl hl2 hn (row_below h hW) (row_below h2 hW));rw [show accEq id bal pos id bal pos2=decide (pos=pos2) from by simp [accEq]];generalize decide (pos=pos2)=r at EQ ⊢;clear h h2 hl hl2;go_enter Tryz.func42,Tryz.ntmps42;go_wp2_with (go_at_call 67;refine(EQ.out _ (below_alloc2 _ _ _)).mono ?_;rintro e w' ⟨rfl,qq,hw'⟩;rw [hw'];clear hw');go_ret;exact⟨rfl,drewN_below (below_alloc2 _ _ _) _⟩
  ·rw [show accEq id bal pos id bal2 pos2=false from by simp [accEq,e2]];have e3:(bal == bal2)=false:=by simp [e2]
   clear h h2 hl hl2;go_enter Tryz.func42,Tryz.ntmps42;go_wp2;go_ret;exact⟨rfl,below_alloc2 _ _ _⟩
 ·rw [show accEq id bal pos id2 bal2 pos2=false from by simp [accEq,e1]];have e3:(id == id2)=false:=by simp [e1]
  clear h h2 hl hl2;go_enter Tryz.func42,Tryz.ntmps42;go_wp2;go_ret;exact⟨rfl,below_alloc2 _ _ _⟩
theorem same_acc {w:World}{a b:Am}(ha:AOk w a)(hb:AOk w b)(h:a.acc=b.acc):Calls Tryz.prog 42 #[accV a.id a.bal a.p a.n a.c,accV b.id b.bal b.p b.n b.c] w fun e w'=>e=.returned (.bool true)/\Below w.heap.size w w':=by
 simp only [Am.acc,Prod.mk.injEq] at h;have hn:a.n=b.n:=by rw [<- ha.len,<- hb.len,h.2.2]
 have:=accSame_any a.id a.bal a.p a.n a.c a.pos b.id b.bal b.p b.c b.pos w ha.len (by rw [hn];exact hb.len) (by have:=ha.few;omega) ha.row hb.row;rw [hn] at this ⊢;have e:accEq a.id a.bal a.pos b.id b.bal b.pos=true:=by rw [h.1,h.2.1,h.2.2];simp [accEq]
 rw [e] at this;exact this
theorem mbook_same {w:World}{a b:Mkt}(ha:MOk w a)(hb:MOk w b)(h:mpOf a=mpOf b):Calls Tryz.prog 68 #[.agg #[.slice a.1.1 (mB a).length a.1.2.1,.slice a.2.1.1 (mA a).length a.2.1.2.1],.agg #[.slice b.1.1 (mB b).length b.1.2.1,.slice b.2.1.1 (mA b).length b.2.1.2.1]] w fun e w'=>e=.returned (.bool true)/\Below w.heap.size w w':=by
 have:=Bk.same_any a.1.1 a.2.1.1 b.1.1 b.2.1.1 a.1.2.1 a.2.1.2.1 b.1.2.1 b.2.1.2.1 (mB a) (mA a) (mB b) (mA b) w ha.b ha.a hb.b hb.a ha.nb ha.na hb.nb hb.na;have e1:mB a=mB b:=congrArg (·.1) h;have e2:mA a=mA b:=congrArg (·.2.1) h;rw [decide_eq_true ⟨e1,e2⟩] at this;exact this
theorem eqA_any (p q:Option Addr)(n c c2:Nat)(A D:List Am)(w:World)(hA:A.length=n)(hD:D.length=n)(hn:n<=1000000)(h1:ARow w p A)(h2:ARow w q D)(k1:∀a,a∈A->AOk w a)(k2:∀a,a∈D->AOk w a)(he:A.map Am.acc=D.map Am.acc) :
  Calls Tryz.prog 41 #[.slice p n c,.slice q n c2,fnV 42] w fun e w'=>e=.returned (.bool true)/\Below w.heap.size w w':=by
 have SM:Hid (∀(k:Nat) (hk:k<A.length) (hk':k<D.length) (Y:World),Below w.heap.size w Y->Calls Tryz.prog 42 #[accV (A[k]'hk).id (A[k]'hk).bal (A[k]'hk).p (A[k]'hk).n (A[k]'hk).c,accV (D[k]'hk').id (D[k]'hk').bal (D[k]'hk').p (D[k]'hk').n (D[k]'hk').c] Y fun e w'=>e=.returned (.bool true)/\Below Y.heap.size Y w'):=fun k hk hk' Y hY=>by
  refine same_acc ((k1 _ (List.getElem_mem hk)).below hY) ((k2 _ (List.getElem_mem hk')).below hY) ?_;have:=congrArg (fun l=>l[k]?) he;simpa [hk,hk'] using this
 have HA:=hide hA;have HD:=hide hD;have R1:=hide h1;have R2:=hide h2;clear hA hD h1 h2 k1 k2 he;go_enter Tryz.func41,Tryz.ntmps41;go_wp2_with fail
 go_loopw [17] (fun i wr=>∃(k:Nat),k<=n/\i=.int .i64 k/\Hid (Below w.heap.size w wr)) (fun i _=>n - (intOf i).toNat)
 case atStart=>exact⟨0,Nat.zero_le _,rfl,Below.refl _ _⟩
 case round =>
  obtain⟨k,hk,rfl,I⟩:=hrel;by_cases hlt:k<n
  ·have hltz:(k:Int)<(n:Int):=by omega
   have hkA:k<A.length:=by rw [HA.out];exact hlt
   have hkD:k<D.length:=by rw [HD.out];exact hlt
   obtain⟨b,off,rfl,hc⟩:∃b off,p=some ⟨b,off,none⟩/\∀j u,(A.flatMap encA)[j]? = some u->wr.cell? ⟨b,off+j,none⟩=some u:=by
    rcases arow_below R1.out I.out with e | e
    ·rw [e] at hkA;simp at hkA
    ·exact e
   obtain⟨b2,off2,rfl,hc2⟩:∃b off,q=some ⟨b,off,none⟩/\∀j u,(D.flatMap encA)[j]? = some u->wr.cell? ⟨b,off+j,none⟩=some u:=by
    rcases arow_below R2.out I.out with e | e
    ·rw [e] at hkD;simp at hkD
    ·exact e
   obtain⟨x0,x1,x2⟩:=arow_cells hc hkA;obtain⟨y0,y1,y2⟩:=arow_cells hc2 hkD;have y0':=fun o=>cell_old y0 o;have y1':=fun o=>cell_old y1 o;have y2':=fun o=>cell_old y2 o;have CK:=hide (fun Y hY=>SM.out k hkA hkD Y hY);generalize (A[k]'hkA).id=i1 at *;generalize (A[k]'hkA).bal=i2 at *;generalize (A[k]'hkA).p=i3 at *;generalize (A[k]'hkA).n=i4 at *;generalize (A[k]'hkA).c=i5 at *;generalize (D[k]'hkD).id=j1 at *;generalize (D[k]'hkD).bal=j2 at *;generalize (D[k]'hkD).p=j3 at *;generalize (D[k]'hkD).n=j4 at *;generalize (D[k]'hkD).c=j5 at *;clear hc hc2 y0 y1 y2 SM R1 R2;go_wp2_with fail;refine(CK.out _ (I.out.trans ((below_alloc2 wr _ _).mono I.out.size))).mono ?_;rintro e w1 ⟨rfl,hb1⟩;have B1:=hide (I.out.trans (((below_alloc2 wr _ _).trans (hb1.mono (by simp;omega))).mono I.out.size));go_wp2;go_roundw
   case rel=>exact⟨k+1,by omega,by go_num,B1⟩
   case measure=>simp [intOf];omega
  ·obtain rfl:k=n:=by omega
   go_wp2;go_ret;exact⟨rfl,I.out⟩
theorem sameMarket_any (a b:Mkt)(w:World)(ha:MOk w a)(hb:MOk w b)(h:mpOf a=mpOf b) :
  Calls Tryz.prog 44 #[.agg #[.slice a.1.1 (mB a).length a.1.2.1,.slice a.2.1.1 (mA a).length a.2.1.2.1,.int .i64 (mI a),.int .i64 (mL a)],.agg #[.slice b.1.1 (mB b).length b.1.2.1,.slice b.2.1.1 (mA b).length b.2.1.2.1,.int .i64 (mI b),.int .i64 (mL b)]] w fun e w'=>e=.returned (.bool true)/\Below w.heap.size w w':=by
 have BS:=hide (fun Y (hY:Below w.heap.size w Y)=>mbook_same (ha.below hY) (hb.below hY) h);have e3:mI a=mI b:=congrArg (·.2.2.1) h;have e4:mL a=mL b:=congrArg (·.2.2.2) h;rw [e3,e4];generalize a.1.1=i1 at *;generalize a.1.2.1=i2 at *;generalize a.2.1.1=i3 at *;generalize a.2.1.2.1=i4 at *;generalize (mB a).length=i5 at *;generalize (mA a).length=i6 at *;generalize b.1.1=j1 at *;generalize b.1.2.1=j2 at *;generalize b.2.1.1=j3 at *;generalize b.2.1.2.1=j4 at *;generalize (mB b).length=j5 at *;generalize (mA b).length=j6 at *;generalize mI b=j7 at *;generalize mL b=j8 at *;clear e3 e4 ha hb h;go_enter Tryz.func44,Tryz.ntmps44;go_wp2_with fail;refine(BS.out _ (below_alloc2 w _ _)).mono ?_;rintro e Y ⟨rfl,hbY⟩;have x1:Y.cell? ⟨w.heap.size,2,none⟩=some (.int .i64 j7):=(hbY.cell (by simp;omega)).trans (cell_old (new_cell w _ _ 2 _ rfl) _);have x2:Y.cell? ⟨w.heap.size,3,none⟩=some (.int .i64 j8):=(hbY.cell (by simp;omega)).trans (cell_old (new_cell w _ _ 3 _ rfl) _);have x3:Y.cell? ⟨w.heap.size+1,2,none⟩=some (.int .i64 j7):=(hbY.cell (by simp)).trans (by
  have:=new_cell (w.alloc (Obj.cells #[Value.slice i1 i5 i2,Value.slice i3 i6 i4,Value.int IntKind.i64 j7,Value.int IntKind.i64 j8] 96)) #[Value.slice j1 j5 j2,Value.slice j3 j6 j4,Value.int IntKind.i64 j7,Value.int IntKind.i64 j8] 96 2 _ rfl;rw [World.size_alloc] at this;exact this)
 have x4:Y.cell? ⟨w.heap.size+1,3,none⟩=some (.int .i64 j8):=(hbY.cell (by simp)).trans (by
  have:=new_cell (w.alloc (Obj.cells #[Value.slice i1 i5 i2,Value.slice i3 i6 i4,Value.int IntKind.i64 j7,Value.int IntKind.i64 j8] 96)) #[Value.slice j1 j5 j2,Value.slice j3 j6 j4,Value.int IntKind.i64 j7,Value.int IntKind.i64 j8] 96 3 _ rfl;rw [World.size_alloc] at this;exact this)
 have BY:=hide ((below_alloc2 w _ _).trans (hbY.mono (by simp;omega)));clear hbY BS;go_wp2;go_ret;exact⟨rfl,BY.out⟩
theorem eqM_any (p q:Option Addr)(n c c2:Nat)(A D:List Mkt)(w:World)(hA:A.length=n)(hD:D.length=n)(hn:n<=1000000)(h1:MRow w p A)(h2:MRow w q D)(k1:∀a,a∈A->MOk w a)(k2:∀a,a∈D->MOk w a)(he:A.map mpOf=D.map mpOf) :
  Calls Tryz.prog 43 #[.slice p n c,.slice q n c2,fnV 44] w fun e w'=>e=.returned (.bool true)/\Below w.heap.size w w':=by
 have SM:Hid (∀(k:Nat) (hk:k<A.length) (hk':k<D.length) (Y:World),Below w.heap.size w Y->Calls Tryz.prog 44 #[.agg #[.slice (A[k]'hk).1.1 (mB (A[k]'hk)).length (A[k]'hk).1.2.1,.slice (A[k]'hk).2.1.1 (mA (A[k]'hk)).length (A[k]'hk).2.1.2.1,.int .i64 (mI (A[k]'hk)),.int .i64 (mL (A[k]'hk))],.agg #[.slice (D[k]'hk').1.1 (mB (D[k]'hk')).length (D[k]'hk').1.2.1,.slice (D[k]'hk').2.1.1 (mA (D[k]'hk')).length (D[k]'hk').2.1.2.1,.int .i64 (mI (D[k]'hk')),.int .i64 (mL (D[k]'hk'))]] Y fun e w'=>e=.returned (.bool true)/\Below Y.heap.size Y w'):=fun k hk hk' Y hY=>by
  refine sameMarket_any _ _ Y ((k1 _ (List.getElem_mem hk)).below hY) ((k2 _ (List.getElem_mem hk')).below hY) ?_;have:=congrArg (fun l=>l[k]?) he;simpa [hk,hk'] using this
 have HA:=hide hA;have HD:=hide hD;have R1:=hide h1;have R2:=hide h2;clear hA hD h1 h2 k1 k2 he;go_enter Tryz.func43,Tryz.ntmps43;go_wp2_with fail
 go_loopw [17] (fun i wr=>∃(k:Nat),k<=n/\i=.int .i64 k/\Hid (Below w.heap.size w wr)) (fun i _=>n - (intOf i).toNat)
 case atStart=>exact⟨0,Nat.zero_le _,rfl,Below.refl _ _⟩
 case round =>
  obtain⟨k,hk,rfl,I⟩:=hrel;by_cases hlt:k<n
  ·have hltz:(k:Int)<(n:Int):=by omega
   have hkA:k<A.length:=by rw [HA.out];exact hlt
   have hkD:k<D.length:=by rw [HD.out];exact hlt
   obtain⟨b,off,rfl,hc⟩:∃b off,p=some ⟨b,off,none⟩/\∀j u,(flatM A)[j]? = some u->wr.cell? ⟨b,off+j,none⟩=some u:=by
    rcases mrow_below R1.out I.out with e | e
    ·rw [e] at hkA;simp at hkA
    ·exact e
   obtain⟨b2,off2,rfl,hc2⟩:∃b off,q=some ⟨b,off,none⟩/\∀j u,(flatM D)[j]? = some u->wr.cell? ⟨b,off+j,none⟩=some u:=by
    rcases mrow_below R2.out I.out with e | e
    ·rw [e] at hkD;simp at hkD
    ·exact e
   obtain⟨x0,x1,x2,x3⟩:=mrow_cells hc hkA;obtain⟨y0,y1,y2,y3⟩:=mrow_cells hc2 hkD;have y0':=fun o=>cell_old y0 o;have y1':=fun o=>cell_old y1 o;have y2':=fun o=>cell_old y2 o;have y3':=fun o=>cell_old y3 o;have CK:=hide (fun Y hY=>SM.out k hkA hkD Y hY);generalize (A[k]'hkA).1.1=i1 at *;generalize (A[k]'hkA).1.2.1=i2 at *;generalize (A[k]'hkA).2.1.1=i3 at *;generalize (A[k]'hkA).2.1.2.1=i4 at *;generalize mI (A[k]'hkA)=i5 at *;generalize mL (A[k]'hkA)=i6 at *;generalize (mB (A[k]'hkA)).length=i7 at *;generalize (mA (A[k]'hkA)).length=i8 at *;generalize (D[k]'hkD).1.1=j1 at *;generalize (D[k]'hkD).1.2.1=j2 at *;generalize (D[k]'hkD).2.1.1=j3 at *;generalize (D[k]'hkD).2.1.2.1=j4 at *;generalize mI (D[k]'hkD)=j5 at *;generalize mL (D[k]'hkD)=j6 at *;generalize (mB (D[k]'hkD)).length=j7 at *;generalize (mA (D[k]'hkD)).length=j8 at *;clear hc hc2 y0 y1 y2 y3 SM R1 R2;go_wp2_with fail;refine(CK.out _ (I.out.trans ((below_alloc2 wr _ _).mono I.out.size))).mono ?_;rintro e w1 ⟨rfl,hb1⟩;have B1:=hide (I.out.trans (((below_alloc2 wr _ _).trans (hb1.mono (by simp;omega))).mono I.out.size));go_wp2;go_roundw
   case rel=>exact⟨k+1,by omega,by go_num,B1⟩
   case measure=>simp [intOf];omega
  ·obtain rfl:k=n:=by omega
   go_wp2;go_ret;exact⟨rfl,I.out⟩
theorem few_vin {w:World}{A:List Am}{M:List Mkt}{s:Tn}{p p':Option Addr}(h:VRead w p p' A M s):A.length=s.accs.length/\M.length=s.mkts.length:=by
 refine⟨?_,?_⟩
 ·rw [<- h.accs];simp
 ·rw [<- h.mkts];simp
theorem venue_same (v u:Value)(s t:Tn)(w:World)(h:VIn w v s)(k:VIn w u t)(hA:s.accs=t.accs)(hM:s.mkts=t.mkts)(h1:s.ins=t.ins)(h2:s.res=t.res)(h3:s.next=t.next)(h4:s.inn=t.inn)(h5:s.out=t.out)(fa:s.accs.length<=1000000)(fm:s.mkts.length<=1000000) :
  Calls Tryz.prog 22 #[v,u] w fun e w'=>e=.returned (.bool true)/\Below w.heap.size w w':=by
 obtain⟨p,p',c,c',A,M,rfl,-,-,vr,-⟩:=h;obtain⟨q,q',d,d',D,N,rfl,-,-,vs,-⟩:=k;obtain⟨l1,l2⟩:=few_vin vr;obtain⟨l3,l4⟩:=few_vin vs;obtain⟨n,hn⟩:∃n,n=A.length:=⟨_,rfl⟩;obtain⟨m,hm⟩:∃m,m=M.length:=⟨_,rfl⟩;have hD:D.length=n:=by rw [hn,l1,l3,hA]
 have hN:N.length=m:=by rw [hm,l2,l4,hM]
 have EA:=hide (fun Y (hY:Below w.heap.size w Y)=>eqA_any p q n c d A D Y hn.symm hD (by omega) (arow_below vr.rowA hY) (arow_below vs.rowA hY) (fun a ha=>(vr.eachA a ha).below hY) (fun a ha=>(vs.eachA a ha).below hY) (by rw [vr.accs,vs.accs,hA]));have EM:=hide (fun Y (hY:Below w.heap.size w Y)=>eqM_any p' q' m c' d' M N Y hm.symm hN (by omega) (mrow_below vr.rowM hY) (mrow_below vs.rowM hY) (fun a ha=>(vr.eachM a ha).below hY) (fun a ha=>(vs.eachM a ha).below hY) (by rw [vr.mkts,vs.mkts,hM]));unfold venV;rw [<- hn,<- hm,hD,hN,h1,h2,h3,h4,h5];obtain⟨W,hW⟩:∃W,W=(w.alloc (.cells #[.slice p n c,.slice p' m c',.int .i64 t.ins,.int .i64 t.res,.int .i64 t.next,.int .i64 t.inn,.int .i64 t.out] 51)).alloc (.cells #[.slice q n d,.slice q' m d',.int .i64 t.ins,.int .i64 t.res,.int .i64 t.next,.int .i64 t.inn,.int .i64 t.out] 51):=⟨_,rfl⟩;have b0:Below w.heap.size w W:=by rw [hW];exact((Below.refl _ w).alloc (Nat.le_refl _) _).alloc (by simp) _
 have E0:Hid (W.heap[w.heap.size]? = some (venO (.slice p n c) (.slice p' m c') t)):=by
  show W.heap[w.heap.size]? = _;rw [hW];exact blk_below (heap_alloc_new w _) (Ac.below_alloc _ _)
 have E1:Hid (W.heap[w.heap.size+1]? = some (venO (.slice q n d) (.slice q' m d') t)):=by
  show W.heap[w.heap.size+1]? = _;rw [hW];have hx:(w.alloc (.cells #[.slice p n c,.slice p' m c',.int .i64 t.ins,.int .i64 t.res,.int .i64 t.next,.int .i64 t.inn,.int .i64 t.out] 51)).heap.size=w.heap.size+1:=by simp
  have:=heap_alloc_new (w.alloc (.cells #[.slice p n c,.slice p' m c',.int .i64 t.ins,.int .i64 t.res,.int .i64 t.next,.int .i64 t.inn,.int .i64 t.out] 51)) (.cells #[.slice q n d,.slice q' m d',.int .i64 t.ins,.int .i64 t.res,.int .i64 t.next,.int .i64 t.inn,.int .i64 t.out] 51);rw [hx] at this;exact this
 have HW:=hide hW;have BW:=hide b0;generalize t.ins=i1 at *;generalize t.res=i2 at *;generalize t.next=i3 at *;generalize t.inn=i4 at *;generalize t.out=i5 at *;clear hW b0 vr vs hA hM h1 h2 h3 h4 h5 fa fm l1 l2 l3 l4 hD hN hn hm;have a0:=(blk_cell E0.out 0).1;have b0:=(blk_cell E1.out 0).1;have a1:=(blk_cell E0.out 1).1;have b1:=(blk_cell E1.out 1).1;have a2:=(blk_cell E0.out 2).1;have b2:=(blk_cell E1.out 2).1;have a3:=(blk_cell E0.out 3).1;have b3:=(blk_cell E1.out 3).1;have a4:=(blk_cell E0.out 4).1;have b4:=(blk_cell E1.out 4).1;have a5:=(blk_cell E0.out 5).1;have b5:=(blk_cell E1.out 5).1;have a6:=(blk_cell E0.out 6).1;have b6:=(blk_cell E1.out 6).1;simp only [List.getElem?_toArray,List.getElem?_cons_zero,List.getElem?_cons_succ] at a0 b0 a1 b1 a2 b2 a3 b3 a4 b4 a5 b5 a6 b6;go_enter Tryz.func22,Tryz.ntmps22;go_wp2_with (rw [<- HW.out]);refine(EA.out W BW.out).mono ?_;rintro e X ⟨rfl,hbX⟩;have X0:=hide (blk_below E0.out hbX);have X1:=hide (blk_below E1.out hbX);have BX:=hide (BW.out.trans (hbX.mono BW.out.size));clear EA HW E0 E1 BW hbX a0 b0 a1 b1 a2 b2 a3 b3 a4 b4 a5 b5 a6 b6;have a0:=(blk_cell X0.out 0).1;have b0:=(blk_cell X1.out 0).1;have a1:=(blk_cell X0.out 1).1;have b1:=(blk_cell X1.out 1).1;have a2:=(blk_cell X0.out 2).1;have b2:=(blk_cell X1.out 2).1;have a3:=(blk_cell X0.out 3).1;have b3:=(blk_cell X1.out 3).1;have a4:=(blk_cell X0.out 4).1;have b4:=(blk_cell X1.out 4).1;have a5:=(blk_cell X0.out 5).1;have b5:=(blk_cell X1.out 5).1;have a6:=(blk_cell X0.out 6).1;have b6:=(blk_cell X1.out 6).1;simp only [List.getElem?_toArray,List.getElem?_cons_zero,List.getElem?_cons_succ] at a0 b0 a1 b1 a2 b2 a3 b3 a4 b4 a5 b5 a6 b6;go_wp2_with fail;refine(EM.out X BX.out).mono ?_;rintro e Y ⟨rfl,hbY⟩;have Y0:=hide (blk_below X0.out hbY);have Y1:=hide (blk_below X1.out hbY);have BY:=hide (BX.out.trans (hbY.mono BX.out.size));clear EM X0 X1 BX hbY a0 b0 a1 b1 a2 b2 a3 b3 a4 b4 a5 b5 a6 b6;have a0:=(blk_cell Y0.out 0).1;have b0:=(blk_cell Y1.out 0).1;have a1:=(blk_cell Y0.out 1).1;have b1:=(blk_cell Y1.out 1).1;have a2:=(blk_cell Y0.out 2).1;have b2:=(blk_cell Y1.out 2).1;have a3:=(blk_cell Y0.out 3).1;have b3:=(blk_cell Y1.out 3).1;have a4:=(blk_cell Y0.out 4).1;have b4:=(blk_cell Y1.out 4).1;have a5:=(blk_cell Y0.out 5).1;have b5:=(blk_cell Y1.out 5).1;have a6:=(blk_cell Y0.out 6).1;have b6:=(blk_cell Y1.out 6).1;simp only [List.getElem?_toArray,List.getElem?_cons_zero,List.getElem?_cons_succ] at a0 b0 a1 b1 a2 b2 a3 b3 a4 b4 a5 b5 a6 b6;clear Y0 Y1;go_wp2;go_ret;exact⟨rfl,BY.out⟩
end Go.Proofs.YthdjfhnhjiageaaGreatDoor.Vn
namespace Go.Proofs
open Go.Shelf
def Tryz.equalV_ren:Go.Shelf.Ren:=⟨fun | 8=>25 | n=>n,fun | 22=>59 | 24=>64 | 4=>4 | 3=>3 | 0=>0 | n=>n,fun | n=>n⟩
theorem Tryz.equalV:Go.Proofs.SlLaysQ.n8 Tryz.prog Tryz.equalV_ren:=by
 constructor
 case f8=>exact⟨Tryz.f25.name,by decide,Tryz.func25.trans (congrArg some (by kernel_rfl))⟩
 repeat first | kernel_rfl | (intros;kernel_rfl) | constructor
end Go.Proofs
namespace Go.Proofs.YthdjfhnhjiageaaGreatDoor.Vn
open Go.RowKit Go.Lib Num Fix AcP FuP Bk Rm Ac Go.Sort Go.Maps Mix RkP
theorem eqFl (a1 a2 a3 a4 a5 a6 a7 b1 b2 b3 b4 b5 b6 b7:Int)(w:World):Sem.run Tryz.prog (Op.equalIn 9999 62 (.agg #[.int .i64 a1,.int .i64 a2,.int .i64 a3,.int .i64 a4,.int .i64 a5,.int .i64 a6,.int .i64 a7]) (.agg #[.int .i64 b1,.int .i64 b2,.int .i64 b3,.int .i64 b4,.int .i64 b5,.int .i64 b6,.int .i64 b7])) w=.ok (a1 == b1&&a2 == b2&&a3 == b3&&a4 == b4&&a5 == b5&&a6 == b6&&a7 == b7) w:=by
 have u3:=Tryz.underlying3;have ag:=Tryz.isAgg3;have z3:=Tryz.sizeOf3;have hS2:Tryz.prog.underlying 62=some (.struct (Tryz.prog.fieldsOf 62)):=by kernel_rfl
 have hp2:Tryz.prog.stoodInHeld 62=false:=by kernel_rfl
 rw [show (9999:Nat)=9998+1 from rfl,run_equalIn_agg w 9998 62 _ _ hS2 hp2];simp only [Program.fieldsOf,Tryz.underlying62];clear hS2 hp2;cases h1:(a1 == b1)
 ·go_simp
 cases h2:(a2 == b2)
 ·go_simp
 cases h3:(a3 == b3)
 ·go_simp
 cases h4:(a4 == b4)
 ·go_simp
 cases h5:(a5 == b5)
 ·go_simp
 cases h6:(a6 == b6)
 ·go_simp
 cases h7:(a7 == b7)
 ·go_simp
 go_simp
def evEq (x y:Ev):Bool:=x.1 == y.1&&x.2.1 == y.2.1&&x.2.2.1 == y.2.2.1&&x.2.2.2.1 == y.2.2.2.1&&x.2.2.2.2.1 == y.2.2.2.2.1&&x.2.2.2.2.2.1 == y.2.2.2.2.2.1&&(x.2.2.2.2.2.2.1 == y.2.2.2.2.2.2.1&&x.2.2.2.2.2.2.2.1 == y.2.2.2.2.2.2.2.1&&x.2.2.2.2.2.2.2.2.1 == y.2.2.2.2.2.2.2.2.1&&x.2.2.2.2.2.2.2.2.2.1 == y.2.2.2.2.2.2.2.2.2.1&&x.2.2.2.2.2.2.2.2.2.2.1 == y.2.2.2.2.2.2.2.2.2.2.1&&x.2.2.2.2.2.2.2.2.2.2.2.1 == y.2.2.2.2.2.2.2.2.2.2.2.1&&x.2.2.2.2.2.2.2.2.2.2.2.2 == y.2.2.2.2.2.2.2.2.2.2.2.2)
theorem neqE:NeqAt Tryz.prog 64 (fun x=>.agg (encE x).toArray) evEq:=by
 refine⟨fun x y w=>?_,GuardAt.agg _ (by kernel_rfl)⟩;have u3:=Tryz.underlying3;have ag:=Tryz.isAgg3;have z3:=Tryz.sizeOf3;have u3':=Tryz.underlying29;have ag':=Tryz.isAgg29;have z3':=Tryz.sizeOf29;have ao:=Tryz.isAgg62;have zo:=Tryz.sizeOf62;have hS:Tryz.prog.underlying 64=some (.struct (Tryz.prog.fieldsOf 64)):=by kernel_rfl
 have hp:Tryz.prog.stoodInHeld 64=false:=by kernel_rfl
 obtain⟨a1,a2,a3,a4,a5,a6,a7,a8,a9,a10,a11,a12,a13⟩:=x;obtain⟨b1,b2,b3,b4,b5,b6,b7,b8,b9,b10,b11,b12,b13⟩:=y;have eo:=eqFl a7 a8 a9 a10 a11 a12 a13 b7 b8 b9 b10 b11 b12 b13;simp only [evEq];simp only [encE,encF,List.cons_append,List.nil_append];rw [run_neq_struct,show (10000:Nat)=9999+1 from rfl,run_equalIn_agg w 9999 64 _ _ hS hp];simp only [Program.fieldsOf,Tryz.underlying64];clear hS hp;generalize (a7 == b7&&a8 == b8&&a9 == b9&&a10 == b10&&a11 == b11&&a12 == b12&&a13 == b13)=q at *;cases h1:(a1 == b1)
 ·go_simp
 cases h2:(a2 == b2)
 ·go_simp
 cases h3:(a3 == b3)
 ·go_simp
 cases h4:(a4 == b4)
 ·go_simp
 cases h5:(a5 == b5)
 ·go_simp
 cases h6:(a6 == b6)
 ·go_simp
 cases q<;>go_simp
theorem allEqE:∀xs:List Ev,Lib.allEq evEq xs xs=true
 |[]=>by simp [Lib.allEq]
 |x::xs=>by simp [Lib.allEq,allEqE xs,evEq]
theorem equalE_none (p p':Option Addr)(c c':Nat)(w:World) :
  Calls Tryz.prog 25 #[.slice p 0 c,.slice p' 0 c'] w fun e w'=>e=.returned (.bool true)/\∃k,w'=w.drewN k:=by
 go_enter Tryz.func25,Tryz.ntmps25;go_wp2;refine wp_loop_rounds 1 ?_;rw [rounds_succ];go_wp2;go_ret;exact⟨rfl,0,rfl⟩
theorem equalE_same (x y:Value)(K:List Ev)(G G':Nat->Prop)(w:World)(h:EIn G w x K)(h':EIn G' w y K) :
  Calls Tryz.prog 25 #[x,y] w fun e w'=>e=.returned (.bool true)/\Below w.heap.size w w':=by
 have hb:∀k,Below w.heap.size w (w.drewN k):=fun k=>drewN_below (Below.refl _ w) k;by_cases hx:K=[]
 ·subst hx;obtain⟨p,c,rfl,-⟩:=h;obtain⟨p',c',rfl,-⟩:=h';exact(equalE_none p p' c c' w).mono fun _ _ ⟨he,k,hk⟩=>⟨he,hk▸hb k⟩
 ·have hl:=List.length_pos_iff.2 hx;obtain⟨p,c,rfl,-,hm,hr,-⟩:=h;obtain⟨p',c',rfl,-,-,hr',-⟩:=h';obtain⟨b,off,rfl,hc⟩:∃b off,p=some ⟨b,off,none⟩/\∀j u,(flatE K)[j]? = some u->w.cell? ⟨b,off+j,none⟩=some u:=by
   rcases hr with e | e
   ·exact absurd e hx
   ·exact e
  obtain⟨b',off',rfl,hc'⟩:∃b off,p'=some ⟨b,off,none⟩/\∀j u,(flatE K)[j]? = some u->w.cell? ⟨b,off+j,none⟩=some u:=by
   rcases hr' with e | e
   ·exact absurd e hx
   ·exact e
  have cell:∀(b off:Nat),(∀j u,(flatE K)[j]? = some u->w.cell? ⟨b,off+j,none⟩=some u)->∀j,j<K.length->∀i v,(encE K[j]!)[i]? = some v->w.cell? ⟨b,off+j*13+i,none⟩=some v:=fun b off hc j hj i v hv=>by
   have hi:i<13:=(List.getElem?_eq_some_iff.1 hv).1;rw [getElem!_pos K j hj] at hv;rw [Nat.add_assoc];exact hc _ v ((flat_get encE_len K j hj i hi).trans hv)
  have hcon:=AnyQ.slices_Equal Tryz.equalV 13 Tryz.isAgg64 Tryz.sizeOf64 encE encE_len evEq neqE b off K.length c b' off' K.length c' K K w (Nat.le_refl _) (Nat.le_refl _) (by unfold maxLen at hm;omega) (by unfold maxLen at hm;omega) (cell b off hc) (cell b' off' hc');rw [List.take_length,allEqE] at hcon;exact hcon.mono fun _ _ ⟨he,k,hk⟩=>⟨he,hk▸hb k⟩
theorem partsEq_any (x y:Value)(K:List Ev)(G G':Nat->Prop)(w:World)(h:EIn G w x K)(h':EIn G' w y K) :
  Calls Tryz.prog 24 #[x,y] w fun e w'=>e=.returned (.bool true)/\Below w.heap.size w w':=by
 have EQ:=hide (equalE_same x y K G G' w h h');clear h h';go_enter Tryz.func24,Tryz.ntmps24;go_wp2_with fail;refine EQ.out.mono ?_;rintro e w' ⟨rfl,hb⟩;go_wp2;go_ret;exact⟨rfl,hb⟩
def LRow (w:World) (p:Option Addr) (L:List (List Ev)):Prop:=L=[]\/∃b off,p=some ⟨b,off,none⟩/\∀i (hi:i<L.length),∃x,w.cell? ⟨b,off+i,none⟩=some x/\EIn (fun _=>False) w x (L[i]'hi)
theorem EIn.below {w w':World}{x:Value}{K:List Ev}(h:EIn (fun _=>False) w x K)(hb:Below w.heap.size w w'):EIn (fun _=>False) w' x K:=h.but (F:=fun _=>False) (.of_below hb) (fun _ f=>f)
theorem EEv.at {B:Nat}{w:World}{v:Value}{L:List (List Ev)}(h:EEv B w v L)(hL:0<L.length):∃g cap,v=.slice (some ⟨g,0,none⟩) L.length cap/\∀i (hi:i<L.length),∃x,w.cell? ⟨g,i,none⟩=some x/\EIn (fun b=>b<B) w x (L[i]'hi):=by
 obtain⟨E,h1,h2⟩:=h;have h1':=h1;have hE:E.length=L.length:=by have:=h1.1;omega
 rcases h1.2 with⟨rfl,e⟩ | ⟨g,cap,cur,rfl,hb,hg,hn,hm,hs,ht⟩
 ·omega
 ·refine⟨g,cap,rfl,fun i hi=>?_⟩;refine⟨E[i]'(by omega),?_,(h2 i hi _ (List.getElem?_eq_getElem (by omega))).mono (fun b f=>.inl f)⟩;rw [h1'.cellAt i (by omega)];exact List.getElem?_eq_getElem (by omega)
theorem EEv.lrow {B:Nat}{w:World}{v:Value}{L:List (List Ev)}(h:EEv B w v L):∃p c,v=.slice p L.length c/\LRow w p L/\(p=none->c=0):=by
 by_cases hL:L=[]
 ·subst hL;obtain⟨E,h1,-⟩:=h;rcases h1.2 with⟨rfl,-⟩ | ⟨g,cap,cur,rfl,-⟩
  ·exact⟨none,0,rfl,.inl rfl,fun _=>rfl⟩
  ·exact⟨_,_,rfl,.inl rfl,fun e=>by cases e⟩
 ·obtain⟨g,cap,rfl,hc⟩:=h.at (List.length_pos_iff.2 hL);refine⟨_,_,rfl,.inr ⟨g,0,rfl,fun i hi=>?_⟩,fun e=>by cases e⟩;obtain⟨x,h1,h2⟩:=hc i hi;exact⟨x,by rw [Nat.zero_add];exact h1,h2.mono (fun _ f=>f.elim)⟩
theorem equalL_same (p p':Option Addr)(n c c':Nat)(L:List (List Ev))(w:World)(hl:L.length=n)(hn:n<=1000000)(h:LRow w p L)(h':LRow w p' L) :
  Calls Tryz.prog 23 #[.slice p n c,.slice p' n c',fnV 24] w fun e w'=>e=.returned (.bool true)/\Below w.heap.size w w':=by
 have eg:∀args w,(callFunc 24 args).run Tryz.prog w=.ok (.enter 24 args) w:=enters_of Tryz.func24 (by kernel_rfl) rfl;have H:=hide h;have H':=hide h';have HL:=hide hl;clear h h' hl;go_enter Tryz.func23,Tryz.ntmps23;go_wp2
 go_loopw [17] (fun i wr=>∃k:Nat,k<=n/\i=.int .i64 k/\Hid (Below w.heap.size w wr)) (fun i _=>n - (intOf i).toNat)
 case atStart=>exact⟨0,Nat.zero_le _,rfl,Below.refl _ _⟩
 case round =>
  obtain⟨k,hk,rfl,BW⟩:=hrel;by_cases hlt:k<n
  ·have hltz:(k:Int)<(n:Int):=by omega
   have hkx:k<L.length:=by rw [HL.out];exact hlt
   obtain⟨b,off,rfl,hc⟩:∃b off,p=some ⟨b,off,none⟩/\∀i (hi:i<L.length),∃x,w.cell? ⟨b,off+i,none⟩=some x/\EIn (fun _=>False) w x (L[i]'hi):=by
    rcases H.out with e | e
    ·rw [e] at hkx;simp at hkx
    ·exact e
   obtain⟨b',off',rfl,hc'⟩:∃b off,p'=some ⟨b,off,none⟩/\∀i (hi:i<L.length),∃x,w.cell? ⟨b,off+i,none⟩=some x/\EIn (fun _=>False) w x (L[i]'hi):=by
    rcases H'.out with e | e
    ·rw [e] at hkx;simp at hkx
    ·exact e
   obtain⟨x,x1,x2⟩:=hc k hkx;obtain⟨y,y1,y2⟩:=hc' k hkx;have X1:=(BW.out.cell (World.block_lt_of_cell? _ _ x1)).trans x1;have Y1:=(BW.out.cell (World.block_lt_of_cell? _ _ y1)).trans y1;have hcall:=partsEq_any x y _ _ _ wr (x2.below BW.out) (y2.below BW.out);clear hc hc' x1 x2 y1 y2;go_wp2_with (go_at_fn 24;refine hcall.mono ?_;rintro e w' ⟨rfl,hb'⟩);go_roundw
   case rel=>exact⟨k+1,by omega,by go_num,BW.out.trans (hb'.mono BW.out.size)⟩
   case measure=>simp [intOf];omega
  ·have hk':k=n:=by omega
   subst hk';go_wp2;go_ret;exact⟨rfl,BW.out⟩
end Go.Proofs.YthdjfhnhjiageaaGreatDoor.Vn
