import Derived.Test.YthdjfhnhjiageaaGreatDoorG30
namespace Go.Proofs.YthdjfhnhjiageaaGreatDoor.Vn
open Go.RowKit Num Fix AcP FuP Bk Rm Ac Go.Sort Go.Maps Mix RkP
theorem own_pos {w:World}{B g cap k:Nat}{C:List Am}(h:w.ownsRow B 89 3 (.slice (some ⟨g,0,none⟩) C.length cap) C.length (C.flatMap encA))(hk:k<C.length)(p:Option Addr)(n c:Nat) :
  (w.setCell ⟨g,k*3+2,none⟩ (.slice p n c)).ownsRow B 89 3 (.slice (some ⟨g,0,none⟩) C.length cap) C.length ((C.set k { (C[k]'hk) with p:=p,n:=n,c:=c }).flatMap encA):=by
 have hst:=(h.stored (k*3+2) (.slice p n c)).1;rw [flat_set encA_len C k hk 2 { (C[k]'hk) with p:=p,n:=n,c:=c } (.slice p n c) (by omega) rfl] at hst;exact hst
theorem own_bk {w:World}{B g cap k:Nat}{M:List Mkt}(h:w.ownsRow B 96 4 (.slice (some ⟨g,0,none⟩) M.length cap) M.length (flatM M))(hk:k<M.length)(p p':Option Addr)(c c':Nat)(b a:List Odr) :
  ((w.setCell ⟨g,k*4,none⟩ (.slice p b.length c)).setCell ⟨g,k*4+1,none⟩ (.slice p' a.length c')).ownsRow B 96 4 (.slice (some ⟨g,0,none⟩) M.length cap) M.length (flatM (M.set k ((p,c,b),(p',c',a),mI (M[k]'hk),mL (M[k]'hk)))):=by
 have s1:=(h.stored (k*4+0) (.slice p b.length c)).1;rw [flat_set mCells_len M k hk 0 ((p,c,b),(M[k]'hk).2.1,mI (M[k]'hk),mL (M[k]'hk)) (.slice p b.length c) (by omega) rfl] at s1;have hk1:k<(M.set k ((p,c,b),(M[k]'hk).2.1,mI (M[k]'hk),mL (M[k]'hk))).length:=by simpa using hk
 have s2:=(s1.stored (k*4+1) (.slice p' a.length c')).1;rw [flat_set mCells_len _ k hk1 1 ((p,c,b),(p',c',a),mI (M[k]'hk),mL (M[k]'hk)) (.slice p' a.length c') (by omega) (by simp [mCells])] at s2;simp only [List.set_set,Nat.add_zero] at s2;exact s2
theorem own_mrow {w:World}{B:Nat}{v:Value}{M:List Mkt}(h:w.ownsRow B 96 4 v M.length (flatM M)):∃p c,v=.slice p M.length c/\MRow w p M/\(p=none->c=0):=by
 have h':=h;rcases h.2 with⟨rfl,e⟩ | ⟨g,cap,cur,rfl,hb,hg,hn,hm,hs,ht⟩
 ·exact⟨none,0,by rw [e],.inl (List.eq_nil_of_length_eq_zero e),fun _=>rfl⟩
 ·refine⟨_,_,rfl,.inr ⟨g,0,rfl,fun j u hu=>?_⟩,(fun e=>by cases e)⟩;have hj:j<M.length*4:=by
   have:=(List.getElem?_eq_some_iff.1 hu).1;rw [flat_len mCells_len] at this;exact this
  rw [Nat.zero_add,h'.cellAt j hj];exact hu
def ERow (w:World) (p:Option Addr) (L:List Ev):Prop:=L=[]\/∃b off,p=some ⟨b,off,none⟩/\∀j u,(flatE L)[j]? = some u->w.cell? ⟨b,off+j,none⟩=some u
theorem arow_but {F:Nat->Prop}{w w':World}{p:Option Addr}{l:List Am}(h:ARow w p l)(hb:But F w w')(hp:Off F p l):ARow w' p l:=by
 rcases h with h | ⟨b,off,rfl,hc⟩
 ·exact .inl h
 ·rcases hp with hp | hp
  ·exact .inl hp
  ·exact .inr ⟨b,off,rfl,fun j u hu=>hb.cell (p:=⟨b,off+j,none⟩) (hp ⟨b,off,none⟩ rfl) (hc j u hu)⟩
theorem mrow_but {F:Nat->Prop}{w w':World}{p:Option Addr}{l:List Mkt}(h:MRow w p l)(hb:But F w w')(hp:Off F p l):MRow w' p l:=by
 rcases h with h | ⟨b,off,rfl,hc⟩
 ·exact .inl h
 ·rcases hp with hp | hp
  ·exact .inl hp
  ·exact .inr ⟨b,off,rfl,fun j u hu=>hb.cell (p:=⟨b,off+j,none⟩) (hp ⟨b,off,none⟩ rfl) (hc j u hu)⟩
theorem erow_but {F:Nat->Prop}{w w':World}{p:Option Addr}{l:List Ev}(h:ERow w p l)(hb:But F w w')(hp:Off F p l):ERow w' p l:=by
 rcases h with h | ⟨b,off,rfl,hc⟩
 ·exact .inl h
 ·rcases hp with hp | hp
  ·exact .inl hp
  ·exact .inr ⟨b,off,rfl,fun j u hu=>hb.cell (p:=⟨b,off+j,none⟩) (hp ⟨b,off,none⟩ rfl) (hc j u hu)⟩
def ENew (B:Nat) (w:World) (v:Value) (L:List Ev):Prop:=∃p c,v=.slice p L.length c/\(p=none->c=0)/\L.length<=maxLen/\ERow w p L/\Off (fun b=>b<B) p L
theorem own_enew {w:World}{B C:Nat}{v:Value}{L:List Ev}(h:w.ownsRow C 64 13 v L.length (flatE L))(hB:∀b,v.ownBlock=some b->B<=b):ENew B w v L:=by
 have h':=h;rcases h.2 with⟨rfl,e⟩ | ⟨g,cap,cur,rfl,hb,hg,hn,hm,hs,ht⟩
 ·exact⟨none,0,by rw [e],fun _=>rfl,by omega,.inl (List.eq_nil_of_length_eq_zero e),.inr fun x hx=>by cases hx⟩
 ·refine⟨_,_,rfl,(fun e=>by cases e),by omega,.inr ⟨g,0,rfl,fun j u hu=>?_⟩,.inr fun x hx l=>?_⟩
  ·have hj:j<L.length*13:=by
    have:=(List.getElem?_eq_some_iff.1 hu).1;rw [flat_len encE_len] at this;exact this
   rw [Nat.zero_add,h'.cellAt j hj];exact hu
  ·cases hx
   have:=hB g rfl;simp only at l;omega
theorem enew_nil (B:Nat)(w:World):ENew B w (.slice none 0 0) []:=⟨none,0,rfl,fun _=>rfl,Nat.zero_le _,.inl rfl,.inl rfl⟩
def VNew (B:Nat) (w:World) (v:Value) (s:Tn):Prop:=∃(p p':Option Addr) (c c':Nat) (A:List Am) (M:List Mkt),v=venV (.slice p A.length c) (.slice p' M.length c') s/\(p=none->c=0)/\(p'=none->c'=0)/\VRead w p p' A M s/\(∀m,m∈M->OV w m.1.1 m.1.2.1 (mB m)/\OV w m.2.1.1 m.2.1.2.1 (mA m)) /\
 Off (fun b=>b<B) p A/\Off (fun b=>b<B) p' M/\Rows (fun b=>b<B) A M
abbrev VIn (w:World) (v:Value) (s:Tn):Prop:=VNew 0 w v s
theorem VNew.but {B:Nat}{w w':World}{v:Value}{s:Tn}{G:Nat->Prop}(h:VNew B w v s)(hb:But G w w')(hG:∀b,G b->b<B):VNew B w' v s:=by
 obtain⟨p,p',c,c',A,M,e,h1,h2,h3,h4,h5,h6,h7⟩:=h;refine⟨p,p',c,c',A,M,e,h1,h2,⟨h3.accs,h3.mkts,h3.na,h3.nm,arow_but h3.rowA hb (off_mono h5 hG),mrow_but h3.rowM hb (off_mono h6 hG),fun a ha=>aok_but (h3.eachA a ha) hb (off_mono (h7.a a ha) hG),fun m hm=>?_⟩,fun m hm=>?_,h5,h6,h7⟩
 ·have:=h3.eachM m hm;exact⟨orow_but this.b hb (off_mono (h7.m m hm).1 hG),orow_but this.a hb (off_mono (h7.m m hm).2 hG),this.nb,this.na⟩
 ·exact⟨ov_but (h4 m hm).1 hb (off_mono (h7.m m hm).1 hG),ov_but (h4 m hm).2 hb (off_mono (h7.m m hm).2 hG)⟩
theorem VNew.below {B:Nat}{w w':World}{v:Value}{s:Tn}(h:VNew B w v s)(hb:Below w.heap.size w w'):VNew B w' v s:=h.but (G:=fun _=>False) (.of_below hb) (fun _ f=>f.elim)
theorem VNew.mono {B B':Nat}{w:World}{v:Value}{s:Tn}(h:VNew B w v s)(hB:B'<=B):VNew B' w v s:=by
 obtain⟨p,p',c,c',A,M,e,h1,h2,h3,h4,h5,h6,h7⟩:=h;have hh:∀b,b<B'->b<B:=fun b h=>Nat.lt_of_lt_of_le h hB;exact⟨p,p',c,c',A,M,e,h1,h2,h3,h4,off_mono h5 hh,off_mono h6 hh,⟨fun a ha=>off_mono (h7.a a ha) hh,fun m hm=>⟨off_mono (h7.m m hm).1 hh,off_mono (h7.m m hm).2 hh⟩⟩⟩
theorem VRead.evs {w:World}{p p':Option Addr}{A:List Am}{M:List Mkt}{s t:Tn}(h:VRead w p p' A M s)(h1:t.accs=s.accs)(h2:t.mkts=s.mkts):VRead w p p' A M t :=
 ⟨by rw [h1];exact h.accs,by rw [h2];exact h.mkts,h.na,h.nm,h.rowA,h.rowM,h.eachA,h.eachM⟩
theorem VNew.evs {B:Nat}{w:World}{v:Value}{s:Tn}(h:VNew B w v s)(L:List Ev):VNew B w v { s with evs:=L }:=by
 obtain⟨p,p',c,c',A,M,e,h1,h2,h3,h4⟩:=h;exact⟨p,p',c,c',A,M,e,h1,h2,h3.evs rfl rfl,h4⟩
theorem vnew_none (B:Nat)(w:World):VNew B w (venV (.slice none 0 0) (.slice none 0 0) noTn) noTn :=
 ⟨none,none,0,0,[],[],rfl,fun _=>rfl,fun _=>rfl,⟨rfl,rfl,Nat.zero_le _,Nat.zero_le _,.inl rfl,.inl rfl,(fun _ h=>by cases h),(fun _ h=>by cases h)⟩,(fun _ h=>by cases h),.inl rfl,.inl rfl,⟨(fun _ h=>by cases h),(fun _ h=>by cases h)⟩⟩
theorem few_of {A:List Am}{M:List Mkt}{s:Tn}(h1:A.map Am.acc=s.accs)(h2:M.map mpOf=s.mkts)(hs:Str s):A.length<=8/\M.length<=2/\(∀a,a∈A->a.pos.length<=2)/\∀m,m∈M->(mB m).length<=40/\(mA m).length<=40:=by
 have e1:A.length=s.accs.length:=by rw [<- h1];simp
 have e2:M.length=s.mkts.length:=by rw [<- h2];simp
 refine⟨by rw [e1];have:=hs.few;omega,by rw [e2];exact hs.m2,fun a ha=>?_,fun m hm=>?_⟩
 ·have:=acc_len (hs.acc a.acc (by rw [<- h1];exact List.mem_map_of_mem ha));have h3:=hs.m2;have h4:a.acc.2.2=a.pos:=rfl;rw [h4] at this;omega
 ·have hmem:mpOf m∈s.mkts:=by rw [<- h2];exact List.mem_map_of_mem hm
  have hR:=bookErr_zero.1 (marketErr_ok (hs.mkt _ hmem)).1;exact book_few hR
theorem own_off {α:Type}{w:World}{B C:Nat}{t:TypeId}{z n cc:Nat}{p:Option Addr}{xs:List Value}(_h:w.ownsRow C t z (.slice p n cc) n xs)(hB:∀b,(Value.slice p n cc).ownBlock=some b->B<=b)(l:List α):Off (fun b=>b<B) p l:=.inr fun x hx e=>by
 have:=hB x.block (by rw [hx];rfl);omega
theorem TV.vnew {w:World}{T:Nat}{F:Nat->Prop}{s:Tn}{A:List Am}{M:List Mkt}{va vm ve:Value}(h:TV w T F s A M va vm ve)(hs:Str s){B:Nat}(hF:∀b,F b->B<=b)(hR:Rows (fun b=>b<B) A M):VNew B w (venV va vm s) s:=by
 obtain⟨f1,f2,f3,f4⟩:=few_of h.accs h.mkts hs;have fA:=fun b hb=>hF b (h.fA b hb);have fM:=fun b hb=>hF b (h.fM b hb);have rA:=h.rowA;have rM:=h.rowM;obtain⟨p,c,rfl,hr,-,h0,-⟩:=own_arow h.rowA;obtain⟨p',c',rfl,hr',h0'⟩:=own_mrow h.rowM;refine⟨p,p',c,c',A,M,rfl,h0,h0',⟨h.accs,h.mkts,by omega,by omega,hr,hr',fun a ha=>(h.each a ha).1,fun m hm=>?_⟩,fun m hm=>⟨(h.eachM m hm).1,(h.eachM m hm).2.1⟩,own_off rA fA A,own_off rM fM M,hR⟩;obtain⟨o1,o2,-,-⟩:=h.eachM m hm;have:=f4 m hm;exact⟨o1.row,o2.row,by omega,by omega⟩
theorem TV.enew {w:World}{T:Nat}{F:Nat->Prop}{s:Tn}{A:List Am}{M:List Mkt}{va vm ve:Value}(h:TV w T F s A M va vm ve){B:Nat}(hF:∀b,F b->B<=b):ENew B w ve s.evs:=own_enew h.rowE (fun b hb=>hF b (h.fE b hb))
abbrev Apart (B:Nat) (w:World) (v:Value) (p:Option Addr):Prop:=∀x,p=some x->B<=x.block/\x.block<w.heap.size/\¬v.ownBlock=some x.block
theorem apart_size {B:Nat}{w w':World}{v:Value}{p:Option Addr}(h:Apart B w v p)(hs:w.heap.size<=w'.heap.size):Apart B w' v p:=fun x hx=>by
 obtain⟨h1,h2,h3⟩:=h x hx;exact⟨h1,by omega,h3⟩
structure KA (B:Nat) (A:List Am) (va:Value) (C:List Am) (k:Nat) (w:World):Prop where
 acc:C.map Am.acc=A.map Am.acc
 same:∀j,k<=j->C[j]? = A[j]?
 row:w.ownsRow B 89 3 va C.length (C.flatMap encA)
 done:∀j a,j<k->C[j]? = some a->AOk w a/\Apart B w va a.p
theorem KA.len {B:Nat}{A:List Am}{va:Value}{C:List Am}{k:Nat}{w:World}(h:KA B A va C k w):C.length=A.length:=by
 have:=congrArg List.length h.acc;simpa using this
theorem KA.but {B:Nat}{A:List Am}{va:Value}{C:List Am}{k:Nat}{w w':World}{G:Nat->Prop}(h:KA B A va C k w)(hb:But G w w')(h1:∀b,va.ownBlock=some b->¬G b)(h2:∀j a,j<k->C[j]? = some a->∀x,a.p=some x->¬G x.block):KA B A va C k w' :=
 ⟨h.acc,h.same,own_but h.row hb h1,fun j a hj ha=>⟨aok_but (h.done j a hj ha).1 hb (.inr (h2 j a hj ha)),apart_size (h.done j a hj ha).2 hb.size⟩⟩
theorem KA.below {B:Nat}{A:List Am}{va:Value}{C:List Am}{k:Nat}{w w':World}(h:KA B A va C k w)(hb:Below w.heap.size w w'):KA B A va C k w' :=
 h.but (G:=fun _=>False) (.of_below hb) (fun _ _=>id) (fun _ _ _ _ _ _=>id)
theorem KA.start {B:Nat}{A:List Am}{va:Value}{w:World}(h:w.ownsRow B 89 3 va A.length (A.flatMap encA)):KA B A va A 0 w :=
 ⟨rfl,fun _ _=>rfl,h,fun j _ hj=>by omega⟩
theorem KA.next {B g cap:Nat}{A C:List Am}{k:Nat}{w X:World}(h:KA B A (.slice (some ⟨g,0,none⟩) C.length cap) C k w)(hk:k<C.length)(hA:k<A.length)(hb:Below w.heap.size w X)(hB:B<=w.heap.size)
  {p:Option Addr} {n c:Nat} (hn:(A[k]'hA).pos.length=n) (hf:n*8<=140737488351232) (h0:p=none->c=0) (hr:Row X p (A[k]'hA).pos) (hp:∀x,p=some x->w.heap.size<=x.block/\x.block<X.heap.size) :
  KA B A (.slice (some ⟨g,0,none⟩) C.length cap) (C.set k { (C[k]'hk) with p:=p,n:=n,c:=c }) (k+1) (X.setCell ⟨g,k*3+2,none⟩ (.slice p n c)):=by
 have e:C[k]'hk=A[k]'hA:=by
  have:=h.same k (Nat.le_refl _);rw [List.getElem?_eq_getElem hk,List.getElem?_eq_getElem hA] at this;exact Option.some.inj this
 have hg:g<w.heap.size:=by
  rcases h.row.2 with⟨e,-⟩ | ⟨g',cap',cur,e,hB',hg,-⟩
  ·cases e
  ·cases e
   exact(Array.getElem?_eq_some_iff.1 hg).1
 have hX:=h.below hb;have hset:But (fun b=>b=g) X (X.setCell ⟨g,k*3+2,none⟩ (.slice p n c)):=But.setCell (p:=⟨g,k*3+2,none⟩) (But.refl (fun b=>b=g) X) (.inl rfl) _;refine⟨?_,fun j hj=>?_,?_,fun j a hj ha=>?_⟩
 ·rw [List.map_set,<- h.acc];have:Am.acc { (C[k]'hk) with p:=p,n:=n,c:=c } = (C.map Am.acc)[k]'(by simpa using hk):=by simp [Am.acc]
  rw [this,List.set_getElem_self]
 ·rw [List.getElem?_set_ne (by omega)];exact h.same j (by omega)
 ·rw [List.length_set];exact own_pos hX.row hk p n c
 ·rw [List.getElem?_set] at ha;by_cases ej:k=j
  ·subst ej;rw [if_pos rfl,if_pos hk] at ha;cases ha
   refine⟨⟨?_,hf,h0,?_⟩,fun x hx=>?_⟩
   ·show (C[k]'hk).pos.length=n;rw [e];exact hn
   ·show Row _ p (C[k]'hk).pos;rw [e];exact row_but hr hset (.inr fun x hx=>by have:=hp x hx;omega)
   ·obtain⟨q1,q2⟩:=hp x hx;refine⟨by omega,by simpa [World.setCell] using q2,?_⟩;simp [Value.ownBlock];omega
  ·rw [if_neg ej] at ha;obtain⟨d1,d2⟩:=hX.done j a (by omega) ha;refine⟨aok_but d1 hset (.inr fun x hx=>?_),fun x hx=>?_⟩
   ·have:=(d2 x hx).2.2;simp [Value.ownBlock] at this;omega
   ·obtain⟨q1,q2,q3⟩:=d2 x hx;exact⟨q1,by simpa [World.setCell] using q2,q3⟩
structure KM (B:Nat) (M:List Mkt) (va vm:Value) (N:List Mkt) (k:Nat) (w:World):Prop where
 mp:N.map mpOf=M.map mpOf
 same:∀j,k<=j->N[j]? = M[j]?
 row:w.ownsRow B 96 4 vm N.length (flatM N)
 done:∀j m,j<k->N[j]? = some m->OV w m.1.1 m.1.2.1 (mB m)/\OV w m.2.1.1 m.2.1.2.1 (mA m)/\Apart B w vm m.1.1/\Apart B w vm m.2.1.1/\Apart B w va m.1.1/\Apart B w va m.2.1.1
theorem KM.len {B:Nat}{M:List Mkt}{va vm:Value}{N:List Mkt}{k:Nat}{w:World}(h:KM B M va vm N k w):N.length=M.length:=by
 have:=congrArg List.length h.mp;simpa using this
theorem KM.below {B:Nat}{M:List Mkt}{va vm:Value}{N:List Mkt}{k:Nat}{w w':World}(h:KM B M va vm N k w)(hb:Below w.heap.size w w'):KM B M va vm N k w' :=
 ⟨h.mp,h.same,own_but h.row (.of_below (F:=fun _=>False) hb) (fun _ _=>id),fun j m hj hm=>by
  obtain⟨d1,d2,d3,d4,d5,d6⟩:=h.done j m hj hm;exact⟨d1.below hb,d2.below hb,apart_size d3 hb.size,apart_size d4 hb.size,apart_size d5 hb.size,apart_size d6 hb.size⟩⟩
theorem KM.start {B:Nat}{M:List Mkt}{va vm:Value}{w:World}(h:w.ownsRow B 96 4 vm M.length (flatM M)):KM B M va vm M 0 w :=
 ⟨rfl,fun _ _=>rfl,h,fun j _ hj=>by omega⟩
theorem KM.next {B g cap:Nat}{va:Value}{M N:List Mkt}{k:Nat}{w X:World}(h:KM B M va (.slice (some ⟨g,0,none⟩) N.length cap) N k w)(hk:k<N.length)(hM:k<M.length)(hb:Below w.heap.size w X)(hB:B<=w.heap.size)(hva:∀b,va.ownBlock=some b->b<w.heap.size)
  {p p':Option Addr} {c c':Nat} (h1:OV X p c (mB (M[k]'hM))) (h2:OV X p' c' (mA (M[k]'hM))) (hp:∀x,p=some x->w.heap.size<=x.block/\x.block<X.heap.size) (hp':∀x,p'=some x->w.heap.size<=x.block/\x.block<X.heap.size) :
  KM B M va (.slice (some ⟨g,0,none⟩) N.length cap) (N.set k ((p,c,mB (M[k]'hM)),(p',c',mA (M[k]'hM)),mI (N[k]'hk),mL (N[k]'hk))) (k+1) ((X.setCell ⟨g,k*4,none⟩ (.slice p (mB (M[k]'hM)).length c)).setCell ⟨g,k*4+1,none⟩ (.slice p' (mA (M[k]'hM)).length c')) /\
  But (fun b=>b=g) X ((X.setCell ⟨g,k*4,none⟩ (.slice p (mB (M[k]'hM)).length c)).setCell ⟨g,k*4+1,none⟩ (.slice p' (mA (M[k]'hM)).length c')):=by
 have e:N[k]'hk=M[k]'hM:=by
  have:=h.same k (Nat.le_refl _);rw [List.getElem?_eq_getElem hk,List.getElem?_eq_getElem hM] at this;exact Option.some.inj this
 have hg:g<w.heap.size:=by
  rcases h.row.2 with⟨e,-⟩ | ⟨g',cap',cur,e,hB',hg,-⟩
  ·cases e
  ·cases e
   exact(Array.getElem?_eq_some_iff.1 hg).1
 have hX:=h.below hb;have hset:But (fun b=>b=g) X ((X.setCell ⟨g,k*4,none⟩ (.slice p (mB (M[k]'hM)).length c)).setCell ⟨g,k*4+1,none⟩ (.slice p' (mA (M[k]'hM)).length c')):=But.setCell (p:=⟨g,k*4+1,none⟩) (But.setCell (p:=⟨g,k*4,none⟩) (But.refl (fun b=>b=g) X) (.inl rfl) _) (.inl rfl) _;have hsz:((X.setCell ⟨g,k*4,none⟩ (.slice p (mB (M[k]'hM)).length c)).setCell ⟨g,k*4+1,none⟩ (.slice p' (mA (M[k]'hM)).length c')).heap.size=X.heap.size:=by simp [World.setCell]
 have new:∀q:Option Addr,(∀x,q=some x->w.heap.size<=x.block/\x.block<X.heap.size)->∀v:Value,(∀b,v.ownBlock=some b->b<w.heap.size)->Apart B ((X.setCell ⟨g,k*4,none⟩ (.slice p (mB (M[k]'hM)).length c)).setCell ⟨g,k*4+1,none⟩ (.slice p' (mA (M[k]'hM)).length c')) v q:=fun q hq v hv x hx=>by
  obtain⟨q1,q2⟩:=hq x hx;refine⟨by omega,by rw [hsz];exact q2,fun e=>?_⟩;have:=hv _ e;omega
 have hgv:∀b,(Value.slice (some ⟨g,0,none⟩) N.length cap).ownBlock=some b->b<w.heap.size:=fun b hb=>by
  simp [Value.ownBlock] at hb;omega
 refine⟨⟨?_,fun j hj=>?_,?_,fun j m hj hm=>?_⟩,hset⟩
 ·rw [List.map_set,<- h.mp];have:mpOf ((p,c,mB (M[k]'hM)),(p',c',mA (M[k]'hM)),mI (N[k]'hk),mL (N[k]'hk))=(N.map mpOf)[k]'(by simpa using hk):=by
   rw [List.getElem_map,e];rfl
  rw [this,List.set_getElem_self]
 ·rw [List.getElem?_set_ne (by omega)];exact h.same j (by omega)
 ·rw [List.length_set];exact own_bk hX.row hk p p' c c' _ _
 ·rw [List.getElem?_set] at hm;by_cases ej:k=j
  ·subst ej;rw [if_pos rfl,if_pos hk] at hm;cases hm
   exact⟨ov_but h1 hset (.inr fun x hx=>by have:=hp x hx;omega),ov_but h2 hset (.inr fun x hx=>by have:=hp' x hx;omega),new p hp _ hgv,new p' hp' _ hgv,new p hp _ hva,new p' hp' _ hva⟩
  ·rw [if_neg ej] at hm;obtain⟨d1,d2,d3,d4,d5,d6⟩:=hX.done j m (by omega) hm;refine⟨ov_but d1 hset (.inr fun x hx=>?_),ov_but d2 hset (.inr fun x hx=>?_),apart_size d3 (by omega),apart_size d4 (by omega),apart_size d5 (by omega),apart_size d6 (by omega)⟩
   ·have:=(d3 x hx).2.2;simp [Value.ownBlock] at this;omega
   ·have:=(d4 x hx).2.2;simp [Value.ownBlock] at this;omega
structure Copied (w w':World) (s:Tn) (C:List Am) (N:List Mkt) (va vm:Value):Prop where
 accs:C.map Am.acc=s.accs
 mkts:N.map mpOf=s.mkts
 below:Below w.heap.size w w'
 rowA:w'.ownsRow w.heap.size 89 3 va C.length (C.flatMap encA)
 rowM:w'.ownsRow w.heap.size 96 4 vm N.length (flatM N)
 each:∀a,a∈C->AOk w' a/\Apart w.heap.size w' va a.p/\Apart w.heap.size w' vm a.p
 eachM:∀m,m∈N->OV w' m.1.1 m.1.2.1 (mB m)/\OV w' m.2.1.1 m.2.1.2.1 (mA m)/\Apart w.heap.size w' va m.1.1/\Apart w.heap.size w' va m.2.1.1/\Apart w.heap.size w' vm m.1.1/\Apart w.heap.size w' vm m.2.1.1
theorem own_lt {w:World}{B:Nat}{t:TypeId}{z n:Nat}{v:Value}{xs:List Value}(h:w.ownsRow B t z v n xs):∀b,v.ownBlock=some b->B<=b/\b<w.heap.size:=by
 intro b hb;rcases h.2 with⟨rfl,_⟩ | ⟨g,cap,cur,rfl,hB,hg,rest⟩
 ·simp [Value.ownBlock] at hb
 ·simp [Value.ownBlock] at hb;subst hb;exact⟨hB,(Array.getElem?_eq_some_iff.1 hg).1⟩
theorem Copied.vnew {w w':World}{s:Tn}{C:List Am}{N:List Mkt}{va vm:Value}(h:Copied w w' s C N va vm)(hs:Str s):VNew w.heap.size w' (venV va vm s) s:=by
 obtain⟨f1,f2,f3,f4⟩:=few_of h.accs h.mkts hs;have rA:=h.rowA;have rM:=h.rowM;have fA:=fun b hb=>(own_lt h.rowA b hb).1;have fM:=fun b hb=>(own_lt h.rowM b hb).1;obtain⟨p,c,rfl,hr,-,h0,-⟩:=own_arow h.rowA;obtain⟨p',c',rfl,hr',h0'⟩:=own_mrow h.rowM;have off:∀{α:Type} (l:List α) (v:Value) (p:Option Addr),Apart w.heap.size w' v p->Off (fun b=>b<w.heap.size) p l:=fun l v p h=>.inr fun x hx e=>by
  have:=(h x hx).1;omega
 refine⟨p,p',c,c',C,N,rfl,h0,h0',⟨h.accs,h.mkts,by omega,by omega,hr,hr',fun a ha=>(h.each a ha).1,fun m hm=>?_⟩,fun m hm=>⟨(h.eachM m hm).1,(h.eachM m hm).2.1⟩,own_off rA fA C,own_off rM fM N,⟨fun a ha=>off _ _ _ (h.each a ha).2.1,fun m hm=>⟨off _ _ _ (h.eachM m hm).2.2.1,off _ _ _ (h.eachM m hm).2.2.2.1⟩⟩⟩;obtain⟨o1,o2,-⟩:=h.eachM m hm;have:=f4 m hm;exact⟨o1.row,o2.row,by omega,by omega⟩
theorem Copied.ta {w w' W:World}{s:Tn}{C:List Am}{N:List Mkt}{va vm:Value}(h:Copied w w' s C N va vm)(hb:Below w'.heap.size w' W)(L:Nat->Prop)(hL:∀b,L b->b<w.heap.size)(T:Nat)(hT:w'.heap.size<=T)(hTW:W.heap[T]? = some (.cells (turnC va vm (.slice none 0 0) { s with evs:=[] }) 117 (0,0))) :
  TA W T (fun b=>b=T\/va.ownBlock=some b\/vm.ownBlock=some b) L { s with evs:=[] }:=by
 have lA:=own_lt h.rowA;have lM:=own_lt h.rowM;have hlt:T<W.heap.size:=(Array.getElem?_eq_some_iff.1 hTW).1;have off:∀{α:Type} (l:List α) (p:Option Addr),Apart w.heap.size w' va p->Apart w.heap.size w' vm p->Off (fun b=>b=T\/va.ownBlock=some b\/vm.ownBlock=some b) p l:=fun l p h1 h2=>.inr fun x hx=>by
  obtain⟨a1,a2,a3⟩:=h1 x hx;obtain⟨-,-,a4⟩:=h2 x hx;rintro (f | f | f)
  ·omega
  ·exact a3 f
  ·exact a4 f
 have hb':But (fun _=>False) w' W:=.of_below hb;have rA:=Ac.own_base (own_but h.rowA hb' (fun _ _=>id)) (Nat.zero_le _);have rM:=Ac.own_base (own_but h.rowM hb' (fun _ _=>id)) (Nat.zero_le _);refine⟨C,N,va,vm,.slice none 0 0,⟨h.accs,h.mkts,.inl rfl,fun b hF=>?_,hTW,rA,rM,World.ownsRow_nil _ _ _ _,fun k hk=>.inr (.inl hk),fun k hk=>.inr (.inr hk),fun k hk=>by simp [Value.ownBlock] at hk,fun a ha=>?_,fun m hm=>?_⟩,⟨fun a ha=>.inr fun x hx l=>?_,fun m hm=>⟨.inr fun x hx l=>?_,.inr fun x hx l=>?_⟩⟩,fun b l=>?_⟩
 ·rcases hF with rfl | f | f
  ·exact hlt
  ·have:=lA b f;have:=hb.size;omega
  ·have:=lM b f;have:=hb.size;omega
 ·obtain⟨e1,e2,e3⟩:=h.each a ha;exact⟨e1.below hb,off _ _ e2 e3⟩
 ·obtain⟨e1,e2,e3,e4,e5,e6⟩:=h.eachM m hm;exact⟨e1.below hb,e2.below hb,off _ _ e3 e5,off _ _ e4 e6⟩
 ·have:=((h.each a ha).2.1 x hx).1;have:=hL _ l;omega
 ·have:=((h.eachM m hm).2.2.1 x hx).1;have:=hL _ l;omega
 ·have:=((h.eachM m hm).2.2.2.1 x hx).1;have:=hL _ l;omega
 ·have:=hL _ l;have:=h.below.size;have:=hb.size;omega
abbrev venC (va vm:Value) (s:Tn):Array Value:=#[va,vm,.int .i64 s.ins,.int .i64 s.res,.int .i64 s.next,.int .i64 s.inn,.int .i64 s.out]
abbrev venO (va vm:Value) (s:Tn):Obj:=.cells (venC va vm s) 51
theorem venO_a {w:World}{B:Nat}{va vm:Value}{s:Tn}(h:w.heap[B]? = some (venO va vm s))(v:Value):(w.setCell ⟨B,0,none⟩ v).heap[B]? = some (venO v vm s):=by
 simp [World.setCell,Array.getElem?_modify,h]
theorem venO_m {w:World}{B:Nat}{va vm:Value}{s:Tn}(h:w.heap[B]? = some (venO va vm s))(v:Value):(w.setCell ⟨B,1,none⟩ v).heap[B]? = some (venO va v s):=by
 simp [World.setCell,Array.getElem?_modify,h]
theorem encA_ones (l:List Am):∀u∈l.flatMap encA,u.oneCell'=true:=by
 rw [<- flatA_is];exact flatA_one l
theorem mCells_ones (l:List Mkt):∀u∈flatM l,u.oneCell'=true:=by
 intro u hu;obtain⟨m,-,hm⟩:=List.mem_flatMap.1 hu;simp [mCells] at hm;rcases hm with rfl | rfl | rfl | rfl<;>rfl
theorem pos_copied (p:Option Addr)(n c:Nat)(pos:List Int)(w:World)(h0:p=none->c=0)(hl:pos.length=n)(hn:n*8<=140737488351232)(h:Row w p pos) :
  Calls Tryz.prog 63 #[.slice p n c] w fun e w'=>∃p' c',e=.returned (.slice p' n c')/\(p'=none->c'=0)/\Row w' p' pos/\(∀x,p'=some x->w.heap.size<=x.block/\x.block<w'.heap.size)/\Below w.heap.size w w':=by
 refine(copyI_any p n c (pos.map (Value.int .i64)) w (fun e=>?_) (by simp [hl]) (by simp [Value.oneCell']) (fun ad had j u hu=>?_) hn).mono ?_
 ·subst e;rcases h with rfl | ⟨b,off,e,-⟩
  ·exact⟨by simpa using hl.symm,h0 rfl,rfl⟩
  ·cases e
 ·subst had;rcases h with rfl | ⟨b,off,e,hc⟩
  ·cases hu
  ·cases e
   rw [show (⟨b,off,none⟩:Addr).add j = ⟨b,off+j,none⟩ from by simp [Addr.add]];have hj:=(List.getElem?_eq_some_iff.1 hu).1;have hj':j<pos.length:=by simpa using hj
   rw [hc j hj'];simpa [hj'] using hu
 ·rintro e w' ⟨v,rfl,hown,hb⟩;obtain⟨p',c',rfl,-,h1,h2,h3⟩:=own_am hown;exact⟨p',c',rfl,h1,h2,fun x hx=>own_lt hown x.block (by rw [hx];rfl),hb⟩
theorem side_copied (p:Option Addr)(c:Nat)(xs:List Odr)(w:World)(h:OV w p c xs)(hn:xs.length<=40) :
  Calls Tryz.prog 65 #[.slice p xs.length c] w fun e w'=>∃p' c',e=.returned (.slice p' xs.length c')/\OV w' p' c' xs/\(∀x,p'=some x->w.heap.size<=x.block/\x.block<w'.heap.size)/\Below w.heap.size w w':=by
 refine(copyO_any p xs.length c (flat xs) w (fun e=>?_) (flat_length xs) (flat_one xs) (fun ad had j u hu=>?_) (by omega)).mono ?_
 ·subst e;rcases h.row with rfl | ⟨b,off,e,-⟩
  ·exact⟨rfl,h.nil rfl,rfl⟩
  ·cases e
 ·subst had;rcases h.row with rfl | ⟨b,off,e,hc⟩
  ·cases hu
  ·cases e
   exact flat_cells hc j u hu
 ·rintro e w' ⟨v,rfl,hown,hb⟩;obtain⟨p',c',rfl,h1,h2⟩:=own_ov hown;exact⟨p',c',rfl,h1,h2,hb⟩
structure L1 (w:World) (s:Tn) (A:List Am) (va vm:Value) (C:List Am) (k:Nat) (wr:World):Prop where
 ka:KA (w.heap.size+2) A va C k wr
 box:wr.heap[w.heap.size]? = some (venO va vm s)
 rbox:wr.heap[w.heap.size+1]? = some (venO (.slice none 0 0) (.slice none 0 0) noTn)
 sz:w.heap.size+2<=wr.heap.size
 below:Below w.heap.size w wr
structure L2 (w:World) (s:Tn) (A:List Am) (M:List Mkt) (va vm:Value) (C:List Am) (N:List Mkt) (k:Nat) (wr:World):Prop where
 ka:KA (w.heap.size+2) A va C A.length wr
 km:KM (w.heap.size+2) M va vm N k wr
 box:wr.heap[w.heap.size]? = some (venO va vm s)
 rbox:wr.heap[w.heap.size+1]? = some (venO (.slice none 0 0) (.slice none 0 0) noTn)
 sz:w.heap.size+2<=wr.heap.size
 below:Below w.heap.size w wr
 off:∀a,a∈C->∀x,a.p=some x->¬vm.ownBlock=some x.block
theorem L1.next {w X:World}{s:Tn}{A C:List Am}{vm:Value}{g cap k:Nat}{wr:World}(h:L1 w s A (.slice (some ⟨g,0,none⟩) A.length cap) vm C k wr)(hA:k<A.length)(hb:Below wr.heap.size wr X)
  {p:Option Addr} {n c:Nat} (hn:(A[k]'hA).pos.length=n) (hf:n*8<=140737488351232) (h0:p=none->c=0) (hr:Row X p (A[k]'hA).pos) (hp:∀x,p=some x->wr.heap.size<=x.block/\x.block<X.heap.size) :
  ∃C',L1 w s A (.slice (some ⟨g,0,none⟩) A.length cap) vm C' (k+1) (X.setCell ⟨g,k*3+2,none⟩ (.slice p n c)):=by
 obtain⟨ka,box,rbox,sz,bel⟩:=h;have hl:=ka.len;rw [<- hl] at ka;have hgB:w.heap.size+2<=g:=by have:=own_lt ka.row g rfl;omega
 obtain⟨C',K⟩:∃C',KA (w.heap.size+2) A (.slice (some ⟨g,0,none⟩) C.length cap) C' (k+1) (X.setCell ⟨g,k*3+2,none⟩ (.slice p n c)):=⟨_,ka.next (by omega) hA hb sz hn hf h0 hr hp⟩;rw [hl] at K;refine⟨C',K,?_,?_,?_,?_⟩
 ·exact blk_but (blk_below box hb) (but_one X ⟨g,k*3+2,none⟩ _) (by simp;omega)
 ·exact blk_but (blk_below rbox hb) (but_one X ⟨g,k*3+2,none⟩ _) (by simp;omega)
 ·have:=hb.size;simp [World.setCell];omega
 ·exact(bel.trans (hb.mono bel.size)).setCell (by simp;omega) _
theorem L2.next {w X:World}{s:Tn}{A C:List Am}{M N:List Mkt}{va:Value}{g cap k:Nat}{wr:World}(h:L2 w s A M va (.slice (some ⟨g,0,none⟩) M.length cap) C N k wr)(hM:k<M.length)(hb:Below wr.heap.size wr X)
  {p p':Option Addr} {c c':Nat} (h1:OV X p c (mB (M[k]'hM))) (h2:OV X p' c' (mA (M[k]'hM))) (hp:∀x,p=some x->wr.heap.size<=x.block/\x.block<X.heap.size) (hp':∀x,p'=some x->wr.heap.size<=x.block/\x.block<X.heap.size) :
  ∃N',L2 w s A M va (.slice (some ⟨g,0,none⟩) M.length cap) C N' (k+1) ((X.setCell ⟨g,k*4,none⟩ (.slice p (mB (M[k]'hM)).length c)).setCell ⟨g,k*4+1,none⟩ (.slice p' (mA (M[k]'hM)).length c')):=by
 obtain⟨ka,km,box,rbox,sz,bel,off⟩:=h;have hl:=km.len;rw [<- hl] at km off;have hgB:w.heap.size+2<=g:=by have:=own_lt km.row g rfl;omega
 obtain⟨N',K,bt⟩:∃N',KM (w.heap.size+2) M va (.slice (some ⟨g,0,none⟩) N.length cap) N' (k+1) ((X.setCell ⟨g,k*4,none⟩ (.slice p (mB (M[k]'hM)).length c)).setCell ⟨g,k*4+1,none⟩ (.slice p' (mA (M[k]'hM)).length c'))/\But (fun b=>b=g) X ((X.setCell ⟨g,k*4,none⟩ (.slice p (mB (M[k]'hM)).length c)).setCell ⟨g,k*4+1,none⟩ (.slice p' (mA (M[k]'hM)).length c')):=⟨_,km.next (by omega) hM hb sz (fun b hb=>(own_lt ka.row b hb).2) h1 h2 hp hp'⟩;have hT:=own_types ka.row km.row (by decide);rw [hl] at K off;refine⟨N',(ka.below hb).but bt (fun b hb' e=>?_) (fun j a hj ha x hx e=>?_),K,?_,?_,?_,?_,off⟩
 ·exact hT b hb' g rfl e
 ·exact off a (List.mem_of_getElem? ha) x hx (by rw [e];rfl)
 ·exact blk_but (blk_below box hb) bt (by omega)
 ·exact blk_but (blk_below rbox hb) bt (by omega)
 ·have:=hb.size;have:=bt.size;omega
 ·exact((bel.trans (hb.mono bel.size)).setCell (by simp;omega) _).setCell (by simp;omega) _
theorem L2.done {w wz:World}{s:Tn}{A C:List Am}{M N:List Mkt}{va vm:Value}{wr:World}(h:L2 w s A M va vm C N M.length wr)(hz:But (fun b=>b=w.heap.size+1) wr wz)(hA:A.map Am.acc=s.accs)(hM:M.map mpOf=s.mkts):Copied w wz s C N va vm:=by
 obtain⟨ka,km,box,rbox,sz,bel,off⟩:=h;have dn:∀{v:Value} {p:Option Addr},Apart (w.heap.size+2) wr v p->Apart w.heap.size wz v p:=fun h x hx=>by
  obtain⟨a1,a2,a3⟩:=h x hx;have:=hz.size;exact⟨by omega,by omega,a3⟩
 have nt:∀{v:Value} {p:Option Addr} {α:Type} (l:List α),Apart (w.heap.size+2) wr v p->Off (fun b=>b=w.heap.size+1) p l:=fun l h=>.inr fun x hx e=>by
  have:=(h x hx).1;omega
 have rA:=own_but ka.row hz (fun b hb e=>by have:=own_lt ka.row b hb;omega);have rM:=own_but km.row hz (fun b hb e=>by have:=own_lt km.row b hb;omega);refine⟨ka.acc.trans hA,km.mp.trans hM,?_,Ac.own_base rA (by omega),Ac.own_base rM (by omega),fun a ha=>?_,fun m hm=>?_⟩
 ·refine⟨hz.os.trans bel.os,hz.tape.trans bel.tape,hz.output.trans bel.output,Nat.le_trans bel.size hz.size,fun k hk=>?_⟩;rw [hz.block k (by omega) (by omega)];exact bel.block k hk
 ·obtain⟨j,hj,rfl⟩:=List.mem_iff_getElem.1 ha;obtain⟨d1,d2⟩:=ka.done j _ (by rw [<- ka.len];exact hj) (List.getElem?_eq_getElem hj);refine⟨aok_but d1 hz (nt _ d2),dn d2,fun x hx=>?_⟩;obtain⟨q1,q2,q3⟩:=d2 x hx;have:=hz.size;exact⟨by omega,by omega,off _ ha x hx⟩
 ·obtain⟨j,hj,rfl⟩:=List.mem_iff_getElem.1 hm;obtain⟨d1,d2,d3,d4,d5,d6⟩:=km.done j _ (by rw [<- km.len];exact hj) (List.getElem?_eq_getElem hj);exact⟨ov_but d1 hz (nt _ d3),ov_but d2 hz (nt _ d4),dn d5,dn d6,dn d3,dn d4⟩
abbrev seven (w:World) (b:Nat) (v0 v1 v2 v3 v4 v5 v6:Value):World:=((((((w.setCell ⟨b,0,none⟩ v0).setCell ⟨b,1,none⟩ v1).setCell ⟨b,2,none⟩ v2).setCell ⟨b,3,none⟩ v3).setCell ⟨b,4,none⟩ v4).setCell ⟨b,5,none⟩ v5).setCell ⟨b,6,none⟩ v6
theorem seven_but (w:World)(b:Nat)(v0 v1 v2 v3 v4 v5 v6:Value):But (fun x=>x=b) w (seven w b v0 v1 v2 v3 v4 v5 v6) :=
 But.setCell (p:=⟨b,6,none⟩) (But.setCell (p:=⟨b,5,none⟩) (But.setCell (p:=⟨b,4,none⟩) (But.setCell (p:=⟨b,3,none⟩) (But.setCell (p:=⟨b,2,none⟩) (But.setCell (p:=⟨b,1,none⟩) (But.setCell (p:=⟨b,0,none⟩) (But.refl (fun x=>x=b) w) (.inl rfl) _) (.inl rfl) _) (.inl rfl) _) (.inl rfl) _) (.inl rfl) _) (.inl rfl) _) (.inl rfl) _
theorem seven_heap {w:World}{b:Nat}{a0 a1 a2 a3 a4 a5 a6:Value}(h:w.heap[b]? = some (.cells #[a0,a1,a2,a3,a4,a5,a6] 51 (0,0)))(v0 v1 v2 v3 v4 v5 v6:Value):(seven w b v0 v1 v2 v3 v4 v5 v6).heap[b]? = some (.cells #[v0,v1,v2,v3,v4,v5,v6] 51 (0,0)):=by
 unfold seven;have h0:(w.setCell ⟨b,0,none⟩ v0).heap[b]? = some (.cells #[v0,a1,a2,a3,a4,a5,a6] 51 (0,0)):=by rw [heap_set h 0 v0];rfl
 generalize w.setCell ⟨b,0,none⟩ v0=w0 at h0 ⊢;have h1:(w0.setCell ⟨b,1,none⟩ v1).heap[b]? = some (.cells #[v0,v1,a2,a3,a4,a5,a6] 51 (0,0)):=by rw [heap_set h0 1 v1];rfl
 generalize w0.setCell ⟨b,1,none⟩ v1=w1 at h1 ⊢;have h2:(w1.setCell ⟨b,2,none⟩ v2).heap[b]? = some (.cells #[v0,v1,v2,a3,a4,a5,a6] 51 (0,0)):=by rw [heap_set h1 2 v2];rfl
 generalize w1.setCell ⟨b,2,none⟩ v2=w2 at h2 ⊢;have h3:(w2.setCell ⟨b,3,none⟩ v3).heap[b]? = some (.cells #[v0,v1,v2,v3,a4,a5,a6] 51 (0,0)):=by rw [heap_set h2 3 v3];rfl
 generalize w2.setCell ⟨b,3,none⟩ v3=w3 at h3 ⊢;have h4:(w3.setCell ⟨b,4,none⟩ v4).heap[b]? = some (.cells #[v0,v1,v2,v3,v4,a5,a6] 51 (0,0)):=by rw [heap_set h3 4 v4];rfl
 generalize w3.setCell ⟨b,4,none⟩ v4=w4 at h4 ⊢;have h5:(w4.setCell ⟨b,5,none⟩ v5).heap[b]? = some (.cells #[v0,v1,v2,v3,v4,v5,a6] 51 (0,0)):=by rw [heap_set h4 5 v5];rfl
 generalize w4.setCell ⟨b,5,none⟩ v5=w5 at h5 ⊢;have h6:(w5.setCell ⟨b,6,none⟩ v6).heap[b]? = some (.cells #[v0,v1,v2,v3,v4,v5,v6] 51 (0,0)):=by rw [heap_set h5 6 v6];rfl
 exact h6
theorem L1.at {w:World}{s:Tn}{A C:List Am}{va vm:Value}{k:Nat}{wr:World}(h:L1 w s A va vm C k wr)(hA:k<A.length) :
  ∃g cap,va=.slice (some ⟨g,0,none⟩) A.length cap/\g<wr.heap.size/\wr.cell? ⟨g,k*3,none⟩=some (.int .i64 (A[k]'hA).id)/\wr.cell? ⟨g,k*3+1,none⟩=some (.int .i64 (A[k]'hA).bal)/\wr.cell? ⟨g,k*3+2,none⟩=some (.slice (A[k]'hA).p (A[k]'hA).n (A[k]'hA).c)/\∀j,wr.frozen? ⟨g,j,none⟩=false:=by
 have ka:=h.ka;have hl:=ka.len;have hr:=ka.row;have hk:k<C.length:=by omega
 have e:C[k]'hk=A[k]'hA:=by
  have:=ka.same k (Nat.le_refl _);rw [List.getElem?_eq_getElem hk,List.getElem?_eq_getElem hA] at this;exact Option.some.inj this
 rcases hr.2 with⟨rfl,e⟩ | ⟨g,cap,cur,rfl,hb,hg,hn,hm,hs,ht⟩
 ·omega
 ·have hc:∀i,i<3->wr.cell? ⟨g,k*3+i,none⟩=(encA (A[k]'hA))[i]?:=fun i hi=>by
   rw [hr.cellAt (k*3+i) (by omega),Vn.flat_get encA_len C k hk i hi,e]
  exact⟨g,cap,by rw [hl],(Array.getElem?_eq_some_iff.1 hg).1,hc 0 (by omega),hc 1 (by omega),hc 2 (by omega),fun j=>hr.frozenAt j⟩
theorem L2.at {w:World}{s:Tn}{A C:List Am}{M N:List Mkt}{va vm:Value}{k:Nat}{wr:World}(h:L2 w s A M va vm C N k wr)(hM:k<M.length) :
  ∃g cap,vm=.slice (some ⟨g,0,none⟩) M.length cap/\g<wr.heap.size/\wr.cell? ⟨g,k*4,none⟩=some (.slice (M[k]'hM).1.1 (mB (M[k]'hM)).length (M[k]'hM).1.2.1)/\wr.cell? ⟨g,k*4+1,none⟩=some (.slice (M[k]'hM).2.1.1 (mA (M[k]'hM)).length (M[k]'hM).2.1.2.1) /\
   wr.cell? ⟨g,k*4+2,none⟩=some (.int .i64 (mI (M[k]'hM)))/\wr.cell? ⟨g,k*4+3,none⟩=some (.int .i64 (mL (M[k]'hM)))/\∀j,wr.frozen? ⟨g,j,none⟩=false:=by
 have km:=h.km;have hl:=km.len;have hr:=km.row;have hk:k<N.length:=by omega
 have e:N[k]'hk=M[k]'hM:=by
  have:=km.same k (Nat.le_refl _);rw [List.getElem?_eq_getElem hk,List.getElem?_eq_getElem hM] at this;exact Option.some.inj this
 rcases hr.2 with⟨rfl,e⟩ | ⟨g,cap,cur,rfl,hb,hg,hn,hm,hs,ht⟩
 ·omega
 ·have hc:∀i,i<4->wr.cell? ⟨g,k*4+i,none⟩=(mCells (M[k]'hM))[i]?:=fun i hi=>by
   rw [hr.cellAt (k*4+i) (by omega),Vn.flat_get mCells_len N k hk i hi,e]
  exact⟨g,cap,by rw [hl],(Array.getElem?_eq_some_iff.1 hg).1,hc 0 (by omega),hc 1 (by omega),hc 2 (by omega),hc 3 (by omega),fun j=>hr.frozenAt j⟩
end Go.Proofs.YthdjfhnhjiageaaGreatDoor.Vn
namespace Go.Proofs.YthdjfhnhjiageaaGreatDoor.Vn
open Go.RowKit Ac Go.Sort
theorem set_twice (w:World)(b i:Nat)(u v:Value):(w.setCell ⟨b,i,none⟩ u).setCell ⟨b,i,none⟩ v=w.setCell ⟨b,i,none⟩ v:=by
 rw [setCell_eq,setCell_eq,mapBlock_mapBlock,setCell_eq];congr 1;funext c;simp
theorem set_back2 (w:World)(b i:Nat)(u0 u1 v0 v1:Value):(((w.setCell ⟨b,i,none⟩ u0).setCell ⟨b,i+1,none⟩ u1).setCell ⟨b,i,none⟩ v0).setCell ⟨b,i+1,none⟩ v1=(w.setCell ⟨b,i,none⟩ v0).setCell ⟨b,i+1,none⟩ v1:=by
 rw [setCell_eq,setCell_eq,mapBlock_mapBlock,setCell_eq,mapBlock_mapBlock,setCell_eq,mapBlock_mapBlock,setCell_eq,setCell_eq,mapBlock_mapBlock];congr 1;funext c;have:∀x:Array Value,(((x.setIfInBounds i u0).setIfInBounds (i+1) u1).setIfInBounds i v0).setIfInBounds (i+1) v1=(x.setIfInBounds i v0).setIfInBounds (i+1) v1:=fun x=>by
  apply Array.ext
  ·simp
  ·intro j h1 h2;rw [Array.getElem_setIfInBounds,Array.getElem_setIfInBounds,Array.getElem_setIfInBounds,Array.getElem_setIfInBounds,Array.getElem_setIfInBounds,Array.getElem_setIfInBounds];split
   ·rfl
   ·split
    ·rfl
    ·rfl
   all_goals (simp only [Array.size_setIfInBounds] at h1 ⊢;exact h1)
 exact this c
abbrev Back1 (X:World) (b i:Nat) (u:Value) (w:World):Prop:=Below X.heap.size X (w.setCell ⟨b,i,none⟩ u)
abbrev Back2 (X:World) (b i:Nat) (u0 u1:Value) (w:World):Prop:=Below X.heap.size X ((w.setCell ⟨b,i,none⟩ u0).setCell ⟨b,i+1,none⟩ u1)
theorem back1_on {X x w:World}{b i:Nat}{u:Value}(h:Back1 X b i u x)(hb:Below x.heap.size x w):Back1 X b i u w:=by
 have hs:X.heap.size<=x.heap.size:=by simpa [World.setCell] using h.size
 refine⟨hb.os.trans h.os,hb.tape.trans h.tape,hb.output.trans h.output,?_,fun k hk=>?_⟩
 ·have:=hb.size;simp [World.setCell];omega
 ·have:=h.block k hk;simp only [World.setCell,Array.getElem?_modify] at this ⊢;rw [hb.block k (by omega)];exact this
theorem back2_on {X x w:World}{b i:Nat}{u0 u1:Value}(h:Back2 X b i u0 u1 x)(hb:Below x.heap.size x w):Back2 X b i u0 u1 w:=by
 have hs:X.heap.size<=x.heap.size:=by simpa [World.setCell] using h.size
 refine⟨hb.os.trans h.os,hb.tape.trans h.tape,hb.output.trans h.output,?_,fun k hk=>?_⟩
 ·have:=hb.size;simp [World.setCell];omega
 ·have:=h.block k hk;simp only [World.setCell,Array.getElem?_modify] at this ⊢;rw [hb.block k (by omega)];exact this
theorem back1_start {X x:World}{b i:Nat}{u:Value}{cs:Array Value}{t:TypeId}(hx:Below X.heap.size X x)(hX:X.heap[b]? = some (.cells cs t (0,0)))(hu:cs[i]? = some u):Back1 X b i u x:=by
 refine⟨hx.os,hx.tape,hx.output,by simpa [World.setCell] using hx.size,fun k hk=>?_⟩;simp only [World.setCell,Array.getElem?_modify];rw [hx.block k hk];split
 ·rename_i e;subst e;rw [hX];simp only [Option.map_some,Option.isSome_none,Bool.false_eq_true,if_false];congr 2;apply Array.ext
  ·simp
  ·intro j h1 h2;rw [Array.getElem_setIfInBounds];split
   ·rename_i e;subst e;rw [Array.getElem?_eq_getElem h2] at hu;exact(Option.some.inj hu).symm
   ·rfl
 ·rfl
theorem back2_start {X x:World}{b i:Nat}{u0 u1:Value}{cs:Array Value}{t:TypeId}(hx:Below X.heap.size X x)(hX:X.heap[b]? = some (.cells cs t (0,0)))(hu:cs[i]? = some u0)(hu1:cs[i+1]? = some u1):Back2 X b i u0 u1 x:=by
 have h1:=back1_start (back1_start hx hX hu) hX hu1;exact h1
theorem back1_set {X x:World}{b i:Nat}{u:Value}(h:Back1 X b i u x)(v:Value):Back1 X b i u (x.setCell ⟨b,i,none⟩ v):=by
 unfold Back1;rw [set_twice];exact h
theorem back2_set {X x:World}{b i:Nat}{u0 u1:Value}(h:Back2 X b i u0 u1 x)(v0 v1:Value):Back2 X b i u0 u1 ((x.setCell ⟨b,i,none⟩ v0).setCell ⟨b,i+1,none⟩ v1):=by
 unfold Back2;rw [set_back2];exact h
theorem back1_cell {X x:World}{b i:Nat}{u:Value}(h:Back1 X b i u x){a:Addr}{v:Value}(ha:¬a.block=b)(hv:X.cell? a=some v):x.cell? a=some v:=by
 have h1:=(h.cell (World.block_lt_of_cell? _ _ hv)).trans hv;rw [<- h1];simp [World.cell?,World.setCell,Array.getElem?_modify,show ¬b=a.block from fun e=>ha e.symm]
theorem back2_cell {X x:World}{b i:Nat}{u0 u1:Value}(h:Back2 X b i u0 u1 x){a:Addr}{v:Value}(ha:¬a.block=b)(hv:X.cell? a=some v):x.cell? a=some v:=by
 have h1:=(h.cell (World.block_lt_of_cell? _ _ hv)).trans hv;rw [<- h1];simp [World.cell?,World.setCell,Array.getElem?_modify,show ¬b=a.block from fun e=>ha e.symm]
theorem set_heap {w:World}{b i:Nat}{u:Value}{cs:Array Value}{t:TypeId}(h:(w.setCell ⟨b,i,none⟩ u).heap[b]? = some (.cells cs t (0,0))):∃cs',w.heap[b]? = some (.cells cs' t (0,0))/\cs'.size=cs.size:=by
 simp only [World.setCell,Array.getElem?_modify,if_true] at h
 cases hw:w.heap[b]? with
 |none=>rw [hw] at h;cases h
 |some o =>
  rw [hw] at h;simp only [Option.map_some,Option.some.injEq] at h
  cases o with
  |cells cs' t' f =>
   simp only [Obj.cells.injEq] at h;obtain⟨h1,h2,h3⟩:=h;subst h2 h3;exact⟨cs',rfl,by rw [<- h1];simp⟩
  |_=>cases h
theorem back1_at {X x:World}{b i:Nat}{u:Value}(h:Back1 X b i u x){cs:Array Value}{t:TypeId}(hX:X.heap[b]? = some (.cells cs t (0,0)))(hi:i<cs.size):(∃v,x.cell? ⟨b,i,none⟩=some v)/\x.frozen? ⟨b,i,none⟩=false:=by
 have h1:=(h.block b (Array.getElem?_eq_some_iff.1 hX).1).trans hX;obtain⟨cs',e,hs⟩:=set_heap h1;obtain⟨c1,c2⟩:=blk_cell e i;exact⟨⟨cs'[i]'(by omega),by rw [c1];exact Array.getElem?_eq_getElem (by omega)⟩,c2⟩
theorem back2_at {X x:World}{b i:Nat}{u0 u1:Value}(h:Back2 X b i u0 u1 x){cs:Array Value}{t:TypeId}(hX:X.heap[b]? = some (.cells cs t (0,0)))(hi:i+1<cs.size):(∃v,x.cell? ⟨b,i,none⟩=some v)/\x.frozen? ⟨b,i,none⟩=false/\(∃v,x.cell? ⟨b,i+1,none⟩=some v)/\x.frozen? ⟨b,i+1,none⟩=false:=by
 have h1:=(h.block b (Array.getElem?_eq_some_iff.1 hX).1).trans hX;obtain⟨cs1,e1,hs1⟩:=set_heap h1;obtain⟨cs',e,hs⟩:=set_heap e1;obtain⟨c1,c2⟩:=blk_cell e i;obtain⟨c3,c4⟩:=blk_cell e (i+1);exact⟨⟨cs'[i]'(by omega),by rw [c1];exact Array.getElem?_eq_getElem (by omega)⟩,c2,⟨cs'[i+1]'(by omega),by rw [c3];exact Array.getElem?_eq_getElem (by omega)⟩,c4⟩
end Go.Proofs.YthdjfhnhjiageaaGreatDoor.Vn
