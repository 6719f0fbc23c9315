import Derived.Test.YthdjfhnhjiageaaGreatDoorG39
set_option maxHeartbeats 8000000
set_option maxRecDepth 100000
namespace Go.Proofs.YthdjfhnhjiageaaGreatDoor.Vn
open Go.RowKit Num Fix AcP FuP Bk Rm Ac Go.Sort Go.Maps Mix RkP
def encC (c:Cm):List Value:=[.int .i64 c.kind,.int .i64 c.ac,.int .i64 c.mkt,.int .i64 c.n,.int .i64 c.o.1,.int .i64 c.o.2.1,.int .i64 c.o.2.2.1,.int .i64 c.o.2.2.2.1,.int .i64 c.o.2.2.2.2,.int .i64 c.how,.bool c.red]
theorem encC_len (c:Cm):(encC c).length=11:=rfl
def CRow (w:World) (p:Option Addr) (l:List Cm):Prop:=l=[]\/∃b off,p=some ⟨b,off,none⟩/\∀j u,(l.flatMap encC)[j]? = some u->w.cell? ⟨b,off+j,none⟩=some u
theorem crow_below {w w':World}{p:Option Addr}{l:List Cm}(h:CRow w p l)(hb:Below w.heap.size w w'):CRow w' p l:=by
 rcases h with h | ⟨b,off,rfl,hc⟩
 ·exact .inl h
 ·exact .inr ⟨b,off,rfl,fun j u hu=>(hb.cell (World.block_lt_of_cell? _ _ (hc j u hu))).trans (hc j u hu)⟩
theorem crow_cell {w:World}{b off:Nat}{l:List Cm}(hc:∀j u,(l.flatMap encC)[j]? = some u->w.cell? ⟨b,off+j,none⟩=some u){k:Nat}(hk:k<l.length)(i:Nat)(v:Value)(hv:(encC (l[k]'hk))[i]? = some v):w.cell? ⟨b,off+k*11+i,none⟩=some v:=by
 have hi:i<11:=(List.getElem?_eq_some_iff.1 hv).1;have:=hc (k*11+i) v (by rw [Vn.flat_get encC_len l k hk i hi];exact hv);rw [<- Nat.add_assoc] at this;exact this
def EIn (G:Nat->Prop) (w:World) (v:Value) (L:List Ev):Prop:=∃p c,v=.slice p L.length c/\(p=none->c=0)/\L.length<=maxLen/\ERow w p L/\Off G p L
theorem EIn.but {G F:Nat->Prop}{w w':World}{v:Value}{L:List Ev}(h:EIn G w v L)(hb:But F w w')(hF:∀b,F b->G b):EIn G w' v L:=by
 obtain⟨p,c,e,h0,hm,hr,ho⟩:=h;exact⟨p,c,e,h0,hm,erow_but hr hb (off_mono ho hF),ho⟩
theorem EIn.mono {G F:Nat->Prop}{w:World}{v:Value}{L:List Ev}(h:EIn G w v L)(hF:∀b,F b->G b):EIn F w v L:=by
 obtain⟨p,c,e,h0,hm,hr,ho⟩:=h;exact⟨p,c,e,h0,hm,hr,off_mono ho hF⟩
theorem EIn.lt {G:Nat->Prop}{w:World}{v:Value}{L:List Ev}(h:EIn G w v L):EIn (fun b=>G b\/w.heap.size<=b) w v L:=by
 obtain⟨p,c,e,h0,hm,hr,ho⟩:=h;refine⟨p,c,e,h0,hm,hr,?_⟩;rcases hr with rfl | ⟨b,off,rfl,hc⟩
 ·exact .inl rfl
 ·rcases ho with ho | ho
  ·exact .inl ho
  ·cases L with
   |nil=>exact .inl rfl
   |cons x l =>
    refine .inr fun y hy f=>?_
    cases hy
    rcases f with f | f
    ·exact ho _ rfl f
    ·have:=World.block_lt_of_cell? w _ (hc 0 (.int .i64 x.1) rfl);simp only at this f;omega
structure EEv (B:Nat) (w:World) (v:Value) (L:List (List Ev)):Prop where
 row:∃E:List Value,w.ownsRow B 59 1 v L.length E/\∀i (hi:i<L.length) x,E[i]? = some x->EIn (fun b=>b<B\/v.ownBlock=some b) w x (L[i]'hi)
theorem eev_nil (B:Nat)(w:World):EEv B w (.slice none 0 0) []:=⟨[],World.ownsRow_nil _ _ _ _,fun i hi=>by simp at hi⟩
theorem EEv.but {B:Nat}{w w':World}{v:Value}{L:List (List Ev)}{F:Nat->Prop}(h:EEv B w v L)(hb:But F w w')(hF:∀b,F b->b<B):EEv B w' v L:=by
 obtain⟨E,h1,h2⟩:=h;refine⟨E,own_but h1 hb (fun k hk f=>by have:=(own_lt h1 k hk).1;have:=hF k f;omega),fun i hi x hx=>(h2 i hi x hx).but hb (fun b f=>.inl (hF b f))⟩
theorem EEv.below {B:Nat}{w w':World}{v:Value}{L:List (List Ev)}(h:EEv B w v L)(hb:Below w.heap.size w w'):EEv B w' v L:=h.but (F:=fun _=>False) (.of_below hb) (fun _ f=>f.elim)
theorem EEv.size {B:Nat}{w:World}{v:Value}{L:List (List Ev)}(h:EEv B w v L):∃p c,v=.slice p L.length c:=by
 obtain⟨E,h1,-⟩:=h;rcases h1.2 with⟨rfl,e⟩ | ⟨g,cap,cur,rfl,-⟩
 ·exact⟨none,0,by rw [e]⟩
 ·exact⟨_,_,rfl⟩
theorem EEv.more {B:Nat}{w w1:World}{v ev:Value}{L:List (List Ev)}{K:List Ev}{E:List Value}{g cap H:Nat}(h1:w.ownsRow B 59 1 v L.length E)(h2:∀i (hi:i<L.length) x,E[i]? = some x->EIn (fun b=>b<B\/v.ownBlock=some b) w x (L[i]'hi))
  (hev:EIn (fun b=>b<B\/v.ownBlock=some b) w ev K) (hH:H=w.heap.size) (X:World) (hX:Below w.heap.size w X)
  (hown:w1.ownsRow B 59 1 (.slice (some ⟨g,0,none⟩) (L.length+1) cap) (L.length+1) (E++[ev])) (hg:X.grownBy w1 v.ownBlock) (hat:v.ownBlock=some g\/H<=g):EEv B w1 (.slice (some ⟨g,0,none⟩) (L++[K]).length cap) (L++[K]):=by
 have hbt:But (fun b=>v.ownBlock=some b) w w1:=((But.of_below hX).grown (F:=fun b=>v.ownBlock=some b) hg (fun k hk=>.inl hk));have on:∀x (M:List Ev),EIn (fun b=>b<B\/v.ownBlock=some b) w x M->EIn (fun b=>b<B\/(Value.slice (some ⟨g,0,none⟩) (L++[K]).length cap).ownBlock=some b) w1 x M:=fun x M hx=>by
  have h3:=hx.lt;have h4:=h3.but hbt (fun b f=>.inl (.inr f));refine h4.mono (fun b f=>?_);rcases f with f | f
  ·exact .inl (.inl f)
  ·simp [Value.ownBlock] at f;subst f;rcases hat with e | e
   ·exact .inl (.inr e)
   ·exact .inr (by omega)
 refine⟨E++[ev],by rw [List.length_append];exact hown,fun i hi x hx=>?_⟩;have hE:E.length=L.length:=by have:=h1.1;omega
 by_cases hl:i<L.length
 ·rw [List.getElem?_append_left (by omega)] at hx;rw [List.getElem_append_left hl];exact on x _ (h2 i hl x hx)
 ·have hi':i=L.length:=by simp at hi;omega
  subst hi';rw [List.getElem?_append_right (by omega),hE,Nat.sub_self] at hx
  cases hx;rw [List.getElem_append_right (Nat.le_refl _)];simp only [Nat.sub_self,List.getElem_cons_zero];exact on ev K hev
theorem EEv.mono {B B':Nat}{w:World}{v:Value}{L:List (List Ev)}(h:EEv B w v L)(hB:B'<=B):EEv B' w v L:=by
 obtain⟨E,h1,h2⟩:=h;exact⟨E,Ac.own_base h1 hB,fun i hi x hx=>(h2 i hi x hx).mono (fun b f=>f.imp (fun h=>Nat.lt_of_lt_of_le h hB) id)⟩
theorem runFail_any (x:Int)(w:World) :
  Calls Tryz.prog 37 #[.int .i64 x] w fun e w'=>e=.returned (.tuple #[venV (.slice none 0 0) (.slice none 0 0) noTn,.slice none 0 0,.int .i64 x])/\Below w.heap.size w w':=by
 go_enter Tryz.func37,Tryz.ntmps37;go_wp2;refine bodyPost_ret (v:=.tuple #[venV (.slice none 0 0) (.slice none 0 0) noTn,.slice none 0 0,.int .i64 x]) (by simp [results,Tryz.results37,go_sem]) rfl ⟨rfl,Ac.below_alloc _ _⟩
abbrev RunPost (s:Tn) (l:List Cm) (w:World) (e:Ending) (w':World):Prop :=
 Below w.heap.size w w'/\((∃t L v ev,runR s l=.ok (t,L)/\e=.returned (.tuple #[v,ev,.int .i64 0])/\VNew w.heap.size w' v t/\EEv w.heap.size w' ev L) \/
  ∃r,runR s l=.error r/\¬r=0/\e=.returned (.tuple #[venV (.slice none 0 0) (.slice none 0 0) noTn,.slice none 0 0,.int .i64 r]))
structure RInv (w:World) (s:Tn) (l:List Cm) (k:Nat) (sk:Tn) (L:List (List Ev)) (va vm cv:Value) (wr:World):Prop where
 run:runL l s []=runL (l.drop k) sk L
 len:L.length=k
 ok:checkE sk=0
 ven:VNew (w.heap.size+2) wr (venV va vm sk) sk
 evs:EEv (w.heap.size+2) wr cv L
 box:wr.heap[w.heap.size]? = some (venO va vm sk)
 rbox:wr.heap[w.heap.size+1]? = some (venO (.slice none 0 0) (.slice none 0 0) noTn)
 below:Below w.heap.size w wr
 sz:w.heap.size+2<=wr.heap.size
theorem vnew_parts {B:Nat}{w:World}{va vm:Value}{s t:Tn}(h:VNew B w (venV va vm t) s):(∃p n c,va=.slice p n c)/\(∃p n c,vm=.slice p n c)/\t.ins=s.ins/\t.res=s.res/\t.next=s.next/\t.inn=s.inn/\t.out=s.out:=by
 obtain⟨p,p',c,c',A,M,e,-⟩:=h;simp only [Value.agg.injEq,Array.mk.injEq,List.cons.injEq,Value.int.injEq,true_and,and_true] at e;obtain⟨e1,e2,e3,e4,e5,e6,e7⟩:=e;exact⟨⟨_,_,_,e1⟩,⟨_,_,_,e2⟩,e3,e4,e5,e6,e7⟩
theorem vnew_is {B:Nat}{w:World}{v:Value}{s:Tn}(h:VNew B w v s):∃p n c p' n' c',v=venV (.slice p n c) (.slice p' n' c') s:=by
 obtain⟨p,p',c,c',A,M,e,-⟩:=h;exact⟨_,_,_,_,_,_,e⟩
theorem venue_run (v:Value)(s:Tn)(pl:Option Addr)(l:List Cm)(n c:Nat)(w:World)(h:VIn w v s)(hl:l.length=n)(hr:CRow w pl l)(hn:n<=140737488351232)(hL:Rk.Laid w) :
  Calls Tryz.prog 21 #[v,.slice pl n c] w (RunPost s l w):=by
 obtain⟨i0,hi,hz0,hz1,hz2⟩:=info_parts (show (Tryz.prog.info? 59).map (fun i=>(i.zero,i.size,i.bytes))=some (some (.slice none 0 0),1,24) by kernel_rfl);obtain⟨p,n1,cc,p',n2,cc',hv⟩:=vnew_is h;subst hv;obtain⟨W,hW⟩:∃W,W=(w.alloc (.cells #[.slice p n1 cc,.slice p' n2 cc',.int .i64 s.ins,.int .i64 s.res,.int .i64 s.next,.int .i64 s.inn,.int .i64 s.out] 51)).alloc (.cells #[.slice none 0 0,.slice none 0 0,.int .i64 0,.int .i64 0,.int .i64 0,.int .i64 0,.int .i64 0] 51):=⟨_,rfl⟩;have b0:Below w.heap.size w W:=by rw [hW];exact((Below.refl _ w).alloc (Nat.le_refl _) _).alloc (by simp) _
 have hsz:W.heap.size=w.heap.size+2:=by rw [hW];simp
 have E0:Hid (W.heap[w.heap.size]? = some (venO (.slice p n1 cc) (.slice p' n2 cc') s)):=by
  show W.heap[w.heap.size]? = _;rw [hW];exact blk_below (heap_alloc_new w _) (Ac.below_alloc _ _)
 have E1:Hid (W.heap[w.heap.size+1]? = some (venO (.slice none 0 0) (.slice none 0 0) noTn)):=by
  show W.heap[w.heap.size+1]? = _;rw [hW];have hx:(w.alloc (.cells #[.slice p n1 cc,.slice p' n2 cc',.int .i64 s.ins,.int .i64 s.res,.int .i64 s.next,.int .i64 s.inn,.int .i64 s.out] 51)).heap.size=w.heap.size+1:=by simp
  have:=heap_alloc_new (w.alloc (.cells #[.slice p n1 cc,.slice p' n2 cc',.int .i64 s.ins,.int .i64 s.res,.int .i64 s.next,.int .i64 s.inn,.int .i64 s.out] 51)) (.cells #[.slice none 0 0,.slice none 0 0,.int .i64 0,.int .i64 0,.int .i64 0,.int .i64 0,.int .i64 0] 51);rw [hx] at this;exact this
 have CH:=hide (vin_check _ s W (h.below b0));have VI:=hide h;have LD:=hide hL;have HW:=hide hW;have BW:=hide b0;have SZ:=hide hsz;have HLN:=hide hl;have CR:=hide hr;clear hW b0 hsz h hL hl hr;obtain⟨a0,a1,a2,a3,a4,a5,a6⟩:=ven_cells E0.out;go_enter Tryz.func21,Tryz.ntmps21;go_wp2_with (rw [<- HW.out]);refine CH.out.mono ?_;rintro e X ⟨rfl,hbX⟩;have X0:=hide (blk_below E0.out hbX);have X1:=hide (blk_below E1.out hbX);have BX:=hide (BW.out.trans (hbX.mono BW.out.size));have SX:Hid (w.heap.size+2<=X.heap.size):=by rw [<- SZ.out];exact hbX.size
 clear CH HW E0 E1 BW SZ hbX a0 a1 a2 a3 a4 a5 a6;by_cases hce:checkE s=0
 ·rw [hce];by_cases h60:(60:Int)<(n:Int)
  ·have HR:Hid (Unit->runR s l=.error 2):=fun _=>by
    unfold runR;rw [if_pos hce,if_pos (by rw [HLN.out];omega)]
   have FA:=hide (runFail_any 2 X);clear VI LD CR X0 hce;go_wp2_with fail;refine FA.out.mono ?_;rintro e Y ⟨rfl,hbY⟩;have Y1:=hide (blk_below X1.out hbY);have BY:=hide (BX.out.trans (hbY.mono BX.out.size));clear X1 BX hbY FA;obtain⟨⟨⟨u0,hu0⟩,uf0⟩,⟨⟨u1,hu1⟩,uf1⟩,⟨⟨u2,hu2⟩,uf2⟩,⟨⟨u3,hu3⟩,uf3⟩,⟨⟨u4,hu4⟩,uf4⟩,⟨⟨u5,hu5⟩,uf5⟩,⟨⟨u6,hu6⟩,uf6⟩⟩:=ven_opq Y1.out;go_wp2;have HB:=seven_heap Y1.out (.slice none 0 0) (.slice none 0 0) (.int .i64 0) (.int .i64 0) (.int .i64 0) (.int .i64 0) (.int .i64 0);clear hu0 uf0 hu1 uf1 hu2 uf2 hu3 uf3 hu4 uf4 hu5 uf5 hu6 uf6;obtain⟨z0,z1,z2,z3,z4,z5,z6⟩:=ven_cells HB;refine bodyPost_ret (v:=.tuple #[venV (.slice none 0 0) (.slice none 0 0) noTn,.slice none 0 0,.int .i64 2]) (by simp [results,Tryz.results21,go_sem,z0,z1,z2,z3,z4,z5,z6]) rfl ⟨(seven_but Y (w.heap.size+1) _ _ _ _ _ _ _).below_of BY.out (by omega),.inr ⟨2,HR.out (),by decide,rfl⟩⟩
  ·have hs:=(checkE_zero.1 hce).1;have CO:=hide (copyOf_any _ s X (VI.out.below BX.out) hs);have HS:=hide hs;have HCE:=hide hce;have h60n:Hid (n<=60):=by show n<=60;omega
   clear hs hce;obtain⟨a0,a1,a2,a3,a4,a5,a6⟩:=ven_cells X0.out;go_wp2_with fail;refine CO.out.mono ?_;rintro e Y ⟨C,N,va,vm,rfl,cp⟩;obtain⟨pa0,ca0,rfl⟩:∃q c',va=.slice q C.length c':=by obtain⟨q,c',e,-⟩:=own_arow cp.rowA;exact⟨q,c',e⟩
   obtain⟨pm0,cm0,rfl⟩:∃q c',vm=.slice q N.length c':=by obtain⟨q,c',e,-⟩:=own_mrow cp.rowM;exact⟨q,c',e⟩
   have Y0:=hide (blk_below X0.out cp.below);have Y1:=hide (blk_below X1.out cp.below);have VY:=hide ((cp.vnew HS.out).mono SX.out);have BY:=hide (BX.out.trans (cp.below.mono BX.out.size));have SY:Hid (w.heap.size+2<=Y.heap.size):=Nat.le_trans SX.out cp.below.size;generalize C.length=nC at *;generalize N.length=nN at *;clear CO X0 X1 BX SX cp a0 a1 a2 a3 a4 a5 a6 VI;obtain⟨⟨⟨u0,hu0⟩,uf0⟩,⟨⟨u1,hu1⟩,uf1⟩,⟨⟨u2,hu2⟩,uf2⟩,⟨⟨u3,hu3⟩,uf3⟩,⟨⟨u4,hu4⟩,uf4⟩,⟨⟨u5,hu5⟩,uf5⟩,⟨⟨u6,hu6⟩,uf6⟩⟩:=ven_opq Y0.out;have ZS:=hide (seven_but Y w.heap.size (.slice pa0 nC ca0) (.slice pm0 nN cm0) (.int .i64 s.ins) (.int .i64 s.res) (.int .i64 s.next) (.int .i64 s.inn) (.int .i64 s.out))
   have R0:Hid (RInv w s l 0 s [] (.slice pa0 nC ca0) (.slice pm0 nN cm0) (.slice none 0 0) (seven Y w.heap.size (.slice pa0 nC ca0) (.slice pm0 nN cm0) (.int .i64 s.ins) (.int .i64 s.res) (.int .i64 s.next) (.int .i64 s.inn) (.int .i64 s.out))) :=
    ⟨rfl,rfl,HCE.out,VY.out.but ZS.out (fun b e=>by omega),eev_nil _ _,seven_heap Y0.out _ _ _ _ _ _ _,blk_but Y1.out ZS.out (by omega),ZS.out.below_of BY.out (Nat.le_refl _),Nat.le_trans SY.out ZS.out.size⟩
   go_wp2_with fail;clear hu0 uf0 hu1 uf1 hu2 uf2 hu3 uf3 hu4 uf4 hu5 uf5 hu6 uf6
   go_loopw [9,37] (fun cv i wr=>∃(k:Nat) (sk:Tn) (L:List (List Ev)) (va vm:Value),k<=n/\i=.int .i64 k/\Hid (RInv w s l k sk L va vm cv wr)) (fun _ i _=>n - (intOf i).toNat)
   case atStart=>exact⟨0,s,[],_,_,Nat.zero_le _,rfl,R0⟩
   case round =>
    clear R0 ZS Y0 Y1 VY BY SY;obtain⟨k,sk,L,va,vm,hk,rfl,I⟩:=hrel;by_cases hlt:k<n
    ·have hltz:(k:Int)<(n:Int):=by omega
     have hkl:k<l.length:=by rw [HLN.out];exact hlt
     obtain⟨b,off,rfl,hc⟩:∃b off,pl=some ⟨b,off,none⟩/\∀j u,(l.flatMap encC)[j]? = some u->wr.cell? ⟨b,off+j,none⟩=some u:=by
      rcases crow_below CR.out I.out.below with e | e
      ·rw [e] at hkl;simp at hkl
      ·exact e
     have cell:=fun i v hv=>crow_cell hc hkl i v hv;have HRUN:Hid (runL l s []=runL (l[k]::l.drop (k+1)) sk L):=by rw [<- List.drop_eq_getElem_cons hkl];exact I.out.run
     generalize l[k]'hkl=cm at cell HRUN;obtain⟨kind,ac,mkt,nn,⟨o1,o2,o3,o4,o5⟩,how,red⟩:=cm;have c0:wr.cell? ⟨b,off+k*11,none⟩=some (.int .i64 kind):=cell 0 _ rfl;have c1:=cell 1 (.int .i64 ac) rfl;have c2:=cell 2 (.int .i64 mkt) rfl;have c3:=cell 3 (.int .i64 nn) rfl;have c4:=cell 4 (.int .i64 o1) rfl;have c5:=cell 5 (.int .i64 o2) rfl;have c6:=cell 6 (.int .i64 o3) rfl;have c7:=cell 7 (.int .i64 o4) rfl;have c8:=cell 8 (.int .i64 o5) rfl;have c9:=cell 9 (.int .i64 how) rfl;have c10:=cell 10 (.bool red) rfl;obtain⟨⟨pa,na,ca,rfl⟩,⟨pm,nm,cm',rfl⟩,-⟩:=vnew_parts I.out.ven;obtain⟨W1,hW1⟩:∃W1,W1=wr.alloc (.cells #[.int .i64 kind,.int .i64 ac,.int .i64 mkt,.int .i64 nn,.int .i64 o1,.int .i64 o2,.int .i64 o3,.int .i64 o4,.int .i64 o5,.int .i64 how,.bool red] 28):=⟨_,rfl⟩;have hb1:Below wr.heap.size wr W1:=by rw [hW1];exact Ac.below_alloc _ _
     have B0:=hide (blk_below I.out.box hb1);have B1:Hid (W1.heap[wr.heap.size]? = some (cmO ⟨kind,ac,mkt,nn,(o1,o2,o3,o4,o5),how,red⟩)):=by show W1.heap[wr.heap.size]? = _;rw [hW1];exact heap_alloc_new wr _
     have BB1:=hide (I.out.below.trans (hb1.mono I.out.below.size));have DO:=hide (venue_do _ sk ⟨kind,ac,mkt,nn,(o1,o2,o3,o4,o5),how,red⟩ W1 ((I.out.ven.below hb1).mono (Nat.zero_le _)) (LD.out.next BB1.out));have HB1:=hide hb1;have HW1:=hide hW1;obtain⟨a0,a1,a2,a3,a4,a5,a6⟩:=ven_cells B0.out;have d0:=(blk_cell B1.out 0).1;have d1:=(blk_cell B1.out 1).1;have d2:=(blk_cell B1.out 2).1;have d3:=(blk_cell B1.out 3).1;have d4:=(blk_cell B1.out 4).1;have d5:=(blk_cell B1.out 5).1;have d6:=(blk_cell B1.out 6).1;have d7:=(blk_cell B1.out 7).1;have d8:=(blk_cell B1.out 8).1;have d9:=(blk_cell B1.out 9).1;have d10:=(blk_cell B1.out 10).1;simp only [List.getElem?_toArray,List.getElem?_cons_zero,List.getElem?_cons_succ] at d0 d1 d2 d3 d4 d5 d6 d7 d8 d9 d10;clear hW1 hb1 cell hc;go_wp2_with (rw [<- HW1.out]);refine DO.out.mono ?_;clear DO HW1 c0 c1 c2 c3 c4 c5 c6 c7 c8 c9 c10 a0 a1 a2 a3 a4 a5 a6 d0 d1 d2 d3 d4 d5 d6 d7 d8 d9 d10 B0 B1;rintro e Z ⟨v',ev,rfl,hbZ,hvZ,heZ⟩;obtain⟨q1,q2⟩:=do_right ⟨kind,ac,mkt,nn,(o1,o2,o3,o4,o5),how,red⟩ I.out.ok;have HRUN2:Hid (runL l s []=runL (l.drop (k+1)) (doR sk ⟨kind,ac,mkt,nn,(o1,o2,o3,o4,o5),how,red⟩).1 (L++[(doR sk ⟨kind,ac,mkt,nn,(o1,o2,o3,o4,o5),how,red⟩).1.evs])):=by
      show runL l s []=_;rw [HRUN.out]
      conv=>lhs;unfold runL
      rw [if_pos q1]
     rw [q1];generalize (doR sk ⟨kind,ac,mkt,nn,(o1,o2,o3,o4,o5),how,red⟩).1=s2 at hvZ heZ q2 HRUN2;obtain⟨pa2,na2,ca2,pm2,nm2,cm2,rfl⟩:=vnew_is hvZ;have SWR:=hide I.out.sz;have SW1:Hid (wr.heap.size<=W1.heap.size):=HB1.out.size;have heZ2:EIn (fun x=>x<W1.heap.size) Z ev s2.evs:=heZ;obtain⟨pe,ce,rfl⟩:∃p c,ev=.slice p s2.evs.length c:=by obtain⟨q,c',e,-⟩:=heZ;exact⟨q,c',e⟩
     obtain⟨X,hX⟩:∃X,X=Z.alloc (.cells #[.slice pa2 na2 ca2,.slice pm2 nm2 cm2,.int .i64 s2.ins,.int .i64 s2.res,.int .i64 s2.next,.int .i64 s2.inn,.int .i64 s2.out] 51):=⟨_,rfl⟩;have hbX:Below Z.heap.size Z X:=by rw [hX];exact Ac.below_alloc _ _
     have NB:X.heap[Z.heap.size]? = some (venO (.slice pa2 na2 ca2) (.slice pm2 nm2 cm2) s2):=by rw [hX];exact heap_alloc_new Z _
     have bWX:Below wr.heap.size wr X:=(HB1.out.trans (hbZ.mono SW1.out)).trans (hbX.mono (Nat.le_trans SW1.out hbZ.size));have EE0:=I.out.evs.below bWX;obtain⟨E,hrowE,heach⟩:=EE0;have hlenL:=I.out.len;have KV:=(own_lt hrowE);have KVW:Hid (∀b,u9.ownBlock=some b->w.heap.size+2<=b/\b<wr.heap.size):=fun b hb=>by
      obtain⟨E',h1',-⟩:=I.out.evs;exact own_lt h1' b hb
     have HEV:Hid (EIn (fun x=>x<w.heap.size+2\/u9.ownBlock=some x) X (.slice pe s2.evs.length ce) s2.evs):=by
      refine(heZ2.but (F:=fun _=>False) (.of_below hbX) (fun _ f=>f.elim)).mono (fun x hx=>?_);have:=SWR.out;have:=SW1.out;rcases hx with hx | hx
      ·omega
      ·have:=(KVW.out x hx).2;omega
     obtain⟨Y,hY⟩:∃Y,Y=(X.alloc (.cells #[.slice pe s2.evs.length ce] 59)).drew:=⟨_,rfl⟩;have REY:Hid (Y.ownsRow (w.heap.size+2) 59 1 u9 k E):=by show Y.ownsRow _ _ _ _ _ _;rw [hY];rw [hlenL] at hrowE;exact(hrowE.alloc _).drew
     have NEWS:Hid (∀j u,[Value.slice pe s2.evs.length ce][j]? = some u->Y.cell? ((⟨X.heap.size,0,none⟩:Addr).add j)=some u):=by
      rw [hY];exact World.news_of_block (cs:=#[.slice pe s2.evs.length ce]) (heap_alloc_new X _)
     have YH:Y.heap.size=X.heap.size+1:=by rw [hY];simp
     have bXY:Below X.heap.size X Y:=by rw [hY];exact(Ac.below_alloc X _).drew
     have hbase:w.heap.size+2<=Y.heap.size:=by have:=bWX.size;have:=SWR.out;omega
     have hk60:k<60:=by have:=h60n.out;omega
     have h63:k+1<=maxLen:=by unfold maxLen;omega
     have hby:(k+1)*24<=140737488355328:=by omega
     have MORE:Hid (∀g cap w1,w1.ownsRow (w.heap.size+2) 59 1 (.slice (some ⟨g,0,none⟩) (k+1) cap) (k+1) (E++[.slice pe s2.evs.length ce])->Y.grownBy w1 u9.ownBlock->(u9.ownBlock=some g\/g=X.heap.size+1)->∃L2,RInv w s l (k+1) s2 L2 (.slice pa2 na2 ca2) (.slice pm2 nm2 cm2) (.slice (some ⟨g,0,none⟩) (k+1) cap) (seven w1 w.heap.size (.slice pa2 na2 ca2) (.slice pm2 nm2 cm2) (.int .i64 s2.ins) (.int .i64 s2.res) (.int .i64 s2.next) (.int .i64 s2.inn) (.int .i64 s2.out))):=fun g cap w1 hown hgrow hat=>by
      have hM:=EEv.more (H:=X.heap.size) (K:=s2.evs) hrowE heach HEV.out rfl Y bXY (by rw [hlenL];exact hown) hgrow (hat.imp id (fun e=>by omega));have bt:But (fun b=>u9.ownBlock=some b) X w1:=(But.of_below bXY).grown hgrow (fun k hk=>.inl hk);have bw1:Below w.heap.size w w1:=But.below_all bt (I.out.below.trans (bWX.mono I.out.below.size)) (fun b hb=>by have:=(KVW.out b hb).1;omega);have ZS:=seven_but w1 w.heap.size (.slice pa2 na2 ca2) (.slice pm2 nm2 cm2) (.int .i64 s2.ins) (.int .i64 s2.res) (.int .i64 s2.next) (.int .i64 s2.inn) (.int .i64 s2.out);have nF:∀b,b<w.heap.size+2->¬u9.ownBlock=some b:=fun b hb e=>by have:=(KVW.out b e).1;omega
      have bx:=blk_but (blk_below I.out.box bWX) bt (nF _ (by omega));have rbx:=blk_but (blk_below I.out.rbox bWX) bt (nF _ (by omega));have vv:VNew (w.heap.size+2) w1 (venV (.slice pa2 na2 ca2) (.slice pm2 nm2 cm2) s2) s2:=by
       refine((hvZ.below hbX).but bt (fun b hb=>?_)).mono ?_
       ·have:=(KVW.out b hb).2;have:=SW1.out;omega
       ·have:=SWR.out;have:=SW1.out;omega
      refine⟨L++[s2.evs],HRUN2.out,by rw [List.length_append,hlenL];rfl,q2,vv.but ZS (fun b e=>by omega),?_,seven_heap bx _ _ _ _ _ _ _,blk_but rbx ZS (by omega),ZS.below_of bw1 (Nat.le_refl _),?_⟩
      ·have:=hM.but ZS (fun b e=>by omega);rw [List.length_append,hlenL] at this;exact this
      ·have:=bWX.size;have:=bt.size;have:=ZS.size;have:=SWR.out;omega
     have NBC:Hid (∀q,q<7->∀u,(venC (.slice pa2 na2 ca2) (.slice pm2 nm2 cm2) s2)[q]? = some u->Y.cell? ⟨Z.heap.size,q,none⟩=some u):=fun q _ u hu=>by
      rw [(blk_cell (blk_below NB bXY) q).1];exact hu
     have NW1:Hid (∀w1,Y.grownBy w1 u9.ownBlock->(∀q u,Y.cell? ⟨Z.heap.size,q,none⟩=some u->w1.cell? ⟨Z.heap.size,q,none⟩=some u)/\w1.heap[w.heap.size]? = Y.heap[w.heap.size]?):=fun w1 hg=>by
      have hz:¬u9.ownBlock=some Z.heap.size:=fun e=>by have:=(KVW.out _ e).2;have:=SW1.out;have:=hbZ.size;omega
      have hw0:¬u9.ownBlock=some w.heap.size:=fun e=>by have:=(KVW.out _ e).1;omega
      refine⟨fun q u hu=>?_,hg.block _ (by omega) (fun e=>hw0 e.symm)⟩;exact(hg.cell_far _ (World.block_lt_of_cell? _ _ hu) (fun e=>hz e.symm)).trans hu
     have YB:=hide (blk_below (blk_below I.out.box bWX) bXY);obtain⟨x0,x1,x2,x3,x4,x5,x6⟩:=ven_cells NB;have y0:=fun o=>cell_old x0 o;have y1:=fun o=>cell_old x1 o;have y2:=fun o=>cell_old x2 o;have y3:=fun o=>cell_old x3 o;have y4:=fun o=>cell_old x4 o;have y5:=fun o=>cell_old x5 o;have y6:=fun o=>cell_old x6 o;have HX:=hide hX;have HY:=hide hY;clear hX hY hbX NB bWX hrowE heach hlenL KV bXY I hvZ heZ heZ2 hbZ q1 q2 HB1 BB1;go_wp2_with (rw [<- HX.out]);go_region_law ((rw [<- HY.out];refine step_append_lies _ (by rfl) (.tmp 57) (.tmp 59) 53 (by rfl) (w.heap.size+2) 59 i0 (.slice none 0 0) 1 24 Tryz.underlying53 hi hz0 hz1 hz2 (by rfl) (by decide) u9 k E (by rfl) REY.out ⟨X.heap.size,0,none⟩ 1 1 [.slice pe s2.evs.length ce] (by rfl) (by rfl) NEWS.out (by simp [Value.oneCell']) (by decide) h63 hby hbase (X.heap.size+1) YH ?_;intro g cap w1 hown hgrow hat hlt;obtain⟨nw1,nw2⟩:=NW1.out w1 hgrow;have FIN:=hide (MORE.out g cap w1 hown hgrow hat);have wb:=nw2.trans YB.out;have e0:=nw1 0 _ (NBC.out 0 (by decide) _ rfl);obtain⟨u0,hu0⟩:∃u,w1.cell? ⟨w.heap.size,0,none⟩=some u:=⟨_,(blk_cell wb 0).1⟩;have uf0:=(blk_cell wb 0).2;have e1:=nw1 1 _ (NBC.out 1 (by decide) _ rfl);obtain⟨u1,hu1⟩:∃u,w1.cell? ⟨w.heap.size,1,none⟩=some u:=⟨_,(blk_cell wb 1).1⟩;have uf1:=(blk_cell wb 1).2;have e2:=nw1 2 _ (NBC.out 2 (by decide) _ rfl);obtain⟨u2,hu2⟩:∃u,w1.cell? ⟨w.heap.size,2,none⟩=some u:=⟨_,(blk_cell wb 2).1⟩;have uf2:=(blk_cell wb 2).2;have e3:=nw1 3 _ (NBC.out 3 (by decide) _ rfl);obtain⟨u3,hu3⟩:∃u,w1.cell? ⟨w.heap.size,3,none⟩=some u:=⟨_,(blk_cell wb 3).1⟩;have uf3:=(blk_cell wb 3).2;have e4:=nw1 4 _ (NBC.out 4 (by decide) _ rfl);obtain⟨u4,hu4⟩:∃u,w1.cell? ⟨w.heap.size,4,none⟩=some u:=⟨_,(blk_cell wb 4).1⟩;have uf4:=(blk_cell wb 4).2;have e5:=nw1 5 _ (NBC.out 5 (by decide) _ rfl);obtain⟨u5,hu5⟩:∃u,w1.cell? ⟨w.heap.size,5,none⟩=some u:=⟨_,(blk_cell wb 5).1⟩;have uf5:=(blk_cell wb 5).2;have e6:=nw1 6 _ (NBC.out 6 (by decide) _ rfl);obtain⟨u6,hu6⟩:∃u,w1.cell? ⟨w.heap.size,6,none⟩=some u:=⟨_,(blk_cell wb 6).1⟩;have uf6:=(blk_cell wb 6).2;clear hown hgrow hat hlt nw1 nw2 wb));all_goals clear MORE NBC NW1 YB REY NEWS
     all_goals go_wp2
     all_goals go_roundw
     all_goals first | (obtain⟨L2,hR⟩:=FIN.out;exact⟨k+1,s2,L2,_,_,by omega,by go_num,hR⟩) | (simp [intOf];omega)
    ·obtain rfl:k=n:=by omega
     obtain⟨⟨pa,na,ca,rfl⟩,⟨pm,nm,cm',rfl⟩,-⟩:=vnew_parts I.out.ven;have HR:Hid (runR s l=.ok (sk,L)):=by
      show runR s l=_;unfold runR;rw [if_pos HCE.out,if_neg (by rw [HLN.out];have:=h60n.out;omega),I.out.run,List.drop_eq_nil_of_le (by rw [HLN.out];exact Nat.le_refl _)];rfl
     have IH:=hide I.out;obtain⟨a0,a1,a2,a3,a4,a5,a6⟩:=ven_cells I.out.box;obtain⟨⟨⟨u0,hu0⟩,uf0⟩,⟨⟨u1,hu1⟩,uf1⟩,⟨⟨u2,hu2⟩,uf2⟩,⟨⟨u3,hu3⟩,uf3⟩,⟨⟨u4,hu4⟩,uf4⟩,⟨⟨u5,hu5⟩,uf5⟩,⟨⟨u6,hu6⟩,uf6⟩⟩:=ven_opq I.out.rbox;clear I;go_wp2;have ZS:=seven_but wr (w.heap.size+1) (.slice pa na ca) (.slice pm nm cm') (.int .i64 sk.ins) (.int .i64 sk.res) (.int .i64 sk.next) (.int .i64 sk.inn) (.int .i64 sk.out);have HB:=seven_heap IH.out.rbox (.slice pa na ca) (.slice pm nm cm') (.int .i64 sk.ins) (.int .i64 sk.res) (.int .i64 sk.next) (.int .i64 sk.inn) (.int .i64 sk.out);clear hu0 uf0 hu1 uf1 hu2 uf2 hu3 uf3 hu4 uf4 hu5 uf5 hu6 uf6;obtain⟨z0,z1,z2,z3,z4,z5,z6⟩:=ven_cells HB;refine bodyPost_ret (v:=.tuple #[venV (.slice pa na ca) (.slice pm nm cm') sk,u9,.int .i64 0]) (by simp [results,Tryz.results21,go_sem,z0,z1,z2,z3,z4,z5,z6]) rfl ⟨ZS.below_of IH.out.below (by omega),.inl ⟨sk,L,_,_,HR.out,rfl,(IH.out.ven.but ZS (fun b e=>by omega)).mono (by omega),(IH.out.evs.but ZS (fun b e=>by omega)).mono (by omega)⟩⟩
 ·have HR:Hid (Unit->runR s l=.error (checkE s)):=fun _=>by
   unfold runR;rw [if_neg hce]
  obtain⟨ce,hcee⟩:∃ce,ce=checkE s:=⟨_,rfl⟩;rw [<- hcee] at HR hce ⊢;have FA:=hide (runFail_any ce X);clear VI LD CR X0 hcee;go_wp2_with fail;refine FA.out.mono ?_;rintro e Y ⟨rfl,hbY⟩;have Y1:=hide (blk_below X1.out hbY);have BY:=hide (BX.out.trans (hbY.mono BX.out.size));clear X1 BX hbY FA;obtain⟨⟨⟨u0,hu0⟩,uf0⟩,⟨⟨u1,hu1⟩,uf1⟩,⟨⟨u2,hu2⟩,uf2⟩,⟨⟨u3,hu3⟩,uf3⟩,⟨⟨u4,hu4⟩,uf4⟩,⟨⟨u5,hu5⟩,uf5⟩,⟨⟨u6,hu6⟩,uf6⟩⟩:=ven_opq Y1.out;go_wp2;have HB:=seven_heap Y1.out (.slice none 0 0) (.slice none 0 0) (.int .i64 0) (.int .i64 0) (.int .i64 0) (.int .i64 0) (.int .i64 0);clear hu0 uf0 hu1 uf1 hu2 uf2 hu3 uf3 hu4 uf4 hu5 uf5 hu6 uf6;obtain⟨z0,z1,z2,z3,z4,z5,z6⟩:=ven_cells HB;refine bodyPost_ret (v:=.tuple #[venV (.slice none 0 0) (.slice none 0 0) noTn,.slice none 0 0,.int .i64 ce]) (by simp [results,Tryz.results21,go_sem,z0,z1,z2,z3,z4,z5,z6]) rfl ⟨(seven_but Y (w.heap.size+1) _ _ _ _ _ _ _).below_of BY.out (by omega),.inr ⟨ce,HR.out (),hce,rfl⟩⟩
end Go.Proofs.YthdjfhnhjiageaaGreatDoor.Vn
