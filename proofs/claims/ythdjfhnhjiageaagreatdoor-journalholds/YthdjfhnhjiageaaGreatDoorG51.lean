import Derived.Test.YthdjfhnhjiageaaGreatDoorG50
import Derived.Test.YthdjfhnhjiageaaGreatDoorG42
set_option maxHeartbeats 8000000
set_option maxRecDepth 100000
namespace Go.Proofs.YthdjfhnhjiageaaGreatDoor.Tx
open Go.RowKit Go.Lib Go.Sort
def cmV (c:Cd):Vn.Cm:=⟨c.kind,c.ac,c.mkt,c.n,(c.oi,c.oa,c.sd,c.pr,c.qt),c.how,c.red⟩
theorem cmV_enc (L:List Cd):(L.map cmV).flatMap Vn.encC=L.flatMap encD:=by
 induction L with
 |nil=>rfl
 |cons c L ih=>rw [List.map_cons,List.flatMap_cons,List.flatMap_cons,ih];rfl
def CdRow (w:World) (p:Option Addr) (L:List Cd):Prop:=L=[]\/∃b off,p=some ⟨b,off,none⟩/\∀j u,(L.flatMap encD)[j]? = some u->w.cell? ⟨b,off+j,none⟩=some u
theorem CdRow.below {w w':World}{p:Option Addr}{L:List Cd}(h:CdRow w p L)(hb:Below w.heap.size w w'):CdRow w' p L:=by
 rcases h with h | ⟨b,off,rfl,hc⟩
 ·exact .inl h
 ·exact .inr ⟨b,off,rfl,fun j u hu=>(hb.cell (World.block_lt_of_cell? _ _ (hc j u hu))).trans (hc j u hu)⟩
theorem CdRow.take {w:World}{p:Option Addr}{L:List Cd}(h:CdRow w p L)(k:Nat):CdRow w p (L.take k):=by
 rcases h with rfl | ⟨b,off,rfl,hc⟩
 ·exact .inl (by simp)
 ·refine .inr ⟨b,off,rfl,fun j u hu=>hc j u ?_⟩;have e:L.flatMap encD=(L.take k).flatMap encD++(L.drop k).flatMap encD:=by rw [<- List.flatMap_append,List.take_append_drop]
  rw [e,List.getElem?_append_left (List.getElem?_eq_some_iff.1 hu).1];exact hu
theorem CdRow.cm {w:World}{p:Option Addr}{L:List Cd}(h:CdRow w p L):Vn.CRow w p (L.map cmV):=by
 rcases h with rfl | h
 ·exact .inl rfl
 ·refine .inr ?_;rw [cmV_enc];exact h
theorem CdRow.cells {w:World}{p:Option Addr}{L:List Cd}(h:CdRow w p L)(hL:¬L=[]):∃b off,p=some ⟨b,off,none⟩/\∀j,j<L.length->∀i u,(encD L[j]!)[i]? = some u->w.cell? ⟨b,off+j*11+i,none⟩=some u:=by
 rcases h with h | ⟨b,off,rfl,hc⟩
 ·exact absurd h hL
 ·refine⟨b,off,rfl,fun j hj i u hu=>?_⟩;have hi:i<11:=(List.getElem?_eq_some_iff.1 hu).1;rw [Nat.add_assoc];exact hc _ u (by rw [flatE_get L j i hj hi];exact hu)
theorem ownC_row {B:Nat}{w:World}{p:Option Addr}{n c:Nat}{L:List Cd}(h:OwnC B w (.slice p n c) L):CdRow w p L:=by
 by_cases hL:L=[]
 ·exact .inl hL
 ·obtain⟨g,cap,e,hc⟩:=ownC_cells h hL
  cases e
  refine .inr ⟨g,0,rfl,fun j u hu=>?_⟩;have hj:j<L.length*11:=by
   have:=(List.getElem?_eq_some_iff.1 hu).1;rw [flatE_len] at this;exact this
  have:=hc (j / 11) (by omega) (j % 11) u (by
   rw [<- flatE_get L (j / 11) (j % 11) (by omega) (by omega),show j / 11*11+j % 11=j by omega];exact hu)
  rw [Nat.add_assoc,show j / 11*11+j % 11=j by omega] at this;exact this
theorem equalR_same (p p':Option Addr)(n c c':Nat)(L:List Cd)(w:World)(hl:L.length=n)(h:CdRow w p L)(h':CdRow w p' L)(hn:n<=1000) :
  Calls Tryz.prog 18 #[.slice p n c,.slice p' n c'] w fun e w'=>e=.returned (.bool true)/\Below w.heap.size w w':=by
 by_cases hL:L=[]
 ·subst hL
  cases hl;exact equalD_none p p' c c' w
 ·subst hl;obtain⟨g,o,rfl,hc⟩:=h.cells hL;obtain⟨g',o',rfl,hc'⟩:=h'.cells hL;have hcon:=AnyQ.slices_Equal Tryz.equalJ 11 Tryz.isAgg28 Tryz.sizeOf28 encD encD_len sameC neqD g o L.length c g' o' L.length c' L L w (Nat.le_refl _) (Nat.le_refl _) (by omega) (by omega) hc hc';rw [List.take_length,allEqD] at hcon;exact hcon.mono fun _ _ ⟨he,k,hk⟩=>⟨he,hk▸(Below.refl _ w).trans ⟨rfl,rfl,rfl,Nat.le_refl _,fun _ _=>rfl⟩⟩
structure Put (l:List Cd) (s k:Nat) (a b:List Cd):Prop where
 all:a++b=l.take k
 safe:s<=k->s<=a.length
 right:Right (a++b)
theorem put_start (l:List Cd)(s:Nat):Put l s 0 [] []:=⟨by simp,fun h=>by simpa using h,fun _ h=>by simp at h⟩
theorem Put.len {l:List Cd}{s k:Nat}{a b:List Cd}(h:Put l s k a b)(hk:k<=l.length):a.length+b.length=k:=by
 have:=congrArg List.length h.all;rw [List.length_append,List.length_take] at this;omega
theorem Put.more {l:List Cd}{s k:Nat}{a b:List Cd}(h:Put l s k a b)(hk:k<l.length)(hs:¬k+1=s)(hc:checkC l[k]=0)(hf:l[k].fits):Put l s (k+1) a (b++[l[k]]) :=
 ⟨by rw [<- List.append_assoc,h.all,List.take_add_one,List.getElem?_eq_getElem hk];rfl,fun h1=>h.safe (by omega),by rw [<- List.append_assoc];exact h.right.join (.one hc hf)⟩
theorem Put.sync {l:List Cd}{s k:Nat}{a b:List Cd}(h:Put l s k a b)(hk:k<l.length)(hs:k+1=s)(hc:checkC l[k]=0)(hf:l[k].fits):Put l s (k+1) (a++(b++[l[k]])) []:=by
 have e:a++(b++[l[k]])=l.take (k+1):=by rw [<- List.append_assoc,h.all,List.take_add_one,List.getElem?_eq_getElem hk];rfl
 have r:Right (a++(b++[l[k]])):=by rw [<- List.append_assoc];exact h.right.join (.one hc hf)
 refine⟨by rw [List.append_nil,e],fun _=>?_,by rw [List.append_nil];exact r⟩;rw [e,List.length_take];omega
theorem Put.back {l:List Cd}{s:Nat}{a b:List Cd}(h:Put l s l.length a b)(hs:s<=l.length)(hn:l.length<=30)(n:Nat):∃m,s<=m/\m<=l.length/\recD ⟨linesL a,(linesL b).take n⟩=(⟨linesL (l.take m),[]⟩,l.take m,0)/\Right (l.take m):=by
 have hl:=h.len (Nat.le_refl _);have hall:=h.all;rw [List.take_length] at hall;obtain⟨ra,rb⟩:=h.right.app;obtain⟨j,hj,e⟩:=rec_take ra rb (by omega) n;have hm:a++b.take j=l.take (a.length+j):=by rw [<- hall,List.take_length_add_append]
 refine⟨a.length+j,by have:=h.safe hs;omega,by omega,?_,?_⟩
 ·rw [e,hm]
 ·rw [<- hm];exact ra.join (rb.take j)
theorem lines_few {l:List Cd}(h:Right l)(hn:l.length<=30):(linesL l).length<=6030:=by
 have:=lines_len h;omega
structure Bx (X:World) (b:Nat) (p:Option Addr) (n c:Nat) (p':Option Addr) (n' c':Nat) (d:Dk):Prop where
 box:X.heap[b]? = some (dkO (.slice p n c) (.slice p' n' c'))
 one:Bt X p n c d.safe
 two:Bt X p' n' c' d.wait
theorem Bx.below {X Y:World}{b:Nat}{p:Option Addr}{n c:Nat}{p':Option Addr}{n' c':Nat}{d:Dk}(h:Bx X b p n c p' n' c' d)(hb:Below X.heap.size X Y):Bx Y b p n c p' n' c' d:=⟨dk_below h.box hb,h.one.below hb,h.two.below hb⟩
theorem bx_new {X:World}{p:Option Addr}{n c:Nat}{p':Option Addr}{n' c':Nat}{d:Dk}(h1:Bt X p n c d.safe)(h2:Bt X p' n' c' d.wait):Bx (X.alloc (dkO (.slice p n c) (.slice p' n' c'))) X.heap.size p n c p' n' c' d :=
 ⟨heap_alloc_new X _,h1.below (below_alloc X _),h2.below (below_alloc X _)⟩
theorem bx_same {X:World}{b:Nat}{p:Option Addr}{n c:Nat}{p':Option Addr}{n' c':Nat}{b2:Nat}{q:Option Addr}{m e:Nat}{q':Option Addr}{m' e':Nat}{d:Dk}(h1:Bx X b p n c p' n' c' d)(h2:Bx X b2 q m e q' m' e' d)(hs:d.safe.length<=100000)(hw:d.wait.length<=100000) :
  Calls Tryz.prog 12 #[dkV p n c p' n' c',dkV q m e q' m' e'] X fun e w'=>e=.returned (.bool true)/\Below X.heap.size X w':=by
 obtain rfl:n=m:=h1.one.len.symm.trans h2.one.len;obtain rfl:n'=m':=h1.two.len.symm.trans h2.two.len;exact sameDisk_any p n c p' n' c' q e q' e' d X h1.one h1.two h2.one h2.two (by rw [<- h1.one.len];exact hs) (by rw [<- h1.two.len];exact hw)
def Shut (K:World->Prop):Prop:=∀x y,K x->Below x.heap.size x y->K y
theorem shut_and {K F:World->Prop}(hK:Shut K)(hF:Shut F):Shut (fun x=>K x/\F x):=fun x y h hb=>⟨hK x y h.1 hb,hF x y h.2 hb⟩
theorem grow {K F:World->Prop}(hK:Shut K)(hF:Shut F){V:World}(h1:K V)(h2:F V):∃K':World->Prop,Shut K'/\K' V/\∀x,K' x->K x/\F x:=⟨fun x=>K x/\F x,shut_and hK hF,⟨h1,h2⟩,fun _ h=>h⟩
theorem bx_shut (b:Nat)(p:Option Addr)(n c:Nat)(p':Option Addr)(n' c':Nat)(d:Dk):Shut (fun x=>Bx x b p n c p' n' c' d):=fun _ _ h hb=>h.below hb
theorem row_shut (p:Option Addr)(L:List Cd):Shut (fun x=>CdRow x p L):=fun _ _ h hb=>h.below hb
structure HB (w:World) (va vm:Value) (s:Vn.Tn) (d:Dk) (p:Option Addr) (n c:Nat) (p':Option Addr) (n' c':Nat) (X:World):Prop where
 bel:Below w.heap.size w X
 ven:X.heap[w.heap.size]? = some (Vn.venO va vm s)
 bx:Bx X (w.heap.size+1) p n c p' n' c' d
 k1:Nw (w.heap.size+1+1) p
 k2:Nw (w.heap.size+1+1) p'
section
variable {w:World} {va vm:Value} {s:Vn.Tn} {d d':Dk} {p:Option Addr} {n c:Nat} {p':Option Addr} {n' c':Nat} {q:Option Addr} {m e:Nat} {q':Option Addr} {m' e':Nat} {X Y:World}
theorem HB.on (h:HB w va vm s d p n c p' n' c' X)(hb:Below X.heap.size X Y):HB w va vm s d p n c p' n' c' Y :=
 ⟨onward h.bel hb,Vn.blk_below h.ven hb,h.bx.below hb,h.k1,h.k2⟩
theorem HB.size (h:HB w va vm s d p n c p' n' c' X):w.heap.size+1+1<=X.heap.size:=(Array.getElem?_eq_some_iff.1 h.bx.box).1
theorem HB.put (h:HB w va vm s d p n c p' n' c' X)(h1:Bt X q m e d'.safe)(h2:Bt X q' m' e' d'.wait)(k1:Nw (w.heap.size+1+1) q)(k2:Nw (w.heap.size+1+1) q') :
  HB w va vm s d' q m e q' m' e' ((X.setCell ⟨w.heap.size+1,0,none⟩ (.slice q m e)).setCell ⟨w.heap.size+1,1,none⟩ (.slice q' m' e')):=by
 refine⟨(h.bel.setCell (by simp) _).setCell (by simp) _,?_,⟨dk_put h.bx.box _ _,(h1.set k1 _ _).set k1 _ _,(h2.set k2 _ _).set k2 _ _⟩,k1,k2⟩;rw [Below.heap_setCell _ _ _ _ (by simp),Below.heap_setCell _ _ _ _ (by simp)];exact h.ven
end
theorem cmd_cut (pl:Option Addr)(n cl j:Nat)(hj:j<=cl)(W:World):(Instr.slice 34 (.slice pl n cl) none (some (.int .i64 (j:Nat))) none).run Tryz.prog W=.ok (.slice pl j cl) W:=by
 have hz:=Tryz.sizeOf28;have hu:=Tryz.underlying34;have hel:Tryz.prog.elem 34=28:=by kernel_rfl
 rw [run_slice_h (P:=Tryz.prog) W 34 pl n cl (by rw [hel];exact hu) .i64 (j:Int) (by omega) (by omega),hel,hz W];simp only [Result.andThen,sliced,Int.toNat_natCast,Nat.zero_mul,Nat.sub_zero]
 cases pl with
 |none=>simp
 |some a=>simp [Addr.add]
end Go.Proofs.YthdjfhnhjiageaaGreatDoor.Tx
namespace Go.Proofs.YthdjfhnhjiageaaGreatDoor.Tx
open Go.RowKit Go.Lib Go.Sort
open Vn (VIn VNew venV venO Tn Cm Ev runR RunPost ven_opq ven_cells blk_below blk_cell seven_but seven_heap noTn vnew_is EEv venue_run But)
def runT (s:Tn) (l:List Cm):Tn × List (List Ev) × Int:=match runR s l with
 |.ok x=>(x.1,x.2,0)
 |.error r=>(noTn,[],r)
theorem runT_few (s:Tn)(l:List Cm):(runT s l).1.accs.length<=1000/\(runT s l).1.mkts.length<=1000/\(runT s l).2.1.length<=1000/\Num.money (runT s l).1.inn=true:=by
 unfold runT runR;split
 ·rename_i x hx;split at hx
  ·rename_i hc;split at hx
   ·cases hx
   ·rename_i hl;obtain⟨u,K,e1,e2,e3,-⟩:=Vn.runL_ok l s [] hc;rw [e1] at hx;cases hx;have h:=(Vn.checkE_zero.1 e2).1;have h1:=h.few;have h2:=h.m2;have h3:=h.inn
    refine⟨by dsimp only;omega,by dsimp only;omega,by simp only [List.nil_append];omega,?_⟩;unfold Vn.rng at h3;simp only [Num.money,Num.betw,decide_eq_true_eq];omega
  ·cases hx
 ·exact⟨Nat.zero_le _,Nat.zero_le _,Nat.zero_le _,rfl⟩
abbrev RunT (s:Tn) (l:List Cm) (w:World) (e:Ending) (w':World):Prop:=Below w.heap.size w w'/\∃v ev,e=.returned (.tuple #[v,ev,.int .i64 (runT s l).2.2])/\VNew w.heap.size w' v (runT s l).1/\EEv w.heap.size w' ev (runT s l).2.1
theorem run_all (v:Value)(s:Tn)(pl:Option Addr)(L:List Cd)(n c:Nat)(w:World)(h:VIn w v s)(hl:L.length=n)(hr:CdRow w pl L)(hn:n<=1000)(hL:Rk.Laid w) :
  Calls Tryz.prog 21 #[v,.slice pl n c] w (RunT s (L.map cmV) w):=by
 refine(venue_run v s pl (L.map cmV) n c w h (by rw [List.length_map];exact hl) hr.cm (by omega) hL).mono ?_;rintro e w' ⟨hb,⟨t,K,u,ev,hrun,rfl,hu,hev⟩ | ⟨r,hrun,-,rfl⟩⟩
 ·refine⟨hb,u,ev,?_⟩;unfold runT;rw [hrun];exact⟨rfl,hu,hev⟩
 ·refine⟨hb,venV (.slice none 0 0) (.slice none 0 0) noTn,.slice none 0 0,?_⟩;unfold runT;rw [hrun];exact⟨rfl,Vn.vnew_none _ _,Vn.eev_nil _ _⟩
theorem replay_any (v:Value)(s:Tn)(p:Option Addr)(n c:Nat)(p':Option Addr)(n' c':Nat)(d rd:Dk)(L:List Cd)(w:World)(hv:VIn w v s)(h:Bt w p n c d.safe)(h':Bt w p' n' c' d.wait)(hn:n<=140737488351232)(hn':n'<=140737488351232)(E:Env w)(hL:Rk.Laid w)(hrec:recD d=(rd,L,0))(hlen:L.length<=1000) :
  Calls Tryz.prog 20 #[v,dkV p n c p' n' c'] w (RunT s (L.map cmV) w):=by
 obtain⟨q,n1,cc,q',n2,cc',e⟩:=vnew_is hv;subst e;obtain⟨W,hW⟩:∃W,W=((w.alloc (venO (.slice q n1 cc) (.slice q' n2 cc') s)).alloc (dkO (.slice p n c) (.slice p' n' c'))).alloc (venO (.slice none 0 0) (.slice none 0 0) noTn):=⟨_,rfl⟩;have bW:Below w.heap.size w W:=by rw [hW];exact below3 w _ _ _
 have vW:W.heap[w.heap.size]? = some (venO (.slice q n1 cc) (.slice q' n2 cc') s):=by
  rw [hW];exact blk_below (blk_below (heap_alloc_new w _) (below_alloc _ _)) (below_alloc _ _)
 have gW:W.heap[w.heap.size+1]? = some (dkO (.slice p n c) (.slice p' n' c')):=by
  rw [hW];have:=heap_alloc_new (w.alloc (venO (.slice q n1 cc) (.slice q' n2 cc') s)) (dkO (.slice p n c) (.slice p' n' c'));simp only [World.size_alloc] at this;exact blk_below this (below_alloc _ _)
 have rW:W.heap[w.heap.size+1+1]? = some (venO (.slice none 0 0) (.slice none 0 0) noTn):=by
  rw [hW];have:=heap_alloc_new ((w.alloc (venO (.slice q n1 cc) (.slice q' n2 cc') s)).alloc (dkO (.slice p n c) (.slice p' n' c'))) (venO (.slice none 0 0) (.slice none 0 0) noTn);simp only [World.size_alloc] at this;exact this
 have RC:=hide (recover_any p n c p' n' c' d W (h.below bW) (h'.below bW) hn hn' (E.below bW));rw [hrec] at RC;obtain⟨g0,g1,-,-⟩:=dk_cell gW;have HW:=hide hW;have BW:=hide bW;have VW:=hide vW;have RW:=hide rW;have HV:=hide hv;have LD:=hide hL;clear hW bW vW gW rW hv hL h h' hn hn' E hrec;go_enter Tryz.func20,Tryz.ntmps20;go_wp2_with (rw [<- HW.out]);refine RC.out.mono ?_;rintro e X ⟨⟨v,lv,rfl,hdv,hown⟩,bX⟩;obtain⟨pR,nR,cR,pR',nR',cR',rfl,-⟩:=hdv;obtain⟨pl,cl,rfl⟩:=ownC_slice hown;obtain⟨V,hV⟩:∃V,V=X.alloc (dkO (.slice pR nR cR) (.slice pR' nR' cR')):=⟨_,rfl⟩;have bV:Below X.heap.size X V:=by rw [hV];exact below_alloc X _
 have bWV:=onward bX bV;have BV:=hide (onward BW.out bWV);have VV:=hide (blk_below VW.out bWV);have RV:=hide (blk_below RW.out bWV);have SV:Hid (w.heap.size+1+1<V.heap.size):=(Array.getElem?_eq_some_iff.1 RV.out).1;have RU:=hide (run_all _ s pl L L.length cl V (HV.out.below BV.out) rfl (ownC_row (own_on hown bV (Nat.le_refl _))) hlen (LD.out.next BV.out));have HVV:=hide hV;obtain⟨a0,a1,a2,a3,a4,a5,a6⟩:=ven_cells VV.out;clear RC HW g0 g1 hV bV bWV bX hown BW VW RW;clear W;generalize L.length=nL at *;go_wp2_with (rw [<- HVV.out]);clear HVV;refine RU.out.mono ?_;clear RU a0 a1 a2 a3 a4 a5 a6;obtain⟨t,K,r,hR⟩:∃t K r,runT s (L.map cmV)=(t,K,r):=⟨_,_,_,rfl⟩;have HR:=hide hR;rintro e Y ⟨hb,u,ev,rfl,hu,hev⟩;rw [hR] at hu hev ⊢;clear hR;dsimp only at hu hev ⊢;obtain⟨x,nx,cx,x',nx',cx',rfl⟩:=vnew_is hu;obtain⟨pe,ce,rfl⟩:=hev.size;have RY:=hide (blk_below RV.out hb);have BY:=hide (onward BV.out hb);have HU:=hide hu;have HE:=hide hev;clear hb hu hev RV VV BV;obtain⟨⟨⟨u0,hu0⟩,uf0⟩,⟨⟨u1,hu1⟩,uf1⟩,⟨⟨u2,hu2⟩,uf2⟩,⟨⟨u3,hu3⟩,uf3⟩,⟨⟨u4,hu4⟩,uf4⟩,⟨⟨u5,hu5⟩,uf5⟩,⟨⟨u6,hu6⟩,uf6⟩⟩:=ven_opq RY.out;go_wp2;clear hu0 uf0 hu1 uf1 hu2 uf2 hu3 uf3 hu4 uf4 hu5 uf5 hu6 uf6;have ZS:=seven_but Y (w.heap.size+1+1) (.slice x nx cx) (.slice x' nx' cx') (.int .i64 t.ins) (.int .i64 t.res) (.int .i64 t.next) (.int .i64 t.inn) (.int .i64 t.out);have HB:=seven_heap RY.out (.slice x nx cx) (.slice x' nx' cx') (.int .i64 t.ins) (.int .i64 t.res) (.int .i64 t.next) (.int .i64 t.inn) (.int .i64 t.out);obtain⟨z0,z1,z2,z3,z4,z5,z6⟩:=ven_cells HB;have hs:=SV.out;have hq:∀b,b=w.heap.size+1+1->b<V.heap.size:=fun b e=>by omega
 refine bodyPost_ret (v:=.tuple #[venV (.slice x nx cx) (.slice x' nx' cx') t,.slice pe K.length ce,.int .i64 r]) (by simp [results,Tryz.results20,go_sem,z0,z1,z2,z3,z4,z5,z6]) rfl ⟨ZS.below_of BY.out (by omega),venV (.slice x nx cx) (.slice x' nx' cx') t,.slice pe K.length ce,by rw [HR.out],by rw [HR.out];exact(HU.out.but ZS hq).mono (by omega),by rw [HR.out];exact(HE.out.but ZS hq).mono (by omega)⟩
end Go.Proofs.YthdjfhnhjiageaaGreatDoor.Tx
namespace Go.Proofs.YthdjfhnhjiageaaGreatDoor.Tx
open Go.ChangeShapes Go.WideShapes Go.ChangeAt Go.RowKit Go.Joins Go.Lib Go.Deep
abbrev laidH : List (String × DataW Unit) := [("math/bits.deBruijn32tab", Rows.laid_math_bits_deBruijn32tab), ("math/bits.deBruijn64tab", Rows.laid_math_bits_deBruijn64tab), ("internal/strconv.uint64pow10", Rows.laid_internal_strconv_uint64pow10), ("unicode/utf8.acceptRanges", Rows.laid_unicode_utf8_acceptRanges), ("strconv.ErrRange", Rows.laid_strconv_ErrRange), ("strconv.ErrSyntax", Rows.laid_strconv_ErrSyntax), ("tollbooth/risk.tiers", Rows.laid_tollbooth_risk_tiers), ("unicode/utf8.first", Rows.laid_unicode_utf8_first)]
theorem laidH_env {W:World}(h:laidMet Tryz.prog laidH W):Env W:=by
 have h2:=h.tail.tail;have h4:=h2.tail.tail;have h5:=h4.tail;have c1:Tryz.prog.cellsOf 284=1:=by kernel_rfl
 have c2:Tryz.prog.cellsOf 9=1:=by kernel_rfl
 obtain⟨a0,s0,hv0,-,-,-⟩:=laid_sentinel h4 (g:=5) (by kernel_rfl) (by kernel_rfl) Tryz.underlying127 row_err Tryz.underlying282 Tryz.underlying284 rfl rfl Tryz.underlying9 c1 c2;obtain⟨a1,s1,hv1,-,-,-⟩:=laid_sentinel h5 (g:=4) (by kernel_rfl) (by kernel_rfl) Tryz.underlying127 row_err Tryz.underlying282 Tryz.underlying284 rfl rfl Tryz.underlying9 c1 c2;exact⟨tabIs_of_head (g:=3) (e:=158) (n:=20) (by kernel_rfl) (by kernel_rfl) Tryz.underlying215 Tryz.underlying158 (by kernel_rfl) (by kernel_rfl) h2,⟨_,_,hv1⟩,⟨_,_,hv0⟩⟩
theorem laidH_tiers {W:World}(h:laidMet Tryz.prog laidH W):Rk.Laid W:=Rk.of_head h.tail.tail.tail.tail.tail.tail
variable {H:Type} {enc':TypeId × Value->H} {w:World} {base:Nat} {spare:Nat->Bool} {held:Bool}
theorem bytesCd:Tryz.prog.bytesOf 28=88:=by kernel_rfl
theorem cmdsD_read {r:Reach}{b0:Nat}{v:Value}{d:DataW H}{ps:List MemPlace}(hv:Value.okWide Tryz.prog w r b0 34 v)(h:DataW.Trod enc' Tryz.prog w base spare held 34 v d ps)
  (hw:∀m,m∈d.weights Tryz.prog 34->m<=reachBytes):∃p c,∃L:List Cd,v=.slice p L.length c/\(L.length<=140737488351232/\L.length<=c/\(p=none->c=0))/\CdRow w p L/\∀x,x∈L->x.fits:=by
 obtain⟨a0,len0,cap0,rfl⟩:=okWide_slice Tryz.underlying34 hv;obtain⟨fuel,hf⟩:=h;rcases open_slice Tryz.underlying34 hf with⟨hcs,hx⟩ | ⟨a,len,cap,m,n,D,Pl,hcs,hb,hl,hm,hmm,hxx,hx⟩
 ·simp [Value.cells] at hcs;obtain⟨rfl,rfl,rfl⟩:=hcs;exact⟨none,0,[],rfl,⟨Nat.zero_le _,Nat.le_refl _,fun _=>rfl⟩,.inl rfl,fun _ h=>by cases h⟩
 ·simp [Value.cells] at hcs;obtain⟨rfl,rfl,rfl⟩:=hcs;have hd:d=_:=congrArg Prod.fst hxx;have hlm:len0<=m:=by rw [hmm];split<;>omega
  have each:∀i,i<len0->∃o:Cd,w.cells? base (a.add (i*11)) 11=some (encD o)/\o.fits:=fun i hi=>by
   obtain⟨cs',h1,h2⟩:=hx i (by omega);obtain⟨o,rfl,ho⟩:=cmd_cells h2;rw [cellsCm] at h1;exact⟨o,h1,ho⟩
  obtain⟨q,hq⟩:=choose_lt each;have few:len0<=140737488351232:=by
   have:=hw ((((List.range len0).map D).length+((List.range (m - len0)).map fun j=>D (len0+j)).length)*Tryz.prog.bytesOf 28) (by rw [hd];simp only [DataW.weights,Tryz.underlying34];exact List.mem_cons_self);rw [bytesCd] at this;have h4:=Vn.reach4;simp at this;omega
  refine⟨some a,cap0,(List.range len0).map q,by simp,⟨by simpa using few,by simpa using hl,(fun e=>by cases e)⟩,?_,fun x hx=>?_⟩
  ·by_cases h0:len0=0
   ·subst h0;exact .inl rfl
   ·obtain⟨b,off,spot⟩:=a;have hc0:=(World.cells?_some (hq 0 (by omega)).1).2.2 0 (by decide);have hs:spot=none:=by simpa [Addr.add] using World.cell?_spot hc0
    subst hs;refine .inr ⟨b,off,rfl,fun j u hu=>?_⟩;have hjl:j<len0*11:=by
     have:=(List.getElem?_eq_some_iff.1 hu).1;rw [flatE_len] at this;simpa using this
    have hj4:j / 11<len0:=by omega
    have hcj:=(World.cells?_some (hq (j / 11) hj4).1).2.2 (j % 11) (by omega);have hg:=flatE_get ((List.range len0).map q) (j / 11) (j % 11) (by simpa using hj4) (by omega);rw [show j / 11*11+j % 11=j by omega,hu,getElem!_pos _ _ (by simpa using hj4)] at hg;simp only [List.getElem_map,List.getElem_range] at hg;rw [<- hg,Ac.addL,Ac.addL,Nat.add_assoc,show j / 11*11+j % 11=j by omega] at hcj;exact hcj
  ·obtain⟨i,hi,rfl⟩:=List.mem_map.1 hx;exact(hq i (List.mem_range.1 hi)).2
end Go.Proofs.YthdjfhnhjiageaaGreatDoor.Tx
