import Derived.Test.YthdjfhnhjiageaaGreatDoorG31
set_option maxHeartbeats 8000000
set_option maxRecDepth 100000
namespace Go.Proofs.YthdjfhnhjiageaaGreatDoor.Vn
open Go.RowKit Num Fix AcP FuP Bk Rm Ac Go.Sort Go.Maps Mix RkP
theorem set_same {w:World}{B i:Nat}{cs:Array Value}{t:TypeId}(h:w.heap[B]? = some (.cells cs t (0,0)))(hi:i<cs.size)(v:Value):(w.setCell ⟨B,i,none⟩ v).cell? ⟨B,i,none⟩=some v:=by
 rw [(blk_cell (heap_set h i v) i).1];simp [hi]
theorem copyOf_any (v:Value)(s:Tn)(w:World)(h:VIn w v s)(hs:Str s) :
  Calls Tryz.prog 39 #[v] w fun e w'=>∃C N va vm,e=.returned (venV va vm s)/\Copied w w' s C N va vm:=by
 obtain⟨p,p',c,c',A,M,rfl,h0,h0',vr,hov,-⟩:=h;obtain⟨f1,f2,f3,f4⟩:=few_of vr.accs vr.mkts hs;have CI:Hid (∀(k:Nat) (hk:k<A.length) (Y:World),Below w.heap.size w Y->Calls Tryz.prog 63 #[.slice (A[k]'hk).p (A[k]'hk).n (A[k]'hk).c] Y fun e w'=>∃p' c',e=.returned (.slice p' (A[k]'hk).n c')/\(p'=none->c'=0)/\Row w' p' (A[k]'hk).pos/\(∀x,p'=some x->Y.heap.size<=x.block/\x.block<w'.heap.size)/\Below Y.heap.size Y w'):=fun k hk Y hY=>by
  have ok:=(vr.eachA _ (List.getElem_mem hk)).below hY;exact pos_copied _ _ _ _ Y ok.nil ok.len ok.few ok.row
 have CS:Hid (∀(k:Nat) (hk:k<M.length) (Y:World),Below w.heap.size w Y->Calls Tryz.prog 65 #[.slice (M[k]'hk).1.1 (mB (M[k]'hk)).length (M[k]'hk).1.2.1] Y fun e w'=>∃p' c',e=.returned (.slice p' (mB (M[k]'hk)).length c')/\OV w' p' c' (mB (M[k]'hk))/\(∀x,p'=some x->Y.heap.size<=x.block/\x.block<w'.heap.size)/\Below Y.heap.size Y w'):=fun k hk Y hY=>by
  exact side_copied _ _ _ Y ((hov _ (List.getElem_mem hk)).1.below hY) (f4 _ (List.getElem_mem hk)).1
 have CT:Hid (∀(k:Nat) (hk:k<M.length) (Y:World),Below w.heap.size w Y->Calls Tryz.prog 65 #[.slice (M[k]'hk).2.1.1 (mA (M[k]'hk)).length (M[k]'hk).2.1.2.1] Y fun e w'=>∃p' c',e=.returned (.slice p' (mA (M[k]'hk)).length c')/\OV w' p' c' (mA (M[k]'hk))/\(∀x,p'=some x->Y.heap.size<=x.block/\x.block<w'.heap.size)/\Below Y.heap.size Y w'):=fun k hk Y hY=>by
  exact side_copied _ _ _ Y ((hov _ (List.getElem_mem hk)).2.below hY) (f4 _ (List.getElem_mem hk)).2
 have PF:Hid (∀a,a∈A->a.pos.length=a.n/\a.n*8<=140737488351232):=fun a ha=>⟨(vr.eachA a ha).len,(vr.eachA a ha).few⟩;obtain⟨n,hn⟩:∃n,n=A.length:=⟨_,rfl⟩;obtain⟨m,hm⟩:∃m,m=M.length:=⟨_,rfl⟩;rw [<- hn,<- hm];have hn8:n<=8:=by omega
 have hm2:m<=2:=by omega
 obtain⟨W,hW⟩:∃W,W=(w.alloc (.cells #[.slice p n c,.slice p' m c',.int .i64 s.ins,.int .i64 s.res,.int .i64 s.next,.int .i64 s.inn,.int .i64 s.out] 51)).alloc (.cells #[.slice none 0 0,.slice none 0 0,.int .i64 0,.int .i64 0,.int .i64 0,.int .i64 0,.int .i64 0] 51):=⟨_,rfl⟩;have b0:Below w.heap.size w W:=by rw [hW];exact((Below.refl _ w).alloc (Nat.le_refl _) _).alloc (by simp) _
 have hsz:W.heap.size=w.heap.size+2:=by rw [hW];simp
 have EW:Hid (W.heap[w.heap.size]? = some (venO (.slice p n c) (.slice p' m c') s)):=by
  show W.heap[w.heap.size]? = _;rw [hW];exact blk_below (heap_alloc_new w _) (Ac.below_alloc _ _)
 have ER:Hid (W.heap[w.heap.size+1]? = some (venO (.slice none 0 0) (.slice none 0 0) noTn)):=by
  show W.heap[w.heap.size+1]? = _;rw [hW];have hx:(w.alloc (.cells #[.slice p n c,.slice p' m c',.int .i64 s.ins,.int .i64 s.res,.int .i64 s.next,.int .i64 s.inn,.int .i64 s.out] 51)).heap.size=w.heap.size+1:=by simp
  have:=heap_alloc_new (w.alloc (.cells #[.slice p n c,.slice p' m c',.int .i64 s.ins,.int .i64 s.res,.int .i64 s.next,.int .i64 s.inn,.int .i64 s.out] 51)) (.cells #[.slice none 0 0,.slice none 0 0,.int .i64 0,.int .i64 0,.int .i64 0,.int .i64 0,.int .i64 0] 51);rw [hx] at this;exact this
 have CA:Hid (Calls Tryz.prog 62 #[.slice p n c] W fun e w'=>∃pa ca,e=.returned (.slice pa n ca)/\w'.ownsRow (w.heap.size+2) 89 3 (.slice pa n ca) A.length (A.flatMap encA)/\Below W.heap.size W w'):=by
  refine(copyA_any p n c (A.flatMap encA) W (fun e=>?_) (by rw [Vn.flat_len encA_len,hn]) (encA_ones A) (fun ad had j u hu=>?_) (by omega)).mono ?_
  ·subst e;rcases vr.rowA with rfl | ⟨b,off,e,-⟩
   ·exact⟨hn,h0 rfl,rfl⟩
   ·cases e
  ·subst had;rcases vr.rowA with rfl | ⟨b,off,e,hc⟩
   ·cases hu
   ·cases e
    rw [show (⟨b,off,none⟩:Addr).add j = ⟨b,off+j,none⟩ from by simp [Addr.add]];exact(b0.cell (World.block_lt_of_cell? _ _ (hc j u hu))).trans (hc j u hu)
  ·rintro e w' ⟨v,rfl,hown,hb⟩;rw [hsz] at hown;rw [hn] at hown;obtain⟨pa,ca,rfl,-⟩:=own_arow hown;exact⟨pa,ca,by rw [hn],by rw [hn];exact hown,hb⟩
 have CM:Hid (∀Y:World,Below w.heap.size w Y->Calls Tryz.prog 64 #[.slice p' m c'] Y fun e w'=>∃pm cm,e=.returned (.slice pm m cm)/\w'.ownsRow Y.heap.size 96 4 (.slice pm m cm) M.length (flatM M)/\Below Y.heap.size Y w'):=fun Y hY=>by
  refine(copyM_any p' m c' (flatM M) Y (fun e=>?_) (by rw [Vn.flat_len mCells_len,hm]) (mCells_ones M) (fun ad had j u hu=>?_) (by omega)).mono ?_
  ·subst e;rcases vr.rowM with rfl | ⟨b,off,e,-⟩
   ·exact⟨hm,h0' rfl,rfl⟩
   ·cases e
  ·subst had;rcases vr.rowM with rfl | ⟨b,off,e,hc⟩
   ·cases hu
   ·cases e
    rw [show (⟨b,off,none⟩:Addr).add j = ⟨b,off+j,none⟩ from by simp [Addr.add]];exact(hY.cell (World.block_lt_of_cell? _ _ (hc j u hu))).trans (hc j u hu)
  ·rintro e w' ⟨v,rfl,hown,hb⟩;rw [hm] at hown;obtain⟨pa,ca,rfl,-⟩:=own_mrow hown;exact⟨pa,ca,by rw [hm],by rw [hm];exact hown,hb⟩
 have HW:=hide hW;have BW:=hide b0;have SZ:=hide hsz;have HN:=hide hn;have HM:=hide hm;have VA:=hide vr.accs;have VM:=hide vr.mkts;clear hW b0 hsz hn hm vr hov f1 f2 f3 f4 h0 h0' hs;go_enter Tryz.func39,Tryz.ntmps39;have w0:=(blk_cell EW.out 0).1;simp only [List.getElem?_toArray,List.getElem?_cons_zero] at w0;go_wp2_with (rw [<- HW.out]);refine CA.out.mono ?_;rintro e X ⟨pa,ca,rfl,hown,hbX⟩;have EX:=hide (blk_below EW.out hbX);have RX:=hide (blk_below ER.out hbX);have BX:=hide (BW.out.trans (hbX.mono BW.out.size));have SX:Hid (w.heap.size+2<=X.heap.size):=by rw [<- SZ.out];exact hbX.size
 have HO:=hide hown;have x0:=(blk_cell EX.out 0).1;have x0f:=(blk_cell EX.out 0).2;simp only [List.getElem?_toArray,List.getElem?_cons_zero] at x0;have x1:=set_same EX.out (i:=0) (by simp) (.slice pa n ca);have L0:Hid (L1 w s A (.slice pa n ca) (.slice p' m c') A 0 (X.setCell ⟨w.heap.size,0,none⟩ (.slice pa n ca))):=by
  refine⟨KA.start (own_but HO.out (but_one X ⟨w.heap.size,0,none⟩ _) (fun k hk e=>?_)),venO_a EX.out _,blk_but RX.out (but_one X ⟨w.heap.size,0,none⟩ _) (by simp),by simpa [World.setCell] using SX.out,BX.out.setCell (Nat.le_refl _) _⟩;have:=own_lt HO.out k hk;simp at e;omega
 clear CA HW EW ER w0 hown hbX BW SZ;go_wp2_with fail
 go_loopw [14] (fun i wr=>∃(k:Nat) (C:List Am),k<=n/\i=.int .i64 k/\Hid (L1 w s A (.slice pa n ca) (.slice p' m c') C k wr)) (fun i _=>n - (intOf i).toNat)
 case atStart=>exact⟨0,A,Nat.zero_le _,rfl,L0⟩
 case round =>
  clear L0 x0 x0f x1 EX RX BX SX HO;obtain⟨k,C,hk,rfl,I⟩:=hrel;by_cases hlt:k<n
  ·have hkA:k<A.length:=by rw [<- HN.out];exact hlt
   have hltz:(k:Int)<(n:Int):=by omega
   obtain⟨g,cap,eva,hg,q0,q1,q2,fz⟩:=I.out.at hkA;obtain⟨rfl,rfl⟩:pa=some ⟨g,0,none⟩/\ca=cap:=by
    have:=eva;simp only [Value.slice.injEq] at this;exact⟨this.1,this.2.2⟩
   have z0:=(blk_cell I.out.box 0).1;simp only [List.getElem?_toArray,List.getElem?_cons_zero] at z0;have CK:=hide (fun Y hY=>CI.out k hkA Y hY);have HNX:Hid (∀X:World,Below wr.heap.size wr X->∀(p1:Option Addr) (c1:Nat),(p1=none->c1=0)->Row X p1 (A[k]'hkA).pos->(∀x,p1=some x->wr.heap.size<=x.block/\x.block<X.heap.size)->∃C',L1 w s A (.slice (some ⟨g,0,none⟩) n ca) (.slice p' m c') C' (k+1) (X.setCell ⟨g,k*3+2,none⟩ (.slice p1 (A[k]'hkA).n c1))):=fun X hb p1 c1 h1 h2 h3=>by
    have I':=I.out;rw [HN.out] at I' ⊢;obtain⟨a1,a2⟩:=PF.out _ (List.getElem_mem hkA);exact I'.next hkA hb a1 a2 h1 h2 h3
   have BR:=hide I.out.below;generalize (A[k]'hkA).id=id at *;generalize (A[k]'hkA).bal=bal at *;generalize (A[k]'hkA).p=q at *;generalize (A[k]'hkA).n=nn at *;generalize (A[k]'hkA).c=d at *;generalize (A[k]'hkA).pos=pos at *;obtain⟨X,hX⟩:∃X,X=wr.alloc (.cells #[.int .i64 id,.int .i64 bal,.slice q nn d] 89):=⟨_,rfl⟩;have hbX:Below wr.heap.size wr X:=by rw [hX];exact Ac.below_alloc _ _
   have hgw:¬w.heap.size=g:=by have:=(own_lt I.out.ka.row g rfl).1;omega
   obtain⟨cs,hcs⟩:∃cs,wr.heap[g]? = some (.cells cs 89 (0,0)):=by
    rcases I.out.ka.row.2 with⟨e,-⟩ | ⟨g',cap',cur,e,hB',hg',-⟩
    ·cases e
    ·cases e
     exact⟨cur,hg'⟩
   have hcX:=blk_below hcs hbX;have hq2:cs[k*3+2]? = some (.slice q nn d):=(blk_cell hcs _).1.symm.trans q2;have hsz:=(Array.getElem?_eq_some_iff.1 hq2).1;have r0:∀Y,Back1 X g (k*3+2) (.slice q nn d) Y->Y.cell? ⟨w.heap.size,0,none⟩=some (.slice (some ⟨g,0,none⟩) n ca):=fun Y hY=>back1_cell hY hgw ((hbX.cell (World.block_lt_of_cell? _ _ z0)).trans z0);have r1:∀Y,Back1 X g (k*3+2) (.slice q nn d) Y->Y.cell? ⟨wr.heap.size,2,none⟩=some (.slice q nn d):=fun Y hY=>back1_cell hY (by simp;omega) (by rw [hX];exact new_cell wr _ _ 2 _ rfl);have r2:Hid (∀Y,Back1 X g (k*3+2) (.slice q nn d) Y->(∃v,Y.cell? ⟨g,k*3+2,none⟩=some v)/\Y.frozen? ⟨g,k*3+2,none⟩=false):=fun Y hY=>back1_at hY hcX hsz;have XD:Hid (Back1 X g (k*3+2) (.slice q nn d) X.drew):=back1_start (Below.refl _ X).drew hcX hq2;have BB:Hid (∀Y,Back1 X g (k*3+2) (.slice q nn d) Y->Below w.heap.size w Y):=fun Y hY=>by
    have h1:Below w.heap.size w (Y.setCell ⟨g,k*3+2,none⟩ (.slice q nn d)):=I.out.below.trans ((hbX.trans (hY.mono hbX.size)).mono I.out.below.size);have hgB:=(own_lt I.out.ka.row g rfl).1;refine⟨h1.os,h1.tape,h1.output,by simpa [World.setCell] using h1.size,fun b hb=>?_⟩;rw [<- h1.block b hb];simp [World.setCell,Array.getElem?_modify,show ¬g=b by omega]
   have HBX:=hide hbX;have HX:=hide hX;have EVA:=hide eva;have HG:=hide hg;clear hbX hX I eva CI z0 hcs hcX hq2 hsz hgw hg;go_wp2_with (rw [<- HX.out]);clear q0 q1 q2 fz HX;go_region_held3 (fun w'=>Back1 X g (k*3+2) (.slice q nn d) w') (first | (with_reducible assumption) | (with_reducible exact XD.out) | (with_reducible exact back1_set (by with_reducible assumption) _)) ((go_at_call 63;refine(CK.out _ ?_).mono ?_;exact BB.out _ (by assumption);rintro e w1 ⟨p1,c1,rfl,u1,u2,u3,hb1⟩;have hbk:Back1 X g (k*3+2) (.slice q nn d) w1:=back1_on (by assumption) hb1;have hlo:=Below.size (show Back1 X g (k*3+2) (.slice q nn d) _ by assumption);have U:=hide (And.intro u1 (And.intro u2 (And.intro u3 hlo)));have HBK:=hide hbk;obtain⟨⟨vv,y0⟩,y1⟩:=r2.out w1 hbk;clear u1 u2 u3 hlo));have FIN:Hid (∃C',L1 w s A (.slice (some ⟨g,0,none⟩) n ca) (.slice p' m c') C' (k+1) (w1.setCell ⟨g,k*3+2,none⟩ (.slice p1 nn c1))):=by
    obtain⟨u1,u2,u3,u4⟩:=U.out;have hsX:X.drew.heap.size=X.heap.size:=rfl;have hXs:=HBX.out.size;have hgl:=HG.out;have:=HNX.out (w1.setCell ⟨g,k*3+2,none⟩ (.slice q nn d)) (HBX.out.trans (HBK.out.mono HBX.out.size)) p1 c1 u1 (row_but u2 (but_one w1 ⟨g,k*3+2,none⟩ _) (.inr fun x hx e=>by
     have:=(u3 x hx).1;simp only at e;omega)) (fun x hx=>by
     have:=u3 x hx;refine⟨by omega,by simpa [World.setCell] using this.2⟩)
    rw [set_twice] at this;exact this
   clear U HBK hb1 hbk y0 y1 r0 r1 r2 XD BB CK;go_wp2;go_roundw
   case rel =>
    obtain⟨C',hC'⟩:=FIN.out;exact⟨k+1,C',by omega,by go_num,hC'⟩
   case measure=>simp [intOf];omega
  ·obtain rfl:k=n:=by omega
   have hva:=(own_lt I.out.ka.row);have ka:KA (w.heap.size+2) A (.slice pa k ca) C A.length wr:=by
    rw [<- HN.out];exact I.out.ka
   have z0:=(blk_cell I.out.box 1).1;simp only [List.getElem?_toArray,List.getElem?_cons_zero,List.getElem?_cons_succ] at z0;have CMX:=hide (CM.out wr I.out.below);have KAH:=hide ka;have IH:=hide I.out;clear I ka CI CM hva;go_wp2_with fail;refine CMX.out.mono ?_;rintro e X ⟨pm,cm,rfl,hown,hbX⟩;have EX:=hide (blk_below IH.out.box hbX);have RX:=hide (blk_below IH.out.rbox hbX);have BX:=hide (IH.out.below.trans (hbX.mono IH.out.below.size));have SX:Hid (w.heap.size+2<=X.heap.size):=Nat.le_trans IH.out.sz hbX.size;have HO:=hide hown;have x0:=(blk_cell EX.out 1).1;have x0f:=(blk_cell EX.out 1).2;simp only [List.getElem?_toArray,List.getElem?_cons_zero,List.getElem?_cons_succ] at x0;have x1:=set_same EX.out (i:=1) (by simp) (.slice pm m cm);have L0:Hid (L2 w s A M (.slice pa k ca) (.slice pm m cm) C M 0 (X.setCell ⟨w.heap.size,1,none⟩ (.slice pm m cm))):=by
    have hnm:∀b,(Value.slice pm m cm).ownBlock=some b->¬b=w.heap.size:=fun b hb e=>by
     have:=own_lt HO.out b hb;have:=IH.out.sz;omega
    have hna:∀b,(Value.slice pa k ca).ownBlock=some b->¬b=w.heap.size:=fun b hb e=>by
     have:=own_lt KAH.out.row b hb;omega
    refine⟨(KAH.out.below hbX).but (but_one X ⟨w.heap.size,1,none⟩ _) (fun b hb e=>hna b hb e) (fun j a hj ha x hx e=>?_),KM.start (own_but (Ac.own_base HO.out IH.out.sz) (but_one X ⟨w.heap.size,1,none⟩ _) (fun b hb e=>hnm b hb e)),venO_m EX.out _,blk_but RX.out (but_one X ⟨w.heap.size,1,none⟩ _) (by simp),by simpa [World.setCell] using SX.out,BX.out.setCell (Nat.le_refl _) _,fun a ha x hx e=>?_⟩
    ·have:=((KAH.out.done j a hj ha).2 x hx).1;simp only at e;omega
    ·obtain⟨j,hj,rfl⟩:=List.mem_iff_getElem.1 ha;have:=((KAH.out.done j _ (by rw [<- KAH.out.len];exact hj) (List.getElem?_eq_getElem hj)).2 x hx).2.1;have:=own_lt HO.out _ e;omega
   clear CMX IH KAH z0 hown hbX;go_wp2_with fail;obtain⟨wo,hwo⟩:∃wo,wo=wr:=⟨_,rfl⟩;subst hwo
   go_loopw [35] (fun i wr=>∃(j:Nat) (N:List Mkt),j<=m/\i=.int .i64 j/\Hid (L2 w s A M (.slice pa k ca) (.slice pm m cm) C N j wr)) (fun i _=>m - (intOf i).toNat)
   case atStart=>exact⟨0,M,Nat.zero_le _,rfl,L0⟩
   case round =>
    clear L0 x0 x0f x1 EX RX BX SX HO;obtain⟨j,N,hj,rfl,I⟩:=hrel;by_cases hlt2:j<m
    ·have hjM:j<M.length:=by rw [<- HM.out];exact hlt2
     have hltz2:(j:Int)<(m:Int):=by omega
     obtain⟨g,cap,eva,hg,q0,q1,q2,q3,fz⟩:=I.out.at hjM;obtain⟨rfl,rfl⟩:pm=some ⟨g,0,none⟩/\cm=cap:=by
      have:=eva;simp only [Value.slice.injEq] at this;exact⟨this.1,this.2.2⟩
     have z0:=(blk_cell I.out.box 1).1;simp only [List.getElem?_toArray,List.getElem?_cons_zero,List.getElem?_cons_succ] at z0;have CK:=hide (fun Y hY=>CS.out j hjM Y hY);have CK2:=hide (fun Y hY=>CT.out j hjM Y hY);have HNX:Hid (∀X:World,Below wr.heap.size wr X->∀(p1 p2:Option Addr) (c1 c2:Nat),OV X p1 c1 (mB (M[j]'hjM))->OV X p2 c2 (mA (M[j]'hjM))->(∀x,p1=some x->wr.heap.size<=x.block/\x.block<X.heap.size)->(∀x,p2=some x->wr.heap.size<=x.block/\x.block<X.heap.size)->∃N',L2 w s A M (.slice pa k ca) (.slice (some ⟨g,0,none⟩) m cm) C N' (j+1) ((X.setCell ⟨g,j*4,none⟩ (.slice p1 (mB (M[j]'hjM)).length c1)).setCell ⟨g,j*4+1,none⟩ (.slice p2 (mA (M[j]'hjM)).length c2))):=fun X hb p1 p2 c1 c2 h1 h2 h3 h4=>by
      have I':=I.out;rw [HM.out] at I' ⊢;exact I'.next hjM hb h1 h2 h3 h4
     generalize (M[j]'hjM).1.1=pb at *;generalize (M[j]'hjM).1.2.1=cb at *;generalize (M[j]'hjM).2.1.1=pa' at *;generalize (M[j]'hjM).2.1.2.1=ca' at *;generalize mI (M[j]'hjM)=ix at *;generalize mL (M[j]'hjM)=la at *;generalize mB (M[j]'hjM)=lb at *;generalize mA (M[j]'hjM)=laa at *;obtain⟨nb,hnb⟩:∃nb,nb=lb.length:=⟨_,rfl⟩;obtain⟨na,hna⟩:∃na,na=laa.length:=⟨_,rfl⟩;rw [<- hnb] at q0 CK HNX;rw [<- hna] at q1 CK2 HNX;have HNB:=hide hnb;have HNA:=hide hna;clear hnb hna;obtain⟨X,hX⟩:∃X,X=wr.alloc (.cells #[.slice pb nb cb,.slice pa' na ca',.int .i64 ix,.int .i64 la] 96):=⟨_,rfl⟩;have hbX:Below wr.heap.size wr X:=by rw [hX];exact Ac.below_alloc _ _
     have hgw:¬w.heap.size=g:=by have:=(own_lt I.out.km.row g rfl).1;omega
     obtain⟨cs,hcs⟩:∃cs,wr.heap[g]? = some (.cells cs 96 (0,0)):=by
      rcases I.out.km.row.2 with⟨e,-⟩ | ⟨g',cap',cur,e,hB',hg',-⟩
      ·cases e
      ·cases e
       exact⟨cur,hg'⟩
     have hcX:=blk_below hcs hbX;have hq0:cs[j*4]? = some (.slice pb nb cb):=(blk_cell hcs _).1.symm.trans q0;have hq1:cs[j*4+1]? = some (.slice pa' na ca'):=(blk_cell hcs _).1.symm.trans q1;have hsz:=(Array.getElem?_eq_some_iff.1 hq1).1;have r0:∀Y,Back2 X g (j*4) (.slice pb nb cb) (.slice pa' na ca') Y->Y.cell? ⟨w.heap.size,1,none⟩=some (.slice (some ⟨g,0,none⟩) m cm):=fun Y hY=>back2_cell hY hgw ((hbX.cell (World.block_lt_of_cell? _ _ z0)).trans z0);have r1:∀Y,Back2 X g (j*4) (.slice pb nb cb) (.slice pa' na ca') Y->Y.cell? ⟨wr.heap.size,0,none⟩=some (.slice pb nb cb):=fun Y hY=>back2_cell hY (by simp;omega) (by rw [hX];exact new_cell wr _ _ 0 _ rfl);have r1b:∀Y,Back2 X g (j*4) (.slice pb nb cb) (.slice pa' na ca') Y->Y.cell? ⟨wr.heap.size,1,none⟩=some (.slice pa' na ca'):=fun Y hY=>back2_cell hY (by simp;omega) (by rw [hX];exact new_cell wr _ _ 1 _ rfl);have r2:Hid (∀Y,Back2 X g (j*4) (.slice pb nb cb) (.slice pa' na ca') Y->(∃v,Y.cell? ⟨g,j*4,none⟩=some v)/\Y.frozen? ⟨g,j*4,none⟩=false/\(∃v,Y.cell? ⟨g,j*4+1,none⟩=some v)/\Y.frozen? ⟨g,j*4+1,none⟩=false):=fun Y hY=>back2_at hY hcX hsz;have XD:Hid (Back2 X g (j*4) (.slice pb nb cb) (.slice pa' na ca') X.drew):=back2_start (Below.refl _ X).drew hcX hq0 hq1;have BB:Hid (∀Y,Back2 X g (j*4) (.slice pb nb cb) (.slice pa' na ca') Y->Below w.heap.size w Y):=fun Y hY=>by
      have h1:Below w.heap.size w ((Y.setCell ⟨g,j*4,none⟩ (.slice pb nb cb)).setCell ⟨g,j*4+1,none⟩ (.slice pa' na ca')):=I.out.below.trans ((hbX.trans (hY.mono hbX.size)).mono I.out.below.size);have hgB:=(own_lt I.out.km.row g rfl).1;refine⟨h1.os,h1.tape,h1.output,by simpa [World.setCell] using h1.size,fun b hb=>?_⟩;rw [<- h1.block b hb];simp [World.setCell,Array.getElem?_modify,show ¬g=b by omega]
     have HBX:=hide hbX;have HX:=hide hX;have EVA:=hide eva;have HG:=hide hg;clear hbX hX I eva z0 hcs hcX hq0 hq1 hsz hgw hg CS CT;go_wp2_with (rw [<- HX.out]);clear q0 q1 q2 q3 fz HX;go_region_held3 (fun w'=>Back2 X g (j*4) (.slice pb nb cb) (.slice pa' na ca') w') (first | (with_reducible assumption) | (with_reducible exact XD.out) | (with_reducible exact back2_set (by with_reducible assumption) _ _)) (first | (go_at_call 65;refine(CK.out _ ?_).mono ?_;exact BB.out _ (by assumption);rintro e w1 ⟨p1,c1,rfl,o1,u1,hb1⟩;have hlo:=Below.size (show Back2 X g (j*4) (.slice pb nb cb) (.slice pa' na ca') _ by assumption);have hbk1:Back2 X g (j*4) (.slice pb nb cb) (.slice pa' na ca') w1:=back2_on (by assumption) hb1;have O1:=hide (And.intro o1 (And.intro u1 hlo));clear CK o1 u1 hlo) | (go_at_call 65;refine(CK2.out _ ?_).mono ?_;exact BB.out _ (by assumption);rintro e w2 ⟨p2,c2,rfl,o2,u2,hb2⟩;have hbk2:Back2 X g (j*4) (.slice pb nb cb) (.slice pa' na ca') w2:=back2_on (by assumption) hb2;obtain⟨⟨v0,y0⟩,y1,⟨v2,y2⟩,y3⟩:=r2.out w2 hbk2;have O2:=hide (And.intro o2 (And.intro u2 (And.intro hb2 hbk2)));clear CK2 o2 u2));have FIN:Hid (∃N',L2 w s A M (.slice pa k ca) (.slice (some ⟨g,0,none⟩) m cm) C N' (j+1) ((w2.setCell ⟨g,j*4,none⟩ (.slice p1 nb c1)).setCell ⟨g,j*4+1,none⟩ (.slice p2 na c2))):=by
      obtain⟨o1,u1,-⟩:=O1.out;obtain⟨o2,u2,b2,bk⟩:=O2.out;have hsX:X.drew.heap.size=X.heap.size:=rfl;have hXs:=HBX.out.size;have hgl:=HG.out;have hw1:X.heap.size<=w1.heap.size:=by simpa [World.setCell] using hbk1.size
      have hw2:=b2.size;have bt:But (fun b=>b=g) w2 ((w2.setCell ⟨g,j*4,none⟩ (.slice pb nb cb)).setCell ⟨g,j*4+1,none⟩ (.slice pa' na ca')):=But.setCell (p:=⟨g,j*4+1,none⟩) (But.setCell (p:=⟨g,j*4,none⟩) (But.refl (fun b=>b=g) w2) (.inl rfl) _) (.inl rfl) _;have:=HNX.out _ (HBX.out.trans (bk.mono HBX.out.size)) p1 p2 c1 c2 (ov_but (o1.below b2) bt (.inr fun x hx e=>by have:=(u1 x hx).1;omega)) (ov_but o2 bt (.inr fun x hx e=>by have:=(u2 x hx).1;omega)) (fun x hx=>by
       have:=u1 x hx;refine⟨by omega,?_⟩;simp [World.setCell];omega) (fun x hx=>by
       have:=u2 x hx;refine⟨by omega,?_⟩;simp [World.setCell];omega)
      rw [set_back2] at this;exact this
     clear O1 O2 hb1 hb2 hbk1 hbk2 y0 y1 y2 y3 r0 r1 r1b r2 XD BB;go_wp2;go_roundw
     case rel =>
      obtain⟨N',hN'⟩:=FIN.out;exact⟨j+1,N',by omega,by go_num,hN'⟩
     case measure=>simp [intOf];omega
    ·obtain rfl:j=m:=by omega
     have L2M:L2 w s A M (.slice pa k ca) (.slice pm j cm) C N M.length wr:=by
      rw [<- HM.out];exact I.out
     have FIN:=hide (fun wz hz=>L2M.done (wz:=wz) hz VA.out VM.out);have z0:=(blk_cell L2M.box 0).1;have r0:=(blk_cell L2M.rbox 0).1;have f0:=(blk_cell L2M.rbox 0).2;have z1:=(blk_cell L2M.box 1).1;have r1:=(blk_cell L2M.rbox 1).1;have f1:=(blk_cell L2M.rbox 1).2;have z2:=(blk_cell L2M.box 2).1;have r2:=(blk_cell L2M.rbox 2).1;have f2:=(blk_cell L2M.rbox 2).2;have z3:=(blk_cell L2M.box 3).1;have r3:=(blk_cell L2M.rbox 3).1;have f3:=(blk_cell L2M.rbox 3).2;have z4:=(blk_cell L2M.box 4).1;have r4:=(blk_cell L2M.rbox 4).1;have f4:=(blk_cell L2M.rbox 4).2;have z5:=(blk_cell L2M.box 5).1;have r5:=(blk_cell L2M.rbox 5).1;have f5:=(blk_cell L2M.rbox 5).2;have z6:=(blk_cell L2M.box 6).1;have r6:=(blk_cell L2M.rbox 6).1;have f6:=(blk_cell L2M.rbox 6).2;simp only [List.getElem?_toArray,List.getElem?_cons_zero,List.getElem?_cons_succ] at z0 z1 z2 z3 z4 z5 z6 r0 r1 r2 r3 r4 r5 r6;have HB:=hide (seven_heap L2M.rbox (.slice pa k ca) (.slice pm j cm) (.int .i64 s.ins) (.int .i64 s.res) (.int .i64 s.next) (.int .i64 s.inn) (.int .i64 s.out));clear L2M I CS CT;go_wp2;clear z0 z1 z2 z3 z4 z5 z6 r0 r1 r2 r3 r4 r5 r6 f0 f1 f2 f3 f4 f5 f6;obtain⟨z0,z1,z2,z3,z4,z5,z6⟩:=ven_cells HB.out;refine bodyPost_ret (v:=venV (.slice pa k ca) (.slice pm j cm) s) (by simp [results,Tryz.results39,go_sem,z0,z1,z2,z3,z4,z5,z6]) rfl ⟨C,N,_,_,rfl,FIN.out _ (seven_but wr (w.heap.size+1) _ _ _ _ _ _ _)⟩
end Go.Proofs.YthdjfhnhjiageaaGreatDoor.Vn
