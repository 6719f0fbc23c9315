import Derived.Test.YthdjfhnhjiageaaGreatDoorG14
set_option maxHeartbeats 8000000
set_option maxRecDepth 100000
namespace Go.Proofs.YthdjfhnhjiageaaGreatDoor.Bk
open Go.RowKit Go.Sort Go.Maps Mix
def mayComeE (bids asks:List Odr) (id how:Int):Int :=
 if bookErr bids asks≠0 then bookErr bids asks else if findE bids asks id=0 then 6 else if how<1\/4<how then 4 else 0
def allowsE (how:Int) (nf:Nat) (left:Int) (met:Bool):Int :=
 if how=4/\(0<nf\/met=true) then 9 else if met=true then 11 else if how=3/\0<left then 10 else 0
def restO (o:Odr) (left:Int):Odr:=(oid o,oac o,osd o,opr o,left)
def stays (how left:Int):Bool:=decide (left=0) || decide (how=2)
def comeE (bids asks:List Odr) (o:Odr) (how:Int):Int :=
 if mayComeE bids asks (oid o) how≠0 then mayComeE bids asks (oid o) how
 else if takeErr bids asks o≠0 then takeErr bids asks o
 else if allowsE how (takeT bids asks o).2.1.length (takeT bids asks o).2.2.1 (takeT bids asks o).2.2.2≠0 then allowsE how (takeT bids asks o).2.1.length (takeT bids asks o).2.2.1 (takeT bids asks o).2.2.2
 else if stays how (takeT bids asks o).2.2.1=true then 0
 else mayRest (takeB bids asks o) (takeA bids asks o) (restO o (takeT bids asks o).2.2.1)
theorem come1_any (x:Int)(w:World) :
  Calls Tryz.prog 159 #[.int .i64 x] w fun e w'=>e=.returned (.tuple #[.agg #[.slice none 0 0,.slice none 0 0],.slice none 0 0,.int .i64 0,.int .i64 x])/\Below w.heap.size w w':=by
 go_enter Tryz.func159,Tryz.ntmps159;go_wp2;refine bodyPost_ret (v:=.tuple #[.agg #[.slice none 0 0,.slice none 0 0],.slice none 0 0,.int .i64 0,.int .i64 x]) (by simp [results,Tryz.results159,go_sem]) rfl ⟨rfl,?_⟩;exact(Below.refl _ w).alloc (Nat.le_refl _) _
theorem allows_any (how:Int)(nf:Nat)(left:Int)(met:Bool)(w:World) :
  Calls Tryz.prog 162 #[.int .i64 how,.int .i64 (nf:Nat),.int .i64 left,.bool met] w fun e w'=>e=.returned (.int .i64 (allowsE how nf left met))/\w'=w:=by
 unfold allowsE;by_cases h1:how=4
 ·subst h1;by_cases h2:0<nf
  ·have h2':(0:Int)<(nf:Int):=by omega
   rw [if_pos ⟨rfl,.inl h2⟩];go_enter Tryz.func162,Tryz.ntmps162;go_wp2;go_ret;exact⟨rfl,rfl⟩
  ·have h2':¬(0:Int)<(nf:Int):=by omega
   cases met with
   |true =>
    rw [if_pos ⟨rfl,.inr rfl⟩];go_enter Tryz.func162,Tryz.ntmps162;go_wp2;go_ret;exact⟨rfl,rfl⟩
   |false =>
    rw [if_neg (by rintro ⟨_,h | h⟩<;>first | exact h2 h | cases h),if_neg (by simp),if_neg (by simp)];go_enter Tryz.func162,Tryz.ntmps162;go_wp2;go_ret;exact⟨rfl,rfl⟩
 ·have e1:(how == 4)=false:=by simp [h1]
  rw [if_neg (fun e=>h1 e.1)]
  cases met with
  |true =>
   rw [if_pos rfl];go_enter Tryz.func162,Tryz.ntmps162;go_wp2;go_ret;exact⟨rfl,rfl⟩
  |false =>
   rw [if_neg (by simp)];by_cases h3:how=3
   ·subst h3;by_cases h4:0<left
    ·rw [if_pos ⟨rfl,h4⟩];go_enter Tryz.func162,Tryz.ntmps162;go_wp2;go_ret;exact⟨rfl,rfl⟩
    ·rw [if_neg (fun e=>h4 e.2)];go_enter Tryz.func162,Tryz.ntmps162;go_wp2;go_ret;exact⟨rfl,rfl⟩
   ·have e3:(how == 3)=false:=by simp [h3]
    rw [if_neg (fun e=>h3 e.1)];go_enter Tryz.func162,Tryz.ntmps162;go_wp2;go_ret;exact⟨rfl,rfl⟩
theorem mayCome_any (p p':Option Addr)(c c':Nat)(bids asks:List Odr)(id how:Int)(w:World)(h:ORow w p bids)(h':ORow w p' asks)(hn:bids.length<=140737488351232)(hn':asks.length<=140737488351232) :
  Calls Tryz.prog 160 #[.agg #[.slice p bids.length c,.slice p' asks.length c'],.int .i64 id,.int .i64 how] w fun e w'=>e=.returned (.int .i64 (mayComeE bids asks id how))/\Below w.heap.size w w':=by
 have hb0:∀o1,Below w.heap.size w (w.alloc o1):=fun o1=>((Below.refl _ w).alloc (Nat.le_refl _) _);have CK:=hide (fun X (hX:Below w.heap.size w X)=>check_any p p' c c' bids asks X (orow_below h hX) (orow_below h' hX) hn hn');have FI:=hide (fun X (hX:Below w.heap.size w X)=>find_any p p' c c' bids asks id X (orow_below h hX) (orow_below h' hX) hn hn');unfold mayComeE;generalize findE bids asks id=fe at FI ⊢;generalize findO bids asks id=fo at FI ⊢;generalize bookErr bids asks=r at CK ⊢;generalize bids.length=nb at CK FI ⊢;generalize asks.length=na at CK FI ⊢;clear h h' hn hn';by_cases hr:r=0
 ·subst hr;rw [if_neg (by simp)];obtain⟨fa,fac,fsd,fpr,fq⟩:=fo;by_cases hf:fe=0;focus
   subst hf;rw [if_pos rfl]
  rotate_left;focus
   have ef:(fe == 0)=false:=by simp [hf]
   rw [if_neg hf];by_cases h1:how<1;focus
    rw [if_pos (.inl h1)]
   rotate_left;focus
    by_cases h4:4<how;focus
     rw [if_pos (.inr h4)]
    rotate_left;focus
     rw [if_neg (by omega)]
  all_goals
   go_enter Tryz.func160,Tryz.ntmps160;go_wp2_with fail;refine(CK.out _ (hb0 _)).mono ?_;rintro e W ⟨rfl,hb⟩;have BW:=hide ((hb0 _).trans (hb.mono (by simp)));have e0:W.cell? ⟨w.heap.size,0,none⟩=some (.slice p nb c):=(hb.cell (by simp)).trans (new_cell _ _ _ _ _ rfl);have e1:W.cell? ⟨w.heap.size,1,none⟩=some (.slice p' na c'):=(hb.cell (by simp)).trans (new_cell _ _ _ _ _ rfl);clear hb hb0 CK;go_wp2_with fail;refine(FI.out _ BW.out).mono ?_;rintro e W2 ⟨rfl,hb2⟩;have B2:=BW.out.trans (hb2.mono BW.out.size);have B3:=hide (B2.alloc B2.size (.cells #[.int .i64 fa,.int .i64 fac,.int .i64 fsd,.int .i64 fpr,.int .i64 fq] 26));clear hb2 e0 e1 FI B2 BW;go_wp2;go_ret;exact⟨rfl,B3.out⟩
 ·have er:(r == 0)=false:=by simp [hr]
  rw [if_pos hr];go_enter Tryz.func160,Tryz.ntmps160;go_wp2_with fail;refine(CK.out _ (hb0 _)).mono ?_;rintro e W ⟨rfl,hb⟩;have BW:=hide ((hb0 _).trans (hb.mono (by simp)));clear hb hb0 CK FI;go_wp2;go_ret;exact⟨rfl,BW.out⟩
abbrev ComePost (w:World) (B A:List Odr) (F:List Fil) (left:Int) (e:Ending) (w':World):Prop :=
 ∃p1 c1 p2 c2 vF,e=.returned (.tuple #[.agg #[.slice p1 B.length c1,.slice p2 A.length c2],vF,.int .i64 left,.int .i64 0])/\OV w' p1 c1 B/\OV w' p2 c2 A/\w'.ownsRow w.heap.size 62 7 vF F.length (flatF F)/\Below w.heap.size w w'/\(∀a,p1=some a->w.heap.size<=a.block)/\(∀a,p2=some a->w.heap.size<=a.block)
abbrev ComeFail (w:World) (r:Int) (e:Ending) (w':World):Prop :=
 e=.returned (.tuple #[.agg #[.slice none 0 0,.slice none 0 0],.slice none 0 0,.int .i64 0,.int .i64 r])/\Below w.heap.size w w'
theorem made3_five2 (w:World)(o1 o3:Obj)(u0 u1 u2 u3 u4:Value):Five (((w.alloc o1).alloc (.cells #[u0,u1,u2,u3,u4] 26)).alloc o3) (w.heap.size+1) :=
 ⟨u0,u1,u2,u3,u4,by
  rw [Below.heap_alloc _ _ _ (by simp)];have:=heap_alloc_new (w.alloc o1) (.cells #[u0,u1,u2,u3,u4] 26);simpa using this⟩
theorem come_A (p p':Option Addr)(c c' nb na:Nat)(a ac sd pr q how r:Int)(w:World)(hr:¬r=0)
  (MCm:Hid (∀X,Below w.heap.size w X->Calls Tryz.prog 160 #[.agg #[.slice p nb c,.slice p' na c'],.int .i64 a,.int .i64 how] X fun e w'=>e=.returned (.int .i64 r)/\Below X.heap.size X w')) :
  Calls Tryz.prog 122 #[.agg #[.slice p nb c,.slice p' na c'],.agg #[.int .i64 a,.int .i64 ac,.int .i64 sd,.int .i64 pr,.int .i64 q],.int .i64 how] w (ComeFail w r):=by
 have er:(r == 0)=false:=by simp [hr]
 have hb0:∀o1 o2 o3,Below w.heap.size w (((w.alloc o1).alloc o2).alloc o3):=fun o1 o2 o3=>(((Below.refl _ w).alloc (Nat.le_refl _) _).alloc (by simp) _).alloc (by simp;omega) _;have F1:=hide come1_any;go_enter Tryz.func122,Tryz.ntmps122;go_wp2_with fail;refine(MCm.out _ (hb0 _ _ _)).mono ?_;rintro e W ⟨rfl,hb⟩;have BW:=hide ((hb0 _ _ _).trans (hb.mono (by simp;omega)));have T:=hide (two_below (two_made _ _ _ _ _) hb);have e0:W.cell? ⟨w.heap.size,0,none⟩=some (.slice p nb c):=box3_a hb rfl;have e1:W.cell? ⟨w.heap.size,1,none⟩=some (.slice p' na c'):=box3_a hb rfl;have f0:W.cell? ⟨w.heap.size+1,0,none⟩=some (.int .i64 a):=box3_b hb rfl;have f1:W.cell? ⟨w.heap.size+1,1,none⟩=some (.int .i64 ac):=box3_b hb rfl;have f2:W.cell? ⟨w.heap.size+1,2,none⟩=some (.int .i64 sd):=box3_b hb rfl;have f3:W.cell? ⟨w.heap.size+1,3,none⟩=some (.int .i64 pr):=box3_b hb rfl;have f4:W.cell? ⟨w.heap.size+1,4,none⟩=some (.int .i64 q):=box3_b hb rfl;have FV:=hide (five_below (made3_five2 _ _ _ _ _ _ _ _) hb);clear hb hb0 MCm;clear e0 e1 f0 f1 f2 f3 f4 FV;go_wp2_with fail;refine(F1.out _ _).mono ?_;rintro e WF ⟨rfl,hbF⟩;have TF:=hide (two_below T.out hbF);have BF:=hide (BW.out.trans (hbF.mono BW.out.size));obtain⟨uf0,uf1,tf0,tf1,tf2,tf3⟩:=two_facts TF.out;clear hbF;go_wp2;obtain⟨sf0,sf1⟩:=two_set TF.out (.slice none 0 0) (.slice none 0 0);refine bodyPost_ret (v:=.tuple #[.agg #[.slice none 0 0,.slice none 0 0],.slice none 0 0,.int .i64 0,.int .i64 r]) (by simp [results,Tryz.results122,go_sem,sf0,sf1]) rfl ⟨rfl,two_below_set BF.out (by omega) _ _⟩
theorem come_B (p p':Option Addr)(c c' nb na:Nat)(a ac sd pr q how r:Int)(w:World)(hr:¬r=0)
  (MCm:Hid (∀X,Below w.heap.size w X->Calls Tryz.prog 160 #[.agg #[.slice p nb c,.slice p' na c'],.int .i64 a,.int .i64 how] X fun e w'=>e=.returned (.int .i64 0)/\Below X.heap.size X w'))
  (TK:Hid (∀X,Below w.heap.size w X->Calls Tryz.prog 161 #[.agg #[.slice p nb c,.slice p' na c'],.agg #[.int .i64 a,.int .i64 ac,.int .i64 sd,.int .i64 pr,.int .i64 q]] X fun e w'=>e=.returned (.tuple #[.agg #[.slice none 0 0,.slice none 0 0],.slice none 0 0,.int .i64 0,.bool false,.int .i64 r])/\Below X.heap.size X w')) :
  Calls Tryz.prog 122 #[.agg #[.slice p nb c,.slice p' na c'],.agg #[.int .i64 a,.int .i64 ac,.int .i64 sd,.int .i64 pr,.int .i64 q],.int .i64 how] w (ComeFail w r):=by
 have er:(r == 0)=false:=by simp [hr]
 have hb0:∀o1 o2 o3,Below w.heap.size w (((w.alloc o1).alloc o2).alloc o3):=fun o1 o2 o3=>(((Below.refl _ w).alloc (Nat.le_refl _) _).alloc (by simp) _).alloc (by simp;omega) _;have F1:=hide come1_any;go_enter Tryz.func122,Tryz.ntmps122;go_wp2_with fail;refine(MCm.out _ (hb0 _ _ _)).mono ?_;rintro e W ⟨rfl,hb⟩;have BW:=hide ((hb0 _ _ _).trans (hb.mono (by simp;omega)));have T:=hide (two_below (two_made _ _ _ _ _) hb);have e0:W.cell? ⟨w.heap.size,0,none⟩=some (.slice p nb c):=box3_a hb rfl;have e1:W.cell? ⟨w.heap.size,1,none⟩=some (.slice p' na c'):=box3_a hb rfl;have f0:W.cell? ⟨w.heap.size+1,0,none⟩=some (.int .i64 a):=box3_b hb rfl;have f1:W.cell? ⟨w.heap.size+1,1,none⟩=some (.int .i64 ac):=box3_b hb rfl;have f2:W.cell? ⟨w.heap.size+1,2,none⟩=some (.int .i64 sd):=box3_b hb rfl;have f3:W.cell? ⟨w.heap.size+1,3,none⟩=some (.int .i64 pr):=box3_b hb rfl;have f4:W.cell? ⟨w.heap.size+1,4,none⟩=some (.int .i64 q):=box3_b hb rfl;have FV:=hide (five_below (made3_five2 _ _ _ _ _ _ _ _) hb);clear hb hb0 MCm;go_wp2_with fail;refine(TK.out _ BW.out).mono ?_;rintro e W2 ⟨rfl,hb2⟩;have T2:=hide (two_below T.out hb2);have B2:=hide (BW.out.trans (hb2.mono BW.out.size));obtain⟨u0,u1,t0,t1,t2,t3⟩:=two_facts T2.out;have T3:=hide (two_again T2.out (.slice none 0 0) (.slice none 0 0));have B3:=hide (two_below_set B2.out (show w.heap.size<=w.heap.size+1+1 by omega) (.slice none 0 0) (.slice none 0 0));clear hb2 e0 e1 f0 f1 f2 f3 f4 FV TK;go_wp2_with fail;refine(F1.out _ _).mono ?_;rintro e WF ⟨rfl,hbF⟩;have TF:=hide (two_below T3.out hbF);have BF:=hide (B3.out.trans (hbF.mono B3.out.size));obtain⟨uf0,uf1,tf0,tf1,tf2,tf3⟩:=two_facts TF.out;clear hbF;go_wp2;obtain⟨sf0,sf1⟩:=two_set TF.out (.slice none 0 0) (.slice none 0 0);refine bodyPost_ret (v:=.tuple #[.agg #[.slice none 0 0,.slice none 0 0],.slice none 0 0,.int .i64 0,.int .i64 r]) (by simp [results,Tryz.results122,go_sem,sf0,sf1]) rfl ⟨rfl,two_below_set BF.out (by omega) _ _⟩
structure Taked (w:World) (X:World) (p1 p2:Option Addr) (c1 c2:Nat) (vF:Value) (B A:List Odr) (F:List Fil):Prop where
 bel:Below w.heap.size w X
 b:OV X p1 c1 B
 a:OV X p2 c2 A
 f:X.ownsRow (w.heap.size+1+1+1) 62 7 vF F.length (flatF F)
 g1:∀ad,p1=some ad->w.heap.size+1+1+1<=ad.block
 g2:∀ad,p2=some ad->w.heap.size+1+1+1<=ad.block
 two:Two X (w.heap.size+1+1)
 c0:X.cell? ⟨w.heap.size+1+1,0,none⟩=some (.slice p1 B.length c1)
 c1:X.cell? ⟨w.heap.size+1+1,1,none⟩=some (.slice p2 A.length c2)
theorem Taked.made {w X Y:World}{p1 p2:Option Addr}{c1 c2:Nat}{vF:Value}{B A:List Odr}{F:List Fil}(hX:Below w.heap.size w X)(hT:Two X (w.heap.size+1+1))
  (hb:Below X.heap.size X Y) (o1:OV Y p1 c1 B) (o2:OV Y p2 c2 A) (of:Y.ownsRow X.heap.size 62 7 vF F.length (flatF F)) (g1:∀a,p1=some a->X.heap.size<=a.block) (g2:∀a,p2=some a->X.heap.size<=a.block) :
  Taked w ((Y.setCell ⟨w.heap.size+1+1,0,none⟩ (.slice p1 B.length c1)).setCell ⟨w.heap.size+1+1,1,none⟩ (.slice p2 A.length c2)) p1 p2 c1 c2 vF B A F:=by
 have ht:=two_lt hT;have hY:=two_below hT hb;have hs:=two_set hY (.slice p1 B.length c1) (.slice p2 A.length c2);refine⟨two_below_set (hX.trans (hb.mono hX.size)) (by omega) _ _,?_,?_,?_,?_,?_,two_again hY _ _,hs.1,hs.2⟩
 ·exact ov_two o1 (fun ad ha=>by have:=g1 ad ha;omega) _ _
 ·exact ov_two o2 (fun ad ha=>by have:=g2 ad ha;omega) _ _
 ·exact own_base (ownsRow_setCell_below (ownsRow_setCell_below of ht _) ht _) ht
 ·intro ad ha;have:=g1 ad ha;omega
 ·intro ad ha;have:=g2 ad ha;omega
theorem ownF_form {w:World}{B:Nat}{v:Value}{F:List Fil}(h:w.ownsRow B 62 7 v F.length (flatF F)):∃p c,v=.slice p F.length c:=by
 rcases h.2 with⟨rfl,h0⟩ | ⟨g,cap,cur,rfl,_⟩
 ·exact⟨none,0,by rw [h0]⟩
 ·exact⟨_,_,rfl⟩
theorem five_last {x:World}{t:Nat}{v0 v1 v2 v3:Value}(h:Five x t)(h0:x.cell? ⟨t,0,none⟩=some v0)(h1:x.cell? ⟨t,1,none⟩=some v1)(h2:x.cell? ⟨t,2,none⟩=some v2)(h3:x.cell? ⟨t,3,none⟩=some v3)(v:Value) :
  (x.setCell ⟨t,4,none⟩ v).cell? ⟨t,0,none⟩=some v0/\(x.setCell ⟨t,4,none⟩ v).cell? ⟨t,1,none⟩=some v1/\(x.setCell ⟨t,4,none⟩ v).cell? ⟨t,2,none⟩=some v2/\(x.setCell ⟨t,4,none⟩ v).cell? ⟨t,3,none⟩=some v3/\(x.setCell ⟨t,4,none⟩ v).cell? ⟨t,4,none⟩=some v:=by
 obtain⟨u0,u1,u2,u3,u4,h⟩:=h;have hh:(x.setCell ⟨t,4,none⟩ v).heap[t]? = some (.cells #[u0,u1,u2,u3,v] 26 (0,0)):=by simp [World.setCell,Array.getElem?_modify,h]
 have e0:u0=v0:=by simpa [World.cell?,h] using h0
 have e1:u1=v1:=by simpa [World.cell?,h] using h1
 have e2:u2=v2:=by simpa [World.cell?,h] using h2
 have e3:u3=v3:=by simpa [World.cell?,h] using h3
 subst e0 e1 e2 e3;refine⟨?_,?_,?_,?_,?_⟩<;>simp [World.cell?,hh]
theorem come_C (p p':Option Addr)(c c' nb na:Nat)(a ac sd pr q how r:Int)(w:World)(B A:List Odr)(F:List Fil)(left:Int)(met:Bool)(hr:¬r=0)(hal:allowsE how F.length left met=r)
  (MCm:Hid (∀X,Below w.heap.size w X->Calls Tryz.prog 160 #[.agg #[.slice p nb c,.slice p' na c'],.int .i64 a,.int .i64 how] X fun e w'=>e=.returned (.int .i64 0)/\Below X.heap.size X w'))
  (TK:Hid (∀X,Below w.heap.size w X->Calls Tryz.prog 161 #[.agg #[.slice p nb c,.slice p' na c'],.agg #[.int .i64 a,.int .i64 ac,.int .i64 sd,.int .i64 pr,.int .i64 q]] X (TakePost X B A F left met))) :
  Calls Tryz.prog 122 #[.agg #[.slice p nb c,.slice p' na c'],.agg #[.int .i64 a,.int .i64 ac,.int .i64 sd,.int .i64 pr,.int .i64 q],.int .i64 how] w (ComeFail w r):=by
 have er:(r == 0)=false:=by simp [hr]
 have AL:=fun W=>allows_any how F.length left met W;rw [hal] at AL;clear hal;have hb0:∀o1 o2 o3,Below w.heap.size w (((w.alloc o1).alloc o2).alloc o3):=fun o1 o2 o3=>(((Below.refl _ w).alloc (Nat.le_refl _) _).alloc (by simp) _).alloc (by simp;omega) _;have F1:=hide come1_any;go_enter Tryz.func122,Tryz.ntmps122;go_wp2_with fail;refine(MCm.out _ (hb0 _ _ _)).mono ?_;rintro e W ⟨rfl,hb⟩;have BW:=hide ((hb0 _ _ _).trans (hb.mono (by simp;omega)));have T:=hide (two_below (two_made _ _ _ _ _) hb);have e0:W.cell? ⟨w.heap.size,0,none⟩=some (.slice p nb c):=box3_a hb rfl;have e1:W.cell? ⟨w.heap.size,1,none⟩=some (.slice p' na c'):=box3_a hb rfl;have f0:W.cell? ⟨w.heap.size+1,0,none⟩=some (.int .i64 a):=box3_b hb rfl;have f1:W.cell? ⟨w.heap.size+1,1,none⟩=some (.int .i64 ac):=box3_b hb rfl;have f2:W.cell? ⟨w.heap.size+1,2,none⟩=some (.int .i64 sd):=box3_b hb rfl;have f3:W.cell? ⟨w.heap.size+1,3,none⟩=some (.int .i64 pr):=box3_b hb rfl;have f4:W.cell? ⟨w.heap.size+1,4,none⟩=some (.int .i64 q):=box3_b hb rfl;have FV:=hide (five_below (made3_five2 _ _ _ _ _ _ _ _) hb);clear hb hb0 MCm;go_wp2_with fail;refine(TK.out _ BW.out).mono ?_;rintro e W2 ⟨p1,c1,p2,c2,vF,rfl,o1,o2,of,hb2,g1,g2⟩;have TD:=hide (Taked.made BW.out T.out hb2 o1 o2 of g1 g2);have T2:=hide (two_below T.out hb2);obtain⟨u0,u1,t0,t1,t2,t3⟩:=two_facts T2.out;obtain⟨pF,cF,rfl⟩:=ownF_form of;have n6:(⟨w.heap.size+1,0,none⟩:Addr).block≠w.heap.size+1+1:=by simp
 have i0:=(hb2.cell (World.block_lt_of_cell? _ _ f0)).trans f0;have i1:=(hb2.cell (World.block_lt_of_cell? _ _ f1)).trans f1;have i2:=(hb2.cell (World.block_lt_of_cell? _ _ f2)).trans f2;have i3:=(hb2.cell (World.block_lt_of_cell? _ _ f3)).trans f3;have FV2:=hide (five_below FV.out hb2);obtain⟨X3,hX3⟩:∃X3,X3=(W2.setCell ⟨w.heap.size+1+1,0,none⟩ (.slice p1 B.length c1)).setCell ⟨w.heap.size+1+1,1,none⟩ (.slice p2 A.length c2):=⟨_,rfl⟩;have j0:Hid (X3.cell? ⟨w.heap.size+1,0,none⟩=some (.int .i64 a)):=by rw [hX3];exact(set_other _ (by simp) _ _).trans ((set_other _ (by simp) _ _).trans i0)
 have j1:Hid (X3.cell? ⟨w.heap.size+1,1,none⟩=some (.int .i64 ac)):=by rw [hX3];exact(set_other _ (by simp) _ _).trans ((set_other _ (by simp) _ _).trans i1)
 have j2:Hid (X3.cell? ⟨w.heap.size+1,2,none⟩=some (.int .i64 sd)):=by rw [hX3];exact(set_other _ (by simp) _ _).trans ((set_other _ (by simp) _ _).trans i2)
 have j3:Hid (X3.cell? ⟨w.heap.size+1,3,none⟩=some (.int .i64 pr)):=by rw [hX3];exact(set_other _ (by simp) _ _).trans ((set_other _ (by simp) _ _).trans i3)
 have FV3:Hid (Five X3 (w.heap.size+1)):=by rw [hX3];exact five_two FV2.out (by omega) _ _
 rw [<- hX3] at TD;have EX:=hide hX3;clear hb2 o1 o2 of g1 g2 e0 e1 f0 f1 f2 f3 f4 i0 i1 i2 i3 hX3 n6 FV FV2 TK;go_wp2_with fail;rw [<- EX.out];clear EX t0 t1 t2 t3 T2;refine(AL _).mono ?_;rintro e WA ⟨rfl,hWA⟩;rw [hWA];clear hWA WA;obtain⟨d0,d1⟩:X3.cell? ⟨w.heap.size+1+1,0,none⟩=some (.slice p1 B.length c1)/\X3.cell? ⟨w.heap.size+1+1,1,none⟩=some (.slice p2 A.length c2):=⟨TD.out.c0,TD.out.c1⟩;clear d0 d1 j0 j1 j2 j3 FV3;go_wp2_with fail;refine(F1.out _ _).mono ?_;rintro e WF ⟨rfl,hbF⟩;have TF:=hide (two_below TD.out.two hbF);have BF:=hide (TD.out.bel.trans (hbF.mono TD.out.bel.size));obtain⟨uf0,uf1,tf0,tf1,tf2,tf3⟩:=two_facts TF.out;clear hbF;go_wp2;obtain⟨sf0,sf1⟩:=two_set TF.out (.slice none 0 0) (.slice none 0 0);refine bodyPost_ret (v:=.tuple #[.agg #[.slice none 0 0,.slice none 0 0],.slice none 0 0,.int .i64 0,.int .i64 r]) (by simp [results,Tryz.results122,go_sem,sf0,sf1]) rfl ⟨rfl,two_below_set BF.out (by omega) _ _⟩
theorem come_D (p p':Option Addr)(c c' nb na:Nat)(a ac sd pr q how:Int)(w:World)(B A:List Odr)(F:List Fil)(left:Int)(met:Bool)(hal:allowsE how F.length left met=0)(hst:stays how left=true)
  (MCm:Hid (∀X,Below w.heap.size w X->Calls Tryz.prog 160 #[.agg #[.slice p nb c,.slice p' na c'],.int .i64 a,.int .i64 how] X fun e w'=>e=.returned (.int .i64 0)/\Below X.heap.size X w'))
  (TK:Hid (∀X,Below w.heap.size w X->Calls Tryz.prog 161 #[.agg #[.slice p nb c,.slice p' na c'],.agg #[.int .i64 a,.int .i64 ac,.int .i64 sd,.int .i64 pr,.int .i64 q]] X (TakePost X B A F left met))) :
  Calls Tryz.prog 122 #[.agg #[.slice p nb c,.slice p' na c'],.agg #[.int .i64 a,.int .i64 ac,.int .i64 sd,.int .i64 pr,.int .i64 q],.int .i64 how] w (ComePost w B A F left):=by
 have AL:=fun W=>allows_any how F.length left met W;rw [hal] at AL;have hst':left=0\/(¬left=0/\how=2):=by
  unfold stays at hst;simp only [Bool.or_eq_true,decide_eq_true_eq] at hst;omega
 clear hal hst;rcases hst' with rfl | ⟨hl0,rfl⟩;rotate_left;focus
  have hlb:(left == 0)=false:=by simp [hl0]
 all_goals
  have hb0:∀o1 o2 o3,Below w.heap.size w (((w.alloc o1).alloc o2).alloc o3):=fun o1 o2 o3=>(((Below.refl _ w).alloc (Nat.le_refl _) _).alloc (by simp) _).alloc (by simp;omega) _;have F1:=hide come1_any;go_enter Tryz.func122,Tryz.ntmps122;go_wp2_with fail;refine(MCm.out _ (hb0 _ _ _)).mono ?_;rintro e W ⟨rfl,hb⟩;have BW:=hide ((hb0 _ _ _).trans (hb.mono (by simp;omega)));have T:=hide (two_below (two_made _ _ _ _ _) hb);have e0:W.cell? ⟨w.heap.size,0,none⟩=some (.slice p nb c):=box3_a hb rfl;have e1:W.cell? ⟨w.heap.size,1,none⟩=some (.slice p' na c'):=box3_a hb rfl;have f0:W.cell? ⟨w.heap.size+1,0,none⟩=some (.int .i64 a):=box3_b hb rfl;have f1:W.cell? ⟨w.heap.size+1,1,none⟩=some (.int .i64 ac):=box3_b hb rfl;have f2:W.cell? ⟨w.heap.size+1,2,none⟩=some (.int .i64 sd):=box3_b hb rfl;have f3:W.cell? ⟨w.heap.size+1,3,none⟩=some (.int .i64 pr):=box3_b hb rfl;have f4:W.cell? ⟨w.heap.size+1,4,none⟩=some (.int .i64 q):=box3_b hb rfl;have FV:=hide (five_below (made3_five2 _ _ _ _ _ _ _ _) hb);clear hb hb0 MCm;go_wp2_with fail;refine(TK.out _ BW.out).mono ?_;rintro e W2 ⟨p1,c1,p2,c2,vF,rfl,o1,o2,of,hb2,g1,g2⟩;have TD:=hide (Taked.made BW.out T.out hb2 o1 o2 of g1 g2);have T2:=hide (two_below T.out hb2);obtain⟨u0,u1,t0,t1,t2,t3⟩:=two_facts T2.out;obtain⟨pF,cF,rfl⟩:=ownF_form of;have n6:(⟨w.heap.size+1,0,none⟩:Addr).block≠w.heap.size+1+1:=by simp
  have i0:=(hb2.cell (World.block_lt_of_cell? _ _ f0)).trans f0;have i1:=(hb2.cell (World.block_lt_of_cell? _ _ f1)).trans f1;have i2:=(hb2.cell (World.block_lt_of_cell? _ _ f2)).trans f2;have i3:=(hb2.cell (World.block_lt_of_cell? _ _ f3)).trans f3;have FV2:=hide (five_below FV.out hb2);obtain⟨X3,hX3⟩:∃X3,X3=(W2.setCell ⟨w.heap.size+1+1,0,none⟩ (.slice p1 B.length c1)).setCell ⟨w.heap.size+1+1,1,none⟩ (.slice p2 A.length c2):=⟨_,rfl⟩;have j0:Hid (X3.cell? ⟨w.heap.size+1,0,none⟩=some (.int .i64 a)):=by rw [hX3];exact(set_other _ (by simp) _ _).trans ((set_other _ (by simp) _ _).trans i0)
  have j1:Hid (X3.cell? ⟨w.heap.size+1,1,none⟩=some (.int .i64 ac)):=by rw [hX3];exact(set_other _ (by simp) _ _).trans ((set_other _ (by simp) _ _).trans i1)
  have j2:Hid (X3.cell? ⟨w.heap.size+1,2,none⟩=some (.int .i64 sd)):=by rw [hX3];exact(set_other _ (by simp) _ _).trans ((set_other _ (by simp) _ _).trans i2)
  have j3:Hid (X3.cell? ⟨w.heap.size+1,3,none⟩=some (.int .i64 pr)):=by rw [hX3];exact(set_other _ (by simp) _ _).trans ((set_other _ (by simp) _ _).trans i3)
  have FV3:Hid (Five X3 (w.heap.size+1)):=by rw [hX3];exact five_two FV2.out (by omega) _ _
  rw [<- hX3] at TD;have EX:=hide hX3;clear hb2 o1 o2 of g1 g2 e0 e1 f0 f1 f2 f3 f4 i0 i1 i2 i3 hX3 n6 FV FV2 TK;go_wp2_with fail;rw [<- EX.out];clear EX t0 t1 t2 t3 T2;refine(AL _).mono ?_;rintro e WA ⟨rfl,hWA⟩;rw [hWA];clear hWA WA;obtain⟨d0,d1⟩:X3.cell? ⟨w.heap.size+1+1,0,none⟩=some (.slice p1 B.length c1)/\X3.cell? ⟨w.heap.size+1+1,1,none⟩=some (.slice p2 A.length c2):=⟨TD.out.c0,TD.out.c1⟩;clear j0 j1 j2 j3 FV3;obtain⟨-,-,-,-,z2,z3⟩:=two_facts TD.out.two;go_wp2;obtain⟨s0,s1⟩:=two_set TD.out.two (.slice p1 B.length c1) (.slice p2 A.length c2);refine bodyPost_ret (v:=.tuple #[.agg #[.slice p1 B.length c1,.slice p2 A.length c2],.slice pF F.length cF,_,.int .i64 0]) (by simp [results,Tryz.results122,go_sem,s0,s1];try rfl) rfl ⟨p1,c1,p2,c2,_,rfl,?_,?_,?_,?_,fun ad ha=>by have:=TD.out.g1 ad ha;omega,fun ad ha=>by have:=TD.out.g2 ad ha;omega⟩
  ·exact ov_two TD.out.b (fun ad ha=>by have:=TD.out.g1 ad ha;omega) _ _
  ·exact ov_two TD.out.a (fun ad ha=>by have:=TD.out.g2 ad ha;omega) _ _
  ·exact own_base (ownsRow_setCell_below (ownsRow_setCell_below TD.out.f (Nat.lt_succ_self (w.heap.size+1+1)) _) (Nat.lt_succ_self (w.heap.size+1+1)) _) (by omega)
  ·exact two_below_set TD.out.bel (by omega) _ _
theorem come_E (p p':Option Addr)(c c' nb na:Nat)(a ac sd pr q how:Int)(w:World)(B A B' A':List Odr)(F:List Fil)(left:Int)(met:Bool)(hal:allowsE how F.length left met=0)(hst:stays how left=false)
  (MCm:Hid (∀X,Below w.heap.size w X->Calls Tryz.prog 160 #[.agg #[.slice p nb c,.slice p' na c'],.int .i64 a,.int .i64 how] X fun e w'=>e=.returned (.int .i64 0)/\Below X.heap.size X w'))
  (TK:Hid (∀X,Below w.heap.size w X->Calls Tryz.prog 161 #[.agg #[.slice p nb c,.slice p' na c'],.agg #[.int .i64 a,.int .i64 ac,.int .i64 sd,.int .i64 pr,.int .i64 q]] X (TakePost X B A F left met)))
  (RS:Hid (∀X r1 r2 d1 d2,OV X r1 d1 B->OV X r2 d2 A->Calls Tryz.prog 163 #[.agg #[.slice r1 B.length d1,.slice r2 A.length d2],.agg #[.int .i64 a,.int .i64 ac,.int .i64 sd,.int .i64 pr,.int .i64 left]] X (RestPost X B' A'))) :
  Calls Tryz.prog 122 #[.agg #[.slice p nb c,.slice p' na c'],.agg #[.int .i64 a,.int .i64 ac,.int .i64 sd,.int .i64 pr,.int .i64 q],.int .i64 how] w (ComePost w B' A' F 0):=by
 have AL:=fun W=>allows_any how F.length left met W;rw [hal] at AL;unfold stays at hst;simp only [Bool.or_eq_false_iff,decide_eq_false_iff_not] at hst;have hlb:(left == 0)=false:=by simp [hst.1]
 have hwb:(how == 2)=false:=by simp [hst.2]
 clear hal hst;have hb0:∀o1 o2 o3,Below w.heap.size w (((w.alloc o1).alloc o2).alloc o3):=fun o1 o2 o3=>(((Below.refl _ w).alloc (Nat.le_refl _) _).alloc (by simp) _).alloc (by simp;omega) _;have F1:=hide come1_any;go_enter Tryz.func122,Tryz.ntmps122;go_wp2_with fail;refine(MCm.out _ (hb0 _ _ _)).mono ?_;rintro e W ⟨rfl,hb⟩;have BW:=hide ((hb0 _ _ _).trans (hb.mono (by simp;omega)));have T:=hide (two_below (two_made _ _ _ _ _) hb);have e0:W.cell? ⟨w.heap.size,0,none⟩=some (.slice p nb c):=box3_a hb rfl;have e1:W.cell? ⟨w.heap.size,1,none⟩=some (.slice p' na c'):=box3_a hb rfl;have f0:W.cell? ⟨w.heap.size+1,0,none⟩=some (.int .i64 a):=box3_b hb rfl;have f1:W.cell? ⟨w.heap.size+1,1,none⟩=some (.int .i64 ac):=box3_b hb rfl;have f2:W.cell? ⟨w.heap.size+1,2,none⟩=some (.int .i64 sd):=box3_b hb rfl;have f3:W.cell? ⟨w.heap.size+1,3,none⟩=some (.int .i64 pr):=box3_b hb rfl;have f4:W.cell? ⟨w.heap.size+1,4,none⟩=some (.int .i64 q):=box3_b hb rfl;have FV:=hide (five_below (made3_five2 _ _ _ _ _ _ _ _) hb);clear hb hb0 MCm;go_wp2_with fail;refine(TK.out _ BW.out).mono ?_;rintro e W2 ⟨p1,c1,p2,c2,vF,rfl,o1,o2,of,hb2,g1,g2⟩;have TD:=hide (Taked.made BW.out T.out hb2 o1 o2 of g1 g2);have T2:=hide (two_below T.out hb2);obtain⟨u0,u1,t0,t1,t2,t3⟩:=two_facts T2.out;obtain⟨pF,cF,rfl⟩:=ownF_form of;have n6:(⟨w.heap.size+1,0,none⟩:Addr).block≠w.heap.size+1+1:=by simp
 have i0:=(hb2.cell (World.block_lt_of_cell? _ _ f0)).trans f0;have i1:=(hb2.cell (World.block_lt_of_cell? _ _ f1)).trans f1;have i2:=(hb2.cell (World.block_lt_of_cell? _ _ f2)).trans f2;have i3:=(hb2.cell (World.block_lt_of_cell? _ _ f3)).trans f3;have FV2:=hide (five_below FV.out hb2);obtain⟨X3,hX3⟩:∃X3,X3=(W2.setCell ⟨w.heap.size+1+1,0,none⟩ (.slice p1 B.length c1)).setCell ⟨w.heap.size+1+1,1,none⟩ (.slice p2 A.length c2):=⟨_,rfl⟩;have j0:Hid (X3.cell? ⟨w.heap.size+1,0,none⟩=some (.int .i64 a)):=by rw [hX3];exact(set_other _ (by simp) _ _).trans ((set_other _ (by simp) _ _).trans i0)
 have j1:Hid (X3.cell? ⟨w.heap.size+1,1,none⟩=some (.int .i64 ac)):=by rw [hX3];exact(set_other _ (by simp) _ _).trans ((set_other _ (by simp) _ _).trans i1)
 have j2:Hid (X3.cell? ⟨w.heap.size+1,2,none⟩=some (.int .i64 sd)):=by rw [hX3];exact(set_other _ (by simp) _ _).trans ((set_other _ (by simp) _ _).trans i2)
 have j3:Hid (X3.cell? ⟨w.heap.size+1,3,none⟩=some (.int .i64 pr)):=by rw [hX3];exact(set_other _ (by simp) _ _).trans ((set_other _ (by simp) _ _).trans i3)
 have FV3:Hid (Five X3 (w.heap.size+1)):=by rw [hX3];exact five_two FV2.out (by omega) _ _
 rw [<- hX3] at TD;have EX:=hide hX3;clear hb2 o1 o2 of g1 g2 e0 e1 f0 f1 f2 f3 f4 i0 i1 i2 i3 hX3 n6 FV FV2 TK;go_wp2_with fail;rw [<- EX.out];clear EX t0 t1 t2 t3 T2;refine(AL _).mono ?_;rintro e WA ⟨rfl,hWA⟩;rw [hWA];clear hWA WA;obtain⟨d0,d1⟩:X3.cell? ⟨w.heap.size+1+1,0,none⟩=some (.slice p1 B.length c1)/\X3.cell? ⟨w.heap.size+1+1,1,none⟩=some (.slice p2 A.length c2):=⟨TD.out.c0,TD.out.c1⟩;obtain⟨⟨v0,v1,v2,v3,v4,w0',w1',w2',w3',w4'⟩,g0',g1',g2',g3',g4'⟩:=five_facts FV3.out;have LS:=five_last FV3.out j0.out j1.out j2.out j3.out (.int .i64 left);have n6:∀k v,(X3.setCell ⟨w.heap.size+1,4,none⟩ (.int .i64 left)).cell? ⟨w.heap.size+1+1,k,none⟩=v↔X3.cell? ⟨w.heap.size+1+1,k,none⟩=v:=fun k v=>by rw [set_other (a:=⟨w.heap.size+1+1,k,none⟩) X3 (t:=w.heap.size+1) (by simp)]
 have D0:=(n6 0 _).2 d0;have D1:=(n6 1 _).2 d1;have T4:Hid (Two (X3.setCell ⟨w.heap.size+1,4,none⟩ (.int .i64 left)) (w.heap.size+1+1)):=by
  obtain⟨u0,u1,h⟩:=TD.out.two;exact⟨u0,u1,(Below.heap_setCell X3 ⟨w.heap.size+1,4,none⟩ _ _ (by simp)).trans h⟩
 have B4:Hid (Below w.heap.size w (X3.setCell ⟨w.heap.size+1,4,none⟩ (.int .i64 left))):=TD.out.bel.setCell (by show w.heap.size<=w.heap.size+1;omega) _;have V1:=hide (ov_set (k:=4) (t:=w.heap.size+1) TD.out.b (fun ad ha=>by have:=TD.out.g1 ad ha;omega) (.int .i64 left));have V2:=hide (ov_set (k:=4) (t:=w.heap.size+1) TD.out.a (fun ad ha=>by have:=TD.out.g2 ad ha;omega) (.int .i64 left));have OF4:=hide (ownsRow_setCell_below (a:=⟨w.heap.size+1,4,none⟩) TD.out.f (show w.heap.size+1<w.heap.size+1+1+1 by omega) (.int .i64 left));obtain⟨l0,l1,l2,l3,l4⟩:=LS;obtain⟨X4,hX4⟩:∃X4,X4=X3.setCell ⟨w.heap.size+1,4,none⟩ (.int .i64 left):=⟨_,rfl⟩;rw [<- hX4] at D0 D1 T4 B4 V1 V2 OF4;have EX:=hide hX4;have RC:=RS.out X4 p1 p2 c1 c2 V1.out V2.out;have hlz:=hlb;clear n6;go_wp2_with fail;rw [<- EX.out];clear hX4 EX d0 d1 w0' w1' w2' w3' w4' g0' g1' g2' g3' g4' l0 l1 l2 l3 l4 hlz D0 D1 j0 j1 j2 j3 FV3;refine RC.mono ?_;rintro e W5 ⟨r1,d1,r2,d2,rfl,q1,q2,hb5,h1,h2⟩;have T5:=hide (two_below T4.out hb5);have B5:=hide (B4.out.trans (hb5.mono B4.out.size));have O5:=hide (own_below OF4.out hb5);have X4L:=hide (two_lt T4.out);have Q1:=hide q1;have Q2:=hide q2;have G1:Hid (∀ad,r1=some ad->w.heap.size+1+1+1<=ad.block):=fun ad ha=>by have:=h1 ad ha;have:=X4L.out;omega
 have G2:Hid (∀ad,r2=some ad->w.heap.size+1+1+1<=ad.block):=fun ad ha=>by have:=h2 ad ha;have:=X4L.out;omega
 obtain⟨x0,x1,z0,z1,z2,z3⟩:=two_facts T5.out;obtain⟨s0,s1⟩:=two_set T5.out (.slice r1 B'.length d1) (.slice r2 A'.length d2);have T6:=hide (two_again T5.out (.slice r1 B'.length d1) (.slice r2 A'.length d2));obtain⟨-,-,-,-,y2,y3⟩:=two_facts T6.out;have SS:=hide (two_set T6.out (.slice r1 B'.length d1) (.slice r2 A'.length d2));clear RC hb5 h1 h2 q1 q2 T4 B4 OF4 V1 V2 X4L TD;go_wp2;obtain⟨k0,k1⟩:=SS.out;refine bodyPost_ret (v:=.tuple #[.agg #[.slice r1 B'.length d1,.slice r2 A'.length d2],.slice pF F.length cF,.int .i64 0,.int .i64 0]) (by simp [results,Tryz.results122,go_sem,k0,k1]) rfl ⟨r1,d1,r2,d2,_,rfl,?_,?_,?_,?_,fun ad ha=>by have:=G1.out ad ha;omega,fun ad ha=>by have:=G2.out ad ha;omega⟩
 ·exact ov_two (ov_two Q1.out (fun ad ha=>by have:=G1.out ad ha;omega) _ _) (fun ad ha=>by have:=G1.out ad ha;omega) _ _
 ·exact ov_two (ov_two Q2.out (fun ad ha=>by have:=G2.out ad ha;omega) _ _) (fun ad ha=>by have:=G2.out ad ha;omega) _ _
 ·have lt:=Nat.lt_succ_self (w.heap.size+1+1);exact own_base (ownsRow_setCell_below (ownsRow_setCell_below (ownsRow_setCell_below (ownsRow_setCell_below O5.out lt _) lt _) lt _) lt _) (by omega)
 ·exact two_below_set (two_below_set B5.out (by omega) _ _) (by omega) _ _
theorem come_F (p p':Option Addr)(c c' nb na:Nat)(a ac sd pr q how r:Int)(w:World)(B A:List Odr)(F:List Fil)(left:Int)(met:Bool)(hr:¬r=0)(hal:allowsE how F.length left met=0)(hst:stays how left=false)
  (MCm:Hid (∀X,Below w.heap.size w X->Calls Tryz.prog 160 #[.agg #[.slice p nb c,.slice p' na c'],.int .i64 a,.int .i64 how] X fun e w'=>e=.returned (.int .i64 0)/\Below X.heap.size X w'))
  (TK:Hid (∀X,Below w.heap.size w X->Calls Tryz.prog 161 #[.agg #[.slice p nb c,.slice p' na c'],.agg #[.int .i64 a,.int .i64 ac,.int .i64 sd,.int .i64 pr,.int .i64 q]] X (TakePost X B A F left met)))
  (RS:Hid (∀X r1 r2 d1 d2,OV X r1 d1 B->OV X r2 d2 A->Calls Tryz.prog 163 #[.agg #[.slice r1 B.length d1,.slice r2 A.length d2],.agg #[.int .i64 a,.int .i64 ac,.int .i64 sd,.int .i64 pr,.int .i64 left]] X fun e w'=>e=.returned (.tuple #[.agg #[.slice none 0 0,.slice none 0 0],.int .i64 r])/\Below X.heap.size X w')) :
  Calls Tryz.prog 122 #[.agg #[.slice p nb c,.slice p' na c'],.agg #[.int .i64 a,.int .i64 ac,.int .i64 sd,.int .i64 pr,.int .i64 q],.int .i64 how] w (ComeFail w r):=by
 have AL:=fun W=>allows_any how F.length left met W;rw [hal] at AL;unfold stays at hst;simp only [Bool.or_eq_false_iff,decide_eq_false_iff_not] at hst;have hlb:(left == 0)=false:=by simp [hst.1]
 have hwb:(how == 2)=false:=by simp [hst.2]
 have er:(r == 0)=false:=by simp [hr]
 clear hal hst;have hb0:∀o1 o2 o3,Below w.heap.size w (((w.alloc o1).alloc o2).alloc o3):=fun o1 o2 o3=>(((Below.refl _ w).alloc (Nat.le_refl _) _).alloc (by simp) _).alloc (by simp;omega) _;have F1:=hide come1_any;go_enter Tryz.func122,Tryz.ntmps122;go_wp2_with fail;refine(MCm.out _ (hb0 _ _ _)).mono ?_;rintro e W ⟨rfl,hb⟩;have BW:=hide ((hb0 _ _ _).trans (hb.mono (by simp;omega)));have T:=hide (two_below (two_made _ _ _ _ _) hb);have e0:W.cell? ⟨w.heap.size,0,none⟩=some (.slice p nb c):=box3_a hb rfl;have e1:W.cell? ⟨w.heap.size,1,none⟩=some (.slice p' na c'):=box3_a hb rfl;have f0:W.cell? ⟨w.heap.size+1,0,none⟩=some (.int .i64 a):=box3_b hb rfl;have f1:W.cell? ⟨w.heap.size+1,1,none⟩=some (.int .i64 ac):=box3_b hb rfl;have f2:W.cell? ⟨w.heap.size+1,2,none⟩=some (.int .i64 sd):=box3_b hb rfl;have f3:W.cell? ⟨w.heap.size+1,3,none⟩=some (.int .i64 pr):=box3_b hb rfl;have f4:W.cell? ⟨w.heap.size+1,4,none⟩=some (.int .i64 q):=box3_b hb rfl;have FV:=hide (five_below (made3_five2 _ _ _ _ _ _ _ _) hb);clear hb hb0 MCm;go_wp2_with fail;refine(TK.out _ BW.out).mono ?_;rintro e W2 ⟨p1,c1,p2,c2,vF,rfl,o1,o2,of,hb2,g1,g2⟩;have TD:=hide (Taked.made BW.out T.out hb2 o1 o2 of g1 g2);have T2:=hide (two_below T.out hb2);obtain⟨u0,u1,t0,t1,t2,t3⟩:=two_facts T2.out;obtain⟨pF,cF,rfl⟩:=ownF_form of;have n6:(⟨w.heap.size+1,0,none⟩:Addr).block≠w.heap.size+1+1:=by simp
 have i0:=(hb2.cell (World.block_lt_of_cell? _ _ f0)).trans f0;have i1:=(hb2.cell (World.block_lt_of_cell? _ _ f1)).trans f1;have i2:=(hb2.cell (World.block_lt_of_cell? _ _ f2)).trans f2;have i3:=(hb2.cell (World.block_lt_of_cell? _ _ f3)).trans f3;have FV2:=hide (five_below FV.out hb2);obtain⟨X3,hX3⟩:∃X3,X3=(W2.setCell ⟨w.heap.size+1+1,0,none⟩ (.slice p1 B.length c1)).setCell ⟨w.heap.size+1+1,1,none⟩ (.slice p2 A.length c2):=⟨_,rfl⟩;have j0:Hid (X3.cell? ⟨w.heap.size+1,0,none⟩=some (.int .i64 a)):=by rw [hX3];exact(set_other _ (by simp) _ _).trans ((set_other _ (by simp) _ _).trans i0)
 have j1:Hid (X3.cell? ⟨w.heap.size+1,1,none⟩=some (.int .i64 ac)):=by rw [hX3];exact(set_other _ (by simp) _ _).trans ((set_other _ (by simp) _ _).trans i1)
 have j2:Hid (X3.cell? ⟨w.heap.size+1,2,none⟩=some (.int .i64 sd)):=by rw [hX3];exact(set_other _ (by simp) _ _).trans ((set_other _ (by simp) _ _).trans i2)
 have j3:Hid (X3.cell? ⟨w.heap.size+1,3,none⟩=some (.int .i64 pr)):=by rw [hX3];exact(set_other _ (by simp) _ _).trans ((set_other _ (by simp) _ _).trans i3)
 have FV3:Hid (Five X3 (w.heap.size+1)):=by rw [hX3];exact five_two FV2.out (by omega) _ _
 rw [<- hX3] at TD;have EX:=hide hX3;clear hb2 o1 o2 of g1 g2 e0 e1 f0 f1 f2 f3 f4 i0 i1 i2 i3 hX3 n6 FV FV2 TK;go_wp2_with fail;rw [<- EX.out];clear EX t0 t1 t2 t3 T2;refine(AL _).mono ?_;rintro e WA ⟨rfl,hWA⟩;rw [hWA];clear hWA WA;obtain⟨d0,d1⟩:X3.cell? ⟨w.heap.size+1+1,0,none⟩=some (.slice p1 B.length c1)/\X3.cell? ⟨w.heap.size+1+1,1,none⟩=some (.slice p2 A.length c2):=⟨TD.out.c0,TD.out.c1⟩;obtain⟨⟨v0,v1,v2,v3,v4,w0',w1',w2',w3',w4'⟩,g0',g1',g2',g3',g4'⟩:=five_facts FV3.out;have LS:=five_last FV3.out j0.out j1.out j2.out j3.out (.int .i64 left);have n6:∀k v,(X3.setCell ⟨w.heap.size+1,4,none⟩ (.int .i64 left)).cell? ⟨w.heap.size+1+1,k,none⟩=v↔X3.cell? ⟨w.heap.size+1+1,k,none⟩=v:=fun k v=>by rw [set_other (a:=⟨w.heap.size+1+1,k,none⟩) X3 (t:=w.heap.size+1) (by simp)]
 have D0:=(n6 0 _).2 d0;have D1:=(n6 1 _).2 d1;have T4:Hid (Two (X3.setCell ⟨w.heap.size+1,4,none⟩ (.int .i64 left)) (w.heap.size+1+1)):=by
  obtain⟨u0,u1,h⟩:=TD.out.two;exact⟨u0,u1,(Below.heap_setCell X3 ⟨w.heap.size+1,4,none⟩ _ _ (by simp)).trans h⟩
 have B4:Hid (Below w.heap.size w (X3.setCell ⟨w.heap.size+1,4,none⟩ (.int .i64 left))):=TD.out.bel.setCell (by show w.heap.size<=w.heap.size+1;omega) _;have V1:=hide (ov_set (k:=4) (t:=w.heap.size+1) TD.out.b (fun ad ha=>by have:=TD.out.g1 ad ha;omega) (.int .i64 left));have V2:=hide (ov_set (k:=4) (t:=w.heap.size+1) TD.out.a (fun ad ha=>by have:=TD.out.g2 ad ha;omega) (.int .i64 left));have OF4:=hide (ownsRow_setCell_below (a:=⟨w.heap.size+1,4,none⟩) TD.out.f (show w.heap.size+1<w.heap.size+1+1+1 by omega) (.int .i64 left));obtain⟨l0,l1,l2,l3,l4⟩:=LS;obtain⟨X4,hX4⟩:∃X4,X4=X3.setCell ⟨w.heap.size+1,4,none⟩ (.int .i64 left):=⟨_,rfl⟩;rw [<- hX4] at D0 D1 T4 B4 V1 V2 OF4;have EX:=hide hX4;have RC:=RS.out X4 p1 p2 c1 c2 V1.out V2.out;have hlz:=hlb;clear n6;go_wp2_with fail;rw [<- EX.out];clear hX4 EX d0 d1 w0' w1' w2' w3' w4' g0' g1' g2' g3' g4' l0 l1 l2 l3 l4 hlz D0 D1 j0 j1 j2 j3 FV3;refine RC.mono ?_;rintro e W5 ⟨rfl,hb5⟩;have T5:=hide (two_below T4.out hb5);have B5:=hide (B4.out.trans (hb5.mono B4.out.size));obtain⟨x0,x1,z0,z1,z2,z3⟩:=two_facts T5.out;have T6:=hide (two_again T5.out (.slice none 0 0) (.slice none 0 0));have B6:=hide (two_below_set B5.out (show w.heap.size<=w.heap.size+1+1 by omega) (.slice none 0 0) (.slice none 0 0));clear RC hb5 T4 B4 OF4 V1 V2 TD;go_wp2_with fail;refine(F1.out _ _).mono ?_;rintro e WF ⟨rfl,hbF⟩;have TF:=hide (two_below T6.out hbF);have BF:=hide (B6.out.trans (hbF.mono B6.out.size));obtain⟨uf0,uf1,tf0,tf1,tf2,tf3⟩:=two_facts TF.out;clear hbF;go_wp2;obtain⟨sf0,sf1⟩:=two_set TF.out (.slice none 0 0) (.slice none 0 0);refine bodyPost_ret (v:=.tuple #[.agg #[.slice none 0 0,.slice none 0 0],.slice none 0 0,.int .i64 0,.int .i64 r]) (by simp [results,Tryz.results122,go_sem,sf0,sf1]) rfl ⟨rfl,two_below_set BF.out (by omega) _ _⟩
def comeL (how left:Int):Int:=if stays how left=true then left else 0
def comeB (bids asks:List Odr) (o:Odr) (how:Int):List Odr:=if stays how (takeT bids asks o).2.2.1=true then takeB bids asks o else restB (takeB bids asks o) (restO o (takeT bids asks o).2.2.1)
def comeA (bids asks:List Odr) (o:Odr) (how:Int):List Odr:=if stays how (takeT bids asks o).2.2.1=true then takeA bids asks o else restA (takeA bids asks o) (restO o (takeT bids asks o).2.2.1)
theorem take_len (bids asks:List Odr)(o:Odr):(takeB bids asks o).length<=bids.length/\(takeA bids asks o).length<=asks.length:=by
 have tl:∀(l:List Odr) (left:Int),(takes o left l).1.length<=l.length:=by
  intro l;induction l with
  |nil=>intro left;simp [takes]
  |cons x l ih =>
   intro left;unfold takes;split
   ·split
    ·simp
    ·split
     ·have:=ih (left - oqt x);simp;omega
     ·simp
   ·simp
 unfold takeB takeA takeT;by_cases h:osd o=1
 ·simp only [if_pos h];exact⟨Nat.le_refl _,tl _ _⟩
 ·simp only [if_neg h];exact⟨tl _ _,Nat.le_refl _⟩
theorem come_bad (p p':Option Addr)(c c':Nat)(bids asks:List Odr)(o:Odr)(how:Int)(w:World)(h:OV w p c bids)(h':OV w p' c' asks)(hn:bids.length<=140737488351232)(hn':asks.length<=140737488351232)(he:¬comeE bids asks o how=0) :
  Calls Tryz.prog 122 #[.agg #[.slice p bids.length c,.slice p' asks.length c'],odrV o,.int .i64 how] w (ComeFail w (comeE bids asks o how)):=by
 obtain⟨a,ac,sd,pr,q⟩:=o;have MC:=fun X (hX:Below w.heap.size w X)=>mayCome_any p p' c c' bids asks a how X (orow_below h.row hX) (orow_below h'.row hX) hn hn';unfold comeE at he ⊢;by_cases h1:mayComeE bids asks a how=0
 ·rw [if_neg (by simpa using h1)] at he ⊢;rw [h1] at MC;by_cases h2:takeErr bids asks (a,ac,sd,pr,q)=0
  ·rw [if_neg (by simpa using h2)] at he ⊢;obtain⟨hR,hok⟩:=takeErr_zero.1 h2;have TA:=fun X (hX:Below w.heap.size w X)=>take_any p p' c c' bids asks (a,ac,sd,pr,q) X (h.below hX) (h'.below hX) hR hok;have tl:=take_len bids asks (a,ac,sd,pr,q);have hl:=hR.few;generalize takeT bids asks (a,ac,sd,pr,q)=T at TA he ⊢;obtain⟨R,F,left,met⟩:=T;dsimp only at TA he ⊢;by_cases h3:allowsE how F.length left met=0
   ·rw [if_neg (by simpa using h3)] at he ⊢
    cases h4:stays how left
    ·rw [h4,if_neg (by simp)] at he;rw [if_neg (by simp)];refine come_F p p' c c' _ _ a ac sd pr q how _ w (takeB bids asks (a,ac,sd,pr,q)) (takeA bids asks (a,ac,sd,pr,q)) F left met he h3 h4 (hide MC) (hide TA) (hide fun X r1 r2 d1 d2 k1 k2=>?_);exact rest_bad r1 r2 d1 d2 _ _ a ac sd pr left X k1.row k2.row (by omega) (by omega) he
    ·rw [h4,if_pos rfl] at he;exact absurd rfl he
   ·rw [if_pos (by simpa using h3)] at he ⊢;exact come_C p p' c c' _ _ a ac sd pr q how _ w _ _ F left met he rfl (hide MC) (hide TA)
  ·rw [if_pos (by simpa using h2)] at he ⊢;exact come_B p p' c c' _ _ a ac sd pr q how _ w he (hide MC) (hide fun X hX=>take_bad p p' c c' bids asks a ac sd pr q X (orow_below h.row hX) (orow_below h'.row hX) hn hn' h2)
 ·rw [if_pos (by simpa using h1)] at he ⊢;exact come_A p p' c c' _ _ a ac sd pr q how _ w he (hide MC)
theorem come_ok (p p':Option Addr)(c c':Nat)(bids asks:List Odr)(o:Odr)(how:Int)(w:World)(h:OV w p c bids)(h':OV w p' c' asks)(he:comeE bids asks o how=0) :
  Calls Tryz.prog 122 #[.agg #[.slice p bids.length c,.slice p' asks.length c'],odrV o,.int .i64 how] w (ComePost w (comeB bids asks o how) (comeA bids asks o how) (takeT bids asks o).2.1 (comeL how (takeT bids asks o).2.2.1)):=by
 obtain⟨a,ac,sd,pr,q⟩:=o;unfold comeE at he;unfold comeB comeA comeL;by_cases h1:mayComeE bids asks a how=0
 ·rw [if_neg (by simpa using h1)] at he;by_cases h2:takeErr bids asks (a,ac,sd,pr,q)=0
  ·rw [if_neg (by simpa using h2)] at he;obtain⟨hR,hok⟩:=takeErr_zero.1 h2;have hl:=hR.few;have MC:=fun X (hX:Below w.heap.size w X)=>mayCome_any p p' c c' bids asks a how X (orow_below h.row hX) (orow_below h'.row hX) (by omega) (by omega);rw [h1] at MC;have TA:=fun X (hX:Below w.heap.size w X)=>take_any p p' c c' bids asks (a,ac,sd,pr,q) X (h.below hX) (h'.below hX) hR hok;generalize takeT bids asks (a,ac,sd,pr,q)=T at TA he ⊢;obtain⟨R,F,left,met⟩:=T;dsimp only at TA he ⊢;by_cases h3:allowsE how F.length left met=0
   ·rw [if_neg (by simpa using h3)] at he
    cases h4:stays how left
    ·rw [h4,if_neg (by simp)] at he;simp only [Bool.false_eq_true,if_false];refine come_E p p' c c' _ _ a ac sd pr q how w (takeB bids asks (a,ac,sd,pr,q)) (takeA bids asks (a,ac,sd,pr,q)) _ _ F left met h3 h4 (hide MC) (hide TA) (hide fun X r1 r2 d1 d2 k1 k2=>?_);exact rest_any r1 r2 d1 d2 _ _ (a,ac,sd,pr,left) X k1 k2 he
    ·simp only [if_true];exact come_D p p' c c' _ _ a ac sd pr q how w _ _ F left met h3 h4 (hide MC) (hide TA)
   ·rw [if_pos (by simpa using h3)] at he;exact absurd he h3
  ·rw [if_pos (by simpa using h2)] at he;exact absurd he h2
 ·rw [if_pos (by simpa using h1)] at he;exact absurd he h1
end Go.Proofs.YthdjfhnhjiageaaGreatDoor.Bk
