import Derived.Test.YthdjfhnhjiageaaGreatDoorG32
import Derived.Test.YthdjfhnhjiageaaGreatDoorG38
set_option maxHeartbeats 8000000
set_option maxRecDepth 100000
namespace Go.Proofs.YthdjfhnhjiageaaGreatDoor.Vn
open Go.RowKit Num Fix AcP FuP Bk Rm Ac Go.Sort Go.Maps Mix RkP
theorem vin_check (v:Value)(s:Tn)(w:World)(h:VIn w v s):Calls Tryz.prog 38 #[v] w fun e w'=>e=.returned (.int .i64 (checkE s))/\Below w.heap.size w w':=by
 obtain⟨p,p',c,c',A,M,rfl,h0,h0',vr,-⟩:=h;exact venue_check p p' A.length c M.length c' A M s w vr rfl rfl
theorem But.below_of {w X Z:World}{b:Nat}(h:But (fun x=>x=b) X Z)(hb:Below w.heap.size w X)(hw:w.heap.size<=b):Below w.heap.size w Z :=
 ⟨h.os.trans hb.os,h.tape.trans hb.tape,h.output.trans hb.output,Nat.le_trans hb.size h.size,fun k hk=>(h.block k (Nat.lt_of_lt_of_le hk hb.size) (by omega)).trans (hb.block k hk)⟩
theorem But.below_all {w X Z:World}{F:Nat->Prop}(h:But F X Z)(hb:Below w.heap.size w X)(hF:∀b,F b->w.heap.size<=b):Below w.heap.size w Z :=
 ⟨h.os.trans hb.os,h.tape.trans hb.tape,h.output.trans hb.output,Nat.le_trans hb.size h.size,fun k hk=>(h.block k (Nat.lt_of_lt_of_le hk hb.size) (fun f=>by have:=hF k f;omega)).trans (hb.block k hk)⟩
abbrev DoPost (s:Tn) (c:Cm) (w:World) (e:Ending) (w':World):Prop:=∃v ev,e=.returned (.tuple #[v,ev,.int .i64 (doR s c).2])/\Below w.heap.size w w'/\VNew w.heap.size w' v (doR s c).1/\ENew w.heap.size w' ev (doR s c).1.evs
theorem venue_do (v:Value)(s:Tn)(c:Cm)(w:World)(h:VIn w v s)(hL:Rk.Laid w) :
  Calls Tryz.prog 40 #[v,cmV c] w (DoPost s c w):=by
 obtain⟨R,hR⟩:∃R,R=doR s c:=⟨_,rfl⟩;unfold DoPost;rw [<- hR];obtain⟨p,p',cc,cc',A,M,hv,-⟩:=id h;obtain⟨W,hW⟩:∃W,W=((w.alloc (.cells #[.slice p A.length cc,.slice p' M.length cc',.int .i64 s.ins,.int .i64 s.res,.int .i64 s.next,.int .i64 s.inn,.int .i64 s.out] 51)).alloc (cmO c)).alloc (.cells #[.slice none 0 0,.slice none 0 0,.int .i64 0,.int .i64 0,.int .i64 0,.int .i64 0,.int .i64 0] 51):=⟨_,rfl⟩;have b0:Below w.heap.size w W:=by rw [hW];exact(((Below.refl _ w).alloc (Nat.le_refl _) _).alloc (by simp) _).alloc (by simp;omega) _
 have hsz:W.heap.size=w.heap.size+3:=by rw [hW];simp
 have E0:Hid (W.heap[w.heap.size]? = some (venO (.slice p A.length cc) (.slice p' M.length cc') s)):=by
  show W.heap[w.heap.size]? = _;rw [hW];exact blk_below (blk_below (heap_alloc_new w _) (Ac.below_alloc _ _)) (Ac.below_alloc _ _)
 have E1:Hid (W.heap[w.heap.size+1]? = some (cmO c)):=by
  show W.heap[w.heap.size+1]? = _;rw [hW];have:=heap_alloc_new (w.alloc (.cells #[.slice p A.length cc,.slice p' M.length cc',.int .i64 s.ins,.int .i64 s.res,.int .i64 s.next,.int .i64 s.inn,.int .i64 s.out] 51)) (cmO c);have hx:(w.alloc (.cells #[.slice p A.length cc,.slice p' M.length cc',.int .i64 s.ins,.int .i64 s.res,.int .i64 s.next,.int .i64 s.inn,.int .i64 s.out] 51)).heap.size=w.heap.size+1:=by simp
  rw [hx] at this;exact blk_below this (Ac.below_alloc _ _)
 have E2:Hid (W.heap[w.heap.size+1+1]? = some (venO (.slice none 0 0) (.slice none 0 0) noTn)):=by
  show W.heap[w.heap.size+1+1]? = _;rw [hW];have:=heap_alloc_new ((w.alloc (.cells #[.slice p A.length cc,.slice p' M.length cc',.int .i64 s.ins,.int .i64 s.res,.int .i64 s.next,.int .i64 s.inn,.int .i64 s.out] 51)).alloc (cmO c)) (.cells #[.slice none 0 0,.slice none 0 0,.int .i64 0,.int .i64 0,.int .i64 0,.int .i64 0,.int .i64 0] 51);have hx:((w.alloc (.cells #[.slice p A.length cc,.slice p' M.length cc',.int .i64 s.ins,.int .i64 s.res,.int .i64 s.next,.int .i64 s.inn,.int .i64 s.out] 51)).alloc (cmO c)).heap.size=w.heap.size+1+1:=by simp
  rw [hx] at this;exact this
 have CH:=hide (vin_check v s W (h.below b0));have VI:=hide h;have LD:=hide hL;have HW:=hide hW;have BW:=hide b0;have SZ:=hide hsz;subst hv;clear hW b0 hsz h hL;obtain⟨a0,a1,a2,a3,a4,a5,a6⟩:=ven_cells E0.out;go_enter Tryz.func40,Tryz.ntmps40;go_wp2_with (rw [<- HW.out]);refine CH.out.mono ?_;rintro e X ⟨rfl,hbX⟩;have X0:=hide (blk_below E0.out hbX);have X1:=hide (blk_below E1.out hbX);have X2:=hide (blk_below E2.out hbX);have BX:=hide (BW.out.trans (hbX.mono BW.out.size));have SX:Hid (w.heap.size+3<=X.heap.size):=by rw [<- SZ.out];exact hbX.size
 clear CH HW E0 E1 E2 BW SZ hbX a0 a1 a2 a3 a4 a5 a6;by_cases hce:checkE s=0
 ·obtain⟨hs,hS⟩:=checkE_zero.1 hce;rw [hce];have CO:=hide (copyOf_any _ s X (VI.out.below BX.out) hs);have HR:Hid ((∀t,turnR { s with evs:=[] } c=.ok t->R=(t,0))/\∀e,turnR { s with evs:=[] } c=.error e->R=({ s with evs:=[evRejected e] },0)):=by
   refine⟨fun t ht=>?_,fun e ht=>?_⟩
   ·rw [hR];unfold doR;rw [if_pos hce,ht]
   ·rw [hR];unfold doR;rw [if_pos hce,ht]
  have HS:=hide hs;have HSS:=hide hS;clear hR hs hS hce;obtain⟨a0,a1,a2,a3,a4,a5,a6⟩:=ven_cells X0.out;go_wp2_with fail;refine CO.out.mono ?_;rintro e Y ⟨C,N,va,vm,rfl,cp⟩;obtain⟨pa0,ca0,rfl⟩:∃q c',va=.slice q C.length c':=by obtain⟨q,c',e,-⟩:=own_arow cp.rowA;exact⟨q,c',e⟩
  obtain⟨pm0,cm0,rfl⟩:∃q c',vm=.slice q N.length c':=by obtain⟨q,c',e,-⟩:=own_mrow cp.rowM;exact⟨q,c',e⟩
  have Y0:=hide (blk_below X0.out cp.below);have Y1:=hide (blk_below X1.out cp.below);have Y2:=hide (blk_below X2.out cp.below);have BY:=hide (BX.out.trans (cp.below.mono BX.out.size));obtain⟨W3,hW3⟩:∃W3,W3=Y.alloc (.cells #[.slice pa0 C.length ca0,.slice pm0 N.length cm0,.int .i64 s.ins,.int .i64 s.res,.int .i64 s.next,.int .i64 s.inn,.int .i64 s.out,.slice none 0 0] 117):=⟨_,rfl⟩;have hb3:Below Y.heap.size Y W3:=by rw [hW3];exact Ac.below_alloc _ _
  have hT:W3.heap[Y.heap.size]? = some (.cells (turnC (.slice pa0 C.length ca0) (.slice pm0 N.length cm0) (.slice none 0 0) { s with evs:=[] }) 117 (0,0)):=by rw [hW3];exact heap_alloc_new Y _
  have TAH:=cp.ta hb3 (fun b=>b<X.heap.size) (fun b h=>h) Y.heap.size (Nat.le_refl _) hT;have B3:=hide (BY.out.trans (hb3.mono BY.out.size));have Z0:=hide (blk_below Y0.out hb3);have Z1:=hide (blk_below Y1.out hb3);have Z2:=hide (blk_below Y2.out hb3);obtain⟨F,hF⟩:∃F:Nat->Prop,F=fun b=>b=Y.heap.size\/(Value.slice pa0 C.length ca0).ownBlock=some b\/(Value.slice pm0 N.length cm0).ownBlock=some b:=⟨_,rfl⟩;rw [<- hF] at TAH;have FX:Hid (∀b,F b->X.heap.size<=b):=fun b hb=>by
   rw [hF] at hb;have:=cp.below.size;rcases hb with rfl | f | f
   ·exact this
   ·exact(own_lt cp.rowA b f).1
   ·exact(own_lt cp.rowM b f).1
  have DO:=hide (do_any Y.heap.size F (fun b=>b<X.heap.size) { s with evs:=[] } c W3 TAH (str_evs HS.out []) (sums_evs HSS.out []) (LD.out.next B3.out) (fun f=>by have:=FX.out 8 f;have:=SX.out;have:=LD.out.size;omega) (by simp));have XY:=hide cp.below.size;have XW:Hid (X.heap.size<=W3.heap.size):=Nat.le_trans cp.below.size hb3.size;have HW3:=hide hW3;clear CO hW3 hb3 hT TAH cp hF X0 X1 X2 Y0 Y1 Y2 a0 a1 a2 a3 a4 a5 a6;have a0:=(blk_cell Z1.out 0).1;have a1:=(blk_cell Z1.out 1).1;have a2:=(blk_cell Z1.out 2).1;have a3:=(blk_cell Z1.out 3).1;have a4:=(blk_cell Z1.out 4).1;have a5:=(blk_cell Z1.out 5).1;have a6:=(blk_cell Z1.out 6).1;have a7:=(blk_cell Z1.out 7).1;have a8:=(blk_cell Z1.out 8).1;have a9:=(blk_cell Z1.out 9).1;have a10:=(blk_cell Z1.out 10).1;simp only [List.getElem?_toArray,List.getElem?_cons_zero,List.getElem?_cons_succ] at a0 a1 a2 a3 a4 a5 a6 a7 a8 a9 a10;go_wp2_with (rw [<- HW3.out]);refine DO.out.mono ?_;clear a0 a1 a2 a3 a4 a5 a6 a7 a8 a9 a10 DO HW3;rintro e Z (⟨t,ht,rfl,G,⟨A2,M2,va2,vm2,ve2,tv,rw2,lt2⟩,nw,bt⟩ | ⟨r,ht,rfl,hr,bt⟩)
  ·have RR:Hid (R=(t,0)):=HR.out.1 t ht;have hGX:∀b,G b->X.heap.size<=b:=fun b hb=>by
    rcases nw b hb with f | f
    ·exact FX.out b f
    ·have:=B3.out.size;have:=bt.size;have:=XW.out;omega
   have hG2:¬G (w.heap.size+1+1):=fun g=>by have:=hGX _ g;have:=SX.out;omega
   have hF2:¬F (w.heap.size+1+1):=fun g=>by have:=FX.out _ g;have:=SX.out;omega
   have Q2:=hide (blk_but Z2.out bt hF2);have BZ:=hide (But.below_all bt B3.out (fun b f=>by have:=FX.out b f;have:=SX.out;omega));have KS:=(turn_keeps ht (str_evs HS.out []) (sums_evs HSS.out [])).1.str;have TVF:Hid (∀Z',But (fun x=>x=w.heap.size+1+1) Z Z'->VNew w.heap.size Z' (venV va2 vm2 t) t/\ENew w.heap.size Z' ve2 t.evs):=fun Z' hz=>by
    have off:∀{α:Type} {l:List α} {p:Option Addr},Off (fun b=>b<X.heap.size) p l->Off (fun x=>x=w.heap.size+1+1) p l:=fun h=>off_mono h (fun b e=>by have:=SX.out;omega);have offw:∀{α:Type} {l:List α} {p:Option Addr},Off (fun b=>b<X.heap.size) p l->Off (fun b=>b<w.heap.size) p l:=fun h=>off_mono h (fun b e=>by have:=SX.out;omega);have tv2:=tv.apart hz (fun b e g=>by rw [e] at g;exact hG2 g) (fun a ha=>off (rw2.a a ha)) (fun m hm=>⟨off (rw2.m m hm).1,off (rw2.m m hm).2⟩);have hGw:∀b,G b->w.heap.size<=b:=fun b hb=>by have:=hGX b hb;have:=SX.out;omega
    exact⟨tv2.vnew KS hGw ⟨fun a ha=>offw (rw2.a a ha),fun m hm=>⟨offw (rw2.m m hm).1,offw (rw2.m m hm).2⟩⟩,tv2.enew hGw⟩
   have t0:Z.cell? ⟨Y.heap.size,0,none⟩=some va2:=by rw [tv.cell];rfl
   have t1:Z.cell? ⟨Y.heap.size,1,none⟩=some vm2:=by rw [tv.cell];rfl
   have t2:Z.cell? ⟨Y.heap.size,2,none⟩=some (.int .i64 t.ins):=by rw [tv.cell];rfl
   have t3:Z.cell? ⟨Y.heap.size,3,none⟩=some (.int .i64 t.res):=by rw [tv.cell];rfl
   have t4:Z.cell? ⟨Y.heap.size,4,none⟩=some (.int .i64 t.next):=by rw [tv.cell];rfl
   have t5:Z.cell? ⟨Y.heap.size,5,none⟩=some (.int .i64 t.inn):=by rw [tv.cell];rfl
   have t6:Z.cell? ⟨Y.heap.size,6,none⟩=some (.int .i64 t.out):=by rw [tv.cell];rfl
   have t7:Z.cell? ⟨Y.heap.size,7,none⟩=some ve2:=by rw [tv.cell];rfl
   have one:va2.oneCell'=true/\vm2.oneCell'=true/\ve2.oneCell'=true:=by
    refine⟨?_,?_,?_⟩
    ·obtain⟨q,c',rfl,-⟩:=own_arow tv.rowA;rfl
    ·obtain⟨q,c',rfl,-⟩:=own_mrow tv.rowM;rfl
    ·obtain⟨q,c',rfl,-⟩:=tv.enew (B:=0) (fun b _=>Nat.zero_le b);rfl
   obtain⟨⟨⟨u0,hu0⟩,uf0⟩,⟨⟨u1,hu1⟩,uf1⟩,⟨⟨u2,hu2⟩,uf2⟩,⟨⟨u3,hu3⟩,uf3⟩,⟨⟨u4,hu4⟩,uf4⟩,⟨⟨u5,hu5⟩,uf5⟩,⟨⟨u6,hu6⟩,uf6⟩⟩:=ven_opq Q2.out;have HB:=hide (seven_heap Q2.out va2 vm2 (.int .i64 t.ins) (.int .i64 t.res) (.int .i64 t.next) (.int .i64 t.inn) (.int .i64 t.out));have hne:¬Y.heap.size=w.heap.size+1+1:=by have:=SX.out;have:=XY.out;omega
   obtain⟨pa2,ca2,rfl⟩:∃q c',va2=.slice q A2.length c':=by obtain⟨q,c',e,-⟩:=own_arow tv.rowA;exact⟨q,c',e⟩
   obtain⟨pm2,cm2,rfl⟩:∃q c',vm2=.slice q M2.length c':=by obtain⟨q,c',e,-⟩:=own_mrow tv.rowM;exact⟨q,c',e⟩
   obtain⟨pe2,ce2,rfl⟩:∃q c',ve2=.slice q t.evs.length c':=by obtain⟨q,c',e,-⟩:=tv.enew (B:=0) (fun b _=>Nat.zero_le b);exact⟨q,c',e⟩
   have s0:∀Y',But (fun x=>x=w.heap.size+1+1) Z Y'->Y'.cell? ⟨Y.heap.size,0,none⟩=some (.slice pa2 A2.length ca2):=fun Y' h=>h.cell hne t0;have s1:∀Y',But (fun x=>x=w.heap.size+1+1) Z Y'->Y'.cell? ⟨Y.heap.size,1,none⟩=some (.slice pm2 M2.length cm2):=fun Y' h=>h.cell hne t1;have s2:∀Y',But (fun x=>x=w.heap.size+1+1) Z Y'->Y'.cell? ⟨Y.heap.size,2,none⟩=some (.int .i64 t.ins):=fun Y' h=>h.cell hne t2;have s3:∀Y',But (fun x=>x=w.heap.size+1+1) Z Y'->Y'.cell? ⟨Y.heap.size,3,none⟩=some (.int .i64 t.res):=fun Y' h=>h.cell hne t3;have s4:∀Y',But (fun x=>x=w.heap.size+1+1) Z Y'->Y'.cell? ⟨Y.heap.size,4,none⟩=some (.int .i64 t.next):=fun Y' h=>h.cell hne t4;have s5:∀Y',But (fun x=>x=w.heap.size+1+1) Z Y'->Y'.cell? ⟨Y.heap.size,5,none⟩=some (.int .i64 t.inn):=fun Y' h=>h.cell hne t5;have s6:∀Y',But (fun x=>x=w.heap.size+1+1) Z Y'->Y'.cell? ⟨Y.heap.size,6,none⟩=some (.int .i64 t.out):=fun Y' h=>h.cell hne t6;have s7:∀Y',But (fun x=>x=w.heap.size+1+1) Z Y'->Y'.cell? ⟨Y.heap.size,7,none⟩=some (.slice pe2 t.evs.length ce2):=fun Y' h=>h.cell hne t7;have ZD:Hid (But (fun x=>x=w.heap.size+1+1) Z Z.drew):=(But.refl _ Z).drew;have ZS:Hid (But (fun x=>x=w.heap.size+1+1) Z (seven Z (w.heap.size+1+1) (.slice pa2 A2.length ca2) (.slice pm2 M2.length cm2) (.int .i64 t.ins) (.int .i64 t.res) (.int .i64 t.next) (.int .i64 t.inn) (.int .i64 t.out)).drew):=(seven_but _ _ _ _ _ _ _ _ _).drew;clear tv rw2 lt2 nw bt hGX hG2 hF2 KS one VI LD Z0 Z1 Z2 HR ht t0 t1 t2 t3 t4 t5 t6 t7;go_wp2_with fail;go_region_held3 (fun w'=>But (fun x=>x=w.heap.size+1+1) Z w') (first | (with_reducible assumption) | (with_reducible exact ZD.out) | (with_reducible exact ZS.out)) (fail);go_wp2;clear hu0 uf0 hu1 uf1 hu2 uf2 hu3 uf3 hu4 uf4 hu5 uf5 hu6 uf6;clear s0 s1 s2 s3 s4 s5 s6 s7;obtain⟨z0,z1,z2,z3,z4,z5,z6⟩:=ven_cells HB.out;refine bodyPost_ret (v:=.tuple #[venV (.slice pa2 A2.length ca2) (.slice pm2 M2.length cm2) t,.slice pe2 t.evs.length ce2,.int .i64 0]) (by simp [results,Tryz.results40,go_sem,z0,z1,z2,z3,z4,z5,z6]) rfl ⟨_,_,by rw [RR.out],?_,by rw [RR.out];exact(TVF.out _ ZS.out).1,by rw [RR.out];exact(TVF.out _ ZS.out).2⟩;exact ZS.out.below_of BZ.out (by omega)
  ·have RR:Hid (R=({ s with evs:=[evRejected r] },0)):=HR.out.2 r ht;have BZ:=hide (But.below_all bt B3.out (fun b f=>by have:=FX.out b f;have:=SX.out;omega));have XZ:Hid (X.heap.size<=Z.heap.size):=Nat.le_trans XW.out bt.size;have hFn:∀b,b<X.heap.size->¬F b:=fun b hb g=>by have:=FX.out _ g;omega
   have Q0:=hide (blk_but Z0.out bt (hFn _ (by have:=SX.out;omega)));have Q2:=hide (blk_but Z2.out bt (hFn _ (by have:=SX.out;omega)));have CO:=hide (copyOf_any _ s Z (VI.out.below BZ.out) HS.out);clear bt hFn Z0 Z1 Z2 HR ht XW XY FX LD;obtain⟨a0,a1,a2,a3,a4,a5,a6⟩:=ven_cells Q0.out;go_wp2_with fail;refine CO.out.mono ?_;rintro e V ⟨C3,N3,va3,vm3,rfl,cp3⟩;have V2:=hide (blk_below Q2.out cp3.below);have BV:=hide (BZ.out.trans (cp3.below.mono BZ.out.size));obtain⟨pa3,ca3,rfl⟩:∃q c',va3=.slice q C3.length c':=by obtain⟨q,c',e,-⟩:=own_arow cp3.rowA;exact⟨q,c',e⟩
   obtain⟨pm3,cm3,rfl⟩:∃q c',vm3=.slice q N3.length c':=by obtain⟨q,c',e,-⟩:=own_mrow cp3.rowM;exact⟨q,c',e⟩
   have VV:=hide ((cp3.vnew HS.out).evs [evRejected r]);have SV:=hide (Nat.le_trans SX.out (Nat.le_trans XZ.out cp3.below.size));obtain⟨V4,hV4⟩:∃V4,V4=V.alloc (.cells #[.int .i64 1,.int .i64 r,.int .i64 0,.int .i64 0,.int .i64 0,.int .i64 0,.int .i64 0,.int .i64 0,.int .i64 0,.int .i64 0,.int .i64 0,.int .i64 0,.int .i64 0] 64):=⟨_,rfl⟩;have hb4:Below V.heap.size V V4:=by rw [hV4];exact Ac.below_alloc _ _
   have E4:=hide (blk_below V2.out hb4);have EV:Hid (V4.heap[V.heap.size]? = some (.cells #[.int .i64 1,.int .i64 r,.int .i64 0,.int .i64 0,.int .i64 0,.int .i64 0,.int .i64 0,.int .i64 0,.int .i64 0,.int .i64 0,.int .i64 0,.int .i64 0,.int .i64 0] 64 (0,0))):=by show V4.heap[V.heap.size]? = _;rw [hV4];exact heap_alloc_new V _
   have B4:=hide (BV.out.trans (hb4.mono BV.out.size));have VV4:=hide (VV.out.below hb4);have HV4:=hide hV4;clear CO Q0 Q2 a0 a1 a2 a3 a4 a5 a6 cp3 hV4 hb4 V2 VV;obtain⟨⟨⟨u0,hu0⟩,uf0⟩,⟨⟨u1,hu1⟩,uf1⟩,⟨⟨u2,hu2⟩,uf2⟩,⟨⟨u3,hu3⟩,uf3⟩,⟨⟨u4,hu4⟩,uf4⟩,⟨⟨u5,hu5⟩,uf5⟩,⟨⟨u6,hu6⟩,uf6⟩⟩:=ven_opq E4.out;have HB:=hide (seven_heap E4.out (.slice pa3 C3.length ca3) (.slice pm3 N3.length cm3) (.int .i64 s.ins) (.int .i64 s.res) (.int .i64 s.next) (.int .i64 s.inn) (.int .i64 s.out));go_wp2_with (rw [<- HV4.out]);clear hu0 uf0 hu1 uf1 hu2 uf2 hu3 uf3 hu4 uf4 hu5 uf5 hu6 uf6;obtain⟨z0,z1,z2,z3,z4,z5,z6⟩:=ven_cells HB.out;have ZS:=seven_but V4 (w.heap.size+1+1) (.slice pa3 C3.length ca3) (.slice pm3 N3.length cm3) (.int .i64 s.ins) (.int .i64 s.res) (.int .i64 s.next) (.int .i64 s.inn) (.int .i64 s.out);have hVB:w.heap.size+3<=V.heap.size:=SV.out;refine bodyPost_ret (v:=.tuple #[venV (.slice pa3 C3.length ca3) (.slice pm3 N3.length cm3) s,.slice (some ⟨V.heap.size,0,none⟩) 1 1,.int .i64 0]) (by simp [results,Tryz.results40,go_sem,z0,z1,z2,z3,z4,z5,z6]) rfl ⟨_,_,by rw [RR.out],ZS.below_of B4.out (by omega),?_,?_⟩
   ·rw [RR.out];exact(VV4.out.but ZS (fun b e=>by have:=XZ.out;have:=SX.out;omega)).mono BZ.out.size
   ·rw [RR.out];have hE:=blk_but EV.out ZS (by omega);refine⟨_,_,rfl,(fun e=>by cases e),(by show 1<=maxLen;decide),.inr ⟨V.heap.size,0,rfl,fun j u hu=>?_⟩,.inr fun x hx e=>?_⟩
    ·rw [Nat.zero_add,(blk_cell hE j).1];have hu':(encE (evRejected r))[j]? = some u:=by simpa using hu
     rw [<- hu'];simp [encE,encF]
    ·cases hx
     simp only at e;omega
 ·have HR:Hid (Unit->R=(noTn,checkE s)):=fun _=>by
   rw [hR,do_bad c hce]
  obtain⟨ce,hcee⟩:∃ce,ce=checkE s:=⟨_,rfl⟩;rw [<- hcee] at HR hce ⊢;clear hR hcee VI LD;obtain⟨⟨⟨u0,hu0⟩,uf0⟩,⟨⟨u1,hu1⟩,uf1⟩,⟨⟨u2,hu2⟩,uf2⟩,⟨⟨u3,hu3⟩,uf3⟩,⟨⟨u4,hu4⟩,uf4⟩,⟨⟨u5,hu5⟩,uf5⟩,⟨⟨u6,hu6⟩,uf6⟩⟩:=ven_opq X2.out;clear X0 X1;go_wp2;have HB:=hide (seven_heap X2.out (.slice none 0 0) (.slice none 0 0) (.int .i64 0) (.int .i64 0) (.int .i64 0) (.int .i64 0) (.int .i64 0));clear hu0 uf0 hu1 uf1 hu2 uf2 hu3 uf3 hu4 uf4 hu5 uf5 hu6 uf6;obtain⟨z0,z1,z2,z3,z4,z5,z6⟩:=ven_cells HB.out;refine bodyPost_ret (v:=.tuple #[venV (.slice none 0 0) (.slice none 0 0) noTn,.slice none 0 0,.int .i64 ce]) (by simp [results,Tryz.results40,go_sem,z0,z1,z2,z3,z4,z5,z6]) rfl ⟨_,_,by rw [HR.out ()],?_,by rw [HR.out ()];exact vnew_none _ _,by rw [HR.out ()];exact enew_nil _ _⟩;exact(seven_but X (w.heap.size+1+1) _ _ _ _ _ _ _).below_of BX.out (by omega)
end Go.Proofs.YthdjfhnhjiageaaGreatDoor.Vn
