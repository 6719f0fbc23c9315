/-
  Package venue by contracts: lists are copied.
-/
import Derived.Test.YtpkbiafhnflmnaaGreatDoorS33
namespace Go.Proofs.YtpkbiafhnflmnaaGreatDoor.Vn
open Go.RowKit Go.Proofs.YtpkbiafhnflmnaaGreatDoor.Num Go.Proofs.YtpkbiafhnflmnaaGreatDoor.Fix Go.Proofs.YtpkbiafhnflmnaaGreatDoor.AcP Go.Proofs.YtpkbiafhnflmnaaGreatDoor.FuP Go.Proofs.YtpkbiafhnflmnaaGreatDoor.Bk Go.Proofs.YtpkbiafhnflmnaaGreatDoor.Rm Go.Proofs.YtpkbiafhnflmnaaGreatDoor.Ac Go.Sort Go.Maps Go.Proofs.YtpkbiafhnflmnaaGreatDoor.Mix Go.Proofs.YtpkbiafhnflmnaaGreatDoor.RkP
abbrev fnV (f:Nat):Value:=.func (.func f) #[] #[]
/-- a venue, as it can be read. -/
structure VRead (w:World) (p p':Option Addr) (A:List Am) (M:List Mkt) (s:Tn):Prop where
 accs:A.map Am.acc=s.accs
 mkts:M.map mpOf=s.mkts
 na:A.length<=140737488351232
 nm:M.length<=140737488351232
 rowA:ARow w p A
 rowM:MRow w p' M
 eachA:∀ a,a ∈ A->AOk w a
 eachM:∀ m,m ∈ M->MOk w m
theorem VRead.below {w w':World} {p p':Option Addr} {A:List Am} {M:List Mkt} {s:Tn} (h:VRead w p p' A M s) (hb:Below w.heap.size w w'):VRead w' p p' A M s :=
 ⟨h.accs,h.mkts,h.na,h.nm,arow_below h.rowA hb,mrow_below h.rowM hb,fun a ha=>(h.eachA a ha).below hb,fun m hm=>(h.eachM m hm).below hb⟩
theorem lim_is {s:Tn} {A:List Am} {M:List Mkt} (h1:A.map Am.acc=s.accs) (h2:M.map mpOf=s.mkts):limV A.length M.length s.ins s.res s.next s.inn s.out=limE s:=by
 unfold limV limE; rw [<- h1,<- h2,List.length_map,List.length_map]
theorem lim_ok {s:Tn} (h:limE s=0):s.accs.length<=8 /\ (0<=s.ins /\ s.ins<=1000000000000) /\ (0<=s.res /\ s.res<=1000000000000) /\ (0<=s.inn /\ s.inn<=1000000000000) /\ (0<=s.out /\ s.out<=1000000000000):=by
 unfold limE at h
 split at h
 ·cases h
 ·rename_i h1
  split at h
  ·rename_i h2
   obtain ⟨a,b,c,d,-⟩:=h2
   exact ⟨by omega,betw_true a,betw_true b,betw_true c,betw_true d⟩
  ·cases h
theorem idxf_0 (a b c d:Value) (w:World):Sem.run Tryz.prog (Instr.index 94 (.agg #[a,b,c,d]) (.int .i64 0)) w=.ok a w:=by
 have h1:=Tryz.underlying94; have h2:=Tryz.sizeOf35; have h3:=Tryz.isAgg35; simp [Instr.index,go_sem,h2,h3,run_underlying h1,asIntOf]
theorem idxf_1 (a b c d:Value) (w:World):Sem.run Tryz.prog (Instr.index 94 (.agg #[a,b,c,d]) (.int .i64 1)) w=.ok b w:=by
 have h1:=Tryz.underlying94; have h2:=Tryz.sizeOf35; have h3:=Tryz.isAgg35; simp [Instr.index,go_sem,h2,h3,run_underlying h1,asIntOf]
theorem idxf_2 (a b c d:Value) (w:World):Sem.run Tryz.prog (Instr.index 94 (.agg #[a,b,c,d]) (.int .i64 2)) w=.ok c w:=by
 have h1:=Tryz.underlying94; have h2:=Tryz.sizeOf35; have h3:=Tryz.isAgg35; simp [Instr.index,go_sem,h2,h3,run_underlying h1,asIntOf]
theorem idxf_3 (a b c d:Value) (w:World):Sem.run Tryz.prog (Instr.index 94 (.agg #[a,b,c,d]) (.int .i64 3)) w=.ok d w:=by
 have h1:=Tryz.underlying94; have h2:=Tryz.sizeOf35; have h3:=Tryz.isAgg35; simp [Instr.index,go_sem,h2,h3,run_underlying h1,asIntOf]
set_option maxHeartbeats 8000000 in
set_option maxRecDepth 100000 in
theorem venue_check (p p':Option Addr) (n c m c':Nat) (A:List Am) (M:List Mkt) (s:Tn) (w:World) (h:VRead w p p' A M s) (hn:A.length=n) (hm:M.length=m) :
  Calls Tryz.prog 13 #[venV (.slice p n c) (.slice p' m c') s] w fun e w'=>e=.returned (.int .i64 (checkE s)) /\ Below w.heap.size w w':=by
 have i0:=idxf_0 (fnV 47) (fnV 48) (fnV 49) (fnV 50); have i1:=idxf_1 (fnV 47) (fnV 48) (fnV 49) (fnV 50); have i2:=idxf_2 (fnV 47) (fnV 48) (fnV 49) (fnV 50); have i3:=idxf_3 (fnV 47) (fnV 48) (fnV 49) (fnV 50); obtain ⟨R,hR⟩:∃ R,R=checkE s:=⟨_,rfl⟩; rw [<- hR]; unfold checkE at hR; obtain ⟨W,hW⟩:∃ W,W=w.alloc (.cells #[.slice p n c,.slice p' m c',.int .i64 s.ins,.int .i64 s.res,.int .i64 s.next,.int .i64 s.inn,.int .i64 s.out] 25):=⟨_,rfl⟩
 have b0:Below w.heap.size w W:=by rw [hW]; exact Ac.below_alloc w _
 have EW:Hid (W.heap[w.heap.size]? = some (.cells #[.slice p n c,.slice p' m c',.int .i64 s.ins,.int .i64 s.res,.int .i64 s.next,.int .i64 s.inn,.int .i64 s.out] 25 (0,0))):=by show W.heap[w.heap.size]? = _; rw [hW]; exact heap_alloc_new w _
 have HW:=hide hW; have BW:=hide b0; have V0:=hide h; have hacc:=h.accs; have hmkt:=h.mkts
 have hlm:s.mkts.length=m:=by rw [<- hmkt,List.length_map,hm]
 have hln:s.accs.length=n:=by rw [<- hacc,List.length_map,hn]
 obtain ⟨l,hl⟩:∃ l,l=limE s:=⟨_,rfl⟩; obtain ⟨ae,hae⟩:∃ ae,ae=accsE s.mkts.length none s.accs:=⟨_,rfl⟩; obtain ⟨se,hse⟩:∃ se,se=sumsE s:=⟨_,rfl⟩; obtain ⟨me,hme⟩:∃ me,me=mktsE s.accs s.next s.mkts:=⟨_,rfl⟩; rw [<- hl,<- hae,<- hse,<- hme] at hR
 have C1:Hid (∀ Y:World,Below w.heap.size w Y->Calls Tryz.prog 47 #[venV (.slice p n c) (.slice p' m c') s] Y fun e w'=>e=.returned (.int .i64 l) /\ Below Y.heap.size Y w'):=fun Y hY=>by
  have:=limits_any p p' n c m c' s.ins s.res s.next s.inn s.out Y; rw [<- hn,<- hm,lim_is hacc hmkt,<- hl,hn,hm] at this; exact this
 have C2:Hid (∀ Y:World,Below w.heap.size w Y->Calls Tryz.prog 48 #[venV (.slice p n c) (.slice p' m c') s] Y fun e w'=>e=.returned (.int .i64 ae) /\ Below Y.heap.size Y w'):=fun Y hY=>by
  have:=accounts_any p p' n c m c' A s.ins s.res s.next s.inn s.out Y hn (by rw [<- hn]; exact h.na) (h.below hY).rowA (h.below hY).eachA
  rw [hacc,<- hlm,<- hae,hlm] at this; exact this
 have C3:Hid (∀ Y:World,Below w.heap.size w Y->l=0->ae=0->Calls Tryz.prog 49 #[venV (.slice p n c) (.slice p' m c') s] Y fun e w'=>e=.returned (.int .i64 se) /\ Below Y.heap.size Y w'):=fun Y hY e1 e2=>by
  obtain ⟨q0,q1,q2,q3,q4⟩:=lim_ok (hl.symm.trans e1); have q5:=((accsE_zero _ _ _).1 (hae.symm.trans e2)).1
  have:=sums_any p p' n c m c' A s.ins s.res s.next s.inn s.out Y hn (by rw [<- hln]; exact q0) (h.below hY).rowA (h.below hY).eachA (fun a ha=>by
   have:=q5 a.acc (by rw [<- hacc]; exact List.mem_map_of_mem ha)
   rw [hlm] at this; exact this) q1 q2 q3 q4
  rw [hacc] at this; rw [hse]; exact this
 have C4:Hid (∀ Y:World,Below w.heap.size w Y->ae=0->Calls Tryz.prog 50 #[venV (.slice p n c) (.slice p' m c') s] Y fun e w'=>e=.returned (.int .i64 me) /\ Below Y.heap.size Y w'):=fun Y hY e2=>by
  have q5:=((accsE_zero _ _ _).1 (hae.symm.trans e2)).2.1
  have:=markets_any p p' n c m c' A M s.ins s.res s.next s.inn s.out Y hn (by rw [<- hn]; exact h.na) (h.below hY).rowA (by rw [hacc]; exact q5) hm (by rw [<- hm]; exact h.nm) (h.below hY).rowM (h.below hY).eachM
  rw [hacc,hmkt,<- hme] at this; exact this
 have HR:=hide hR; have K1:=hide (C1.out W b0); clear hR hW b0 h hacc hmkt hlm hln hl hae hse hme hn hm C1; have c0:=(blk_cell EW.out 0).1; have c1:=(blk_cell EW.out 1).1; have c2:=(blk_cell EW.out 2).1; have c3:=(blk_cell EW.out 3).1; have c4:=(blk_cell EW.out 4).1; have c5:=(blk_cell EW.out 5).1; have c6:=(blk_cell EW.out 6).1
 simp only [List.getElem?_toArray,List.getElem?_cons_zero,List.getElem?_cons_succ] at c0 c1 c2 c3 c4 c5 c6
 go_enter Tryz.func13,Tryz.ntmps13
 go_wp2_with (rw [<- HW.out])
 refine wp_loop_rounds 5 ?_
 rw [rounds_succ]
 go_wp2_with fail
 refine K1.out.mono ?_
 rintro e Y1 ⟨rfl,hbY1⟩
 have EY1:=hide (blk_below EW.out hbY1); have BY1:=hide (BW.out.trans (hbY1.mono BW.out.size)); clear hbY1 K1 HW c0 c1 c2 c3 c4 c5 c6
 by_cases h1:l=0
 ·have HR1:Hid (R=if ae ≠ 0 then ae else if se ≠ 0 then se else me):=by
   have:=HR.out
   rw [if_neg (fun h=>h h1)] at this
   exact this
  have C31:=hide (fun Y hY=>C3.out Y hY h1)
  subst h1; have K2:=hide (C2.out Y1 BY1.out); clear HR C2 C3; have c0:=(blk_cell EY1.out 0).1; have c1:=(blk_cell EY1.out 1).1; have c2:=(blk_cell EY1.out 2).1; have c3:=(blk_cell EY1.out 3).1; have c4:=(blk_cell EY1.out 4).1; have c5:=(blk_cell EY1.out 5).1; have c6:=(blk_cell EY1.out 6).1
  simp only [List.getElem?_toArray,List.getElem?_cons_zero,List.getElem?_cons_succ] at c0 c1 c2 c3 c4 c5 c6
  go_wp2_with fail
  rw [rounds_succ]
  go_wp2_with fail
  refine K2.out.mono ?_
  rintro e Y2 ⟨rfl,hbY2⟩
  have EY2:=hide (blk_below EY1.out hbY2); have BY2:=hide (BY1.out.trans (hbY2.mono BY1.out.size)); clear hbY2 K2 c0 c1 c2 c3 c4 c5 c6
  by_cases h2:ae=0
  ·have HR2:Hid (R=if se ≠ 0 then se else me):=by
    have:=HR1.out
    rw [if_neg (fun h=>h h2)] at this
    exact this
   have K3:=hide (C31.out Y2 BY2.out h2)
   have C41:=hide (fun Y hY=>C4.out Y hY h2)
   subst h2; clear HR1 C31 C4; have c0:=(blk_cell EY2.out 0).1; have c1:=(blk_cell EY2.out 1).1; have c2:=(blk_cell EY2.out 2).1; have c3:=(blk_cell EY2.out 3).1; have c4:=(blk_cell EY2.out 4).1; have c5:=(blk_cell EY2.out 5).1; have c6:=(blk_cell EY2.out 6).1
   simp only [List.getElem?_toArray,List.getElem?_cons_zero,List.getElem?_cons_succ] at c0 c1 c2 c3 c4 c5 c6
   go_wp2_with fail
   rw [rounds_succ]
   go_wp2_with fail
   refine K3.out.mono ?_
   rintro e Y3 ⟨rfl,hbY3⟩
   have EY3:=hide (blk_below EY2.out hbY3); have BY3:=hide (BY2.out.trans (hbY3.mono BY2.out.size)); clear hbY3 K3 c0 c1 c2 c3 c4 c5 c6
   by_cases h3:se=0
   ·have HR3:Hid (R=me):=by
     have:=HR2.out
     rw [if_neg (fun h=>h h3)] at this
     exact this
    have K4:=hide (C41.out Y3 BY3.out); subst h3; clear HR2 C41; have c0:=(blk_cell EY3.out 0).1; have c1:=(blk_cell EY3.out 1).1; have c2:=(blk_cell EY3.out 2).1; have c3:=(blk_cell EY3.out 3).1; have c4:=(blk_cell EY3.out 4).1; have c5:=(blk_cell EY3.out 5).1; have c6:=(blk_cell EY3.out 6).1
    simp only [List.getElem?_toArray,List.getElem?_cons_zero,List.getElem?_cons_succ] at c0 c1 c2 c3 c4 c5 c6
    go_wp2_with fail
    rw [rounds_succ]
    go_wp2_with fail
    refine K4.out.mono ?_
    rintro e Y4 ⟨rfl,hbY4⟩
    have BY4:=hide (BY3.out.trans (hbY4.mono BY3.out.size)); clear hbY4 K4 c0 c1 c2 c3 c4 c5 c6
    by_cases h4:me=0
    ·have RE:Hid (R=0):=by
      have:=HR3.out; rw [h4] at this; exact this
     subst h4; clear HR3
     go_wp2_with fail
     rw [rounds_succ]
     go_wp2
     go_ret
     exact ⟨by rw [RE.out]; rfl,BY4.out⟩
    ·have RE:=hide HR3.out
     clear HR3
     go_wp2
     go_ret
     exact ⟨by rw [RE.out]; rfl,BY4.out⟩
   ·have RE:Hid (R=se):=by
     have:=HR2.out; rw [if_pos h3] at this; exact this
    clear HR2
    go_wp2
    go_ret
    exact ⟨by rw [RE.out]; rfl,BY3.out⟩
  ·have RE:Hid (R=ae):=by
    have:=HR1.out; rw [if_pos h2] at this; exact this
   clear HR1
   go_wp2
   go_ret
   exact ⟨by rw [RE.out]; rfl,BY2.out⟩
 ·have RE:Hid (R=l):=by
   have:=HR.out; rw [if_pos h1] at this; exact this
  clear HR
  go_wp2
  go_ret
  exact ⟨by rw [RE.out]; rfl,BY1.out⟩
set_option maxHeartbeats 1000000 in
set_option maxRecDepth 100000 in
theorem copyO_any (p:Option Addr) (n c:Nat) (fl:List Value) (w:World) (h0:p=none->n=0 /\ c=0 /\ fl=[]) (hfl:fl.length=n * 5) (hf1:∀ u ∈ fl,u.oneCell'=true) (hc:∀ ad,p=some ad->∀ j u,fl[j]? = some u->w.cell? (ad.add j)=some u) (hn:n * 40<=140737488351232) :
  Calls Tryz.prog 77 #[.slice p n c] w fun e w'=>∃ v,e=.returned v /\ w'.ownsRow w.heap.size 27 5 v n fl /\ Below w.heap.size w w':=by
 obtain ⟨i0,hi,hz0,hz1,hz2⟩:=info_parts (show (Tryz.prog.info? 27).map (fun i=>(i.zero,i.size,i.bytes))=some (some (odrV noOdr),5,40) by kernel_rfl)
 cases p with
 |none =>
  obtain ⟨rfl,rfl,rfl⟩:=h0 rfl
  go_enter Tryz.func77,Tryz.ntmps77
  go_wp2_with (at_builtin; refine wpList_append_own_none rfl _ _ 48 rfl w.heap.size 27 i0 5 Tryz.underlying48 hi _ 0 [] rfl (World.ownsRow_nil _ _ _ _) rfl ?_)
  go_ret
  exact ⟨_,rfl,World.ownsRow_nil _ _ _ _,Below.refl _ _⟩
 |some ad =>
  have hcells:=hide (hc ad rfl); have HF:=hide hfl; have H1:=hide hf1; clear h0 hc hfl hf1
  go_enter Tryz.func77,Tryz.ntmps77
  go_wp2_with (at_builtin; refine wpList_append_own _ rfl _ _ 48 rfl w.heap.size 27 i0 (odrV noOdr) 5 40 Tryz.underlying48 hi hz0 hz1 hz2 rfl (by decide) _ 0 [] rfl (World.ownsRow_nil _ _ _ _) ad n c fl rfl HF.out hcells.out H1.out (by unfold maxLen; omega) (by omega) (Nat.le_refl _) ?_; intro v' w1 hown1 hgrow1 hnil1)
  go_ret
  refine ⟨_,rfl,?_,?_⟩
  ·rw [Nat.zero_add,List.nil_append] at hown1; exact hown1
  ·exact (Below.refl _ _).grown hgrow1 (Nat.le_refl _) (fun k hk=>by cases hk)
set_option maxHeartbeats 1000000 in
set_option maxRecDepth 100000 in
theorem copyI_any (p:Option Addr) (n c:Nat) (fl:List Value) (w:World) (h0:p=none->n=0 /\ c=0 /\ fl=[]) (hfl:fl.length=n * 1) (hf1:∀ u ∈ fl,u.oneCell'=true) (hc:∀ ad,p=some ad->∀ j u,fl[j]? = some u->w.cell? (ad.add j)=some u) (hn:n * 8<=140737488351232) :
  Calls Tryz.prog 75 #[.slice p n c] w fun e w'=>∃ v,e=.returned v /\ w'.ownsRow w.heap.size 3 1 v n fl /\ Below w.heap.size w w':=by
 obtain ⟨i0,hi,hz0,hz1,hz2⟩:=info_parts (show (Tryz.prog.info? 3).map (fun i=>(i.zero,i.size,i.bytes))=some (some (.int .i64 0),1,8) by kernel_rfl)
 cases p with
 |none =>
  obtain ⟨rfl,rfl,rfl⟩:=h0 rfl
  go_enter Tryz.func75,Tryz.ntmps75
  go_wp2_with (at_builtin; refine wpList_append_own_none rfl _ _ 38 rfl w.heap.size 3 i0 1 Tryz.underlying38 hi _ 0 [] rfl (World.ownsRow_nil _ _ _ _) rfl ?_)
  go_ret
  exact ⟨_,rfl,World.ownsRow_nil _ _ _ _,Below.refl _ _⟩
 |some ad =>
  have hcells:=hide (hc ad rfl); have HF:=hide hfl; have H1:=hide hf1; clear h0 hc hfl hf1
  go_enter Tryz.func75,Tryz.ntmps75
  go_wp2_with (at_builtin; refine wpList_append_own _ rfl _ _ 38 rfl w.heap.size 3 i0 (.int .i64 0) 1 8 Tryz.underlying38 hi hz0 hz1 hz2 rfl (by decide) _ 0 [] rfl (World.ownsRow_nil _ _ _ _) ad n c fl rfl HF.out hcells.out H1.out (by unfold maxLen; omega) (by omega) (Nat.le_refl _) ?_; intro v' w1 hown1 hgrow1 hnil1)
  go_ret
  refine ⟨_,rfl,?_,?_⟩
  ·rw [Nat.zero_add,List.nil_append] at hown1; exact hown1
  ·exact (Below.refl _ _).grown hgrow1 (Nat.le_refl _) (fun k hk=>by cases hk)
set_option maxHeartbeats 1000000 in
set_option maxRecDepth 100000 in
theorem copyA_any (p:Option Addr) (n c:Nat) (fl:List Value) (w:World) (h0:p=none->n=0 /\ c=0 /\ fl=[]) (hfl:fl.length=n * 3) (hf1:∀ u ∈ fl,u.oneCell'=true) (hc:∀ ad,p=some ad->∀ j u,fl[j]? = some u->w.cell? (ad.add j)=some u) (hn:n * 40<=140737488351232) :
  Calls Tryz.prog 74 #[.slice p n c] w fun e w'=>∃ v,e=.returned v /\ w'.ownsRow w.heap.size 40 3 v n fl /\ Below w.heap.size w w':=by
 obtain ⟨i0,hi,hz0,hz1,hz2⟩:=info_parts (show (Tryz.prog.info? 40).map (fun i=>(i.zero,i.size,i.bytes))=some (some (.agg #[.int .i64 0,.int .i64 0,.slice none 0 0]),3,40) by kernel_rfl)
 cases p with
 |none =>
  obtain ⟨rfl,rfl,rfl⟩:=h0 rfl
  go_enter Tryz.func74,Tryz.ntmps74
  go_wp2_with (at_builtin; refine wpList_append_own_none rfl _ _ 22 rfl w.heap.size 40 i0 3 Tryz.underlying22 hi _ 0 [] rfl (World.ownsRow_nil _ _ _ _) rfl ?_)
  go_ret
  exact ⟨_,rfl,World.ownsRow_nil _ _ _ _,Below.refl _ _⟩
 |some ad =>
  have hcells:=hide (hc ad rfl); have HF:=hide hfl; have H1:=hide hf1; clear h0 hc hfl hf1
  go_enter Tryz.func74,Tryz.ntmps74
  go_wp2_with (at_builtin; refine wpList_append_own _ rfl _ _ 22 rfl w.heap.size 40 i0 (.agg #[.int .i64 0,.int .i64 0,.slice none 0 0]) 3 40 Tryz.underlying22 hi hz0 hz1 hz2 rfl (by decide) _ 0 [] rfl (World.ownsRow_nil _ _ _ _) ad n c fl rfl HF.out hcells.out H1.out (by unfold maxLen; omega) (by omega) (Nat.le_refl _) ?_; intro v' w1 hown1 hgrow1 hnil1)
  go_ret
  refine ⟨_,rfl,?_,?_⟩
  ·rw [Nat.zero_add,List.nil_append] at hown1; exact hown1
  ·exact (Below.refl _ _).grown hgrow1 (Nat.le_refl _) (fun k hk=>by cases hk)
set_option maxHeartbeats 1000000 in
set_option maxRecDepth 100000 in
theorem copyM_any (p:Option Addr) (n c:Nat) (fl:List Value) (w:World) (h0:p=none->n=0 /\ c=0 /\ fl=[]) (hfl:fl.length=n * 4) (hf1:∀ u ∈ fl,u.oneCell'=true) (hc:∀ ad,p=some ad->∀ j u,fl[j]? = some u->w.cell? (ad.add j)=some u) (hn:n * 64<=140737488351232) :
  Calls Tryz.prog 76 #[.slice p n c] w fun e w'=>∃ v,e=.returned v /\ w'.ownsRow w.heap.size 52 4 v n fl /\ Below w.heap.size w w':=by
 obtain ⟨i0,hi,hz0,hz1,hz2⟩:=info_parts (show (Tryz.prog.info? 52).map (fun i=>(i.zero,i.size,i.bytes))=some (some (.agg #[.slice none 0 0,.slice none 0 0,.int .i64 0,.int .i64 0]),4,64) by kernel_rfl)
 cases p with
 |none =>
  obtain ⟨rfl,rfl,rfl⟩:=h0 rfl
  go_enter Tryz.func76,Tryz.ntmps76
  go_wp2_with (at_builtin; refine wpList_append_own_none rfl _ _ 23 rfl w.heap.size 52 i0 4 Tryz.underlying23 hi _ 0 [] rfl (World.ownsRow_nil _ _ _ _) rfl ?_)
  go_ret
  exact ⟨_,rfl,World.ownsRow_nil _ _ _ _,Below.refl _ _⟩
 |some ad =>
  have hcells:=hide (hc ad rfl); have HF:=hide hfl; have H1:=hide hf1; clear h0 hc hfl hf1
  go_enter Tryz.func76,Tryz.ntmps76
  go_wp2_with (at_builtin; refine wpList_append_own _ rfl _ _ 23 rfl w.heap.size 52 i0 (.agg #[.slice none 0 0,.slice none 0 0,.int .i64 0,.int .i64 0]) 4 64 Tryz.underlying23 hi hz0 hz1 hz2 rfl (by decide) _ 0 [] rfl (World.ownsRow_nil _ _ _ _) ad n c fl rfl HF.out hcells.out H1.out (by unfold maxLen; omega) (by omega) (Nat.le_refl _) ?_; intro v' w1 hown1 hgrow1 hnil1)
  go_ret
  refine ⟨_,rfl,?_,?_⟩
  ·rw [Nat.zero_add,List.nil_append] at hown1; exact hown1
  ·exact (Below.refl _ _).grown hgrow1 (Nat.le_refl _) (fun k hk=>by cases hk)
end Go.Proofs.YtpkbiafhnflmnaaGreatDoor.Vn
