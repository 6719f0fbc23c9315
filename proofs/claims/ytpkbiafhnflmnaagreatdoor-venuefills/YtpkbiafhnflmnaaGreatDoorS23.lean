/-
  Package venue by contracts: accounts trade.
-/
import Derived.Test.YtpkbiafhnflmnaaGreatDoorS22
import Derived.Test.YtpkbiafhnflmnaaGreatDoorS18
import Derived.Test.YtpkbiafhnflmnaaGreatDoorS11
import Derived.Test.YtpkbiafhnflmnaaGreatDoorS04
namespace Go.Proofs.YtpkbiafhnflmnaaGreatDoor.Vn
open Go.RowKit Go.Proofs.YtpkbiafhnflmnaaGreatDoor.Num Go.Proofs.YtpkbiafhnflmnaaGreatDoor.Fix Go.Proofs.YtpkbiafhnflmnaaGreatDoor.AcP Go.Proofs.YtpkbiafhnflmnaaGreatDoor.FuP Go.Proofs.YtpkbiafhnflmnaaGreatDoor.Bk Go.Proofs.YtpkbiafhnflmnaaGreatDoor.Rm Go.Proofs.YtpkbiafhnflmnaaGreatDoor.Ac Go.Sort Go.Maps Go.Proofs.YtpkbiafhnflmnaaGreatDoor.Mix
instance:Inhabited Am:=⟨⟨0,0,none,0,0,[]⟩⟩
/-- a list of accounts, as its own cells can be read. -/
def ARow (w:World) (p:Option Addr) (A:List Am):Prop:=A=[] \/ ∃ b off,p=some ⟨b,off,none⟩ /\ ∀ j u,(A.flatMap encA)[j]? = some u->w.cell? ⟨b,off + j,none⟩ = some u
theorem arow_below {w w':World} {p:Option Addr} {A:List Am} (h:ARow w p A) (hb:Below w.heap.size w w'):ARow w' p A:=by
 rcases h with h | ⟨b,off,rfl,hc⟩
 ·exact .inl h
 ·exact .inr ⟨b,off,rfl,fun j u hu=>(hb.cell (World.block_lt_of_cell? _ _ (hc j u hu))).trans (hc j u hu)⟩
theorem arow_cells {w:World} {b off:Nat} {A:List Am} (hc:∀ j u,(A.flatMap encA)[j]? = some u->w.cell? ⟨b,off + j,none⟩ = some u) {k:Nat} (hk:k < A.length) :
  w.cell? ⟨b,off + k * 3,none⟩ = some (.int .i64 (A[k]'hk).id) /\ w.cell? ⟨b,off + k * 3 + 1,none⟩ = some (.int .i64 (A[k]'hk).bal) /\ w.cell? ⟨b,off + k * 3 + 2,none⟩ = some (.slice (A[k]'hk).p (A[k]'hk).n (A[k]'hk).c):=by
 have h0:=flat_get encA_len A k hk 0 (by omega)
 have h1:=flat_get encA_len A k hk 1 (by omega)
 have h2:=flat_get encA_len A k hk 2 (by omega)
 exact ⟨hc (k * 3) _ h0,hc (k * 3 + 1) _ h1,hc (k * 3 + 2) _ h2⟩
theorem own_arow {w:World} {B:Nat} {v:Value} {A:List Am} (h:w.ownsRow B 40 3 v A.length (A.flatMap encA)):∃ p c,v=.slice p A.length c /\ ARow w p A /\ A.length<=c /\ (p=none->c=0) /\ A.length<=maxLen:=by
 have h':=h
 rcases h.2 with ⟨rfl,e⟩ | ⟨g,cap,cur,rfl,hb,hg,hn,hm,hs,ht⟩
 ·exact ⟨none,0,by rw [e],.inl (List.eq_nil_of_length_eq_zero e),by omega,fun _=>rfl,by omega⟩
 ·refine ⟨_,_,rfl,.inr ⟨g,0,rfl,fun j u hu=>?_⟩,hn,(fun e=>by cases e),by omega⟩
  have hj:j < A.length * 3:=by
   have:=(List.getElem?_eq_some_iff.1 hu).1
   rw [flat_len encA_len] at this; exact this
  rw [Nat.zero_add,h'.cellAt j hj]; exact hu
set_option maxHeartbeats 1000000 in
theorem place1_any (b off n c B0 B1 i:Nat) (A:List Am) (id:Int) (w:World) (hi:i < n) (hn:A.length=n)
  (hc:∀ j u,(A.flatMap encA)[j]? = some u->w.cell? ⟨b,off + j,none⟩ = some u) (h0:w.cell? ⟨B0,0,none⟩ = some (.slice (some ⟨b,off,none⟩) n c)) (k0:w.cell? ⟨B1,0,none⟩ = some (.int .i64 id)) :
  Calls Tryz.prog 118 #[.int .i64 i,.pointer (some ⟨B0,0,none⟩),.pointer (some ⟨B1,0,none⟩)] w fun e w'=>e=.returned (.bool (decide (id<=(A[i]!).id))) /\ ∃ k os,w'=grow (w.drewN k) os:=by
 have mixed:Tryz.prog.follows .mixedOrders=true:=by kernel_rfl
 subst hn; obtain ⟨c0,-,-⟩:=arow_cells hc hi; rw [getElem!_pos A i hi]; generalize (A[i]'hi).id=x at c0 ⊢
 have g0:=fun n os=>cell_grown (World.block_lt_of_cell? _ _ h0) h0 n os
 have l0:=fun n os=>cell_grown (World.block_lt_of_cell? _ _ k0) k0 n os
 have m0:=fun n os=>cell_grown (World.block_lt_of_cell? _ _ c0) c0 n os
 have hiz:(i:Int) < (A.length:Int):=by omega
 generalize A.length=n at *; clear hc h0 k0 c0
 go_enter Tryz.func118,Tryz.ntmps118
 go_wp2_with fail
 refine wp_region_quiet_grown (by assumption) (by kernel_rfl) ?_
 repeat (go_big_quiet_step (fail))
 refine wpQuiet_nil ?_
 intro _ hwq
 obtain ⟨⟨nq,osq⟩,hwq'⟩:=hwq; subst hwq'
 go_wp2
 go_ret
 exact ⟨rfl,_,_,rfl⟩
theorem plc_count (L:List Acc) (id:Int) (hs:Srt L):L.countP (fun a=>decide (a.1 < id))=plc L id:=by
 induction L with
 |nil=>rfl
 |cons a l ih =>
  have hs':=List.pairwise_cons.1 hs; rw [List.countP_cons,ih hs'.2]
  by_cases g:a.1 < id
  ·rw [plc,if_pos g]
   simp [g]
  ·rw [plc,if_neg g]
   have:plc l id=0:=by
    cases l with
    |nil=>rfl
    |cons b l =>
     have:=hs'.1 b (by simp)
     rw [plc,if_neg (by omega)]
   rw [this]; simp [g]
theorem search_acc (b off c B0 B1:Nat) (A:List Am) (id:Int) (w:World) (hn:A.length<=140737488351232) (hs:Srt (A.map Am.acc))
  (hc:∀ j u,(A.flatMap encA)[j]? = some u->w.cell? ⟨b,off + j,none⟩ = some u) (h0:w.cell? ⟨B0,0,none⟩ = some (.slice (some ⟨b,off,none⟩) A.length c)) (k0:w.cell? ⟨B1,0,none⟩ = some (.int .i64 id)) :
  Calls Tryz.prog 117 #[.int .i64 A.length,.func (.func 118) #[] #[.pointer (some ⟨B0,0,none⟩),.pointer (some ⟨B1,0,none⟩)]] w fun e w'=>e=.returned (.int .i64 (plc (A.map Am.acc) id:Nat)) /\ Below w.heap.size w w':=by
 have eg:∀ args w,(callFunc 118 args).run Tryz.prog w=.ok (.enter 118 args) w:=enters_of Tryz.func118 (by kernel_rfl) rfl
 have hcon:=Any.sort_Search Tryz.searchB 118 #[.pointer (some ⟨B0,0,none⟩),.pointer (some ⟨B1,0,none⟩)] A.length (fun i=>decide (id<=(A[i]!).id)) w eg (by omega)
  (fun m os i hi=>place1_any b off A.length c B0 B1 i A id (grow (w.drewN m) os) hi rfl
   (fun j u hu=>cell_grown (World.block_lt_of_cell? _ _ (hc j u hu)) (hc j u hu) m os)
   (cell_grown (World.block_lt_of_cell? _ _ h0) h0 m os) (cell_grown (World.block_lt_of_cell? _ _ k0) k0 m os))
  (fun i j hij hj hp=>by
   simp only [decide_eq_true_eq] at hp ⊢
   have hi:i < A.length:=by omega
   rw [getElem!_pos A i hi] at hp; rw [getElem!_pos A j hj]
   rcases Nat.lt_or_ge i j with h | h
   ·have:=List.pairwise_iff_getElem.1 hs i j (by simpa using hi) (by simpa using hj) h
    simp [Am.acc] at this
    omega
   ·have:i=j:=by omega
    subst this; exact hp)
 have hcount:(List.range A.length).countP (fun i=>!decide (id<=(A[i]!).id))=plc (A.map Am.acc) id:=by
  rw [<- plc_count _ _ hs,List.countP_map]
  have:=Go.Lib.countP_range A.toArray (fun a=>decide (a.id < id))
  simp only [List.size_toArray] at this
  rw [show ((fun a:Acc=>decide (a.1 < id)) ∘ Am.acc)=(fun a:Am=>decide (a.id < id)) from rfl,<- this]
  refine List.countP_congr fun i hi=>?_
  simp only [List.mem_range] at hi
  rw [getElem!_pos A i hi,getElem!_pos A.toArray i (by simpa using hi)]
  simp
 rw [hcount] at hcon
 refine hcon.mono ?_
 rintro e w' ⟨rfl,q1,os1,rfl⟩
 exact ⟨rfl,grow_below _ _ _⟩
theorem plc_there (L:List Acc) (id:Int) (hs:Srt L):hasA L id=true ↔ ∃ h:plc L id < L.length,(L[plc L id]'h).1=id:=by
 constructor
 ·exact plc_has hs
 ·rintro ⟨h,e⟩
  exact (has_iff _ _).2 ⟨_,List.getElem_mem h,e⟩
set_option maxHeartbeats 2000000 in
theorem placeOf_any (p:Option Addr) (n c:Nat) (A:List Am) (id:Int) (w:World) (hl:A.length=n) (hn:n<=140737488351232) (h:ARow w p A) (hs:Srt (A.map Am.acc)) :
  Calls Tryz.prog 87 #[.slice p n c,.int .i64 id] w fun e w'=>e=.returned (.tuple #[.int .i64 (plc (A.map Am.acc) id:Nat),.bool (hasA (A.map Am.acc) id)]) /\ Below w.heap.size w w':=by
 have mixed:Tryz.prog.follows .mixedOrders=true:=by kernel_rfl
 subst hl
 have b2:=((Below.refl w.heap.size w).alloc (Nat.le_refl _) (.cells #[.slice p A.length c] 22)).alloc (by simp) (.cells #[.int .i64 id] 3)
 obtain ⟨W,hW⟩:∃ W,W=(w.alloc (.cells #[.slice p A.length c] 22)).alloc (.cells #[.int .i64 id] 3):=⟨_,rfl⟩
 have e0:W.cell? ⟨w.heap.size,0,none⟩ = some (.slice p A.length c):=by rw [hW]; exact cell_old (new_cell w _ _ 0 _ rfl) _
 have e1:W.cell? ⟨w.heap.size + 1,0,none⟩ = some (.int .i64 id):=by
  rw [hW]; have:=new_cell (w.alloc (.cells #[.slice p A.length c] 22)) #[.int .i64 id] 3 0 _ rfl
  rw [show (w.alloc (.cells #[.slice p A.length c] 22)).heap.size=w.heap.size + 1 by simp] at this
  exact this
 rw [<- hW] at b2
 have hW0:W.heap.size=w.heap.size + 1 + 1:=by rw [hW]; simp
 have SE:Hid (Calls Tryz.prog 117 #[.int .i64 A.length,.func (.func 118) #[] #[.pointer (some ⟨w.heap.size,0,none⟩),.pointer (some ⟨w.heap.size + 1,0,none⟩)]] W fun e w'=>e=.returned (.int .i64 (plc (A.map Am.acc) id:Nat)) /\ Below W.heap.size W w'):=by
  rcases arow_below h b2 with e | ⟨b,off,rfl,hc⟩
  ·subst e
   exact search_none _ W
  ·exact search_acc b off c w.heap.size (w.heap.size + 1) A id W hn hs hc e0 e1
 have HR:=hide (arow_below h b2); have B2:=hide b2; obtain ⟨k,hk⟩:∃ k,k=plc (A.map Am.acc) id:=⟨_,rfl⟩
 have HT0:Hid (∀ t,hasA (A.map Am.acc) id=t->(k < A.length /\ ∃ x,(∃ h:k < A.length,x=(A[k]'h).id) /\ t=(x == id)) \/ (¬ k < A.length /\ t=false)):=by
  intro t ht
  subst ht; have hth:=plc_there (A.map Am.acc) id hs; rw [<- hk] at hth
  by_cases hlt:k < A.length
  ·refine .inl ⟨hlt,(A[k]'hlt).id,⟨hlt,rfl⟩,?_⟩
   by_cases e:(A[k]'hlt).id=id
   ·rw [show ((A[k]'hlt).id == id)=true by simpa using e]
    exact hth.2 ⟨by simpa using hlt,by simpa [Am.acc] using e⟩
   ·rw [show ((A[k]'hlt).id == id)=false by simpa using e]
    cases hc:hasA (A.map Am.acc) id
    ·rfl
    ·obtain ⟨h1,h2⟩:=hth.1 hc
     exact absurd (by simpa [Am.acc] using h2) e
  ·refine .inr ⟨hlt,?_⟩
   cases hc:hasA (A.map Am.acc) id
   ·rfl
   ·obtain ⟨h1,h2⟩:=hth.1 hc
    exact absurd (by simpa using h1) hlt
 rw [<- hk] at SE ⊢; clear hk; obtain ⟨t,ht⟩:∃ t,hasA (A.map Am.acc) id=t:=⟨_,rfl⟩; have HT:=hide (HT0.out t ht); clear HT0; rw [ht]; have HW:=hide hW; have HN:=hide hW0; clear h hs ht hW hW0 b2
 go_enter Tryz.func87,Tryz.ntmps87
 go_wp2_with (first | rw [<- HW.out] | (go_at_call 117; fail))
 refine SE.out.mono ?_
 rintro e V ⟨rfl,hb⟩
 have BV:=hide (B2.out.trans (hb.mono B2.out.size))
 have f0:=(hb.cell (p:=⟨w.heap.size,0,none⟩) (by rw [HN.out]; simp; omega)).trans e0
 have f1:=(hb.cell (p:=⟨w.heap.size + 1,0,none⟩) (by rw [HN.out]; simp)).trans e1
 have HV:=hide (arow_below HR.out hb); clear hb e0 e1 HR SE B2 HW HN
 rcases HT.out with ⟨hlt,x,⟨hh,hx⟩,rfl⟩ | ⟨hlt,rfl⟩
 ·rcases HV.out with e | ⟨b,off,rfl,hc⟩
  ·subst e; simp at hlt
  ·obtain ⟨c0,-,-⟩:=arow_cells hc hh
   rw [<- hx] at c0
   have hz:(k:Int) < (A.length:Int):=by omega
   clear hc HV HT hx hh hlt; generalize A.length=m at *
   go_wp2_with fail
   go_quiet (fail)
   go_wp2
   refine bodyPost_ret (v:=.tuple #[.int .i64 (k:Nat),.bool (x == id)]) (by simp [results,Tryz.results87,go_sem]) rfl ?_
   exact ⟨rfl,BV.out.trans ⟨rfl,rfl,rfl,Nat.le_refl _,fun _ _=>rfl⟩⟩
 ·have hz:decide ((k:Int) < (A.length:Int))=false:=by simp; omega
  have hz1:decide (k < A.length)=false:=by simp; omega
  have hz2:¬ (k:Int) < (A.length:Int):=by omega
  have hz3:A.length<=k:=by omega
  clear HV HT hlt; generalize A.length=m at *
  go_wp2_with fail
  go_quiet (fail)
  go_wp2
  refine bodyPost_ret (v:=.tuple #[.int .i64 (k:Nat),.bool false]) (by simp [results,Tryz.results87,go_sem]) rfl ?_
  exact ⟨rfl,BV.out.trans ⟨rfl,rfl,rfl,Nat.le_refl _,fun _ _=>rfl⟩⟩
theorem TV.lenA {w:World} {T:Nat} {F:Nat->Prop} {s:Tn} {A:List Am} {M:List Mkt} {va vm ve:Value} (h:TV w T F s A M va vm ve):A.length=s.accs.length:=by rw [<- h.accs]; simp
theorem TV.lenM {w:World} {T:Nat} {F:Nat->Prop} {s:Tn} {A:List Am} {M:List Mkt} {va vm ve:Value} (h:TV w T F s A M va vm ve):M.length=s.mkts.length:=by rw [<- h.mkts]; simp
theorem TV.isAcc {w:World} {T:Nat} {F:Nat->Prop} {s:Tn} {A:List Am} {M:List Mkt} {va vm ve:Value} (h:TV w T F s A M va vm ve) {k:Nat} (hk:k < A.length):accAt s k=((A[k]'hk).id,(A[k]'hk).bal,(A[k]'hk).pos):=by
 have hk':k < s.accs.length:=by rw [<- h.lenA]; exact hk
 have:s.accs[k]=(A.map Am.acc)[k]'(by simpa using hk):=by simp [h.accs]
 rw [accAt_get hk',this]; simp [Am.acc]
/-- where the accounts are. -/
theorem TV.atA {w:World} {T:Nat} {F:Nat->Prop} {s:Tn} {A:List Am} {M:List Mkt} {va vm ve:Value} (h:TV w T F s A M va vm ve) {k:Nat} (hk:k < A.length) :
  ∃ g cap,va=.slice (some ⟨g,0,none⟩) A.length cap /\ F g /\ A.length<=cap /\ A.length<=maxLen /\ (∀ j,w.frozen? ⟨g,j,none⟩ = false) /\
   w.cell? ⟨g,k * 3,none⟩ = some (.int .i64 (A[k]'hk).id) /\ w.cell? ⟨g,k * 3 + 1,none⟩ = some (.int .i64 (A[k]'hk).bal) /\ w.cell? ⟨g,k * 3 + 2,none⟩ = some (.slice (A[k]'hk).p (A[k]'hk).n (A[k]'hk).c):=by
 have hr:=h.rowA
 rcases hr.2 with ⟨rfl,e⟩ | ⟨g,cap,cur,rfl,hb,hg,hn,hm,hs,ht⟩
 ·omega
 ·have hc:∀ j u,(A.flatMap encA)[j]? = some u->w.cell? ⟨g,0 + j,none⟩ = some u:=fun j u hu=>by
   have hj:j < A.length * 3:=by
    have:=(List.getElem?_eq_some_iff.1 hu).1
    rw [flat_len encA_len] at this; exact this
   rw [Nat.zero_add,hr.cellAt j hj]; exact hu
  have:=arow_cells hc hk; simp only [Nat.zero_add] at this
  exact ⟨g,cap,rfl,h.fA g rfl,hn,by omega,fun j=>hr.frozenAt j,this⟩
/-- one of the accounts is another one now. -/
theorem TV.putA {w w':World} {T:Nat} {F:Nat->Prop} {s:Tn} {A:List Am} {M:List Mkt} {va vm ve:Value} (h:TV w T F s A M va vm ve) {k:Nat} (_hk:k < A.length) {a:Am} (ha:AOk w a) (hp:Off F a.p a.pos) {g:Nat} (hg:va.ownBlock=some g)
  (hb:But (fun b=>b=g) w w') (ho:w'.ownsRow 0 40 3 va A.length ((A.set k a).flatMap encA)):TV w' T F (s.setA k a.acc) (A.set k a) M va vm ve:=by
 have nT:=own_type h.rowA h.turn (by decide) g hg
 have nM:=own_types h.rowM h.rowA (by decide)
 have nE:=own_types h.rowE h.rowA (by decide)
 have hF:=h.fA g hg
 have hsub:∀ b,b=g->F b:=fun b e=>by rw [e]; exact hF
 refine ⟨?_,h.mkts,h.own,fun b hF=>Nat.lt_of_lt_of_le (h.lt b hF) hb.size,?_,by simpa using ho,own_but h.rowM hb (fun k hk e=>nM k hk g hg e),own_but h.rowE hb (fun k hk e=>nE k hk g hg e),h.fA,h.fM,h.fE,fun x hx=>?_,fun m hm=>?_⟩
 ·rw [List.map_set,h.accs]; rfl
 ·rw [hb.block T (h.lt T h.own) (fun e=>nT e.symm)]; exact h.turn
 ·rcases List.mem_or_eq_of_mem_set hx with hx | rfl
  ·exact ⟨aok_but (h.each x hx).1 hb (off_mono (h.each x hx).2 hsub),(h.each x hx).2⟩
  ·exact ⟨aok_but ha hb (off_mono hp hsub),hp⟩
 ·obtain ⟨o1,o2,r1,r2⟩:=h.eachM m hm
  exact ⟨ov_but o1 hb (off_mono r1 hsub),ov_but o2 hb (off_mono r2 hsub),r1,r2⟩
/-- the balance of one of them. -/
theorem TV.putBal {w:World} {T:Nat} {F:Nat->Prop} {s:Tn} {A:List Am} {M:List Mkt} {vm ve:Value} {g cap:Nat} (h:TV w T F s A M (.slice (some ⟨g,0,none⟩) A.length cap) vm ve) {k:Nat} (hk:k < A.length) (n:Int) :
  TV (w.setCell ⟨g,k * 3 + 1,none⟩ (.int .i64 n)) T F (s.setA k ((accAt s k).1,n,(accAt s k).2.2)) (A.set k { (A[k]'hk) with bal:=n }) M (.slice (some ⟨g,0,none⟩) A.length cap) vm ve:=by
 have hst:=(h.rowA.stored (k * 3 + 1) (.int .i64 n)).1
 rw [flat_set encA_len A k hk 1 { (A[k]'hk) with bal:=n } (.int .i64 n) (by omega) rfl] at hst
 have hm:=h.each _ (List.getElem_mem hk)
 have ha:AOk w { (A[k]'hk) with bal:=n }:=⟨hm.1.len,hm.1.few,hm.1.nil,hm.1.row⟩
 have:=h.putA hk ha hm.2 (g:=g) rfl (but_one w ⟨g,k * 3 + 1,none⟩ _) hst; rw [h.isAcc hk]; exact this
/-- a whole account. -/
theorem TV.putAcc {w:World} {T:Nat} {F:Nat->Prop} {s:Tn} {A:List Am} {M:List Mkt} {vm ve:Value} {g cap:Nat} (h:TV w T F s A M (.slice (some ⟨g,0,none⟩) A.length cap) vm ve) {k:Nat} (hk:k < A.length) {a:Am} (ha:AOk w a) (hp:Off F a.p a.pos) :
  TV (((w.setCell ⟨g,k * 3,none⟩ (.int .i64 a.id)).setCell ⟨g,k * 3 + 1,none⟩ (.int .i64 a.bal)).setCell ⟨g,k * 3 + 2,none⟩ (.slice a.p a.n a.c)) T F (s.setA k a.acc) (A.set k a) M (.slice (some ⟨g,0,none⟩) A.length cap) vm ve:=by
 have s1:=(h.rowA.stored (k * 3 + 0) (.int .i64 a.id)).1
 rw [flat_set encA_len A k hk 0 { (A[k]'hk) with id:=a.id } (.int .i64 a.id) (by omega) rfl] at s1
 have l1:(A.set k { (A[k]'hk) with id:=a.id }).length=A.length:=by simp
 have hk1:k < (A.set k { (A[k]'hk) with id:=a.id }).length:=by rw [l1]; exact hk
 have s2:=(s1.stored (k * 3 + 1) (.int .i64 a.bal)).1
 rw [flat_set encA_len _ k hk1 1 { (A[k]'hk) with id:=a.id,bal:=a.bal } (.int .i64 a.bal) (by omega) (by simp [encA])] at s2
 have hk2:k < ((A.set k { (A[k]'hk) with id:=a.id }).set k { (A[k]'hk) with id:=a.id,bal:=a.bal }).length:=by simpa using hk
 have s3:=(s2.stored (k * 3 + 2) (.slice a.p a.n a.c)).1
 rw [flat_set encA_len _ k hk2 2 a (.slice a.p a.n a.c) (by omega) (by simp [encA])] at s3
 simp only [List.set_set,Nat.add_zero] at s3
 refine h.putA hk ha hp (g:=g) rfl ?_ s3
 exact ((but_one w ⟨g,k * 3,none⟩ _).setCell (p:=⟨g,k * 3 + 1,none⟩) (.inl rfl) _).setCell (p:=⟨g,k * 3 + 2,none⟩) (.inl rfl) _
theorem cell_set_off (w:World) (g:Nat) {i j:Nat} {v:Value} (h:¬ i=j):(w.setCell ⟨g,j,none⟩ v).cell? ⟨g,i,none⟩ = w.cell? ⟨g,i,none⟩:=by
 apply World.cell?_setCell_other
 intro e
 exact h (congrArg Addr.off e).symm
theorem newer_one {w:World} {F:Nat->Prop} {g:Nat} (h:F g \/ w.heap.size<=g):Newer w F (fun b=>F b \/ b=g):=fun b hb=>hb.elim .inl (fun e=>by rw [e]; exact h)
set_option maxHeartbeats 2000000 in
theorem move_ok (T:Nat) (F L:Nat->Prop) (s t:Tn) (k:Nat) (n:Int) (w:World) (h:TA w T F L s) (hk:k < s.accs.length) (hE:s.evs.length<=1000000) (hm:moveR s k n=.ok t) :
  Calls Tryz.prog 103 #[turnP T,.int .i64 (k:Nat),.int .i64 n] w fun e w'=>e=.returned (.int .i64 0) /\ Stepped w T F L t w':=by
 obtain ⟨A,M,va,vm,ve,h,hrw,hlt⟩:=h
 have hkA:k < A.length:=by rw [h.lenA]; exact hk
 obtain ⟨g,cap,rfl,hF,hcap,hmax,fz,c0,c1,c2⟩:=h.atA hkA; have f1:=fz (k * 3 + 1)
 have t0:w.cell? ⟨T,0,none⟩ = some (.slice (some ⟨g,0,none⟩) A.length cap):=by rw [h.cell]; rfl
 unfold moveR at hm
 split at hm
 case isFalse=>cases hm
 rename_i he
 cases hm; rw [h.isAcc hkA] at he ⊢; dsimp only at he ⊢; have GR:=hide (grow_ok ⟨g,k * 3 + 1,none⟩ _ n w c1 f1 he); obtain ⟨x,hx⟩:∃ x,x=(A[k]'hkA).id:=⟨_,rfl⟩; obtain ⟨v,hv⟩:∃ v,v=addV (A[k]'hkA).bal n:=⟨_,rfl⟩; rw [<- hv] at GR ⊢
 -- behind grow
 have MV:Hid (∀ o,Calls Tryz.prog 115 #[turnP T,.int .i64 x,.int .i64 n] ((w.alloc o).setCell ⟨g,k * 3 + 1,none⟩ (.int .i64 v)) fun e w'=>e=.returned (.tuple #[]) /\ Stepped w T F L ((s.setA k (x,v,(A[k]'hkA).pos)).tell (evMoved x n)) w'):=by
  intro o
  have b1:=(Below.refl w.heap.size w).alloc (Nat.le_refl _) o; have h1:=(h.below b1).putBal hkA v; rw [h.isAcc hkA] at h1
  refine (moved_any T F _ _ M _ vm ve x n _ h1 hE).mono ?_
  rintro e w' ⟨rfl,g',cap',tv,hg',hb'⟩
  have bb:But F w ((w.alloc o).setCell ⟨g,k * 3 + 1,none⟩ (.int .i64 v)):=(But.of_below b1).setCell (p:=⟨g,k * 3 + 1,none⟩) (.inl hF) _
  have ta:TA w' T (fun b=>F b \/ b=g') L ((s.setA k (x,v,(A[k]'hkA).pos)).tell (evMoved x n)):=by
   rw [hx]; rw [hx] at tv
   exact ⟨_,_,_,_,_,tv,hrw.setA k (show Off L (A[k]'hkA).p (A[k]'hkA).pos from hrw.a _ (List.getElem_mem hkA)),fun b hb=>Nat.lt_of_lt_of_le (hlt b hb) (Nat.le_trans bb.size hb'.size)⟩
  exact ⟨rfl,_,ta,newer_one (hg'.imp id (fun e=>by simp [World.setCell] at e; omega)),bb.trans hb' (fun _ f=>.inl f)⟩
 have z0:∀ o,((w.alloc o).setCell ⟨g,k * 3 + 1,none⟩ (.int .i64 v)).cell? ⟨T,0,none⟩ = some (.slice (some ⟨g,0,none⟩) A.length cap):=fun o=>by
  rw [cell_set_far _ _ _ (fun e=>own_type h.rowA h.turn (by decide) g rfl e.symm)]
  exact cell_old t0 o
 have z1:∀ o,((w.alloc o).setCell ⟨g,k * 3 + 1,none⟩ (.int .i64 v)).cell? ⟨g,k * 3,none⟩ = some (.int .i64 x):=fun o=>by
  rw [cell_set_off _ _ (by omega),hx]
  exact cell_old c0 o
 rw [<- hx]
 have hz:(k:Int) < (A.length:Int):=by omega
 generalize (A[k]'hkA).pos=ps at MV ⊢; clear hrw hlt h c0 c2 fz he hE hv hx hF hk hcap hmax f1 c1; generalize A.length=m at *
 go_enter Tryz.func103,Tryz.ntmps103
 go_wp2_with fail
 refine GR.out.mono ?_
 rintro e w1 ⟨rfl,o,hw1⟩
 have y0:=z0 o; have y1:=z1 o; have MV1:=hide (MV.out o); rw [<- hw1] at y0 y1 MV1; clear z0 z1 MV GR t0 hw1
 go_wp2_with fail
 refine MV1.out.mono ?_
 rintro e w2 ⟨rfl,hs2⟩
 have HS:=hide hs2; clear hs2 MV1
 go_wp2
 go_ret
 exact ⟨rfl,HS.out⟩
set_option maxHeartbeats 2000000 in
theorem move_bad (T:Nat) (F L:Nat->Prop) (s:Tn) (k:Nat) (n r:Int) (w:World) (h:TA w T F L s) (hk:k < s.accs.length) (hm:moveR s k n=.error r) :
  Calls Tryz.prog 103 #[turnP T,.int .i64 (k:Nat),.int .i64 n] w fun e w'=>e=.returned (.int .i64 r) /\ ¬ r=0 /\ Below w.heap.size w w':=by
 obtain ⟨A,M,va,vm,ve,h,-,-⟩:=h
 have hkA:k < A.length:=by rw [h.lenA]; exact hk
 obtain ⟨g,cap,rfl,hF,hcap,hmax,fz,c0,c1,c2⟩:=h.atA hkA
 have t0:w.cell? ⟨T,0,none⟩ = some (.slice (some ⟨g,0,none⟩) A.length cap):=by rw [h.cell]; rfl
 unfold moveR at hm
 split at hm
 ·cases hm
 rename_i he
 cases hm; rw [h.isAcc hkA] at he ⊢; dsimp only at he ⊢; have GR:=hide (grow_bad ⟨g,k * 3 + 1,none⟩ _ n w c1 he); generalize addE (A[k]'hkA).bal n=r at *
 have hz:(k:Int) < (A.length:Int):=by omega
 clear h c0 c2 fz hF hk hcap hmax c1 hkA; generalize A.length=m at *
 go_enter Tryz.func103,Tryz.ntmps103
 go_wp2_with fail
 refine GR.out.mono ?_
 rintro e w1 ⟨rfl,hb⟩
 have B:=hide hb; clear hb GR
 go_wp2
 go_ret
 exact ⟨rfl,he,B.out⟩
theorem Str.few {s:Tn} (h:Str s):s.accs.length<=8:=by
 have:=few_accs s.accs 0 h.srt (fun a ha=>betw_true (accErr_ok (h.acc a ha)).1) (by omega)
 omega
/-- the accounts of a turn, for placeOf. -/
theorem TV.place {w:World} {T:Nat} {F:Nat->Prop} {s:Tn} {A:List Am} {M:List Mkt} {va vm ve:Value} (h:TV w T F s A M va vm ve) (hs:Str s) (id:Int) :
  ∃ p c,va=.slice p A.length c /\ w.cell? ⟨T,0,none⟩ = some (.slice p A.length c) /\ Calls Tryz.prog 87 #[.slice p A.length c,.int .i64 id] w fun e w'=>e=.returned (.tuple #[.int .i64 (plc s.accs id:Nat),.bool (hasA s.accs id)]) /\ Below w.heap.size w w':=by
 obtain ⟨p,c,rfl,hr,-,-,hm⟩:=own_arow h.rowA
 have t0:w.cell? ⟨T,0,none⟩ = some (.slice p A.length c):=by rw [h.cell]; rfl
 have hfew:A.length<=140737488351232:=by rw [h.lenA]; have:=hs.few; omega
 have:=placeOf_any p A.length c A id w rfl hfew hr (by rw [h.accs]; exact hs.srt)
 rw [h.accs] at this; exact ⟨p,c,rfl,t0,this⟩
theorem own_am {w:World} {B:Nat} {v:Value} {n:Nat} {xs:List Int} (h:w.ownsRow B 3 1 v n (xs.map (Value.int .i64))):∃ p c,v=.slice p n c /\ xs.length=n /\ (p=none->c=0) /\ Row w p xs /\ ∀ x,p=some x->B<=x.block:=by
 have hl:xs.length=n:=by simpa using h.1
 have hr:=Own.row_own h
 rcases h.2 with ⟨rfl,rfl⟩ | ⟨g,cap,cur,rfl,hb,-⟩
 ·exact ⟨none,0,rfl,hl,fun _=>rfl,.inl (List.eq_nil_of_length_eq_zero hl),fun x hx=>by cases hx⟩
 ·obtain ⟨-,a,c,e,-,hrow⟩:=hr
  cases e
  exact ⟨_,_,rfl,hl,(fun e=>by cases e),hrow,fun x hx=>by cases hx; exact hb⟩
set_option maxHeartbeats 4000000 in
theorem tradeOf_ok (T:Nat) (F L:Nat->Prop) (s t:Tn) (id mk q pr fee:Int) (w:World) (h:TA w T F L s) (hs:Str s) (hid:hasA s.accs id=true) (hm:tradeOfR s id mk q pr fee=.ok t) :
  Calls Tryz.prog 144 #[turnP T,.int .i64 id,.int .i64 mk,.int .i64 q,.int .i64 pr,.int .i64 fee] w fun e w'=>e=.returned (.int .i64 0) /\ Stepped w T F L t w':=by
 obtain ⟨A,M,va,vm,ve,h,hrw,hlt⟩:=h; obtain ⟨p,c,rfl,t0,PL⟩:=h.place hs id; obtain ⟨hkS,-⟩:=accAt_has hs.srt hid; obtain ⟨k,hk⟩:∃ k,k=plc s.accs id:=⟨_,rfl⟩; unfold tradeOfR at hm; rw [<- hk] at PL hkS hm; rw [hid] at PL
 have hkA:k < A.length:=by rw [h.lenA]; exact hkS
 obtain ⟨g,cap,e,hF,hcap,hmax,fz,c0,c1,c2⟩:=h.atA hkA; cases e
 split at hm
 case isFalse=>cases hm
 rename_i he
 cases hm; rw [h.isAcc hkA] at he ⊢; have hmem:=h.each _ (List.getElem_mem hkA); generalize hA:(A[k]'hkA)=a at *; obtain ⟨aid,bal,ap,an,ac,pos⟩:=a; dsimp only at he c0 c1 c2 hmem ⊢
 have TR:Hid (∀ W,Below w.heap.size w W->_):=fun W hW=>trade_good aid bal ap an ac pos mk q pr fee W hmem.1.len (row_below hmem.1.row hW) he
 have PL':=hide PL; have H:=hide h
 have hz:(k:Int) < (A.length:Int):=by omega
 have HRW:=hide hrw; have HLT:=hide hlt; clear hrw hlt; have HK:=hide hk; have HA:=hide hA; clear PL h hk hA
 go_enter Tryz.func144,Tryz.ntmps144
 go_wp2_with fail
 refine PL'.out.mono ?_
 rintro e W1 ⟨rfl,b1⟩
 have u0:=(b1.cell (World.block_lt_of_cell? _ _ t0)).trans t0; have d0:=(b1.cell (World.block_lt_of_cell? _ _ c0)).trans c0; have d1:=(b1.cell (World.block_lt_of_cell? _ _ c1)).trans c1; have d2:=(b1.cell (World.block_lt_of_cell? _ _ c2)).trans c2; have B1:=hide b1; have TR1:=hide (TR.out W1 b1); clear b1 TR t0 c0 c1 c2 PL'
 go_wp2_with fail
 refine TR1.out.mono ?_
 rintro e W2 ⟨v,rfl,ho,b2⟩
 obtain ⟨px,cx,rfl,hl,hnil,hrow,hblk⟩:=own_am ho; have v0:=(b2.cell (World.block_lt_of_cell? _ _ u0)).trans u0; clear TR1 u0 d0 d1 d2
 go_wp2_with fail
 obtain ⟨W3,hW3⟩:∃ W3,W3=W2.alloc (.cells #[.int .i64 aid,.int .i64 (bal - q * pr - fee),.slice px an cx] 40):=⟨_,rfl⟩; rw [<- hW3]
 have b3:Below w.heap.size w W3:=by
  rw [hW3]; exact (B1.out.trans (b2.mono B1.out.size)).alloc (Nat.le_trans B1.out.size b2.size) _
 have x0:W3.cell? ⟨T,0,none⟩ = some (.slice (some ⟨g,0,none⟩) A.length c):=by rw [hW3]; exact cell_old v0 _
 have y0:W3.cell? ⟨W2.heap.size,0,none⟩ = some (.int .i64 aid):=by rw [hW3]; exact new_cell W2 _ _ 0 _ rfl
 have y1:W3.cell? ⟨W2.heap.size,1,none⟩ = some (.int .i64 (bal - q * pr - fee)):=by rw [hW3]; exact new_cell W2 _ _ 1 _ rfl
 have y2:W3.cell? ⟨W2.heap.size,2,none⟩ = some (.slice px an cx):=by rw [hW3]; exact new_cell W2 _ _ 2 _ rfl
 have h3:=H.out.below b3
 have row3:Row W3 px (pos.set mk.toNat (pos.getD mk.toNat 0 + q)):=by rw [hW3]; exact row_below hrow ((Below.refl _ W2).alloc (Nat.le_refl _) _)
 have OK3:Hid (AOk W3 ⟨aid,bal - q * pr - fee,px,an,cx,pos.set mk.toNat (pos.getD mk.toNat 0 + q)⟩):=⟨hl,hmem.1.few,hnil,row3⟩
 have OL3:Hid (Off L px (pos.set mk.toNat (pos.getD mk.toNat 0 + q))):=.inr fun x hx f=>by
  have:=hblk x hx; have:=HLT.out _ f; have:=B1.out.size
  omega
 have OF3:Hid (Off F px (pos.set mk.toNat (pos.getD mk.toNat 0 + q))):=.inr fun x hx f=>by
  have:=hblk x hx; have:=H.out.lt _ f; have:=B1.out.size
  omega
 obtain ⟨g',cap',e',-,-,-,fz3,z0,z1,z2⟩:=h3.atA hkA; cases e'; have q0:=fz3 (k * 3); have q1:=fz3 (k * 3 + 1); have q2:=fz3 (k * 3 + 2); have TVX:=hide (h3.putAcc hkA OK3.out OF3.out); have BW3:=hide b3; clear hW3 b3 h3 row3 OK3 OF3 fz3 v0 b2 hrow hnil hblk hl ho hmem B1 H fz; generalize W2.heap.size=b4 at *
 go_region
 go_wp2
 go_ret
 refine ⟨rfl,F,⟨_,_,_,_,_,TVX.out.below (Below.refl _ _).drew,HRW.out.setA k OL3.out,fun b hb=>Nat.lt_of_lt_of_le (HLT.out b hb) ?_⟩,fun b hb=>.inl hb,?_⟩
 ·have:=BW3.out.size
  simpa [World.setCell] using this
 exact But.drew ((((But.of_below BW3.out).setCell (p:=⟨g,k * 3,none⟩) (.inl hF) _).setCell (p:=⟨g,k * 3 + 1,none⟩) (.inl hF) _).setCell (p:=⟨g,k * 3 + 2,none⟩) (.inl hF) _)
set_option maxHeartbeats 4000000 in
theorem tradeOf_bad (T:Nat) (F L:Nat->Prop) (s:Tn) (id mk q pr fee r:Int) (w:World) (h:TA w T F L s) (hs:Str s) (hid:hasA s.accs id=true) (f1:-9223372036854775808<=fee) (f2:fee<=9223372036854775807) (hm:tradeOfR s id mk q pr fee=.error r) :
  Calls Tryz.prog 144 #[turnP T,.int .i64 id,.int .i64 mk,.int .i64 q,.int .i64 pr,.int .i64 fee] w fun e w'=>e=.returned (.int .i64 r) /\ ¬ r=0 /\ Below w.heap.size w w':=by
 obtain ⟨A,M,va,vm,ve,h,-,-⟩:=h; obtain ⟨p,c,rfl,t0,PL⟩:=h.place hs id; obtain ⟨hkS,-⟩:=accAt_has hs.srt hid; obtain ⟨k,hk⟩:∃ k,k=plc s.accs id:=⟨_,rfl⟩; unfold tradeOfR at hm; rw [<- hk] at PL hkS hm; rw [hid] at PL
 have hkA:k < A.length:=by rw [h.lenA]; exact hkS
 obtain ⟨g,cap,e,hF,hcap,hmax,fz,c0,c1,c2⟩:=h.atA hkA; cases e
 split at hm
 ·cases hm
 rename_i he
 cases hm; rw [h.isAcc hkA] at he ⊢; have hmem:=h.each _ (List.getElem_mem hkA); generalize hA:(A[k]'hkA)=a at *; obtain ⟨aid,bal,ap,an,ac,pos⟩:=a; dsimp only at he c0 c1 c2 hmem ⊢
 have TR:Hid (∀ W,Below w.heap.size w W->_):=fun W hW=>trade_bad aid bal ap an ac pos mk q pr fee W hmem.1.len (by have:=hmem.1.few; dsimp only at this; omega) (row_below hmem.1.row hW) f1 f2 he
 have PL':=hide PL
 have hz:(k:Int) < (A.length:Int):=by omega
 generalize tradeErr aid bal pos mk q pr fee=r at *; clear PL h hk hA
 go_enter Tryz.func144,Tryz.ntmps144
 go_wp2_with fail
 refine PL'.out.mono ?_
 rintro e W1 ⟨rfl,b1⟩
 have u0:=(b1.cell (World.block_lt_of_cell? _ _ t0)).trans t0; have d0:=(b1.cell (World.block_lt_of_cell? _ _ c0)).trans c0; have d1:=(b1.cell (World.block_lt_of_cell? _ _ c1)).trans c1; have d2:=(b1.cell (World.block_lt_of_cell? _ _ c2)).trans c2; have B1:=hide b1; have TR1:=hide (TR.out W1 b1); clear b1 TR t0 c0 c1 c2 PL'
 go_wp2_with fail
 refine TR1.out.mono ?_
 rintro e W2 ⟨rfl,b2⟩
 have B3:Hid (∀ o,Below w.heap.size w (W2.alloc o)):=fun o=>(B1.out.trans (b2.mono B1.out.size)).alloc (Nat.le_trans B1.out.size b2.size) o
 clear TR1 u0 d0 d1 d2 b2 B1
 go_wp2
 go_ret
 exact ⟨rfl,he,B3.out _⟩
end Go.Proofs.YtpkbiafhnflmnaaGreatDoor.Vn
