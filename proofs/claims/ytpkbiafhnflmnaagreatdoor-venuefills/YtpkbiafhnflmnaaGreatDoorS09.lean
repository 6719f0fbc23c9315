/-
  Package book by contracts: mayRest.
-/
import Derived.Test.YtpkbiafhnflmnaaGreatDoorS08
import Derived.Deep.LoopGhost
import Derived.RowKit
import Derived.BigQuiet
import Derived.Deep.QuietTactic
import Derived.WalkKit
namespace Go.Proofs.YtpkbiafhnflmnaaGreatDoor.Bk
open Go.RowKit Go.Sort Go.Maps
theorem below_map (w:World) {W:World} (h:Below w.heap.size w W):Below w.heap.size w (W.alloc (.map #[] 0)):=h.alloc h.size _
theorem cell_alloc {w:World} {a:Addr} {v:Value} (h:w.cell? a=some v) (o:Obj):(w.alloc o).cell? a=some v:=by
 rw [alloc_eq_grow]; exact (cell?_grow w #[o] _ (World.block_lt_of_cell? _ _ h)).trans h
set_option maxHeartbeats 2000000 in
set_option maxRecDepth 100000 in
theorem check_any (p p':Option Addr) (c c':Nat) (bids asks:List Odr) (w:World) (h:ORow w p bids) (h':ORow w p' asks) (hn:bids.length<=140737488351232) (hn':asks.length<=140737488351232) :
  Calls Tryz.prog 55 #[.agg #[.slice p bids.length c,.slice p' asks.length c']] w fun e w'=>e=.returned (.int .i64 (bookErr bids asks)) /\ Below w.heap.size w w':=by
 have mixed:Tryz.prog.follows .mixedOrders=true:=by kernel_rfl
 have hmm:=@run_makeMap Tryz.prog; generalize hr:bookErr bids asks=r; have R:=hide hr; clear hr; have H:=hide h; have H':=hide h'; clear h h'
 have CB:=fun (B m:Nat) (w1:World) (hw:Below w.heap.size w w1) (hB:w.heap.size<=B) (hown:OwnsSet w1 B m []) hl hm=>checkSide_any p c bids 1 B m [] w1 w H.out hw hB hown hl hm
 have CA:=fun (B m:Nat) (w1:World) (hw:Below w.heap.size w w1) (hB:w.heap.size<=B) (hown:OwnsSet w1 B m (bids.map oid)) hl hm=>checkSide_any p' c' asks (-1) B m (bids.map oid) w1 w H'.out hw hB hown hl hm
 have CC:=fun (o:Odr) (w1:World) (hw:Below w.heap.size w w1)=>crossesBest_any o.1 o.2.1 o.2.2.1 o.2.2.2.1 o.2.2.2.2 p' c' asks w1 (orow_below H'.out hw)
 have hfew:Hid (40 < bids.length + asks.length->r=2):=fun h=>by rw [<- R.out]; unfold bookErr; rw [if_pos h]
 have hb0:Hid (¬ 40 < bids.length + asks.length->sideErr 1 none [] bids ≠ 0->r=sideErr 1 none [] bids):=fun h1 h2=>by rw [<- R.out]; unfold bookErr; rw [if_neg h1,if_pos h2]
 have ha0:Hid (¬ 40 < bids.length + asks.length->sideErr 1 none [] bids=0->sideErr (-1) none (bids.map oid) asks ≠ 0->r=sideErr (-1) none (bids.map oid) asks):=fun h1 h2 h3=>by rw [<- R.out]; unfold bookErr; rw [if_neg h1,if_neg (fun e=>e h2),if_pos h3]
 have hx0:Hid (¬ 40 < bids.length + asks.length->sideErr 1 none [] bids=0->sideErr (-1) none (bids.map oid) asks=0->r=if crossed bids asks=true then 4 else 0):=fun h1 h2 h3=>by rw [<- R.out]; unfold bookErr; rw [if_neg h1,if_neg (fun e=>e h2),if_neg (fun e=>e h3)]
 generalize hnb:bids.length=nb at hn hfew hb0 ha0 hx0 CB ⊢; generalize hna:asks.length=na at hn' hfew hb0 ha0 hx0 CA CC ⊢; have CB':=hide CB; have CA':=hide CA; have CC':=hide CC; have NB:=hide hnb; have NA:=hide hna; clear CB CA CC hnb hna
 go_enter Tryz.func55,Tryz.ntmps55
 go_wp2_with fail
 refine (count_any _ _ _ _ _ _ _ hn hn').mono ?_
 rintro e w' ⟨rfl,q1,os1,hw⟩
 have B1:Hid (Below w.heap.size w w'):=hide (by rw [hw]; exact box_below _ _ _ _)
 have e0:w'.cell? ⟨w.heap.size,0,none⟩ = some (.slice p nb c):=by rw [hw]; exact box_cell _ _ _ _ _ _ _ rfl
 have e1:w'.cell? ⟨w.heap.size,1,none⟩ = some (.slice p' na c'):=by rw [hw]; exact box_cell _ _ _ _ _ _ _ rfl
 have s1:Hid (w.heap.size < w'.heap.size):=World.block_lt_of_cell? _ _ e0; clear hw
 by_cases hmany:40 < nb + na
 ·have hm2:(40:Int) < (nb:Int) + (na:Int):=by omega
  go_wp2
  go_ret
  exact ⟨by rw [hfew.out hmany]; rfl,B1.out⟩
 ·have hm2:¬ (40:Int) < (nb:Int) + (na:Int):=by omega
  have f0:=fun o=>cell_alloc e0 o
  have f1:=fun o=>cell_alloc e1 o
  go_wp2_with fail
  refine (CB'.out w'.heap.size 0 _ (below_map w B1.out) B1.out.size (World.ownsMap_made _ _ _ _) (by omega) (by omega)).mono ?_
  rintro e w2 ⟨rfl,B2,O2⟩
  have B2':Hid (Below w'.heap.size w' w2):=hide (((Below.refl w'.heap.size w').alloc (Nat.le_refl _) _).trans B2); have O2':=hide O2; have g0:w2.cell? ⟨w.heap.size,0,none⟩ = some (.slice p nb c):=(B2'.out.cell (p:=⟨w.heap.size,0,none⟩) s1.out).trans e0; have g1:w2.cell? ⟨w.heap.size,1,none⟩ = some (.slice p' na c'):=(B2'.out.cell (p:=⟨w.heap.size,1,none⟩) s1.out).trans e1; clear e0 e1 f0 f1 B2 O2
  by_cases hb:sideErr 1 none [] bids=0
  ·rw [hb]
   go_wp2_with fail
   have O3:OwnsSet w2 w'.heap.size nb (bids.map oid):=by
    have:=O2'.out hb
    rwa [List.nil_append,Nat.zero_add] at this
   refine (CA'.out w'.heap.size nb w2 (B1.out.trans (B2'.out.mono (Nat.le_of_lt s1.out))) B1.out.size O3 (by omega) (by omega)).mono ?_
   rintro e w3 ⟨rfl,B3,O3'⟩
   clear O3 O3'; have B3':Hid (Below w'.heap.size w' w3):=hide (B2'.out.trans B3); have k0:w3.cell? ⟨w.heap.size,0,none⟩ = some (.slice p nb c):=(B3.cell (p:=⟨w.heap.size,0,none⟩) s1.out).trans g0; have k1:w3.cell? ⟨w.heap.size,1,none⟩ = some (.slice p' na c'):=(B3.cell (p:=⟨w.heap.size,1,none⟩) s1.out).trans g1; have B4:=hide (B1.out.trans (B3'.out.mono (Nat.le_of_lt s1.out))); clear B3 g0 g1 B2' O2' B3'
   by_cases ha:sideErr (-1) none (bids.map oid) asks=0
   ·rw [ha]
    have hr4:=hide (hx0.out hmany hb ha); have s3:w.heap.size < w3.heap.size:=World.block_lt_of_cell? _ _ k0
    have m0:=fun n os=>cell_grown (a:=⟨w.heap.size,0,none⟩) s3 k0 n os
    have m1:=fun n os=>cell_grown (a:=⟨w.heap.size,1,none⟩) s3 k1 n os
    by_cases hbn:bids=[]
    ·have hnb0:nb=0:=by rw [<- NB.out,hbn]; rfl
     have hcr:crossed bids asks=false:=by rw [hbn]; rfl
     have hnd:decide (0 < nb)=false:=by rw [hnb0]; rfl
     have hr5:=hr4.out; rw [hcr] at hr5; clear hb ha hbn hnb0 hcr
     go_wp2_with fail
     refine wp_region_quiet_grown (by assumption) (by kernel_rfl) ?_
     repeat (go_big_quiet_step (fail))
     refine wpQuiet_nil ?_
     intro _ hwq
     obtain ⟨⟨nq,osq⟩,hwq'⟩:=hwq; subst hwq'
     go_wp2
     go_ret
     exact ⟨by rw [hr5]; rfl,B4.out.trans ((grow_below w3 nq osq).mono B4.out.size)⟩
    ·rcases H.out with hh | ⟨b,off,rfl,hc⟩
     ·exact absurd hh hbn
     ·have hpos:=List.length_pos_iff.2 hbn
      obtain ⟨x,bs,hbx⟩:=List.exists_cons_of_ne_nil hbn
      have hnd:0 < nb:=by rw [<- NB.out]; exact hpos
      have hbl:b < w.heap.size:=World.block_lt_of_cell? w _ (hc 0 hpos 0 _ rfl)
      obtain ⟨c0,c1,c2,c3,c4⟩:=orow_cells (w:=w3) (b:=b) (off:=off) (xs:=bids) (fun j hj i v hv=>(B4.out.cell hbl).trans (hc j hj i v hv)) hpos
      have hx1:bids[0]! = x:=by rw [hbx]; rfl
      rw [hx1] at c0 c1 c2 c3 c4; simp only [Nat.zero_mul,Nat.add_zero] at c0 c1 c2 c3 c4
      have hcr:crossed bids asks=crosses x asks:=by rw [hbx]; rfl
      have hr5:=hide (hr4.out); rw [hcr] at hr5; have hb3:=Nat.lt_of_lt_of_le hbl B4.out.size; obtain ⟨a,ac,sd,pr,q⟩:=x; dsimp only [oid,oac,osd,opr,oqt] at c0 c1 c2 c3 c4
      have n0:=fun n os=>cell_grown (a:=⟨b,off,none⟩) hb3 c0 n os
      have n1:=fun n os=>cell_grown (a:=⟨b,off + 1,none⟩) hb3 c1 n os
      have n2:=fun n os=>cell_grown (a:=⟨b,off + 2,none⟩) hb3 c2 n os
      have n3:=fun n os=>cell_grown (a:=⟨b,off + 3,none⟩) hb3 c3 n os
      have n4:=fun n os=>cell_grown (a:=⟨b,off + 4,none⟩) hb3 c4 n os
      clear c0 c1 c2 c3 c4 hc hx1 hcr hbx hpos hb ha k0 k1 hr4
      have CG:=hide (fun n os=>CC'.out (a,ac,sd,pr,q) (grow (w3.drewN n) os) (B4.out.trans ((grow_below w3 n os).mono B4.out.size)))
      dsimp only at CG
      cases hcx:crosses (a,ac,sd,pr,q) asks with
      |true =>
       have hr6:=hr5.out; rw [hcx] at hr6; rw [hcx] at CG
       go_wp2_with fail
       refine wp_region_quiet_grown (by assumption) (by kernel_rfl) ?_
       repeat (go_big_quiet_step (first | (go_at_call 94; refine Calls.grown_of (CG.out _ _))))
       refine wpQuiet_nil ?_
       intro _ hwq
       obtain ⟨⟨nq,osq⟩,hwq'⟩:=hwq; subst hwq'
       go_wp2
       go_ret
       exact ⟨by rw [hr6]; rfl,B4.out.trans ((grow_below w3 nq osq).mono B4.out.size)⟩
      |false =>
       have hr6:=hr5.out; rw [hcx] at hr6; rw [hcx] at CG
       go_wp2_with fail
       refine wp_region_quiet_grown (by assumption) (by kernel_rfl) ?_
       repeat (go_big_quiet_step (first | (go_at_call 94; refine Calls.grown_of (CG.out _ _))))
       refine wpQuiet_nil ?_
       intro _ hwq
       obtain ⟨⟨nq,osq⟩,hwq'⟩:=hwq; subst hwq'
       go_wp2
       go_ret
       exact ⟨by rw [hr6]; rfl,B4.out.trans ((grow_below w3 nq osq).mono B4.out.size)⟩
   ·have hr4:=hide (ha0.out hmany hb ha)
    generalize sideErr (-1) none (bids.map oid) asks=ea at ha hr4 ⊢
    go_wp2
    go_ret
    exact ⟨by rw [hr4.out]; rfl,B4.out⟩
  ·have hr4:=hide (hb0.out hmany hb)
   generalize sideErr 1 none [] bids=eb at hb hr4 ⊢
   go_wp2
   go_ret
   exact ⟨by rw [hr4.out]; rfl,B1.out.trans (B2'.out.mono (Nat.le_of_lt s1.out))⟩
/-- the place of the first order of this ID, counted from k. -/
def idxAt (id:Int):List Odr->Nat->Int
 |[],_=>-1
 |o :: l,k=>if oid o=id then (k:Int) else idxAt id l (k + 1)
theorem idxAt_hit {id:Int} {xs:List Odr} {k:Nat} (h:k < xs.length) (he:oid xs[k]! = id):idxAt id (xs.drop k) k=k:=by
 rw [drop_at h]; unfold idxAt; rw [if_pos he]
theorem idxAt_miss {id:Int} {xs:List Odr} {k:Nat} (h:k < xs.length) (he:¬ oid xs[k]! = id):idxAt id (xs.drop k) k=idxAt id (xs.drop (k + 1)) (k + 1):=by
 rw [drop_at h]; conv=>lhs; unfold idxAt
 rw [if_neg he]
theorem idxAt_end {id:Int} {xs:List Odr} {k:Nat}:idxAt id (xs.drop xs.length) k = -1:=by
 rw [List.drop_length]; rfl
theorem idxAt_ways (id:Int):∀ (xs:List Odr) (k:Nat),(idxAt id xs k = -1 /\ xs.find? (hasId id)=none /\ ∀ x,x ∈ xs->¬ oid x=id) \/ ∃ j,j < xs.length /\ idxAt id xs k=((k + j:Nat):Int) /\ xs.find? (hasId id)=some xs[j]! /\ xs.take j=(xs.take j).filter (fun x=>!hasId id x)
 |[],k=>.inl ⟨rfl,rfl,by simp⟩
 |o :: l,k=>by
  unfold idxAt
  by_cases he:oid o=id
  ·refine .inr ⟨0,by simp,?_,?_,rfl⟩
   ·rw [if_pos he]; rfl
   ·rw [List.find?_cons,show hasId id o=true from (hasId_iff id o).2 he]; rfl
  ·have hf:hasId id o=false:=by simp [hasId,he]
   rw [if_neg he]
   rcases idxAt_ways id l (k + 1) with ⟨h1,h2,h3⟩ | ⟨j,h1,h2,h3,h4⟩
   ·refine .inl ⟨h1,?_,?_⟩
    ·rw [List.find?_cons,hf]; exact h2
    ·intro x hx
     rcases List.mem_cons.1 hx with rfl | hx
     ·exact he
     ·exact h3 x hx
   ·refine .inr ⟨j + 1,by simp; omega,?_,?_,?_⟩
    ·rw [h2]; congr 1; omega
    ·rw [List.find?_cons,hf]; exact h3
    ·rw [List.take_succ_cons,List.filter_cons,hf]; exact congrArg (o :: ·) h4
theorem idxAt_any (id:Int) (xs:List Odr):decide (0<=idxAt id xs 0)=xs.any (hasId id):=by
 rcases idxAt_ways id xs 0 with ⟨h1,h2,h3⟩ | ⟨j,h1,h2,h3,_⟩
 ·rw [h1]
  have:xs.any (hasId id)=false:=by
   rw [List.any_eq_false]; intro x hx; simp [hasId,h3 x hx]
  rw [this]; rfl
 ·rw [h2]
  have:xs.any (hasId id)=true:=by
   rw [List.any_eq_true]
   exact ⟨_,List.mem_of_find?_eq_some h3,List.find?_some h3⟩
  rw [this]; simp
/-- the function value that hasID hands back: its id lies in the cell ⟨B, 0⟩. -/
abbrev idFn (B:Nat):Value:=.func (.func 95) #[] #[.pointer (some ⟨B,0,none⟩)]
theorem hasID_any (id:Int) (w:World) :
  Calls Tryz.prog 57 #[.int .i64 id] w fun e w'=>e=.returned (idFn w.heap.size) /\ w'=w.alloc (.cells #[.int .i64 id] 3):=by
 go_enter Tryz.func57,Tryz.ntmps57
 go_wp2
 go_ret
 exact ⟨rfl,rfl⟩
theorem hasID1_any (a ac sd pr q id:Int) (B:Nat) (w:World) (hc:w.cell? ⟨B,0,none⟩ = some (.int .i64 id)) :
  Calls Tryz.prog 95 #[.agg #[.int .i64 a,.int .i64 ac,.int .i64 sd,.int .i64 pr,.int .i64 q],.pointer (some ⟨B,0,none⟩)] w fun e w'=>e=.returned (.bool (hasId id (a,ac,sd,pr,q))) /\ ∃ k os,w'=grow (w.drewN k) os:=by
 have h1:=fun o=>cell_alloc hc o
 clear hc
 go_enter Tryz.func95,Tryz.ntmps95
 go_wp2
 go_ret
 refine ⟨?_,0,#[_],alloc_eq_grow w _⟩
 by_cases e:a=id <;> simp [hasId,e]
set_option maxHeartbeats 2000000 in
set_option maxRecDepth 100000 in
theorem indexFunc_some (b off c:Nat) (xs:List Odr) (id:Int) (B:Nat) (w:World) (hn:xs.length<=140737488351232)
  (hc:∀ j,j < xs.length->∀ i v,(enc xs[j]!)[i]? = some v->w.cell? ⟨b,off + j * 5 + i,none⟩ = some v) (hb:b < w.heap.size) (hid:w.cell? ⟨B,0,none⟩ = some (.int .i64 id)) :
  Calls Tryz.prog 56 #[.slice (some ⟨b,off,none⟩) xs.length c,idFn B] w fun e w'=>e=.returned (.int .i64 (idxAt id xs 0)) /\ Below w.heap.size w w':=by
 have eg:∀ args w,(callFunc 95 args).run Tryz.prog w=.ok (.enter 95 args) w:=enters_of Tryz.func95 (by kernel_rfl) rfl
 generalize hr:idxAt id xs 0=r; have R0:Hid (idxAt id (xs.drop 0) 0=r):=hr; clear hr; have HC:=hide hc; have HI:=hide hid; clear hc hid; generalize hxn:xs.length=n at hn ⊢; have N:=hide hxn; clear hxn
 go_enter Tryz.func56,Tryz.ntmps56
 go_wp2
 go_loopw [8] (fun i wr=>∃ k:Nat,k<=n /\ i=.int .i64 k /\ Hid (Below w.heap.size w wr) /\ Hid (idxAt id (xs.drop k) k=r)) (fun i _=>n - (intOf i).toNat)
 case atStart=>exact ⟨0,Nat.zero_le _,rfl,Below.refl _ _,R0⟩
 case round =>
  obtain ⟨k,hk,rfl,BW,R⟩:=hrel
  by_cases hlt:k < n
  ·have hltz:(k:Int) < (n:Int):=by omega
   have hkx:k < xs.length:=by rw [N.out]; exact hlt
   obtain ⟨c0,c1,c2,c3,c4⟩:=orow_cells (w:=wr) (b:=b) (off:=off) (xs:=xs) (fun j hj i v hv=>(BW.out.cell hb).trans (HC.out j hj i v hv)) hkx
   generalize hx:xs[k]! = x at c0 c1 c2 c3 c4; have X:=hide hx; clear hx; obtain ⟨a,ac,sd,pr,q⟩:=x; dsimp only [oid,oac,osd,opr,oqt] at c0 c1 c2 c3 c4; have hcall:=hasID1_any a ac sd pr q id B wr ((BW.out.cell (World.block_lt_of_cell? _ _ HI.out)).trans HI.out)
   cases hh:hasId id (a,ac,sd,pr,q) with
   |true =>
    rw [hh] at hcall
    go_wp2_with (go_at_fn 95; refine hcall.mono ?_; rintro e w' ⟨rfl,q1,os1,rfl⟩)
    go_ret
    refine ⟨?_,BW.out.trans ((grow_below wr q1 os1).mono BW.out.size)⟩
    rw [<- R.out,idxAt_hit hkx (by rw [X.out]; exact (hasId_iff _ _).1 hh)]
    rfl
   |false =>
    rw [hh] at hcall
    go_wp2_with (go_at_fn 95; refine hcall.mono ?_; rintro e w' ⟨rfl,q1,os1,rfl⟩)
    go_roundw
    case rel =>
     refine ⟨k + 1,by omega,by go_num,BW.out.trans ((grow_below wr q1 os1).mono BW.out.size),?_⟩
     show idxAt id (xs.drop (k + 1)) (k + 1)=r
     rw [<- R.out]
     exact (idxAt_miss hkx (by rw [X.out]; intro e; rw [(hasId_iff _ _).2 e] at hh; cases hh)).symm
    case measure=>simp [intOf]; omega
  ·have hk':k=n:=by omega
   subst hk'
   go_wp2
   go_ret
   refine ⟨?_,BW.out⟩
   rw [<- R.out,<- N.out,idxAt_end]
   rfl
set_option maxRecDepth 100000 in
theorem indexFunc_none (p:Option Addr) (c:Nat) (f:Value) (w:World) :
  Calls Tryz.prog 56 #[.slice p 0 c,f] w fun e w'=>e=.returned (.int .i64 (-1)) /\ w'=w:=by
 go_enter Tryz.func56,Tryz.ntmps56
 go_wp2
 refine wp_loop_rounds 1 ?_
 rw [rounds_succ]
 go_wp2
 go_ret
 exact ⟨rfl,rfl⟩
theorem indexFunc_any (p:Option Addr) (c:Nat) (xs:List Odr) (id:Int) (B:Nat) (w:World) (hn:xs.length<=140737488351232) (h:ORow w p xs) (hid:w.cell? ⟨B,0,none⟩ = some (.int .i64 id)) :
  Calls Tryz.prog 56 #[.slice p xs.length c,idFn B] w fun e w'=>e=.returned (.int .i64 (idxAt id xs 0)) /\ Below w.heap.size w w':=by
 by_cases hx:xs=[]
 ·subst hx
  refine (indexFunc_none p c (idFn B) w).mono ?_
  rintro e w' ⟨rfl,rfl⟩
  exact ⟨rfl,Below.refl _ _⟩
 ·rcases h with h | ⟨b,off,rfl,hc⟩
  ·exact absurd h hx
  ·exact indexFunc_some b off c xs id B w hn hc (World.block_lt_of_cell? w _ (hc 0 (List.length_pos_iff.2 hx) 0 _ rfl)) hid
theorem containsFunc_any (p:Option Addr) (c:Nat) (xs:List Odr) (id:Int) (B:Nat) (w:World) (hn:xs.length<=140737488351232) (h:ORow w p xs) (hid:w.cell? ⟨B,0,none⟩ = some (.int .i64 id)) :
  Calls Tryz.prog 25 #[.slice p xs.length c,idFn B] w fun e w'=>e=.returned (.bool (xs.any (hasId id))) /\ Below w.heap.size w w':=by
 have hcon:=indexFunc_any p c xs id B w hn h hid; rw [<- idxAt_any]; generalize idxAt id xs 0=r at hcon ⊢; generalize xs.length=n at hcon ⊢; clear h hid
 go_enter Tryz.func25,Tryz.ntmps25
 go_wp2_with (go_at_call 56; refine hcon.mono ?_; rintro e w' ⟨rfl,hb'⟩)
 go_ret
 exact ⟨rfl,hb'⟩
end Go.Proofs.YtpkbiafhnflmnaaGreatDoor.Bk
namespace Go.Proofs.YtpkbiafhnflmnaaGreatDoor.Mix
structure InC (C:World->Prop) where
 w:World
 h:C w
section
variable {P:Program} {ops:Array Oper} {md:Region.Mode}
/-- in every world of the class it yields v, and leaves that world. -/
def Yields (P:Program) (ops:Array Oper) (C:World->Prop) (o:Oper) (v:Value) (a:Act):Prop :=
 (Region.wanted o (yielded ops a.tmps)=true /\ ∀ w,C w->((execOp a.eval o).run P w=.ok (.value v) w \/ ((execOp a.eval o).run P w=.ok .skip w /\ v=undef))) \/
 (Region.wanted o (yielded ops a.tmps)=false /\ v=undef)
theorem Yields.sub {C C':World->Prop} {o:Oper} {v:Value} {a:Act} (h:Yields P ops C o v a) (hs:∀ x,C' x->C x):Yields P ops C' o v a:=by
 rcases h with ⟨h1,h2⟩ | h
 ·exact .inl ⟨h1,fun w hw=>h2 w (hs w hw)⟩
 ·exact .inr h
theorem Yields.same {C:World->Prop} {o:Oper} {v:Value} {a a':Act} (hy:Yields P ops C o v a) (he:execOp a'.eval o=execOp a.eval o)
  (hw:Region.wanted o (yielded ops a'.tmps)=Region.wanted o (yielded ops a.tmps)):Yields P ops C o v a':=by
 unfold Yields at *; rw [he,hw]; exact hy
def noExit:Exit->Act->World->Prop:=fun _ _ _=>False
/-- operation i comes up: in every world of the class it goes well, and what follows holds of a smaller class. -/
def firm (P:Program) (ops:Array Oper) (i:Nat) (K:(World->Prop)->Act->Prop) (C:World->Prop) (a:Act):Prop :=
 ∀ w,C w->match ops[i]? with
  |none=>∃ C',C' w /\ (∀ x,C' x->C x) /\ K C' a
  |some o=>if Region.wanted o (yielded ops a.tmps) then o.wp P a w (fun a' w'=>∃ C',C' w' /\ (∀ x,C' x->C x) /\ K C' a') noExit else ∃ C',C' w /\ (∀ x,C' x->C x) /\ K C' (a.put o.dst undef)
def anyM (P:Program) (md:Region.Mode) (ops:Array Oper) (Q:Act->World->Prop):Nat->Array Bool->(World->Prop)->Act->Prop
 |0,listed,C,a=>Region.ready md ops listed=[] /\ ∀ w,C w->Q a w
 |fuel + 1,listed,C,a =>
  (Region.ready md ops listed=[]->∀ w,C w->Q a w) /\
  ∀ i ∈ Region.ready md ops listed,firm P ops i (anyM P md ops Q fuel (listed.setIfInBounds i true)) C a
theorem firm_mono {i:Nat} {C:World->Prop} {a:Act} {K K':(World->Prop)->Act->Prop} (h:∀ C' a',(∀ x,C' x->C x)->K C' a'->K' C' a') (hh:firm P ops i K C a):firm P ops i K' C a:=by
 intro w hw
 have:=hh w hw
 cases ho:ops[i]? with
 |none=>simp only [ho] at this ⊢; obtain ⟨C',h1,h2,h3⟩:=this; exact ⟨C',h1,h2,h C' _ h2 h3⟩
 |some o =>
  simp only [ho] at this ⊢
  split
  ·rename_i hwt
   rw [if_pos hwt] at this
   exact Oper.wp_mono (fun a' w' ⟨C',h1,h2,h3⟩=>⟨C',h1,h2,h C' a' h2 h3⟩) this
  ·rename_i hwt
   rw [if_neg hwt] at this; obtain ⟨C',h1,h2,h3⟩:=this; exact ⟨C',h1,h2,h C' _ h2 h3⟩
theorem Yields.firm {i:Nat} {o:Oper} {v:Value} {C:World->Prop} {a:Act} (hi:ops[i]? = some o) (hy:Yields P ops C o v a) {K:(World->Prop)->Act->Prop} (h:K C (a.put o.dst v)):firm P ops i K C a:=by
 intro w hw
 simp only [hi]
 rcases hy with ⟨hwt,hv⟩ | ⟨hwt,rfl⟩
 ·rw [if_pos hwt]
  unfold Oper.wp
  rcases hv w hw with e | ⟨e,rfl⟩
  ·rw [e]; exact ⟨C,hw,fun _ h=>h,h⟩
  ·rw [e]; exact ⟨C,hw,fun _ h=>h,h⟩
 ·rw [if_neg (by rw [hwt]; exact Bool.false_ne_true)]; exact ⟨C,hw,fun _ h=>h,h⟩
theorem put_defers (a:Act) (x:Option Tmp) (v:Value) (d:Deferred):{ a.put x v with defers:=d :: (a.put x v).defers } = ({ a with defers:=d :: a.defers }:Act).put x v:=by
 cases x <;> rfl
/-- one operation 'oj', apart from 'oi': whether 'oi''s value is already in its temporary makes no difference to it, and it makes none to 'oi'. -/
theorem firm_put {j:Nat} {oi oj:Oper} {v:Value} {C:World->Prop} (hj:ops[j]? = some oj) (hap:oi.apart ops oj=true)
  (hsi:∀ cs b,oi.op ≠ .select cs b) (hsj:∀ cs b,oj.op ≠ .select cs b) {K:(World->Prop)->Act->Prop} {a:Act}
  (hy:Yields P ops C oi v a) (h:firm P ops j K C (a.put oi.dst v)) :
  firm P ops j (fun C' a'=>Yields P ops C' oi v a' /\ K C' (a'.put oi.dst v)) C a:=by
 obtain ⟨h1,h2,h3⟩:=Oper.apart_spec hap
 have keep:∀ (a:Act),Yields P ops C oi v a->∀ u,Yields P ops C oi v (a.put oj.dst u):=fun a hy u =>
  hy.same (execOp_put oi hsi a oj.dst u h3) (wanted_put oi a oj.dst u h3)
 intro w hw
 have H:=h w hw; simp only [hj] at H ⊢; rw [wanted_put oj a oi.dst v h1] at H
 split
 ·rename_i hwt
  rw [if_pos hwt] at H; unfold Oper.wp at H ⊢; rw [execOp_put oj hsj a oi.dst v h1] at H; generalize (execOp a.eval oj).run P w=r at H ⊢
  cases r with
  |ok n w' =>
   cases n <;> simp only [Oper.upon] at H ⊢
   case value u =>
    obtain ⟨C',c1,c2,c3⟩:=H
    exact ⟨C',c1,c2,(keep a hy u).sub c2,by rw [<- Act.put_comm a v u h2]; exact c3⟩
   case skip =>
    obtain ⟨C',c1,c2,c3⟩:=H
    exact ⟨C',c1,c2,(keep a hy undef).sub c2,by rw [<- Act.put_comm a v undef h2]; exact c3⟩
   case defer d =>
    obtain ⟨C',c1,c2,c3⟩:=H
    refine ⟨C',c1,c2,?_,?_⟩
    ·have hy':Yields P ops C oi v ({ a with defers:=d :: a.defers }:Act):=hy
     exact (keep _ hy' undef).sub c2
    ·rw [put_defers] at c3
     rw [<- Act.put_comm _ v undef h2]; exact c3
   case enter f args =>
    refine Calls.mono H fun e w'' he=>?_
    cases e with
    |returned u =>
     obtain ⟨C',c1,c2,c3⟩:=he
     exact ⟨C',c1,c2,(keep a hy u).sub c2,by rw [<- Act.put_comm a v u h2]; exact c3⟩
    |panicked chain=>exact he
    |outgrown=>exact he
   case row row args =>
    refine Rows.mono H fun u w'' he=>?_
    obtain ⟨C',c1,c2,c3⟩:=he
    exact ⟨C',c1,c2,(keep a hy u).sub c2,by rw [<- Act.put_comm a v u h2]; exact c3⟩
  |halt x w'=>cases x <;> simp only [Oper.upon] at H ⊢ <;> exact H
 ·rename_i hwt
  rw [if_neg hwt] at H; obtain ⟨C',c1,c2,c3⟩:=H
  exact ⟨C',c1,c2,(keep a hy undef).sub c2,by rw [<- Act.put_comm a v undef h2]; exact c3⟩
theorem anyM_first {Q:Act->World->Prop} {i:Nat} {oi:Oper} {v:Value} (hi:ops[i]? = some oi) (hsel:∀ (j:Nat) (o:Oper) cs b,ops[j]? = some o->o.op ≠ .select cs b) :
  ∀ (fuel:Nat) (listed:Array Bool) (C:World->Prop) (a:Act),
   (∀ j oj,ops[j]? = some oj->j ≠ i->listed.getD j true=false->(∀ e ∈ oj.after,Region.binds md e=true->e.on ≠ i)->oi.apart ops oj=true) ->
   i ∈ Region.ready md ops listed->Yields P ops C oi v a ->
   anyM P md ops Q fuel (listed.setIfInBounds i true) C (a.put oi.dst v)->anyM P md ops Q (fuel + 1) listed C a:=by
 intro fuel
 induction fuel with
 |zero =>
  intro listed C a _ hr hy H
  refine ⟨fun h=>(by rw [h] at hr; cases hr),fun j hj=>?_⟩
  by_cases hji:j=i
  ·subst hji; exact hy.firm hi H
  ·have:=ready_mono hj hji
   rw [H.1] at this; cases this
 |succ fuel ih =>
  intro listed C a hfree hr hy H
  refine ⟨fun h=>(by rw [h] at hr; cases hr),fun j hj=>?_⟩
  by_cases hji:j=i
  ·subst hji; exact hy.firm hi H
  ·have h1:=H.2 j (ready_mono hj hji)
   obtain ⟨hjun,oj,hoj,hall⟩:=mem_ready.1 hj
   have hnot:∀ e ∈ oj.after,Region.binds md e=true->e.on ≠ i:=fun e he hb heq=>by
    have h1:=hall e he hb; have h0:=(mem_ready.1 hr).1; rw [heq] at h1
    rcases Nat.lt_or_ge i listed.size with h' | h'
    ·simp [h'] at h0 h1; rw [h0] at h1; cases h1
    ·simp [Array.getElem?_eq_none h'] at h1
   have h2:=firm_put hoj (hfree j oj hoj hji hjun hnot) (fun cs b=>hsel i oi cs b hi) (fun cs b=>hsel j oj cs b hoj) hy h1
   have hfree':∀ k ok,ops[k]? = some ok->k ≠ i->(listed.setIfInBounds j true).getD k true=false ->
     (∀ e ∈ ok.after,Region.binds md e=true->e.on ≠ i)->oi.apart ops ok=true:=fun k ok hk hki hun hno=>by
    refine hfree k ok hk hki ?_ hno
    by_cases hjk:j=k
    ·subst hjk; exact hjun
    ·rw [getD_set_ne true hjk] at hun; exact hun
   refine firm_mono (fun C' a' _ h3=>ih (listed.setIfInBounds j true) C' a' hfree' (ready_mono hr (Ne.symm hji)) h3.1 ?_) h2
   rw [Array.setIfInBounds_comm _ _ hji]; exact h3.2
theorem wp_exits {o:Oper} {a:Act} {w:World} {K:Act->World->Prop} {Q:Exit->Act->World->Prop} (h:o.wp P a w K noExit):o.wp P a w K Q:=by
 unfold Oper.wp at *; generalize (execOp a.eval o).run P w=r at *
 cases r with
 |ok n w' =>
  cases n <;> simp only [Oper.upon] at h ⊢ <;> try exact h
  case enter f args =>
   refine Calls.mono h fun e w'' he=>?_
   cases e with
   |returned u=>exact he
   |panicked chain=>exact False.elim he
   |outgrown=>obtain ⟨_,_,hf⟩:=he; exact False.elim hf
 |halt x w'=>cases x <;> simp only [Oper.upon] at h ⊢ <;> exact False.elim h
theorem any_of_anyM {Q:Act->World->Prop} {Q':Exit->Act->World->Prop} (hQ:∀ a w,Q a w->Q' .normal a w):∀ (fuel:Nat) (listed:Array Bool) (C:World->Prop) (a:Act) (w:World),C w ->
  anyM P md ops Q fuel listed C a->wpAny P md ops Q' fuel listed a w
 |0,_,_,_,_,hw,h=>⟨h.1,hQ _ _ (h.2 _ hw)⟩
 |fuel + 1,listed,C,a,w,hw,h=>by
  refine ⟨fun h0=>hQ _ _ (h.1 h0 _ hw),fun i hi=>?_⟩
  have:=h.2 i hi w hw; unfold wpOp
  cases ho:ops[i]? with
  |none=>simp only [ho] at this ⊢; obtain ⟨C',h1,_,h3⟩:=this; exact any_of_anyM hQ fuel _ C' a w h1 h3
  |some o =>
   simp only [ho] at this ⊢
   split
   ·rename_i hwt
    rw [if_pos hwt] at this
    exact .inl (wp_exits (Oper.wp_mono (fun a' w' ⟨C',h1,_,h3⟩=>any_of_anyM hQ fuel _ C' a' w' h1 h3) this))
   ·rename_i hwt
    rw [if_neg hwt] at this; obtain ⟨C',h1,_,h3⟩:=this; exact any_of_anyM hQ fuel _ C' _ w h1 h3
/-! the order of the walk: what reads comes as soon as it can; the others where nothing else can come. -/
def plain:Op->Bool
 |.move _=>true
 |.assign _=>true
 |.load _ _=>true
 |.fieldAddr _ _ _=>true
 |.field _ _ _=>true
 |.slice _ _ _ _ _=>true
 |.indexAddr _ _ _=>true
 |.index _ _ _=>true
 |.binOp _ _ _ _ _=>true
 |.unOp _ _ _=>true
 |.build _ _=>true
 |.extract _ _=>true
 |_=>false
theorem run_value_only {s:Sem Value} {P:Program} {w w':World} {n:Next} (h:(do pure (Next.value (<- s)):Sem Next).run P w=.ok n w'):∃ v,n=.value v:=by
 simp only [Sem.run_bind] at h
 cases hs:s.run P w with
 |ok v w1=>rw [hs] at h; simp [Result.andThen] at h; exact ⟨v,h.1.symm⟩
 |halt x w1=>rw [hs] at h; simp [Result.andThen] at h
theorem plain_value {o:Oper} (h:plain o.op=true) {ρ:Operand->Value} {w w':World} {n:Next} (hr:(execOp ρ o).run P w=.ok n w'):∃ v,n=.value v:=by
 unfold execOp at hr
 cases ho:o.op <;> rw [ho] at h hr <;> first | (cases h; done) | exact run_value_only hr | (simp at hr; exact ⟨_,hr.1.symm⟩)
def segFrom (md:Region.Mode) (ops:Array Oper):List (Nat × Bool)->Array Bool->Bool
 |[],listed=>(Region.ready md ops listed).isEmpty
 | (k,true) :: rest,listed=>(Region.ready md ops listed).contains k && Region.free md ops listed k && (match ops[k]? with | some o=>plain o.op | none=>false) && segFrom md ops rest (listed.setIfInBounds k true)
 | (k,false) :: rest,listed=>Region.ready md ops listed == [k] && segFrom md ops rest (listed.setIfInBounds k true)
def mix (P:Program) (ops:Array Oper) (Q:Act->World->Prop):List (Nat × Bool)->(World->Prop)->Act->Prop
 |[],C,a=>∀ p:InC C,Q a p.w
 | (k,true) :: rest,C,a=>wpQuiet P ops (fun x=>∃ p:InC C,x=p.w) (mix P ops Q rest C) (ops[k]?.toList) a
 | (k,false) :: rest,C,a=>∀ p:InC C,wpList P ops (fun e a' w'=>e=.normal /\ ∃ C',C' w' /\ (∀ x,C' x->C x) /\ mix P ops Q rest C' a') (ops[k]?.toList) a p.w
theorem yields_of_quiet {o:Oper} {C:World->Prop} {K:Act->Prop} {a:Act} (hp:plain o.op=true) (h:wpQuiet P ops (fun x=>∃ p:InC C,x=p.w) K [o] a):∃ v,Yields P ops C o v a /\ K (a.put o.dst v):=by
 unfold wpQuiet at h
 split at h
 ·rename_i hw
  obtain ⟨v,h1,h2⟩:=h
  refine ⟨v,.inl ⟨hw,fun w hC=>?_⟩,h2⟩
  have:=h1 w ⟨⟨w,hC⟩,rfl⟩; unfold Oper.quietAt at this; generalize hr:(execOp a.eval o).run P w=r at this
  cases r with
  |ok n w' =>
   obtain ⟨u,rfl⟩:=plain_value hp hr; obtain ⟨e1,e2⟩:=this; rw [e1,e2]; exact .inl rfl
  |halt x w'=>exact False.elim this
 ·rename_i hw
  exact ⟨undef,.inr ⟨by simpa using hw,rfl⟩,h⟩
theorem anyM_mix {Q:Act->World->Prop} (hs:Region.noSelect ops=true):∀ (l:List (Nat × Bool)) (listed:Array Bool) (C:World->Prop) (a:Act),
  segFrom md ops l listed=true->mix P ops Q l C a->anyM P md ops Q l.length listed C a
 |[],listed,C,a,hB,h=>⟨by simpa [segFrom] using hB,fun w hw=>h ⟨w,hw⟩⟩
 | (k,true) :: rest,listed,C,a,hB,h=>by
  simp only [segFrom,Bool.and_eq_true] at hB; obtain ⟨⟨⟨hr,hf⟩,hp⟩,hB'⟩:=hB
  cases ho:ops[k]? with
  |none=>rw [ho] at hp; cases hp
  |some o =>
   rw [ho] at hp; unfold mix at h; rw [ho] at h; obtain ⟨v,hy,hK⟩:=yields_of_quiet hp h
   exact anyM_first ho (Region.noSelect_spec hs) rest.length listed C a (Region.free_spec ho hf) (by simpa using hr) hy (anyM_mix hs rest _ _ _ hB' hK)
 | (k,false) :: rest,listed,C,a,hB,h=>by
  simp only [segFrom,Bool.and_eq_true,beq_iff_eq] at hB; obtain ⟨hr,hB'⟩:=hB
  refine ⟨fun h0=>(by rw [hr] at h0; cases h0),fun i hi w hw=>?_⟩
  rw [hr,List.mem_singleton] at hi; subst hi; have H:=h ⟨w,hw⟩
  have hir:i ∈ Region.ready md ops listed:=by rw [hr]; simp
  obtain ⟨_,o,ho,_⟩:=mem_ready.1 hir; rw [ho] at H ⊢; simp only [Option.toList_some] at H ⊢; unfold wpList at H
  split
  ·rename_i hwt
   rw [if_pos hwt] at H
   rcases H with H | ⟨_,hl⟩
   ·refine Oper.wp_mono (fun a' w' hK=>?_) (o:=o) (Q:=noExit) (K:=fun a' w'=>wpList P ops (fun e a' w'=>e=.normal /\ ∃ C',C' w' /\ (∀ x,C' x->C x) /\ mix P ops Q rest C' a') [] a' w') ?_
    ·obtain ⟨_,C',h1,h2,h3⟩:=hK
     exact ⟨C',h1,h2,anyM_mix hs rest _ _ _ hB' h3⟩
    ·unfold Oper.wp at H ⊢
     generalize (execOp a.eval o).run P w=r at H ⊢
     cases r with
     |ok n w' =>
      cases n <;> simp only [Oper.upon] at H ⊢ <;> try exact H
      case enter f args =>
       refine Calls.mono H fun e w'' he=>?_
       cases e with
       |returned u=>exact he
       |panicked chain=>cases he.1
       |outgrown=>obtain ⟨_,_,he,_⟩:=he; cases he
     |halt x w'=>cases x <;> simp only [Oper.upon] at H ⊢ <;> first | exact H | cases H.1
   ·obtain ⟨_,_,he,_⟩:=hl
    cases he
  ·rename_i hwt
   rw [if_neg hwt] at H; obtain ⟨_,C',h1,h2,h3⟩:=H; exact ⟨C',h1,h2,anyM_mix hs rest _ _ _ hB' h3⟩
theorem mix_end {Q:Act->World->Prop} {C:World->Prop} {a:Act} (h:∀ p:InC C,Q a p.w):mix P ops Q [] C a:=h
/-- the k-th of a list that is written out. -/
def nth:List Oper->Nat->Option Oper
 |[],_=>none
 |o :: _,0=>some o
 |_ :: l,k + 1=>nth l k
theorem nth_eq:∀ (l:List Oper) (k:Nat),l.toArray[k]? = nth l k
 |[],k=>by simp [nth]
 |o :: l,0=>by simp [nth]
 |o :: l,k + 1=>by
  have:=nth_eq l k
  simp only [List.getElem?_toArray] at this ⊢
  simpa [nth] using this
theorem mix_still {Q:Act->World->Prop} {C:World->Prop} {a:Act} {k:Nat} {rest:List (Nat × Bool)} {o:Oper} {l:List Oper} (ho:nth l k=some o) (h:wpQuiet P l.toArray (fun x=>∃ p:InC C,x=p.w) (mix P l.toArray Q rest C) [o] a):mix P l.toArray Q ((k,true) :: rest) C a:=by
 unfold mix; rw [nth_eq,ho]; exact h
theorem mix_main {Q:Act->World->Prop} {C:World->Prop} {a:Act} {k:Nat} {rest:List (Nat × Bool)} {o:Oper} {l:List Oper} (ho:nth l k=some o) (h:∀ p:InC C,wpList P l.toArray (fun e a' w'=>e=.normal /\ ∃ C',C' w' /\ (∀ x,C' x->C x) /\ mix P l.toArray Q rest C' a') [o] a p.w):mix P l.toArray Q ((k,false) :: rest) C a:=by
 unfold mix; rw [nth_eq,ho]; exact h
theorem wp_region_mix {id:Nat} {Q:Exit->Act->World->Prop} {a:Act} {w:World} {l:List Oper} (order:List (Nat × Bool)) (C:World->Prop) (hm:P.follows .mixedOrders=true)
  (hB:(Region.noSelect l.toArray && order.length == l.toArray.size && segFrom .any l.toArray order (Array.replicate l.toArray.size false))=true) (hC:C { w with drawn:=w.drawn + 1 })
  (h:mix P l.toArray (Q .normal) order C a):(Code.region id l.toArray true).wp P Q a w:=by
 simp only [Bool.and_eq_true,beq_iff_eq] at hB; obtain ⟨⟨h1,h2⟩,h3⟩:=hB
 refine wp_region_any hm ?_
 have:=anyM_mix h1 order _ C a h3 h; rw [h2] at this
 exact any_of_anyM (fun _ _ h=>h) _ _ C a _ hC this
end
end Go.Proofs.YtpkbiafhnflmnaaGreatDoor.Mix
namespace Go.Proofs.YtpkbiafhnflmnaaGreatDoor.Bk
open Go.RowKit Go.Sort Go.Maps Go.Proofs.YtpkbiafhnflmnaaGreatDoor.Mix
theorem new_cell (w:World) (cs:Array Value) (t:TypeId) (i:Nat) (v:Value) (h:cs[i]? = some v):(w.alloc (.cells cs t)).cell? ⟨w.heap.size,i,none⟩ = some v:=by
 rw [World.cell?_alloc_at _ _ _ _ (by simp)]
 exact h
theorem new_cell2 (w:World) (o:Obj) (cs:Array Value) (t:TypeId) (i:Nat) (v:Value) (h:cs[i]? = some v):((w.alloc o).alloc (.cells cs t)).cell? ⟨w.heap.size + 1,i,none⟩ = some v:=by
 have:=new_cell (w.alloc o) cs t i v h
 simpa using this
theorem below_drawn (w:World):Below w.heap.size w { w with drawn:=w.drawn + 1 }:=⟨rfl,rfl,rfl,Nat.le_refl _,fun _ _=>rfl⟩
theorem may_book {bids asks:List Odr} {o:Odr} (h:¬ bookErr bids asks=0):mayRest bids asks o=bookErr bids asks:=by unfold mayRest; rw [if_pos h]
theorem may_twice {bids asks:List Odr} {o:Odr} (h:bookErr bids asks=0) (h1:(bids.any (hasId (oid o)) || asks.any (hasId (oid o)))=true):mayRest bids asks o=6:=by unfold mayRest; rw [if_neg (fun e=>e h),if_pos h1]
theorem may_order {bids asks:List Odr} {o:Odr} (h:bookErr bids asks=0) (h1:(bids.any (hasId (oid o)) || asks.any (hasId (oid o)))=false) (h2:¬ okOrder o=0):mayRest bids asks o=okOrder o:=by
 unfold mayRest; rw [if_neg (fun e=>e h),if_neg (by rw [h1]; exact Bool.false_ne_true),if_pos h2]
theorem may_full {bids asks:List Odr} {o:Odr} (h:bookErr bids asks=0) (h1:(bids.any (hasId (oid o)) || asks.any (hasId (oid o)))=false) (h2:okOrder o=0) (h3:40<=bids.length + asks.length):mayRest bids asks o=7:=by
 unfold mayRest; rw [if_neg (fun e=>e h),if_neg (by rw [h1]; exact Bool.false_ne_true),if_neg (fun e=>e h2),if_pos h3]
theorem may_post {bids asks:List Odr} {o:Odr} (h:bookErr bids asks=0) (h1:(bids.any (hasId (oid o)) || asks.any (hasId (oid o)))=false) (h2:okOrder o=0) (h3:¬ 40<=bids.length + asks.length) (t:Bool) (h4:crosses o (if osd o = -1 then bids else asks)=t):mayRest bids asks o=if t=true then 9 else 0:=by
 unfold mayRest; rw [if_neg (fun e=>e h),if_neg (by rw [h1]; exact Bool.false_ne_true),if_neg (fun e=>e h2),if_neg h3,h4]
/-- a class that what only grows does not leave. -/
def Shut (C:World->Prop):Prop:=∀ x y,C x->Below x.heap.size x y->C y
theorem shut_below (w:World):Shut (fun x=>Below w.heap.size w x):=fun _ _ hx hy=>hx.trans (hy.mono hx.size)
/-- a class made smaller: what has grown out of w. -/
def From (C:World->Prop) (w:World):World->Prop:=fun x=>C x /\ Below w.heap.size w x
theorem from_shut {C:World->Prop} (h:Shut C) (w:World):Shut (From C w):=fun x y hx hy=>⟨h x y hx.1 hy,hx.2.trans (hy.mono hx.2.size)⟩
theorem from_self {C:World->Prop} {w:World} (h:C w):From C w w:=⟨h,Below.refl _ _⟩
theorem from_cell {C:World->Prop} {w x:World} (h:From C w x) {a:Addr} {v:Value} (hc:w.cell? a=some v):x.cell? a=some v:=(h.2.cell (World.block_lt_of_cell? _ _ hc)).trans hc
set_option maxHeartbeats 2000000 in
set_option maxRecDepth 100000 in
theorem mayRest_any (p p':Option Addr) (c c':Nat) (bids asks:List Odr) (a ac sd pr q:Int) (w:World) (h:ORow w p bids) (h':ORow w p' asks) (hn:bids.length<=140737488351232) (hn':asks.length<=140737488351232) :
  Calls Tryz.prog 141 #[.agg #[.slice p bids.length c,.slice p' asks.length c'],.agg #[.int .i64 a,.int .i64 ac,.int .i64 sd,.int .i64 pr,.int .i64 q]] w fun e w'=>e=.returned (.int .i64 (mayRest bids asks (a,ac,sd,pr,q))) /\ Below w.heap.size w w':=by
 have mixed:Tryz.prog.follows .mixedOrders=true:=by kernel_rfl
 generalize hr:mayRest bids asks (a,ac,sd,pr,q)=r; have R:=hide hr; clear hr; have H:=hide h; have H':=hide h'; clear h h'
 go_enter Tryz.func141,Tryz.ntmps141
 go_wp2_with fail
 refine (check_any p p' c c' bids asks _ (orow_below H.out (((Below.refl _ w).alloc (Nat.le_refl _) _).alloc (by simp) _)) (orow_below H'.out (((Below.refl _ w).alloc (Nat.le_refl _) _).alloc (by simp) _)) hn hn').mono ?_
 rintro e W2 ⟨rfl,hb⟩
 have B2:Hid (Below w.heap.size w W2):=hide ((((Below.refl _ w).alloc (Nat.le_refl _) _).alloc (by simp) _).trans (hb.mono (by simp; omega)))
 have hsz:Hid (w.heap.size + 1 < W2.heap.size):=by have:=hb.size; simp at this; exact (by omega:w.heap.size + 1 < W2.heap.size)
 have e0:W2.cell? ⟨w.heap.size,0,none⟩ = some (.slice p bids.length c):=(hb.cell (by simp; omega)).trans (cell_alloc (new_cell _ _ _ _ _ rfl) _)
 have e1:W2.cell? ⟨w.heap.size,1,none⟩ = some (.slice p' asks.length c'):=(hb.cell (by simp; omega)).trans (cell_alloc (new_cell _ _ _ _ _ rfl) _)
 have f0:W2.cell? ⟨w.heap.size + 1,0,none⟩ = some (.int .i64 a):=(hb.cell (by simp)).trans (new_cell2 _ _ _ _ _ _ rfl)
 have f1:W2.cell? ⟨w.heap.size + 1,1,none⟩ = some (.int .i64 ac):=(hb.cell (by simp)).trans (new_cell2 _ _ _ _ _ _ rfl)
 have f2:W2.cell? ⟨w.heap.size + 1,2,none⟩ = some (.int .i64 sd):=(hb.cell (by simp)).trans (new_cell2 _ _ _ _ _ _ rfl)
 have f3:W2.cell? ⟨w.heap.size + 1,3,none⟩ = some (.int .i64 pr):=(hb.cell (by simp)).trans (new_cell2 _ _ _ _ _ _ rfl)
 have f4:W2.cell? ⟨w.heap.size + 1,4,none⟩ = some (.int .i64 q):=(hb.cell (by simp)).trans (new_cell2 _ _ _ _ _ _ rfl)
 clear hb
 by_cases hbk:bookErr bids asks=0
 ·have hfew:=(bookErr_zero.1 hbk).few
  have M2:=hide (fun h1=>R.out.symm.trans (may_twice (o:=(a,ac,sd,pr,q)) hbk h1))
  have M3:=hide (fun h1 h2=>R.out.symm.trans (may_order (o:=(a,ac,sd,pr,q)) hbk h1 h2))
  have M4:=hide (fun h1 h2 h3=>R.out.symm.trans (may_full (o:=(a,ac,sd,pr,q)) hbk h1 h2 h3))
  have M5:=hide (fun h1 h2 h3 t h4=>R.out.symm.trans (may_post (o:=(a,ac,sd,pr,q)) hbk h1 h2 h3 t h4))
  rw [hbk]; clear hbk
  have hC:∀ p1:InC (fun x=>Below W2.heap.size W2 x),∀ x v,W2.cell? x=some v->p1.w.cell? x=some v:=fun p1 x v hx=>(p1.h.cell (World.block_lt_of_cell? _ _ hx)).trans hx
  generalize hCC:(fun x=>Below W2.heap.size W2 x)=C at hC
  have g0:=fun p1=>hC p1 _ _ e0
  have g1:=fun p1=>hC p1 _ _ e1
  have g2:=fun p1=>hC p1 _ _ f0
  have CE:=hide hCC; clear hCC hC; generalize hnb:bids.length=nb at hn hfew e0 g0 ⊢; generalize hna:asks.length=na at hn' hfew e1 g1 ⊢; have NB:=hide hnb; have NA:=hide hna; clear hnb hna
  go_wp2_with fail
  refine wp_region_mix [(0,true),(1,true),(2,true),(3,true),(4,false),(5,false),(6,true),(7,true),(8,true),(9,true),(10,true),(11,false),(12,false),(13,false)] C mixed (by kernel_rfl) (by rw [<- CE.out]; exact below_drawn W2) ?_
  repeat (refine mix_still (by rfl) ?_; go_big_quiet_step (exact rfl); refine wpQuiet_nil ?_)
  have CS:Hid (Shut C):=by rw [<- CE.out]; exact shut_below W2
  have CW:Hid (∀ x,C x->Below w.heap.size w x):=fun x hx=>by rw [<- CE.out] at hx; exact B2.out.trans (hx.mono B2.out.size)
  refine mix_main (by rfl) ?_
  rintro ⟨x1,hx1⟩
  go_wp2_with (go_at_call 57; refine (hasID_any _ _).mono ?_; rintro e w' ⟨rfl,rfl⟩)
  have hC1:C (x1.alloc (.cells #[.int .i64 a] 3)):=CS.out x1 _ hx1 ((Below.refl _ _).alloc (Nat.le_refl _) _)
  refine ⟨From C (x1.alloc (.cells #[.int .i64 a] 3)),from_self hC1,fun x hx=>hx.1,?_⟩
  have CS1:=hide (from_shut CS.out (x1.alloc (.cells #[.int .i64 a] 3)))
  have K1:Hid (∀ x,From C (x1.alloc (.cells #[.int .i64 a] 3)) x->C x /\ x.cell? ⟨x1.heap.size,0,none⟩ = some (.int .i64 a)):=fun x hx=>⟨hx.1,from_cell hx (new_cell _ _ _ _ _ rfl)⟩
  generalize From C (x1.alloc (.cells #[.int .i64 a] 3))=C1 at CS1 K1 ⊢
  have g3:=fun p1:InC C1=>g1 ⟨p1.w,(K1.out p1.w p1.h).1⟩
  have g4:=fun p1:InC C1=>g2 ⟨p1.w,(K1.out p1.w p1.h).1⟩
  dsimp only at g3 g4; generalize x1.heap.size=bx at K1 ⊢; clear g0 g1 g2 hC1 hx1 x1
  refine mix_main (by rfl) ?_
  rintro ⟨x2,hx2⟩
  have hcon:=containsFunc_any p c bids a bx x2 (by rw [NB.out]; exact hn) (orow_below H.out (CW.out x2 (K1.out x2 hx2).1)) (K1.out x2 hx2).2
  rw [NB.out] at hcon
  cases ht1:bids.any (hasId a) with
  |true =>
   rw [ht1] at hcon
   go_wp2_with (go_at_call 25; refine hcon.mono ?_; rintro e w' ⟨rfl,hb'⟩)
   refine ⟨C1,CS1.out x2 _ hx2 hb',fun _ h=>h,?_⟩
   repeat (refine mix_still (by rfl) ?_; go_big_quiet_step (exact rfl); refine wpQuiet_nil ?_)
   refine mix_main (by rfl) ?_
   rintro ⟨x3,hx3⟩
   go_wp2
   refine ⟨C1,hx3,fun _ h=>h,?_⟩
   refine mix_main (by rfl) ?_
   rintro ⟨x4,hx4⟩
   go_wp2
   refine ⟨C1,hx4,fun _ h=>h,?_⟩
   refine mix_main (by rfl) ?_
   rintro ⟨x5,hx5⟩
   go_wp2
   refine ⟨C1,hx5,fun _ h=>h,?_⟩
   refine mix_end ?_
   rintro ⟨x6,hx6⟩
   dsimp only; have BX:=hide (CW.out x6 (K1.out x6 hx6).1)
   go_wp2
   go_ret
   exact ⟨by rw [M2.out (by dsimp only [oid]; rw [ht1]; rfl)]; rfl,BX.out⟩
  |false =>
   rw [ht1] at hcon
   go_wp2_with (go_at_call 25; refine hcon.mono ?_; rintro e w' ⟨rfl,hb'⟩)
   refine ⟨C1,CS1.out x2 _ hx2 hb',fun _ h=>h,?_⟩
   repeat (refine mix_still (by rfl) ?_; go_big_quiet_step (exact rfl); refine wpQuiet_nil ?_)
   refine mix_main (by rfl) ?_
   rintro ⟨x3,hx3⟩
   go_wp2_with (go_at_call 57; refine (hasID_any _ _).mono ?_; rintro e w' ⟨rfl,rfl⟩)
   have hC1:C1 (x3.alloc (.cells #[.int .i64 a] 3)):=CS1.out x3 _ hx3 ((Below.refl _ _).alloc (Nat.le_refl _) _)
   refine ⟨From C1 (x3.alloc (.cells #[.int .i64 a] 3)),from_self hC1,fun x hx=>hx.1,?_⟩
   have CS2:=hide (from_shut CS1.out (x3.alloc (.cells #[.int .i64 a] 3)))
   have K2:Hid (∀ x,From C1 (x3.alloc (.cells #[.int .i64 a] 3)) x->C x /\ x.cell? ⟨x3.heap.size,0,none⟩ = some (.int .i64 a)):=fun x hx=>⟨(K1.out x hx.1).1,from_cell hx (new_cell _ _ _ _ _ rfl)⟩
   generalize From C1 (x3.alloc (.cells #[.int .i64 a] 3))=C2 at CS2 K2 ⊢; generalize x3.heap.size=by3 at K2 ⊢; clear g3 g4 hC1 hx3 x3 hx2 hcon hb' x2
   refine mix_main (by rfl) ?_
   rintro ⟨x4,hx4⟩
   have hcon:=containsFunc_any p' c' asks a by3 x4 (by rw [NA.out]; exact hn') (orow_below H'.out (CW.out x4 (K2.out x4 hx4).1)) (K2.out x4 hx4).2
   rw [NA.out] at hcon
   cases ht2:asks.any (hasId a) with
   |true =>
    rw [ht2] at hcon
    go_wp2_with (go_at_call 25; refine hcon.mono ?_; rintro e w' ⟨rfl,hb'⟩)
    refine ⟨C2,CS2.out x4 _ hx4 hb',fun _ h=>h,?_⟩
    refine mix_main (by rfl) ?_
    rintro ⟨x5,hx5⟩
    go_wp2
    refine ⟨C2,hx5,fun _ h=>h,?_⟩
    refine mix_end ?_
    rintro ⟨x6,hx6⟩
    dsimp only; have BX:=hide (CW.out x6 (K2.out x6 hx6).1)
    go_wp2
    go_ret
    exact ⟨by rw [M2.out (by dsimp only [oid]; rw [ht1,ht2]; rfl)]; rfl,BX.out⟩
   |false =>
    rw [ht2] at hcon
    go_wp2_with (go_at_call 25; refine hcon.mono ?_; rintro e w' ⟨rfl,hb'⟩)
    refine ⟨C2,CS2.out x4 _ hx4 hb',fun _ h=>h,?_⟩
    refine mix_main (by rfl) ?_
    rintro ⟨x5,hx5⟩
    go_wp2
    refine ⟨C2,hx5,fun _ h=>h,?_⟩
    refine mix_end ?_
    rintro ⟨x6,hx6⟩
    dsimp only; have hx6':=(K2.out x6 hx6).1; rw [<- CE.out] at hx6'; have BX:=hide (CW.out x6 (K2.out x6 hx6).1)
    have hany:(bids.any (hasId (oid (a,ac,sd,pr,q))) || asks.any (hasId (oid (a,ac,sd,pr,q))))=false:=by dsimp only [oid]; rw [ht1,ht2]; rfl
    have k0:x6.cell? ⟨w.heap.size,0,none⟩ = some (.slice p nb c):=(hx6'.cell (World.block_lt_of_cell? _ _ e0)).trans e0; have k1:x6.cell? ⟨w.heap.size,1,none⟩ = some (.slice p' na c'):=(hx6'.cell (World.block_lt_of_cell? _ _ e1)).trans e1; have n0:x6.cell? ⟨w.heap.size + 1,0,none⟩ = some (.int .i64 a):=(hx6'.cell (World.block_lt_of_cell? _ _ f0)).trans f0; have n1:x6.cell? ⟨w.heap.size + 1,1,none⟩ = some (.int .i64 ac):=(hx6'.cell (World.block_lt_of_cell? _ _ f1)).trans f1; have n2:x6.cell? ⟨w.heap.size + 1,2,none⟩ = some (.int .i64 sd):=(hx6'.cell (World.block_lt_of_cell? _ _ f2)).trans f2; have n3:x6.cell? ⟨w.heap.size + 1,3,none⟩ = some (.int .i64 pr):=(hx6'.cell (World.block_lt_of_cell? _ _ f3)).trans f3; have n4:x6.cell? ⟨w.heap.size + 1,4,none⟩ = some (.int .i64 q):=(hx6'.cell (World.block_lt_of_cell? _ _ f4)).trans f4; clear e0 e1 f0 f1 f2 f3 f4 hx6' hx6 hcon hx4 hx5 hb' K1 K2 CS CS1 CS2 CE CW; have HANY:=hide hany; clear hany
    go_wp2_with fail
    refine (checkOrder_grow _ _ _ _ _ _).mono ?_
    rintro e x7 ⟨rfl,q1,os1,hw⟩
    have B7:Below x6.heap.size x6 x7:=by rw [hw]; exact grow_below _ _ _
    have B7':=hide (BX.out.trans (B7.mono BX.out.size)); have k0':x7.cell? ⟨w.heap.size,0,none⟩ = some (.slice p nb c):=(B7.cell (World.block_lt_of_cell? _ _ k0)).trans k0; have k1':x7.cell? ⟨w.heap.size,1,none⟩ = some (.slice p' na c'):=(B7.cell (World.block_lt_of_cell? _ _ k1)).trans k1; have n0':x7.cell? ⟨w.heap.size + 1,0,none⟩ = some (.int .i64 a):=(B7.cell (World.block_lt_of_cell? _ _ n0)).trans n0; have n1':x7.cell? ⟨w.heap.size + 1,1,none⟩ = some (.int .i64 ac):=(B7.cell (World.block_lt_of_cell? _ _ n1)).trans n1; have n2':x7.cell? ⟨w.heap.size + 1,2,none⟩ = some (.int .i64 sd):=(B7.cell (World.block_lt_of_cell? _ _ n2)).trans n2; have n3':x7.cell? ⟨w.heap.size + 1,3,none⟩ = some (.int .i64 pr):=(B7.cell (World.block_lt_of_cell? _ _ n3)).trans n3; have n4':x7.cell? ⟨w.heap.size + 1,4,none⟩ = some (.int .i64 q):=(B7.cell (World.block_lt_of_cell? _ _ n4)).trans n4; clear hw B7 k0 k1 n0 n1 n2 n3 n4 BX M2
    by_cases hok:okOrder (a,ac,sd,pr,q)=0
    ·have M4':=hide (fun h3=>M4.out HANY.out hok h3)
     have M5':=hide (fun h3 t h4=>M5.out HANY.out hok h3 t h4)
     rw [hok]; clear M3 M4 M5 hok
     go_wp2_with fail
     refine (count_any _ _ _ _ _ _ _ (by omega) (by omega)).mono ?_
     rintro e x8 ⟨rfl,q2,os2,hw⟩
     have B8:Below x7.heap.size x7 x8:=by rw [hw]; exact grow_below _ _ _
     have B8':=hide (B7'.out.trans (B8.mono B7'.out.size)); have k0:x8.cell? ⟨w.heap.size,0,none⟩ = some (.slice p nb c):=(B8.cell (World.block_lt_of_cell? _ _ k0')).trans k0'; have k1:x8.cell? ⟨w.heap.size,1,none⟩ = some (.slice p' na c'):=(B8.cell (World.block_lt_of_cell? _ _ k1')).trans k1'; have n0:x8.cell? ⟨w.heap.size + 1,0,none⟩ = some (.int .i64 a):=(B8.cell (World.block_lt_of_cell? _ _ n0')).trans n0'; have n1:x8.cell? ⟨w.heap.size + 1,1,none⟩ = some (.int .i64 ac):=(B8.cell (World.block_lt_of_cell? _ _ n1')).trans n1'; have n2:x8.cell? ⟨w.heap.size + 1,2,none⟩ = some (.int .i64 sd):=(B8.cell (World.block_lt_of_cell? _ _ n2')).trans n2'; have n3:x8.cell? ⟨w.heap.size + 1,3,none⟩ = some (.int .i64 pr):=(B8.cell (World.block_lt_of_cell? _ _ n3')).trans n3'; have n4:x8.cell? ⟨w.heap.size + 1,4,none⟩ = some (.int .i64 q):=(B8.cell (World.block_lt_of_cell? _ _ n4')).trans n4'; clear hw B8 k0' k1' n0' n1' n2' n3' n4' B7'
     by_cases hfull:40<=nb + na
     ·have hf2:(40:Int)<=(nb:Int) + (na:Int):=by omega
      go_wp2
      go_ret
      exact ⟨by rw [M4'.out (by rw [NB.out,NA.out]; exact hfull)]; rfl,B8'.out⟩
     ·have hf2:¬ (40:Int)<=(nb:Int) + (na:Int):=by omega
      have M6:=hide (fun t h4=>M5'.out (by rw [NB.out,NA.out]; exact hfull) t h4)
      clear M5' M4'
      by_cases hsd:sd = -1
      ·have hcon:=crossesBest_any a ac sd pr q p c bids x8 (orow_below H.out B8'.out)
       rw [NB.out] at hcon
       have hsb:(sd == -1)=true:=by simp [hsd]
       have M7:=hide (fun t h4=>M6.out t (by dsimp only [osd]; rw [if_pos hsd]; exact h4))
       clear hsd
       cases ht:crosses (a,ac,sd,pr,q) bids with
       |true =>
        rw [ht] at hcon; have hr9:=M7.out true ht
        go_wp2_with (go_at_call 94; refine hcon.mono ?_; rintro e w' ⟨rfl,q3,os3,rfl⟩)
        go_ret
        exact ⟨by rw [hr9]; rfl,B8'.out.trans ((grow_below x8 q3 os3).mono B8'.out.size)⟩
       |false =>
        rw [ht] at hcon; have hr9:=M7.out false ht
        go_wp2_with (go_at_call 94; refine hcon.mono ?_; rintro e w' ⟨rfl,q3,os3,rfl⟩)
        go_ret
        exact ⟨by rw [hr9]; rfl,B8'.out.trans ((grow_below x8 q3 os3).mono B8'.out.size)⟩
      ·have hcon:=crossesBest_any a ac sd pr q p' c' asks x8 (orow_below H'.out B8'.out)
       rw [NA.out] at hcon
       have hsb:(sd == -1)=false:=by simp [hsd]
       have M7:=hide (fun t h4=>M6.out t (by dsimp only [osd]; rw [if_neg hsd]; exact h4))
       clear hsd
       cases ht:crosses (a,ac,sd,pr,q) asks with
       |true =>
        rw [ht] at hcon; have hr9:=M7.out true ht
        go_wp2_with (go_at_call 94; refine hcon.mono ?_; rintro e w' ⟨rfl,q3,os3,rfl⟩)
        go_ret
        exact ⟨by rw [hr9]; rfl,B8'.out.trans ((grow_below x8 q3 os3).mono B8'.out.size)⟩
       |false =>
        rw [ht] at hcon; have hr9:=M7.out false ht
        go_wp2_with (go_at_call 94; refine hcon.mono ?_; rintro e w' ⟨rfl,q3,os3,rfl⟩)
        go_ret
        exact ⟨by rw [hr9]; rfl,B8'.out.trans ((grow_below x8 q3 os3).mono B8'.out.size)⟩
    ·have hr1:=M3.out HANY.out hok
     generalize okOrder (a,ac,sd,pr,q)=eo at hok hr1 ⊢
     go_wp2
     go_ret
     exact ⟨by rw [hr1]; rfl,B7'.out⟩
 ·have hr1:=R.out.symm.trans (may_book (o:=(a,ac,sd,pr,q)) hbk)
  generalize bookErr bids asks=eb at hbk hr1 ⊢; clear R
  go_wp2
  go_ret
  exact ⟨by rw [hr1]; rfl,B2.out⟩
end Go.Proofs.YtpkbiafhnflmnaaGreatDoor.Bk
