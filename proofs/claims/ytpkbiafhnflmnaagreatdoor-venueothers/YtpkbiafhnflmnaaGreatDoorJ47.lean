/-
  VenueOthers, walked.
-/
import Derived.Test.YtpkbiafhnflmnaaGreatDoorJ46
import Derived.Test.YtpkbiafhnflmnaaGreatDoorJ19
namespace Go.Proofs.YtpkbiafhnflmnaaGreatDoor.Vn
open Go.RowKit Go.Proofs.YtpkbiafhnflmnaaGreatDoor.Num Go.Proofs.YtpkbiafhnflmnaaGreatDoor.Fix Go.Proofs.YtpkbiafhnflmnaaGreatDoor.AcP Go.Proofs.YtpkbiafhnflmnaaGreatDoor.FuP Go.Proofs.YtpkbiafhnflmnaaGreatDoor.Bk Go.Proofs.YtpkbiafhnflmnaaGreatDoor.Rm Go.Proofs.YtpkbiafhnflmnaaGreatDoor.Ac Go.Sort Go.Maps Go.Proofs.YtpkbiafhnflmnaaGreatDoor.Mix Go.Proofs.YtpkbiafhnflmnaaGreatDoor.RkP
/-- the place of the first one that P says yes of, counted from k. -/
def idxP {α:Type} (P:α->Bool):List α->Nat->Int
  | [],_=>-1
  | x :: l,k=>if P x=true then (k:Int) else idxP P l (k + 1)
theorem idxP_at {α:Type} (P:α->Bool) {xs:List α} {k:Nat} (h:k < xs.length):idxP P (xs.drop k) k=if P (xs[k]'h)=true then (k:Int) else idxP P (xs.drop (k + 1)) (k + 1):=by
  rw [List.drop_eq_getElem_cons h,idxP]
theorem idxP_ways {α:Type} (P:α->Bool):∀ (xs:List α) (k:Nat),(idxP P xs k = -1 /\ ∀ x,x ∈ xs->P x=false) \/ ∃ j,∃ h:j < xs.length,idxP P xs k=((k + j:Nat):Int) /\ P (xs[j]'h)=true /\ ∀ i (hi:i < j),P (xs[i]'(Nat.lt_trans hi h))=false
  | [],k=>.inl ⟨rfl,by simp⟩
  | o :: l,k=>by
    unfold idxP
    by_cases he:P o=true
    · refine .inr ⟨0,by simp,?_,by simpa using he,fun i hi=>by omega⟩
      rw [if_pos he]; rfl
    · rw [if_neg he]
      rcases idxP_ways P l (k + 1) with ⟨h1,h2⟩ | ⟨j,h,h1,h2,h3⟩
      · refine .inl ⟨h1,fun x hx=>?_⟩
        rcases List.mem_cons.1 hx with rfl | hx
        · simpa using he
        · exact h2 x hx
      · refine .inr ⟨j + 1,by simp; omega,?_,by simpa using h2,fun i hi=>?_⟩
        · rw [h1]; congr 1; omega
        · cases i with
          | zero=>simpa using he
          | succ i=>simpa using h3 i (by omega)
theorem idxP_any {α:Type} (P:α->Bool) (xs:List α):decide (0<=idxP P xs 0)=xs.any P:=by
  rcases idxP_ways P xs 0 with ⟨h1,h2⟩ | ⟨j,h,h1,h2,-⟩
  · rw [h1]
    have:xs.any P=false:=by
      rw [List.any_eq_false]; intro x hx; simp [h2 x hx]
    rw [this]; rfl
  · rw [h1]
    have:xs.any P=true:=by
      rw [List.any_eq_true]; exact ⟨_,List.getElem_mem h,h2⟩
    rw [this]; simp
set_option maxRecDepth 100000 in
theorem accIdx_none (p:Option Addr) (c:Nat) (f:Value) (w:World) :
    Calls Tryz.prog 16 #[.slice p 0 c,f] w fun e w'=>e=.returned (.int .i64 (-1)) /\ w'=w:=by
  go_enter Tryz.func16,Tryz.ntmps16
  go_wp2
  refine wp_loop_rounds 1 ?_
  rw [rounds_succ]
  go_wp2
  go_ret
  exact ⟨rfl,rfl⟩
theorem erow_cells {w:World} {b off:Nat} {A:List Ev} (hc:∀ j u,(flatE A)[j]? = some u->w.cell? ⟨b,off + j,none⟩ = some u) {k:Nat} (hk:k < A.length) :
    w.cell? ⟨b,off + k * 13,none⟩ = some (.int .i64 (A[k]'hk).1) /\ w.cell? ⟨b,off + k * 13 + 1,none⟩ = some (.int .i64 (A[k]'hk).2.1) /\ w.cell? ⟨b,off + k * 13 + 2,none⟩ = some (.int .i64 (A[k]'hk).2.2.1) /\ w.cell? ⟨b,off + k * 13 + 3,none⟩ = some (.int .i64 (A[k]'hk).2.2.2.1) /\ w.cell? ⟨b,off + k * 13 + 4,none⟩ = some (.int .i64 (A[k]'hk).2.2.2.2.1) /\ w.cell? ⟨b,off + k * 13 + 5,none⟩ = some (.int .i64 (A[k]'hk).2.2.2.2.2.1) /\ w.cell? ⟨b,off + k * 13 + 6,none⟩ = some (.int .i64 (A[k]'hk).2.2.2.2.2.2.1) /\ w.cell? ⟨b,off + k * 13 + 7,none⟩ = some (.int .i64 (A[k]'hk).2.2.2.2.2.2.2.1) /\ w.cell? ⟨b,off + k * 13 + 8,none⟩ = some (.int .i64 (A[k]'hk).2.2.2.2.2.2.2.2.1) /\ w.cell? ⟨b,off + k * 13 + 9,none⟩ = some (.int .i64 (A[k]'hk).2.2.2.2.2.2.2.2.2.1) /\ w.cell? ⟨b,off + k * 13 + 10,none⟩ = some (.int .i64 (A[k]'hk).2.2.2.2.2.2.2.2.2.2.1) /\ w.cell? ⟨b,off + k * 13 + 11,none⟩ = some (.int .i64 (A[k]'hk).2.2.2.2.2.2.2.2.2.2.2.1) /\ w.cell? ⟨b,off + k * 13 + 12,none⟩ = some (.int .i64 (A[k]'hk).2.2.2.2.2.2.2.2.2.2.2.2):=by
  have h0:=flat_get encE_len A k hk 0 (by omega)
  have h1:=flat_get encE_len A k hk 1 (by omega)
  have h2:=flat_get encE_len A k hk 2 (by omega)
  have h3:=flat_get encE_len A k hk 3 (by omega)
  have h4:=flat_get encE_len A k hk 4 (by omega)
  have h5:=flat_get encE_len A k hk 5 (by omega)
  have h6:=flat_get encE_len A k hk 6 (by omega)
  have h7:=flat_get encE_len A k hk 7 (by omega)
  have h8:=flat_get encE_len A k hk 8 (by omega)
  have h9:=flat_get encE_len A k hk 9 (by omega)
  have h10:=flat_get encE_len A k hk 10 (by omega)
  have h11:=flat_get encE_len A k hk 11 (by omega)
  have h12:=flat_get encE_len A k hk 12 (by omega)
  exact ⟨hc (k * 13) _ h0,hc (k * 13 + 1) _ h1,hc (k * 13 + 2) _ h2,hc (k * 13 + 3) _ h3,hc (k * 13 + 4) _ h4,hc (k * 13 + 5) _ h5,hc (k * 13 + 6) _ h6,hc (k * 13 + 7) _ h7,hc (k * 13 + 8) _ h8,hc (k * 13 + 9) _ h9,hc (k * 13 + 10) _ h10,hc (k * 13 + 11) _ h11,hc (k * 13 + 12) _ h12⟩
set_option maxRecDepth 100000 in
theorem evIdx_none (p:Option Addr) (c:Nat) (f:Value) (w:World) :
    Calls Tryz.prog 71 #[.slice p 0 c,f] w fun e w'=>e=.returned (.int .i64 (-1)) /\ w'=w:=by
  go_enter Tryz.func71,Tryz.ntmps71
  go_wp2
  refine wp_loop_rounds 1 ?_
  rw [rounds_succ]
  go_wp2
  go_ret
  exact ⟨rfl,rfl⟩
set_option maxHeartbeats 2000000 in
set_option maxRecDepth 100000 in
theorem others_idx_some (b off c:Nat) (A:List Am) (P:Am->Bool) (B:Nat) (w:World) (hn:A.length<=140737488351232)
    (hc:∀ j u,(A.flatMap encA)[j]? = some u->w.cell? ⟨b,off + j,none⟩ = some u) (hb:b < w.heap.size)
    (hq:∀ W,Below w.heap.size w W->∀ k (hk:k < A.length),Calls Tryz.prog 38 #[accV (A[k]'hk).id (A[k]'hk).bal (A[k]'hk).p (A[k]'hk).n (A[k]'hk).c ,.pointer (some ⟨B,0,none⟩)] W fun e w'=>e=.returned (.bool (P (A[k]'hk))) /\ Below W.heap.size W w') :
    Calls Tryz.prog 16 #[.slice (some ⟨b,off,none⟩) A.length c,.func (.func 38) #[] #[.pointer (some ⟨B,0,none⟩)]] w fun e w'=>e=.returned (.int .i64 (idxP P A 0)) /\ Below w.heap.size w w':=by
  have eg:∀ args w,(callFunc 38 args).run Tryz.prog w=.ok (.enter 38 args) w:=enters_of Tryz.func38 (by kernel_rfl) rfl
  generalize hr:idxP P A 0=r; have R0:Hid (idxP P (A.drop 0) 0=r):=hr; clear hr; have HC:=hide hc; have HQ:=hide hq; clear hc hq; generalize hxn:A.length=n at hn ⊢; have N:=hide hxn; clear hxn
  go_enter Tryz.func16,Tryz.ntmps16
  go_wp2
  go_loopw [8] (fun i wr=>∃ k:Nat,k<=n /\ i=.int .i64 k /\ Hid (Below w.heap.size w wr) /\ Hid (idxP P (A.drop k) k=r)) (fun i _=>n - (intOf i).toNat)
  case atStart=>exact ⟨0,Nat.zero_le _,rfl,Below.refl _ _,R0⟩
  case round =>
    obtain ⟨k,hk,rfl,BW,R⟩:=hrel
    by_cases hlt:k < n
    · have hltz:(k:Int) < (n:Int):=by omega
      have hkx:k < A.length:=by rw [N.out]; exact hlt
      obtain ⟨c0,c1,c2⟩:=arow_cells (w:=wr) (b:=b) (off:=off) (fun j u hu=>(BW.out.cell hb).trans (HC.out j u hu)) hkx
      have hcall:=HQ.out wr BW.out k hkx; have HH:=hide (idxP_at P hkx); generalize (A[k]'hkx).id=z1 at c0 hcall; generalize (A[k]'hkx).bal=z2 at c1 hcall; generalize (A[k]'hkx).p=z3 at c2 hcall; generalize (A[k]'hkx).n=z4 at c2 hcall; generalize (A[k]'hkx).c=z5 at c2 hcall
      cases hh:P (A[k]'hkx) with
      | true =>
        rw [hh] at hcall
        go_wp2_with (go_at_fn 38; refine hcall.mono ?_; rintro e w' ⟨rfl,hb'⟩)
        go_ret
        refine ⟨?_,BW.out.trans (hb'.mono BW.out.size)⟩
        rw [<- R.out,HH.out,if_pos hh]
        rfl
      | false =>
        rw [hh] at hcall
        go_wp2_with (go_at_fn 38; refine hcall.mono ?_; rintro e w' ⟨rfl,hb'⟩)
        go_roundw
        case rel =>
          refine ⟨k + 1,by omega,by go_num,BW.out.trans (hb'.mono BW.out.size),?_⟩
          show idxP P (A.drop (k + 1)) (k + 1)=r
          rw [<- R.out,HH.out,hh]
          rfl
        case measure=>simp [intOf]; omega
    · have hk':k=n:=by omega
      subst hk'
      go_wp2
      go_ret
      refine ⟨?_,BW.out⟩
      rw [<- R.out,<- N.out,List.drop_length]
      rfl
theorem others_idx (p:Option Addr) (c:Nat) (A:List Am) (P:Am->Bool) (B:Nat) (w:World) (hn:A.length<=140737488351232) (h:ARow w p A)
    (hq:∀ W,Below w.heap.size w W->∀ k (hk:k < A.length),Calls Tryz.prog 38 #[accV (A[k]'hk).id (A[k]'hk).bal (A[k]'hk).p (A[k]'hk).n (A[k]'hk).c ,.pointer (some ⟨B,0,none⟩)] W fun e w'=>e=.returned (.bool (P (A[k]'hk))) /\ Below W.heap.size W w') :
    Calls Tryz.prog 16 #[.slice p A.length c,.func (.func 38) #[] #[.pointer (some ⟨B,0,none⟩)]] w fun e w'=>e=.returned (.int .i64 (idxP P A 0)) /\ Below w.heap.size w w':=by
  by_cases hx:A=[]
  · subst hx
    refine (accIdx_none p c _ w).mono ?_
    rintro e w' ⟨rfl,rfl⟩
    exact ⟨rfl,Below.refl _ _⟩
  · rcases h with h | ⟨b,off,rfl,hc⟩
    · exact absurd h hx
    · exact others_idx_some b off c A P B w hn hc (World.block_lt_of_cell? w _ (arow_cells hc (List.length_pos_iff.2 hx)).1) hq
set_option maxHeartbeats 2000000 in
set_option maxRecDepth 100000 in
theorem others_evs_some (b off c:Nat) (A:List Ev) (P:Ev->Bool)   (w:World) (hn:A.length<=9223372036854775807)
    (hc:∀ j u,(flatE A)[j]? = some u->w.cell? ⟨b,off + j,none⟩ = some u) (hb:b < w.heap.size)
    (hq:∀ W,Below w.heap.size w W->∀ k (hk:k < A.length),Calls Tryz.prog 36 #[evV (A[k]'hk)  ] W fun e w'=>e=.returned (.bool (P (A[k]'hk))) /\ Below W.heap.size W w') :
    Calls Tryz.prog 71 #[.slice (some ⟨b,off,none⟩) A.length c,.func (.func 36) #[] #[]] w fun e w'=>e=.returned (.int .i64 (idxP P A 0)) /\ Below w.heap.size w w':=by
  have eg:∀ args w,(callFunc 36 args).run Tryz.prog w=.ok (.enter 36 args) w:=enters_of Tryz.func36 (by kernel_rfl) rfl
  generalize hr:idxP P A 0=r; have R0:Hid (idxP P (A.drop 0) 0=r):=hr; clear hr; have HC:=hide hc; have HQ:=hide hq; clear hc hq; generalize hxn:A.length=n at hn ⊢; have N:=hide hxn; clear hxn
  go_enter Tryz.func71,Tryz.ntmps71
  go_wp2
  go_loopw [8] (fun i wr=>∃ k:Nat,k<=n /\ i=.int .i64 k /\ Hid (Below w.heap.size w wr) /\ Hid (idxP P (A.drop k) k=r)) (fun i _=>n - (intOf i).toNat)
  case atStart=>exact ⟨0,Nat.zero_le _,rfl,Below.refl _ _,R0⟩
  case round =>
    obtain ⟨k,hk,rfl,BW,R⟩:=hrel
    by_cases hlt:k < n
    · have hltz:(k:Int) < (n:Int):=by omega
      have hkx:k < A.length:=by rw [N.out]; exact hlt
      obtain ⟨c0,c1,c2,c3,c4,c5,c6,c7,c8,c9,c10,c11,c12⟩:=erow_cells (w:=wr) (b:=b) (off:=off) (fun j u hu=>(BW.out.cell hb).trans (HC.out j u hu)) hkx
      have hcall:=HQ.out wr BW.out k hkx; have HH:=hide (idxP_at P hkx); dsimp only [evV] at hcall; generalize hpk:P (A[k]'hkx)=pk at hcall HH; generalize (A[k]'hkx).1=z0 at c0 hcall; generalize (A[k]'hkx).2.1=z1 at c1 hcall; generalize (A[k]'hkx).2.2.1=z2 at c2 hcall; generalize (A[k]'hkx).2.2.2.1=z3 at c3 hcall; generalize (A[k]'hkx).2.2.2.2.1=z4 at c4 hcall; generalize (A[k]'hkx).2.2.2.2.2.1=z5 at c5 hcall; generalize (A[k]'hkx).2.2.2.2.2.2.1=z6 at c6 hcall; generalize (A[k]'hkx).2.2.2.2.2.2.2.1=z7 at c7 hcall; generalize (A[k]'hkx).2.2.2.2.2.2.2.2.1=z8 at c8 hcall; generalize (A[k]'hkx).2.2.2.2.2.2.2.2.2.1=z9 at c9 hcall; generalize (A[k]'hkx).2.2.2.2.2.2.2.2.2.2.1=z10 at c10 hcall; generalize (A[k]'hkx).2.2.2.2.2.2.2.2.2.2.2.1=z11 at c11 hcall; generalize (A[k]'hkx).2.2.2.2.2.2.2.2.2.2.2.2=z12 at c12 hcall
      cases hh:pk with
      | true =>
        rw [hh] at hcall HH
        go_wp2_with (go_at_fn 36; refine hcall.mono ?_; rintro e w' ⟨rfl,hb'⟩)
        go_ret
        refine ⟨?_,BW.out.trans (hb'.mono BW.out.size)⟩
        rw [<- R.out,HH.out,if_pos trivial]
        rfl
      | false =>
        rw [hh] at hcall HH
        go_wp2_with (go_at_fn 36; refine hcall.mono ?_; rintro e w' ⟨rfl,hb'⟩)
        go_roundw
        case rel =>
          refine ⟨k + 1,by omega,by go_num,BW.out.trans (hb'.mono BW.out.size),?_⟩
          show idxP P (A.drop (k + 1)) (k + 1)=r
          rw [<- R.out,HH.out]; simp
        case measure=>simp [intOf]; omega
    · have hk':k=n:=by omega
      subst hk'
      go_wp2
      go_ret
      refine ⟨?_,BW.out⟩
      rw [<- R.out,<- N.out,List.drop_length]
      rfl
theorem others_evs (p:Option Addr) (c:Nat) (A:List Ev) (P:Ev->Bool)   (w:World) (hn:A.length<=9223372036854775807) (h:ERow w p A)
    (hq:∀ W,Below w.heap.size w W->∀ k (hk:k < A.length),Calls Tryz.prog 36 #[evV (A[k]'hk)  ] W fun e w'=>e=.returned (.bool (P (A[k]'hk))) /\ Below W.heap.size W w') :
    Calls Tryz.prog 71 #[.slice p A.length c,.func (.func 36) #[] #[]] w fun e w'=>e=.returned (.int .i64 (idxP P A 0)) /\ Below w.heap.size w w':=by
  by_cases hx:A=[]
  · subst hx
    refine (evIdx_none p c _ w).mono ?_
    rintro e w' ⟨rfl,rfl⟩
    exact ⟨rfl,Below.refl _ _⟩
  · rcases h with h | ⟨b,off,rfl,hc⟩
    · exact absurd h hx
    · exact others_evs_some b off c A P   w hn hc (World.block_lt_of_cell? w _ (erow_cells hc (List.length_pos_iff.2 hx)).1) hq
theorem others1_any (x:Ev) (w:World):Calls Tryz.prog 36 #[evV x] w fun e w'=>e=.returned (.bool (x.1 == 3)) /\ Below w.heap.size w w':=by
  go_enter Tryz.func36,Tryz.ntmps36
  go_wp2
  go_ret
  exact ⟨rfl,Ac.below_alloc _ _⟩
/-- is one of them a fill? -/
theorem others_filled (p:Option Addr) (c:Nat) (L:List Ev) (w:World) (hn:L.length<=9223372036854775807) (h:ERow w p L) :
    Calls Tryz.prog 35 #[.slice p L.length c,fnV 36] w fun e w'=>e=.returned (.bool (L.any fun x=>x.1 == 3)) /\ Below w.heap.size w w':=by
  have hcon:=others_evs p c L (fun x=>x.1 == 3) w hn h (fun W _ k hk=>others1_any _ W)
  rw [<- idxP_any]
  generalize idxP (fun x:Ev=>x.1 == 3) L 0=r at hcon ⊢
  generalize L.length=n at hcon ⊢; clear h
  go_enter Tryz.func35,Tryz.ntmps35
  go_wp2_with (go_at_call 71; refine hcon.mono ?_; rintro e w' ⟨rfl,hb'⟩)
  go_ret
  exact ⟨rfl,hb'⟩
set_option maxHeartbeats 1000000 in
theorem others2_any (a b:Am) (B:Nat) (w:World) (hl:b.n=a.n) (hn:a.n<=140737488351232) (ha:AOk w a) (hb:AOk w b)
    (k0:w.cell? ⟨B,0,none⟩ = some (.int .i64 a.id)) (k1:w.cell? ⟨B,1,none⟩ = some (.int .i64 a.bal)) (k2:w.cell? ⟨B,2,none⟩ = some (.slice a.p a.n a.c)) :
    Calls Tryz.prog 38 #[accV b.id b.bal b.p b.n b.c,.pointer (some ⟨B,0,none⟩)] w fun e w'=>e=.returned (.bool (accEq a.id a.bal a.pos b.id b.bal b.pos)) /\ Below w.heap.size w w':=by
  have SM:Hid (∀ W,Below w.heap.size w W->Calls Tryz.prog 34 #[accV a.id a.bal a.p a.n a.c,accV b.id b.bal b.p a.n b.c] W fun e w'=>e=.returned (.bool (accEq a.id a.bal a.pos b.id b.bal b.pos)) /\ Below W.heap.size W w'):=fun W hW =>
    accSame_any _ _ _ _ _ _ _ _ _ _ _ W (ha.below hW).len ((hb.below hW).len.trans hl) hn (ha.below hW).row (hb.below hW).row
  rw [hl]
  have k0:=fun o=>cell_old k0 o
  have k1:=fun o=>cell_old k1 o
  have k2:=fun o=>cell_old k2 o
  generalize accEq a.id a.bal a.pos b.id b.bal b.pos=r at SM ⊢; generalize a.id=a1 at *; generalize a.bal=a2 at *; generalize a.p=a3 at *; generalize a.n=a4 at *; generalize a.c=a5 at *; generalize b.id=b1 at *; generalize b.bal=b2 at *; generalize b.p=b3 at *; generalize b.c=b5 at *; clear ha hb hl hn
  go_enter Tryz.func38,Tryz.ntmps38
  go_wp2_with fail
  refine (SM.out _ (Ac.below_alloc _ _)).mono ?_
  rintro e w' ⟨rfl,hb'⟩
  go_wp2
  go_ret
  exact ⟨rfl,(Ac.below_alloc _ _).trans (hb'.mono (Ac.below_alloc _ _).size)⟩
/-- is an account among these, as it is? -/
theorem others_has (p:Option Addr) (c:Nat) (A:List Am) (a:Am) (B:Nat) (w:World) (hn:A.length<=140737488351232) (h:ARow w p A) (hl:∀ b,b ∈ A->b.n=a.n) (ha:AOk w a) (hA:∀ b,b ∈ A->AOk w b) (hm:a.n<=140737488351232)
    (k0:w.cell? ⟨B,0,none⟩ = some (.int .i64 a.id)) (k1:w.cell? ⟨B,1,none⟩ = some (.int .i64 a.bal)) (k2:w.cell? ⟨B,2,none⟩ = some (.slice a.p a.n a.c)) (hin:∃ b,b ∈ A /\ b.acc=a.acc) :
    Calls Tryz.prog 37 #[.slice p A.length c,.func (.func 38) #[] #[.pointer (some ⟨B,0,none⟩)]] w fun e w'=>e=.returned (.bool true) /\ Below w.heap.size w w':=by
  have hcon:=others_idx p c A (fun b=>accEq a.id a.bal a.pos b.id b.bal b.pos) B w hn h (fun W hW k hk=>others2_any a _ B W (hl _ (List.getElem_mem hk)) hm (ha.below hW) ((hA _ (List.getElem_mem hk)).below hW)
    ((hW.cell (World.block_lt_of_cell? _ _ k0)).trans k0) ((hW.cell (World.block_lt_of_cell? _ _ k1)).trans k1) ((hW.cell (World.block_lt_of_cell? _ _ k2)).trans k2))
  have hT:A.any (fun b=>accEq a.id a.bal a.pos b.id b.bal b.pos)=true:=by
    obtain ⟨b,hb,e⟩:=hin
    refine List.any_eq_true.2 ⟨b,hb,?_⟩
    have e1:b.id=a.id:=congrArg (·.1) e
    have e2:b.bal=a.bal:=congrArg (·.2.1) e
    have e3:b.pos=a.pos:=congrArg (·.2.2) e
    simp [accEq,e1,e2,e3]
  rw [<- hT,<- idxP_any]
  generalize idxP (fun b:Am=>accEq a.id a.bal a.pos b.id b.bal b.pos) A 0=r at hcon ⊢
  generalize A.length=n at hcon ⊢; clear h hl ha hA hm k0 k1 k2 hin hT hn
  go_enter Tryz.func37,Tryz.ntmps37
  go_wp2_with (go_at_call 16; refine hcon.mono ?_; rintro e w' ⟨rfl,hb'⟩)
  go_ret
  exact ⟨rfl,hb'⟩
set_option maxHeartbeats 8000000 in
set_option maxRecDepth 100000 in
theorem law_others (v:Value) (s:Tn) (c:Cm) (w:World) (h:VIn w v s) (hL:Rk.Laid w) :
    Calls Tryz.prog 9 #[v,cmV c] w fun e w'=>e=.returned (.bool true) /\ Below w.heap.size w w':=by
  obtain ⟨p,n1,cc,p',n2,cc',hv⟩:=vnew_is h; subst hv; obtain ⟨W,hW⟩:∃ W,W=(w.alloc (.cells #[.slice p n1 cc,.slice p' n2 cc',.int .i64 s.ins,.int .i64 s.res,.int .i64 s.next,.int .i64 s.inn,.int .i64 s.out] 25)).alloc (cmO c):=⟨_,rfl⟩
  have b0:Below w.heap.size w W:=by rw [hW]; exact ((Below.refl _ w).alloc (Nat.le_refl _) _).alloc (by simp) _
  have E0:Hid (W.heap[w.heap.size]? = some (venO (.slice p n1 cc) (.slice p' n2 cc') s)):=by
    show W.heap[w.heap.size]? = _
    rw [hW]; exact blk_below (heap_alloc_new w _) (Ac.below_alloc _ _)
  have E1:Hid (W.heap[w.heap.size + 1]? = some (cmO c)):=by
    show W.heap[w.heap.size + 1]? = _
    rw [hW]
    have hx:(w.alloc (.cells #[.slice p n1 cc,.slice p' n2 cc',.int .i64 s.ins,.int .i64 s.res,.int .i64 s.next,.int .i64 s.inn,.int .i64 s.out] 25)).heap.size=w.heap.size + 1:=by simp
    have:=heap_alloc_new (w.alloc (.cells #[.slice p n1 cc,.slice p' n2 cc',.int .i64 s.ins,.int .i64 s.res,.int .i64 s.next,.int .i64 s.inn,.int .i64 s.out] 25)) (cmO c); rw [hx] at this; exact this
  have DO:=hide (venue_do _ s c W (h.below b0) (hL.next b0)); have VI:=hide h; have LD:=hide hL; have HW:=hide hW; have BW:=hide b0; clear hW b0 h hL; obtain ⟨a0,a1,a2,a3,a4,a5,a6⟩:=ven_cells E0.out; have d0:=(blk_cell E1.out 0).1; have d1:=(blk_cell E1.out 1).1; have d2:=(blk_cell E1.out 2).1; have d3:=(blk_cell E1.out 3).1; have d4:=(blk_cell E1.out 4).1; have d5:=(blk_cell E1.out 5).1; have d6:=(blk_cell E1.out 6).1; have d7:=(blk_cell E1.out 7).1; have d8:=(blk_cell E1.out 8).1; have d9:=(blk_cell E1.out 9).1; have d10:=(blk_cell E1.out 10).1
  simp only [List.getElem?_toArray,List.getElem?_cons_zero,List.getElem?_cons_succ] at d0 d1 d2 d3 d4 d5 d6 d7 d8 d9 d10
  go_enter Tryz.func9,Tryz.ntmps9
  go_wp2_with (rw [<- HW.out])
  refine DO.out.mono ?_
  rintro e X ⟨v',ev,rfl,hbX,hvX,heX⟩
  obtain ⟨q,m1,dd,q',m2,dd',rfl⟩:=vnew_is hvX; obtain ⟨X1,hX1⟩:∃ X1,X1=X.alloc (.cells #[.slice q m1 dd,.slice q' m2 dd',.int .i64 (doR s c).1.ins,.int .i64 (doR s c).1.res,.int .i64 (doR s c).1.next,.int .i64 (doR s c).1.inn,.int .i64 (doR s c).1.out] 25):=⟨_,rfl⟩
  have hb1:Below X.heap.size X X1:=by rw [hX1]; exact Ac.below_alloc _ _
  have BX1:=hide ((BW.out.trans (hbX.mono BW.out.size)).trans (hb1.mono (Nat.le_trans BW.out.size hbX.size))); have F0:=hide (blk_below (blk_below E0.out hbX) hb1); have FC:=hide (blk_below (blk_below E1.out hbX) hb1)
  have F1:Hid (X1.heap[X.heap.size]? = some (venO (.slice q m1 dd) (.slice q' m2 dd') (doR s c).1)):=by show X1.heap[X.heap.size]? = _; rw [hX1]; exact heap_alloc_new X _
  have VX:=hide ((hvX.below hb1).mono (Nat.zero_le _)); have EX:=hide ((heX.below hb1).mono (Nat.zero_le _)); have OP:=hide (opened_any X1 (LD.out.next BX1.out)); have HX1:=hide hX1
  obtain ⟨pe,ce,rfl⟩:∃ p c',ev=.slice p (doR s c).1.evs.length c':=by obtain ⟨q,c',e,-⟩:=heX; exact ⟨q,c',e⟩
  clear hX1 hb1 hvX heX hbX DO HW E0 E1 a0 a1 a2 a3 a4 a5 a6 d0 d1 d2 d3 d4 d5 d6 d7 d8 d9 d10
  by_cases hce:checkE s=0
  · obtain ⟨z1,z2,-⟩:=do_cases c hce
    have DOK:=hide (do_ok (c:=c) hce); rw [z1]; obtain ⟨T,hT⟩:∃ T,T=(doR s c).1:=⟨_,rfl⟩; rw [<- hT] at HX1 F1 VX EX z2 DOK ⊢; have LX:=hide (LD.out.next BX1.out); clear hT z1
    go_wp2_with (rw [<- HX1.out])
    refine OP.out.mono ?_
    rintro e Y ⟨rfl,hbY⟩
    have BY:=hide (BX1.out.trans (hbY.mono BX1.out.size)); have LY:=hide (LX.out.next hbY); have Y0:=hide (blk_below F0.out hbY); have Y1:=hide (blk_below F1.out hbY); have YC:=hide (blk_below FC.out hbY); have VY:=hide (VX.out.below hbY); have EY:=hide (EX.out.below hbY); have VS:=hide (VI.out.below BY.out); have RJ:=hide (rejected_any _ _ Y EY.out); clear OP HX1 hbY F0 F1 FC VX EX VI BX1 LX; obtain ⟨a0,a1,a2,a3,a4,a5,a6⟩:=ven_cells Y0.out; obtain ⟨b0,b1,b2,b3,b4,b5,b6⟩:=ven_cells Y1.out; have d0:=(blk_cell YC.out 0).1; have d1:=(blk_cell YC.out 1).1
    simp only [List.getElem?_toArray,List.getElem?_cons_zero,List.getElem?_cons_succ] at d0 d1
    go_wp2_with fail
    refine RJ.out.mono ?_
    rintro e Z' ⟨rfl,hZ'⟩
    rw [hZ']; clear hZ' RJ; cases hrj:rejectedL T.evs
    · cases h6:(c.kind == 6)
      · cases h7:(c.kind == 7)
        · have CN:Hid (Calls Tryz.prog 35 #[.slice pe T.evs.length ce,fnV 36] Y fun e w'=>e=.returned (.bool (T.evs.any fun x=>x.1 == 3)) /\ Below Y.heap.size Y w'):=by
            obtain ⟨p9,c9,e9,-,hl9,hr9,-⟩:=EY.out; cases e9
            exact others_filled pe ce T.evs Y (Nat.le_trans hl9 (by decide)) hr9
          go_wp2_with fail
          refine CN.out.mono ?_
          rintro e Z ⟨rfl,hbZ⟩
          have BZ:=hide (BY.out.trans (hbZ.mono BY.out.size)); have LZ:=hide (LY.out.next hbZ)
          cases hfl:T.evs.any fun x=>x.1 == 3
          · obtain ⟨q9,q9',g9,g9',A,M,e,-,-,vr,-⟩:=(VS.out.below hbZ)
            simp only [Value.agg.injEq,Array.mk.injEq,List.cons.injEq,Value.slice.injEq,and_true] at e; obtain ⟨⟨rfl,rfl,rfl⟩,⟨rfl,rfl,rfl⟩⟩:=e; obtain ⟨r9,r9',f9,f9',A',M',e,-,-,vr',-⟩:=(VY.out.below hbZ); simp only [Value.agg.injEq,Array.mk.injEq,List.cons.injEq,Value.slice.injEq,and_true] at e; obtain ⟨⟨rfl,rfl,rfl⟩,⟨rfl,rfl,rfl⟩⟩:=e
            have hev:∀ e,e ∈ T.evs->¬ e.1=3:=fun e he h3=>by
              have:=List.any_eq_false.1 hfl e he; simp [h3] at this
            obtain ⟨hs,hS⟩:=checkE_zero.1 hce; have hturn:=DOK.out hrj
            have OS:=others_same hturn (str_evs hs []) (sums_evs hS []) (by simpa using h6) (by simpa using h7) hev
            have KP:=(turn_keeps hturn (str_evs hs []) (sums_evs hS [])).1; obtain ⟨o1,o2,o3⟩:=OS
            have hN:∀ a,a ∈ A->a.n=s.mkts.length:=fun a ha=>by
              have h1:a.acc ∈ s.accs:=by rw [<- vr.accs]; exact List.mem_map_of_mem ha
              have h2:=acc_len (hs.acc _ h1); have h3:=(vr.eachA a ha).len; exact h3.symm.trans (Int.ofNat_inj.1 h2)
            have hN':∀ a,a ∈ A'->a.n=s.mkts.length:=fun a ha=>by
              have h1:a.acc ∈ T.accs:=by rw [<- vr'.accs]; exact List.mem_map_of_mem ha
              have h2:=acc_len (KP.str.acc _ h1); have h3:=(vr'.eachA a ha).len; exact (h3.symm.trans (Int.ofNat_inj.1 h2)).trans KP.len
            have hm2:s.mkts.length<=2:=hs.m2
            have hA8:A.length<=8:=by
              have:A.length=s.accs.length:=by rw [<- vr.accs]; simp
              rw [this]; exact hs.few
            have HAS:Hid (∀ W,Below Z.heap.size Z W->∀ a,a ∈ A->(a.id=c.ac->¬ (c.kind=1 \/ c.kind=2))->∀ B,W.cell? ⟨B,0,none⟩ = some (.int .i64 a.id)->W.cell? ⟨B,1,none⟩ = some (.int .i64 a.bal)->W.cell? ⟨B,2,none⟩ = some (.slice a.p a.n a.c) ->
                Calls Tryz.prog 37 #[.slice q A'.length dd,.func (.func 38) #[] #[.pointer (some ⟨B,0,none⟩)]] W fun e w'=>e=.returned (.bool true) /\ Below W.heap.size W w'):=fun W hW a ha hx B k0 k1 k2=>by
              have v1:=vr.below hW; have v2:=vr'.below hW
              refine others_has q dd A' a B W v2.na v2.rowA (fun b hb=>(hN' b hb).trans (hN a ha).symm) (v1.eachA a ha) v2.eachA (by rw [hN a ha]; omega) k0 k1 k2 ?_
              have h1:a.acc ∈ s.accs:=by rw [<- vr.accs]; exact List.mem_map_of_mem ha
              have h2:=o3 a.acc h1 hx; rw [<- vr'.accs] at h2; obtain ⟨b,hb,e⟩:=List.mem_map.1 h2; exact ⟨b,hb,e⟩
            have HA:=hide vr.rowA; have o1':T.ins=s.ins:=o1; have o2':T.res=s.res:=o2; obtain ⟨n,hn⟩:∃ n,n=A.length:=⟨_,rfl⟩; rw [<- hn] at hA8; have HN:=hide hn; have Z0:=hide (blk_below Y0.out hbZ); have Z1:=hide (blk_below Y1.out hbZ); have ZC:=hide (blk_below YC.out hbZ); rw [<- hn] at Z0; clear VS VY EY Y0 Y1 YC BY LY LZ LD CN DOK hbZ vr vr' hev hs hS hturn KP o1 o2 o3 hN hN' hm2 hn hfl h6 h7 hrj hce z2 a0 a1 a2 a3 a4 a5 a6 b0 b1 b2 b3 b4 b5 b6 d0 d1; obtain ⟨a0,a1,a2,a3,a4,a5,a6⟩:=ven_cells Z0.out; obtain ⟨b0,b1,b2,b3,b4,b5,b6⟩:=ven_cells Z1.out; have d0:=(blk_cell ZC.out 0).1; have d1:=(blk_cell ZC.out 1).1
            simp only [List.getElem?_toArray,List.getElem?_cons_zero,List.getElem?_cons_succ] at d0 d1
            rw [o1'] at b2; rw [o2'] at b3
            go_wp2_with fail
            go_loopw [45] (fun i wr=>∃ (k:Nat),k<=n /\ i=.int .i64 k /\ Hid (Below Z.heap.size Z wr)) (fun i _=>n - (intOf i).toNat)
            case atStart=>exact ⟨0,Nat.zero_le _,rfl,Below.refl _ _⟩
            case round =>
              obtain ⟨k,hk,rfl,J⟩:=hrel
              by_cases hlt:k < n
              · have hltz:(k:Int) < (n:Int):=by omega
                have hkA:k < A.length:=by rw [<- HN.out]; exact hlt
                obtain ⟨b,off,rfl,hc⟩:∃ b off,p=some ⟨b,off,none⟩ /\ ∀ j u,(A.flatMap encA)[j]? = some u->wr.cell? ⟨b,off + j,none⟩ = some u:=by
                  rcases arow_below HA.out J.out with e | e
                  · rw [e] at hkA; simp at hkA
                  · exact e
                obtain ⟨c0,c1,c2⟩:=arow_cells hc hkA; have hx:=HAS.out; have D0:=(J.out.cell (World.block_lt_of_cell? _ _ d0)).trans d0; have D1:=(J.out.cell (World.block_lt_of_cell? _ _ d1)).trans d1; have B0:=(J.out.cell (World.block_lt_of_cell? _ _ b0)).trans b0
                have D0:=fun o=>cell_old D0 o
                have D1:=fun o=>cell_old D1 o
                have B0:=fun o=>cell_old B0 o
                have AM:=hide (List.getElem_mem hkA); generalize A[k]'hkA=a at c0 c1 c2 AM
                have CALL:Hid ((a.id=c.ac->¬ (c.kind=1 \/ c.kind=2))->Calls Tryz.prog 37 #[.slice q A'.length dd,.func (.func 38) #[] #[.pointer (some ⟨wr.heap.size,0,none⟩)]] (wr.alloc (.cells #[.int .i64 a.id,.int .i64 a.bal,.slice a.p a.n a.c] 40)) fun e w'=>e=.returned (.bool true) /\ Below (wr.alloc (.cells #[.int .i64 a.id,.int .i64 a.bal,.slice a.p a.n a.c] 40)).heap.size (wr.alloc (.cells #[.int .i64 a.id,.int .i64 a.bal,.slice a.p a.n a.c] 40)) w'):=fun hne=>by
                  have hnew:=heap_alloc_new wr (.cells #[.int .i64 a.id,.int .i64 a.bal,.slice a.p a.n a.c] 40); have k0:=(blk_cell hnew 0).1; have k1:=(blk_cell hnew 1).1; have k2:=(blk_cell hnew 2).1
                  simp only [List.getElem?_toArray,List.getElem?_cons_zero,List.getElem?_cons_succ] at k0 k1 k2
                  exact hx _ (J.out.trans ((Ac.below_alloc _ _).mono J.out.size)) a AM.out hne _ k0 k1 k2
                clear hx HAS hc HA AM; generalize a.id=z1 at *; generalize a.bal=z2 at *; generalize a.p=z3 at *; generalize a.n=z4 at *; generalize a.c=z5 at *; cases e0:(z1 == c.ac)
                · have CA:=hide (CALL.out (fun e=>by simp [e] at e0))
                  go_wp2_with fail
                  refine CA.out.mono ?_
                  rintro e W ⟨rfl,hbW⟩
                  go_wp2
                  go_roundw
                  case rel=>exact ⟨k + 1,by omega,by go_num,(J.out.trans ((Ac.below_alloc _ _).mono J.out.size)).trans (hbW.mono (Nat.le_trans J.out.size (Ac.below_alloc _ _).size))⟩
                  case measure=>simp [intOf]; omega
                · cases e1:(c.kind == 1)
                  · cases e2:(c.kind == 2)
                    · have CA:=hide (CALL.out (fun _=>by simpa using ⟨by simpa using e1,by simpa using e2⟩))
                      go_wp2_with fail
                      refine CA.out.mono ?_
                      rintro e W ⟨rfl,hbW⟩
                      go_wp2
                      go_roundw
                      case rel=>exact ⟨k + 1,by omega,by go_num,(J.out.trans ((Ac.below_alloc _ _).mono J.out.size)).trans (hbW.mono (Nat.le_trans J.out.size (Ac.below_alloc _ _).size))⟩
                      case measure=>simp [intOf]; omega
                    · go_wp2
                      go_roundw
                      case rel=>exact ⟨k + 1,by omega,by go_num,J.out.trans ((Ac.below_alloc _ _).mono J.out.size)⟩
                      case measure=>simp [intOf]; omega
                  · go_wp2
                    go_roundw
                    case rel=>exact ⟨k + 1,by omega,by go_num,J.out.trans ((Ac.below_alloc _ _).mono J.out.size)⟩
                    case measure=>simp [intOf]; omega
              · obtain rfl:k=n:=by omega
                have A2:=(J.out.cell (World.block_lt_of_cell? _ _ a2)).trans a2; have A3:=(J.out.cell (World.block_lt_of_cell? _ _ a3)).trans a3; have B2:=(J.out.cell (World.block_lt_of_cell? _ _ b2)).trans b2; have B3:=(J.out.cell (World.block_lt_of_cell? _ _ b3)).trans b3
                go_wp2
                go_ret
                exact ⟨rfl,BZ.out.trans (J.out.mono BZ.out.size)⟩
          · have OP2:=hide (opened_any Z LZ.out)
            go_wp2_with fail
            refine OP2.out.mono ?_
            rintro e Z9 ⟨rfl,hb9⟩
            go_wp2
            go_ret
            exact ⟨rfl,BZ.out.trans (hb9.mono BZ.out.size)⟩
        · have OP2:=hide (opened_any Y LY.out)
          go_wp2_with fail
          refine OP2.out.mono ?_
          rintro e Z9 ⟨rfl,hb9⟩
          go_wp2
          go_ret
          exact ⟨rfl,BY.out.trans (hb9.mono BY.out.size)⟩
      · have OP2:=hide (opened_any Y LY.out)
        go_wp2_with fail
        refine OP2.out.mono ?_
        rintro e Z9 ⟨rfl,hb9⟩
        go_wp2
        go_ret
        exact ⟨rfl,BY.out.trans (hb9.mono BY.out.size)⟩
    · have OP2:=hide (opened_any Y LY.out)
      go_wp2_with fail
      refine OP2.out.mono ?_
      rintro e Z9 ⟨rfl,hb9⟩
      go_wp2
      go_ret
      exact ⟨rfl,BY.out.trans (hb9.mono BY.out.size)⟩
  · have HR:(doR s c).2=checkE s:=by rw [do_bad c hce]
    rw [HR]; obtain ⟨r,hr⟩:∃ r,r=checkE s:=⟨_,rfl⟩; rw [<- hr] at hce ⊢; obtain ⟨T,hT⟩:∃ T,T=(doR s c).1:=⟨_,rfl⟩; rw [<- hT] at HX1 ⊢; clear hT hr HR F0 F1 FC VX EX VI; have LX:=hide (LD.out.next BX1.out)
    go_wp2_with (rw [<- HX1.out])
    refine OP.out.mono ?_
    rintro e Y ⟨rfl,hbY⟩
    have BY:=hide (BX1.out.trans (hbY.mono BX1.out.size)); have OP2:=hide (opened_any Y (LX.out.next hbY)); clear OP HX1 hbY LX BX1
    go_wp2_with fail
    refine OP2.out.mono ?_
    rintro e Z ⟨rfl,hbZ⟩
    have BZ:=hide (BY.out.trans (hbZ.mono BY.out.size)); clear OP2 hbZ BY
    go_wp2
    go_ret
    exact ⟨rfl,BZ.out⟩
end Go.Proofs.YtpkbiafhnflmnaaGreatDoor.Vn
