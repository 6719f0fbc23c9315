/-
  Package match by contracts: Take of a right book and a right order.
-/
import Derived.Test.YtpkbiafhnflmnaaGreatDoorS14
import Derived.Test.YtpkbiafhnflmnaaGreatDoorS13
namespace Go.Proofs.YtpkbiafhnflmnaaGreatDoor.Bk
open Go.RowKit Go.Sort Go.Maps Go.Proofs.YtpkbiafhnflmnaaGreatDoor.Mix
abbrev FromPost (w:World) (r:Option Nat) (B:Nat) (T:List Odr × List Fil × Int × Bool) (e:Ending) (w':World):Prop :=
 ∃ p c vF,e=.returned (.tuple #[.slice p T.1.length c,vF,.int .i64 T.2.2.1,.bool T.2.2.2]) /\ OV w' p c T.1 /\ w'.ownsRow w.heap.size 68 7 vF T.2.1.length (flatF T.2.1) /\ w.grownBy w' r /\ (∀ ad,p=some ad->B<=ad.block /\ some ad.block=r)
set_option maxHeartbeats 1000000 in
set_option maxRecDepth 100000 in
theorem takeFrom_none (a ac sd pr q:Int) (w:World) (B:Nat) :
  Calls Tryz.prog 140 #[.slice none 0 0,.agg #[.int .i64 a,.int .i64 ac,.int .i64 sd,.int .i64 pr,.int .i64 q]] w (FromPost w none B ([],[],q,false)):=by
 go_enter Tryz.func140,Tryz.ntmps140
 go_wp2_with fail
 refine (crossing_any _ _ _ _ _ _).mono ?_
 rintro e W0 ⟨fid,rfl,XF,rfl⟩
 obtain ⟨W0,hW0⟩:∃ W0,W0=(w.alloc (.cells #[.int .i64 a,.int .i64 ac,.int .i64 sd,.int .i64 pr,.int .i64 q] 27)).alloc (.cells #[.int .i64 a,.int .i64 ac,.int .i64 sd,.int .i64 pr,.int .i64 q] 27):=⟨_,rfl⟩
 have bw:=((Below.refl w.heap.size w).alloc (Nat.le_refl _) (.cells #[.int .i64 a,.int .i64 ac,.int .i64 sd,.int .i64 pr,.int .i64 q] 27)).alloc (by simp) (.cells #[.int .i64 a,.int .i64 ac,.int .i64 sd,.int .i64 pr,.int .i64 q] 27)
 rw [<- hW0] at bw; have B0:=hide bw; have EW:=hide hW0; clear bw hW0 XF
 go_wp2
 rw [<- EW.out]; clear EW
 go_loopw [0,5,6] (fun l f t wr=>l=.slice none 0 0 /\ f=.slice none 0 0 /\ t=.int .i64 q /\ wr=W0) (fun _ _ _ _=>0)
 case atStart=>exact ⟨rfl,rfl,rfl,rfl⟩
 case round =>
  obtain ⟨rfl,rfl,rfl,rfl⟩:=hrel
  by_cases hq:0 < q
  all_goals
   go_wp2
   refine bodyPost_ret (v:=.tuple #[.slice none 0 0,.slice none 0 0,.int .i64 q,.bool false]) (by simp [results,Tryz.results140,go_sem]) rfl ⟨none,0,_,rfl,ov_nil _,World.ownsRow_nil _ _ _ _,grown_of_below B0.out _,fun ad ha=>by cases ha⟩
/-- of whatever copy the call made. -/
theorem takeFrom_any (v:Value) (B:Nat) (xs:List Odr) (a ac sd pr q:Int) (w:World) (h:w.ownsRow B 27 5 v xs.length (flat xs)) (hn:xs.length<=1000) (hx:∀ x,x ∈ xs->1<=oqt x /\ oqt x<=1000) (hq:0<=q) (hq2:q<=1000) :
  Calls Tryz.prog 140 #[v,.agg #[.int .i64 a,.int .i64 ac,.int .i64 sd,.int .i64 pr,.int .i64 q]] w (FromPost w v.ownBlock B (takes (a,ac,sd,pr,q) q xs)):=by
 rcases h.2 with ⟨rfl,h0⟩ | ⟨g,cap,cur,rfl,hg,hcur,hnc,hmx,hsz,htk⟩
 ·have hx0:xs=[]:=List.eq_nil_of_length_eq_zero h0
  subst hx0; exact takeFrom_none a ac sd pr q w B
 ·refine (takeFrom_own g cap xs a ac sd pr q w ⟨hnc,cur,hcur,hsz,htk⟩ hn hx hq hq2).mono ?_
  rintro e w' ⟨p,c,vF,rfl,h1,h2,h3,h4⟩
  exact ⟨p,c,vF,rfl,h1,h2,h3,fun ad ha=>by rw [h4 ad ha]; exact ⟨hg,rfl⟩⟩
def takeErr (bids asks:List Odr) (o:Odr):Int:=if bookErr bids asks ≠ 0 then bookErr bids asks else okOrder o
theorem takeErr_bad {bids asks:List Odr} {o:Odr} (h:¬ bookErr bids asks=0):takeErr bids asks o=bookErr bids asks:=by unfold takeErr; rw [if_pos h]
theorem takeErr_ok {bids asks:List Odr} {o:Odr} (h:bookErr bids asks=0):takeErr bids asks o=okOrder o:=by unfold takeErr; rw [if_neg (by simp [h])]
set_option maxHeartbeats 1000000 in
set_option maxRecDepth 100000 in
theorem mcheck_any (p p':Option Addr) (c c':Nat) (bids asks:List Odr) (a ac sd pr q:Int) (w:World) (h:ORow w p bids) (h':ORow w p' asks) (hn:bids.length<=140737488351232) (hn':asks.length<=140737488351232) :
  Calls Tryz.prog 138 #[.agg #[.slice p bids.length c,.slice p' asks.length c'],.agg #[.int .i64 a,.int .i64 ac,.int .i64 sd,.int .i64 pr,.int .i64 q]] w fun e w' =>
   e=.returned (.int .i64 (takeErr bids asks (a,ac,sd,pr,q))) /\ Below w.heap.size w w':=by
 have hb0:∀ o1 o2,Below w.heap.size w ((w.alloc o1).alloc o2):=fun o1 o2=>((Below.refl _ w).alloc (Nat.le_refl _) _).alloc (by simp) _
 have CK:=hide (fun X (hX:Below w.heap.size w X)=>check_any p p' c c' bids asks X (orow_below h hX) (orow_below h' hX) hn hn')
 obtain ⟨r,hr⟩:∃ r,r=bookErr bids asks:=⟨_,rfl⟩; rw [<- hr] at CK
 by_cases hb:bookErr bids asks=0
 ·rw [takeErr_ok hb]
  rw [hb] at hr; subst hr; generalize bids.length=nb at CK ⊢; generalize asks.length=na at CK ⊢; clear h h' hn hn' hb
  go_enter Tryz.func138,Tryz.ntmps138
  go_wp2_with fail
  refine (CK.out _ (hb0 _ _)).mono ?_
  rintro e W ⟨rfl,hb⟩
  have BW:=hide ((hb0 _ _).trans (hb.mono (by simp; omega)))
  have m0:W.cell? ⟨w.heap.size + 1,0,none⟩ = some (.int .i64 a):=(hb.cell (by simp)).trans (new_cell2 _ _ _ _ _ _ rfl)
  have m1:W.cell? ⟨w.heap.size + 1,1,none⟩ = some (.int .i64 ac):=(hb.cell (by simp)).trans (new_cell2 _ _ _ _ _ _ rfl)
  have m2:W.cell? ⟨w.heap.size + 1,2,none⟩ = some (.int .i64 sd):=(hb.cell (by simp)).trans (new_cell2 _ _ _ _ _ _ rfl)
  have m3:W.cell? ⟨w.heap.size + 1,3,none⟩ = some (.int .i64 pr):=(hb.cell (by simp)).trans (new_cell2 _ _ _ _ _ _ rfl)
  have m4:W.cell? ⟨w.heap.size + 1,4,none⟩ = some (.int .i64 q):=(hb.cell (by simp)).trans (new_cell2 _ _ _ _ _ _ rfl)
  clear hb hb0 CK
  go_wp2_with fail
  refine (checkOrder_grow _ _ _ _ _ _).mono ?_
  rintro e W2 ⟨rfl,k,os,rfl⟩
  have B2:=hide (BW.out.trans ((grow_below W k os).mono BW.out.size)); clear m0 m1 m2 m3 m4
  go_wp2
  go_ret
  exact ⟨rfl,B2.out⟩
 ·rw [takeErr_bad hb,<- hr]
  have hrb:(r == 0)=false:=by rw [hr]; simp [hb]
  generalize bids.length=nb at CK ⊢; generalize asks.length=na at CK ⊢; clear h h' hn hn' hb hr
  go_enter Tryz.func138,Tryz.ntmps138
  go_wp2_with fail
  refine (CK.out _ (hb0 _ _)).mono ?_
  rintro e W ⟨rfl,hb⟩
  have BW:=hide ((hb0 _ _).trans (hb.mono (by simp; omega)))
  clear hb hb0 CK
  go_wp2
  go_ret
  exact ⟨rfl,BW.out⟩
set_option maxHeartbeats 1000000 in
set_option maxRecDepth 100000 in
theorem take_bad (p p':Option Addr) (c c':Nat) (bids asks:List Odr) (a ac sd pr q:Int) (w:World) (h:ORow w p bids) (h':ORow w p' asks) (hn:bids.length<=140737488351232) (hn':asks.length<=140737488351232) (he:¬ takeErr bids asks (a,ac,sd,pr,q)=0) :
  Calls Tryz.prog 127 #[.agg #[.slice p bids.length c,.slice p' asks.length c'],.agg #[.int .i64 a,.int .i64 ac,.int .i64 sd,.int .i64 pr,.int .i64 q]] w fun e w' =>
   e=.returned (.tuple #[.agg #[.slice none 0 0,.slice none 0 0],.slice none 0 0,.int .i64 0,.bool false,.int .i64 (takeErr bids asks (a,ac,sd,pr,q))]) /\ Below w.heap.size w w':=by
 have hb0:∀ o1 o2 o3,Below w.heap.size w (((w.alloc o1).alloc o2).alloc o3):=fun o1 o2 o3=>(((Below.refl _ w).alloc (Nat.le_refl _) _).alloc (by simp) _).alloc (by simp; omega) _
 have MC:=hide (fun X (hX:Below w.heap.size w X)=>mcheck_any p p' c c' bids asks a ac sd pr q X (orow_below h hX) (orow_below h' hX) hn hn')
 generalize takeErr bids asks (a,ac,sd,pr,q)=r at he MC ⊢; generalize bids.length=nb at MC ⊢; generalize asks.length=na at MC ⊢
 have hrb:(r == 0)=false:=by simp [he]
 clear h h' hn hn' he
 go_enter Tryz.func127,Tryz.ntmps127
 go_wp2_with fail
 refine (MC.out _ (hb0 _ _ _)).mono ?_
 rintro e W ⟨rfl,hb⟩
 have BW:=hide ((hb0 _ _ _).trans (hb.mono (by simp; omega)))
 have T:=hide (two_below (two_made _ _ _ _ _) hb); obtain ⟨u0,u1,t0,t1,t2,t3⟩:=two_facts T.out; clear hb hb0 MC
 go_wp2
 obtain ⟨s0,s1⟩:=two_set T.out (.slice none 0 0) (.slice none 0 0)
 refine bodyPost_ret (v:=.tuple #[.agg #[.slice none 0 0,.slice none 0 0],.slice none 0 0,.int .i64 0,.bool false,.int .i64 r]) (by simp [results,Tryz.results127,go_sem,s0,s1]) rfl ⟨rfl,two_below_set BW.out (by omega) _ _⟩
theorem takeErr_zero {bids asks:List Odr} {o:Odr}:takeErr bids asks o=0 ↔ Right bids asks /\ okOrder o=0:=by
 constructor
 ·intro h
  by_cases hb:bookErr bids asks=0
  ·rw [takeErr_ok hb] at h; exact ⟨bookErr_zero.1 hb,h⟩
  ·rw [takeErr_bad hb] at h; exact absurd h hb
 ·rintro ⟨h1,h2⟩
  rw [takeErr_ok (bookErr_zero.2 h1)]; exact h2
/-- what Take answers: both sides, the fills, what is left, whether it met its own. -/
def takeT (bids asks:List Odr) (o:Odr):List Odr × List Fil × Int × Bool:=takes o (oqt o) (if osd o=1 then asks else bids)
def takeB (bids asks:List Odr) (o:Odr):List Odr:=if osd o=1 then bids else (takeT bids asks o).1
def takeA (bids asks:List Odr) (o:Odr):List Odr:=if osd o=1 then (takeT bids asks o).1 else asks
abbrev TakePost (w:World) (B A:List Odr) (F:List Fil) (left:Int) (met:Bool) (e:Ending) (w':World):Prop :=
 ∃ p1 c1 p2 c2 vF,e=.returned (.tuple #[.agg #[.slice p1 B.length c1,.slice p2 A.length c2],vF,.int .i64 left,.bool met,.int .i64 0]) /\ OV w' p1 c1 B /\ OV w' p2 c2 A /\ w'.ownsRow w.heap.size 68 7 vF F.length (flatF F) /\ Below w.heap.size w w' /\ (∀ a,p1=some a->w.heap.size<=a.block) /\ (∀ a,p2=some a->w.heap.size<=a.block)
theorem ov_grown {w w':World} {p:Option Addr} {c:Nat} {xs:List Odr} {r:Option Nat} (h:OV w p c xs) (hg:w.grownBy w' r) (hp:∀ a,p=some a->some a.block ≠ r):OV w' p c xs:=by
 refine ⟨?_,h.nil,h.cap⟩
 rcases h.row with rfl | ⟨b,off,rfl,hc⟩
 ·exact .inl rfl
 ·exact .inr ⟨b,off,rfl,fun j hj i v hv=>grown_cell hg (hp ⟨b,off,none⟩ rfl) (hc j hj i v hv)⟩
theorem two_grown {x y:World} {t:Nat} {r:Option Nat} (h:Two x t) (hg:x.grownBy y r) (hr:some t ≠ r):Two y t:=by
 obtain ⟨u0,u1,h⟩:=h
 exact ⟨u0,u1,(hg.block t (Array.getElem?_eq_some_iff.1 h).1 hr).trans h⟩
theorem two_one {x:World} {t:Nat} {v0:Value} (h:Two x t) (h0:x.cell? ⟨t,0,none⟩ = some v0) (v:Value):(x.setCell ⟨t,1,none⟩ v).cell? ⟨t,0,none⟩ = some v0 /\ (x.setCell ⟨t,1,none⟩ v).cell? ⟨t,1,none⟩ = some v /\ Two (x.setCell ⟨t,1,none⟩ v) t:=by
 obtain ⟨u0,u1,h⟩:=h
 have h1:(x.setCell ⟨t,1,none⟩ v).heap[t]? = some (.cells #[u0,v] 50 (0,0)):=by simp [World.setCell,Array.getElem?_modify,h]
 have e:u0=v0:=by simpa [World.cell?,h] using h0
 subst e
 exact ⟨by simp [World.cell?,h1],by simp [World.cell?,h1],⟨u0,v,h1⟩⟩
theorem two_zero {x:World} {t:Nat} {v1:Value} (h:Two x t) (h0:x.cell? ⟨t,1,none⟩ = some v1) (v:Value):(x.setCell ⟨t,0,none⟩ v).cell? ⟨t,0,none⟩ = some v /\ (x.setCell ⟨t,0,none⟩ v).cell? ⟨t,1,none⟩ = some v1 /\ Two (x.setCell ⟨t,0,none⟩ v) t:=by
 obtain ⟨u0,u1,h⟩:=h
 have h1:(x.setCell ⟨t,0,none⟩ v).heap[t]? = some (.cells #[v,u1] 50 (0,0)):=by simp [World.setCell,Array.getElem?_modify,h]
 have e:u1=v1:=by simpa [World.cell?,h] using h0
 subst e
 exact ⟨by simp [World.cell?,h1],by simp [World.cell?,h1],⟨v,u1,h1⟩⟩
theorem ov_set {w:World} {p:Option Addr} {c t k:Nat} {xs:List Odr} (h:OV w p c xs) (hp:∀ a,p=some a->a.block ≠ t) (v:Value):OV (w.setCell ⟨t,k,none⟩ v) p c xs:=by
 refine ⟨?_,h.nil,h.cap⟩
 rcases h.row with rfl | ⟨b,off,rfl,hc⟩
 ·exact .inl rfl
 ·refine .inr ⟨b,off,rfl,fun j hj i v hv=>?_⟩
  have hb:b ≠ t:=hp _ rfl; rw [set_other _ hb]; exact hc j hj i v hv
theorem own_ne {p:Option Addr} (n c:Nat) {k:Nat} (h:∀ a,p=some a->a.block ≠ k):some k ≠ Value.ownBlock (.slice p n c):=by
 cases p with
 |none=>intro e; cases e
 |some a=>intro e; exact h a rfl (Option.some.inj e).symm
theorem own_some {p:Option Addr} {n c k:Nat} (h:Value.ownBlock (.slice p n c)=some k):∃ a,p=some a /\ a.block=k:=by
 cases p with
 |none=>cases h
 |some a=>exact ⟨a,rfl,Option.some.inj h⟩
set_option maxHeartbeats 2000000 in
set_option maxRecDepth 100000 in
theorem take_buy (p p':Option Addr) (c c':Nat) (bids asks:List Odr) (a ac sd pr q:Int) (w:World) (h:OV w p c bids) (h':OV w p' c' asks) (hR:Right bids asks) (hok:okOrder (a,ac,sd,pr,q)=0) (hsd:sd=1) :
  Calls Tryz.prog 127 #[.agg #[.slice p bids.length c,.slice p' asks.length c'],.agg #[.int .i64 a,.int .i64 ac,.int .i64 sd,.int .i64 pr,.int .i64 q]] w
   (TakePost w bids (takes (a,ac,sd,pr,q) q asks).1 (takes (a,ac,sd,pr,q) q asks).2.1 (takes (a,ac,sd,pr,q) q asks).2.2.1 (takes (a,ac,sd,pr,q) q asks).2.2.2):=by
 have hsb:(sd == 1)=true:=by simp [hsd]
 obtain ⟨T,hT⟩:∃ T,T=takes (a,ac,sd,pr,q) q asks:=⟨_,rfl⟩; rw [<- hT]; obtain ⟨R,F,left,met⟩:=T; dsimp only; have HT:=hide hT; clear hT; clear hsd
 have mixed:Tryz.prog.follows .mixedOrders=true:=by kernel_rfl
 have hl:=hR.few
 have hb0:∀ o1 o2 o3,Below w.heap.size w (((w.alloc o1).alloc o2).alloc o3):=fun o1 o2 o3=>(((Below.refl _ w).alloc (Nat.le_refl _) _).alloc (by simp) _).alloc (by simp; omega) _
 obtain ⟨nb,hnb⟩:∃ n,bids.length=n:=⟨_,rfl⟩; obtain ⟨na,hna⟩:∃ n,asks.length=n:=⟨_,rfl⟩
 have MC:Hid (∀ W,Below w.heap.size w W->Calls Tryz.prog 138 #[.agg #[.slice p nb c,.slice p' na c'],.agg #[.int .i64 a,.int .i64 ac,.int .i64 sd,.int .i64 pr,.int .i64 q]] W fun e w'=>e=.returned (.int .i64 0) /\ Below W.heap.size W w'):=fun W hW=>by
  have:=mcheck_any p p' c c' bids asks a ac sd pr q W (orow_below h.row hW) (orow_below h'.row hW) (by omega) (by omega)
  rw [takeErr_zero.2 ⟨hR,hok⟩,hnb,hna] at this; exact this
 have CB:Hid (∀ W,Below w.heap.size w W->Calls Tryz.prog 139 #[.slice p nb c] W fun e w'=>∃ v,e=.returned v /\ w'.ownsRow W.heap.size 27 5 v bids.length (flat bids) /\ Below W.heap.size W w'):=fun W hW=>by
  rw [<- hnb]
  exact mcopyOf_any p c bids W (h.below hW) (by omega)
 have CA:Hid (∀ W,Below w.heap.size w W->Calls Tryz.prog 139 #[.slice p' na c'] W fun e w'=>∃ v,e=.returned v /\ w'.ownsRow W.heap.size 27 5 v asks.length (flat asks) /\ Below W.heap.size W w'):=fun W hW=>by
  rw [<- hna]
  exact mcopyOf_any p' c' asks W (h'.below hW) (by omega)
 have hqq:=okOrder_pq hok; dsimp only [oqt] at hqq
 have QB:Hid (∀ x,x ∈ bids->1<=oqt x /\ oqt x<=1000):=fun x hx=>(okOrder_pq (hR.b.ok x hx)).2.2
 have QA:Hid (∀ x,x ∈ asks->1<=oqt x /\ oqt x<=1000):=fun x hx=>(okOrder_pq (hR.a.ok x hx)).2.2
 have LB:Hid (bids.length<=1000):=by show bids.length<=1000; omega
 have LA:Hid (asks.length<=1000):=by show asks.length<=1000; omega
 rw [hnb,hna]; clear h h' hR hok hl hnb hna
 go_enter Tryz.func127,Tryz.ntmps127
 go_wp2_with fail
 refine (MC.out _ (hb0 _ _ _)).mono ?_
 rintro e W ⟨rfl,hb⟩
 have BW:=hide ((hb0 _ _ _).trans (hb.mono (by simp; omega)))
 have T:=hide (two_below (two_made _ _ _ _ _) hb); have e0:W.cell? ⟨w.heap.size,0,none⟩ = some (.slice p nb c):=box3_a hb rfl; have e1:W.cell? ⟨w.heap.size,1,none⟩ = some (.slice p' na c'):=box3_a hb rfl; have f0:W.cell? ⟨w.heap.size + 1,0,none⟩ = some (.int .i64 a):=box3_b hb rfl; have f1:W.cell? ⟨w.heap.size + 1,1,none⟩ = some (.int .i64 ac):=box3_b hb rfl; have f2:W.cell? ⟨w.heap.size + 1,2,none⟩ = some (.int .i64 sd):=box3_b hb rfl; have f3:W.cell? ⟨w.heap.size + 1,3,none⟩ = some (.int .i64 pr):=box3_b hb rfl; have f4:W.cell? ⟨w.heap.size + 1,4,none⟩ = some (.int .i64 q):=box3_b hb rfl; clear hb hb0 MC; have tW:Hid (w.heap.size + 1 + 1 < W.heap.size):=two_lt T.out; obtain ⟨C,hCC⟩:∃ C,C=RC W (w.heap.size + 1 + 1):=⟨_,rfl⟩
 have CR:Hid (∀ x,C x->RC W (w.heap.size + 1 + 1) x):=fun x hx=>by rw [hCC] at hx; exact hx
 have CQ:Hid (∀ x,RC W (w.heap.size + 1 + 1) x->C x):=fun x hx=>by rw [hCC]; exact hx
 have CS:Hid (Shut C):=by rw [hCC]; exact rc_shut
 have C0:Hid (C { W with drawn:=W.drawn + 1 }):=by rw [hCC]; exact ⟨(below_drawn W).mono (Nat.le_of_lt tW.out),Nat.le_refl _,two_below T.out (below_drawn W)⟩
 have hC:∀ p1:InC C,∀ a v,a.block < w.heap.size + 1 + 1->W.cell? a=some v->p1.w.cell? a=some v:=fun p1 a v ha hv=>((CR.out p1.w p1.h).1.cell ha).trans hv
 have g0:=fun p1=>hC p1 ⟨w.heap.size,0,none⟩ _ (by simp; omega) e0
 have g1:=fun p1=>hC p1 ⟨w.heap.size,1,none⟩ _ (by simp; omega) e1
 have F0:=hide f0; have F1:=hide f1; have F2:=hide f2; have F3:=hide f3; have F4:=hide f4; clear hC hCC e0 e1 f0 f1 f2 f3 f4
 go_wp2_with fail
 refine wp_region_mix [(0,true),(1,true),(3,true),(4,true),(2,false),(5,false),(6,true),(7,false)] C mixed (by kernel_rfl) C0.out ?_
 repeat (refine mix_still (by rfl) ?_; go_big_quiet_step (exact rfl); refine wpQuiet_nil ?_)
 refine mix_main (by rfl) ?_
 rintro ⟨x1,hx1⟩
 dsimp only; have cr1:=CR.out x1 hx1
 have bx1:=BW.out.trans (cr1.1.mono (by omega))
 have hcon:=CB.out x1 bx1; have hsz1:Hid (w.heap.size + 1 + 1 + 1<=x1.heap.size):=Nat.le_trans tW.out cr1.2.1; have HX1:=hide hx1; clear cr1 bx1
 go_wp2_with (go_at_call 139; refine hcon.mono ?_; rintro e w1 ⟨v1,rfl,hown1,hb1⟩)
 have hown1':=own_base hown1 hsz1.out; obtain ⟨p1,c1,rfl,-,hlt1⟩:=own_ov hown1'
 refine ⟨fun x=>Owning C (w.heap.size + 1 + 1 + 1) (.slice p1 bids.length c1) bids x /\ w1.heap.size<=x.heap.size,⟨⟨CS.out x1 w1 HX1.out hb1,hown1'⟩,Nat.le_refl _⟩,fun x hx=>hx.1.1,?_⟩
 have M1:Hid (∀ a,p1=some a->a.block < w1.heap.size):=fun a ha=>(hlt1 a ha).2
 generalize w1.heap.size=M at M1 ⊢
 have CS1:Hid (Shut (fun x=>Owning C (w.heap.size + 1 + 1 + 1) (.slice p1 bids.length c1) bids x /\ M<=x.heap.size)):=fun x y hx hy=>⟨owning_shut CS.out (w.heap.size + 1 + 1 + 1) (.slice p1 bids.length c1) bids x y hx.1 hy,Nat.le_trans hx.2 hy.size⟩
 have K1:Hid (∀ x,(fun x=>Owning C (w.heap.size + 1 + 1 + 1) (.slice p1 bids.length c1) bids x /\ M<=x.heap.size) x ↔ (C x /\ x.ownsRow (w.heap.size + 1 + 1 + 1) 27 5 (.slice p1 bids.length c1) bids.length (flat bids)) /\ M<=x.heap.size):=fun x=>Iff.rfl
 generalize (fun x=>Owning C (w.heap.size + 1 + 1 + 1) (.slice p1 bids.length c1) bids x /\ M<=x.heap.size)=C1 at CS1 K1 ⊢
 clear hcon hown1 hown1' hb1 w1 HX1 hsz1 g0 g1 hlt1 hx1 x1
 refine mix_main (by rfl) ?_
 rintro ⟨x2,hx2⟩
 dsimp only; have cr2:=CR.out x2 ((K1.out x2).1 hx2).1.1
 have bx2:=BW.out.trans (cr2.1.mono (by omega))
 have hcon:=CA.out x2 bx2; have hsz2:Hid (w.heap.size + 1 + 1 + 1<=x2.heap.size):=Nat.le_trans tW.out cr2.2.1; have hM2:Hid (M<=x2.heap.size):=((K1.out x2).1 hx2).2; have HX2:=hide hx2; clear cr2 bx2
 go_wp2_with (go_at_call 139; refine hcon.mono ?_; rintro e w2 ⟨v2,rfl,hown2,hb2⟩)
 have hown2':=own_base hown2 (show max M (w.heap.size + 1 + 1 + 1)<=x2.heap.size from Nat.max_le.2 ⟨hM2.out,hsz2.out⟩); obtain ⟨M2,hM2e⟩:∃ M2,M2=max M (w.heap.size + 1 + 1 + 1):=⟨_,rfl⟩; rw [<- hM2e] at hown2'
 have MM:Hid (M<=M2 /\ w.heap.size + 1 + 1 + 1<=M2):=by rw [hM2e]; exact ⟨Nat.le_max_left _ _,Nat.le_max_right _ _⟩
 obtain ⟨p2,c2,rfl,-,-⟩:=own_ov hown2'
 refine ⟨Owning C1 M2 (.slice p2 asks.length c2) asks,⟨CS1.out x2 w2 HX2.out hb2,hown2'⟩,fun x hx=>hx.1,?_⟩
 have K2:Hid (∀ x,Owning C1 M2 (.slice p2 asks.length c2) asks x ↔ C1 x /\ x.ownsRow M2 27 5 (.slice p2 asks.length c2) asks.length (flat asks)):=fun x=>Iff.rfl
 generalize Owning C1 M2 (.slice p2 asks.length c2) asks=C2 at K2 ⊢; clear hcon hown2 hown2' hb2 w2 HX2 hsz2 hM2 hM2e hx2 x2
 repeat (refine mix_still (by rfl) ?_; go_big_quiet_step (exact rfl); refine wpQuiet_nil ?_)
 refine mix_main (by rfl) ?_
 rintro ⟨x3,hx3⟩
 dsimp only; obtain ⟨y1,y2⟩:=(K2.out x3).1 hx3; obtain ⟨⟨z1,z2⟩,z3⟩:=(K1.out x3).1 y1; have cr3:=CR.out x3 z1; obtain ⟨u0,u1,t0,t1,t2,t3⟩:=two_facts cr3.2.2; have S1:=hide (two_set cr3.2.2 (.slice p1 bids.length c1) (.slice p2 asks.length c2)); have S2:=hide (CQ.out _ (rc_set cr3 (.slice p1 bids.length c1) (.slice p2 asks.length c2)))
 have S3:=hide (two_ownsRow z2 (t:=w.heap.size + 1 + 1) (by omega) (.slice p1 bids.length c1) (.slice p2 asks.length c2))
 have S4:=hide (two_ownsRow y2 (t:=w.heap.size + 1 + 1) (by have:=MM.out.2; omega) (.slice p1 bids.length c1) (.slice p2 asks.length c2))
 have S5:Hid (M<=((x3.setCell ⟨w.heap.size + 1 + 1,0,none⟩ (.slice p1 bids.length c1)).setCell ⟨w.heap.size + 1 + 1,1,none⟩ (.slice p2 asks.length c2)).heap.size):=by rw [two_size]; exact z3
 clear y1 y2 z1 z2 z3 cr3
 go_wp2
 refine ⟨fun x=>C2 x /\ x.cell? ⟨w.heap.size + 1 + 1,0,none⟩ = some (.slice p1 bids.length c1) /\ x.cell? ⟨w.heap.size + 1 + 1,1,none⟩ = some (.slice p2 asks.length c2),⟨(K2.out _).2 ⟨(K1.out _).2 ⟨⟨S2.out,S3.out⟩,S5.out⟩,S4.out⟩,S1.out.1,S1.out.2⟩,fun x hx=>hx.1,?_⟩
 clear S1 S2 S3 S4 S5 t0 t1 t2 t3 hx3 x3
 refine mix_end ?_
 rintro ⟨x5,k2,s0,s1⟩
 dsimp only; obtain ⟨y1,y2⟩:=(K2.out x5).1 k2; obtain ⟨⟨z1,z2⟩,z3⟩:=(K1.out x5).1 y1; have cr5:=CR.out x5 z1
 have B5:=hide (BW.out.trans (cr5.1.mono (by omega)))
 have T5:=hide cr5.2.2
 have f0:=(cr5.1.cell (p:=⟨w.heap.size + 1,0,none⟩) (by simp)).trans F0.out
 have f1:=(cr5.1.cell (p:=⟨w.heap.size + 1,1,none⟩) (by simp)).trans F1.out
 have f2:=(cr5.1.cell (p:=⟨w.heap.size + 1,2,none⟩) (by simp)).trans F2.out
 have f3:=(cr5.1.cell (p:=⟨w.heap.size + 1,3,none⟩) (by simp)).trans F3.out
 have f4:=(cr5.1.cell (p:=⟨w.heap.size + 1,4,none⟩) (by simp)).trans F4.out
 obtain ⟨p3,c3,ev1,ov1,ob1⟩:=own_ov z2; obtain ⟨p4,c4,ev2,ov2,ob2⟩:=own_ov y2; cases ev1; cases ev2; have O1:=hide z2; have O2:=hide y2; have V1:=hide ov1; have V2:=hide ov2; have OB1:=hide ob1; have OB2:=hide ob2; clear k2 y1 y2 z1 z2 z3 cr5 ov1 ov2 ob1 ob2 K1 K2 C1 C2 CR CQ CS C0 C CS1 CA CB F0 F1 F2 F3 F4 BW T W tW
 have TF:=takeFrom_any (.slice p2 asks.length c2) M2 asks a ac sd pr q x5 O2.out LA.out QA.out (by omega) (by omega)
 rw [<- HT.out] at TF
 go_wp2_with fail
 refine TF.mono ?_
 rintro e w6 ⟨p6,c6,vF,rfl,h1,h2,h3,h4⟩
 have nt:some (w.heap.size + 1 + 1) ≠ Value.ownBlock (.slice p2 asks.length c2):=own_ne _ _ (fun ad ha=>by have:=(OB2.out ad ha).1; have:=MM.out.2; omega)
 have T6:=hide (two_grown T5.out h3 nt); have s0':=grown_cell h3 nt s0
 have W1:=hide (ov_grown V1.out h3 (fun ad ha=>own_ne _ _ (fun ad' ha'=>by have:=(OB2.out ad' ha').1; have:=M1.out ad ha; have:=MM.out.1; omega)))
 have B6:=hide (B5.out.grown h3 B5.out.size (fun k hk=>by obtain ⟨ad,ha,rfl⟩:=own_some hk; have:=(OB2.out ad ha).1; have:=MM.out.2; omega))
 have P6:Hid (∀ ad,p6=some ad->w.heap.size + 1 + 1 + 1<=ad.block):=fun ad ha=>by have:=(h4 ad ha).1; have:=MM.out.2; omega
 have P1:Hid (∀ ad,p1=some ad->w.heap.size + 1 + 1 + 1<=ad.block):=fun ad ha=>(OB1.out ad ha).1
 have X5:Hid (w.heap.size + 1 + 1 < x5.heap.size):=two_lt T5.out; have H1:=hide h1; have H2:=hide h2; dsimp only at H1 H2 ⊢; obtain ⟨v0,v1,t0,t1,t2,t3⟩:=two_facts T6.out; obtain ⟨q0,q1,q2⟩:=two_one T6.out s0' (.slice p6 R.length c6); obtain ⟨-,-,-,-,q3,q4⟩:=two_facts q2; have SZ:=hide (two_set q2 (.slice p1 bids.length c1) (.slice p6 R.length c6)); clear TF h1 h2 h3 h4 nt O1 O2 V1 V2 OB1 OB2 M1 MM s0 s1 f0 f1 f2 f3 f4 T5
 go_wp2
 obtain ⟨r0,r1⟩:=SZ.out
 refine bodyPost_ret (v:=.tuple #[.agg #[.slice p1 bids.length c1,.slice p6 R.length c6],vF,.int .i64 left,.bool met,.int .i64 0]) (by simp [results,Tryz.results127,go_sem,r0,r1]) rfl ⟨p1,c1,p6,c6,vF,rfl,?_,?_,?_,?_,fun ad ha=>by have:=P1.out ad ha; omega,fun ad ha=>by have:=P6.out ad ha; omega⟩
 ·exact ov_two (ov_set W1.out (fun ad ha=>by have:=P1.out ad ha; omega) _) (fun ad ha=>by have:=P1.out ad ha; omega) _ _
 ·exact ov_two (ov_set H1.out (fun ad ha=>by have:=P6.out ad ha; omega) _) (fun ad ha=>by have:=P6.out ad ha; omega) _ _
 ·exact own_base (ownsRow_setCell_below (ownsRow_setCell_below (ownsRow_setCell_below H2.out X5.out _) X5.out _) X5.out _) B5.out.size
 ·exact two_below_set (B6.out.setCell (by show w.heap.size<=w.heap.size + 1 + 1; omega) _) (by omega) _ _
set_option maxHeartbeats 2000000 in
set_option maxRecDepth 100000 in
theorem take_sell (p p':Option Addr) (c c':Nat) (bids asks:List Odr) (a ac sd pr q:Int) (w:World) (h:OV w p c bids) (h':OV w p' c' asks) (hR:Right bids asks) (hok:okOrder (a,ac,sd,pr,q)=0) (hsd:¬ sd=1) :
  Calls Tryz.prog 127 #[.agg #[.slice p bids.length c,.slice p' asks.length c'],.agg #[.int .i64 a,.int .i64 ac,.int .i64 sd,.int .i64 pr,.int .i64 q]] w
   (TakePost w (takes (a,ac,sd,pr,q) q bids).1 asks (takes (a,ac,sd,pr,q) q bids).2.1 (takes (a,ac,sd,pr,q) q bids).2.2.1 (takes (a,ac,sd,pr,q) q bids).2.2.2):=by
 have hsb:(sd == 1)=false:=by simp [hsd]
 obtain ⟨T,hT⟩:∃ T,T=takes (a,ac,sd,pr,q) q bids:=⟨_,rfl⟩; rw [<- hT]; obtain ⟨R,F,left,met⟩:=T; dsimp only; have HT:=hide hT; clear hT; clear hsd
 have mixed:Tryz.prog.follows .mixedOrders=true:=by kernel_rfl
 have hl:=hR.few
 have hb0:∀ o1 o2 o3,Below w.heap.size w (((w.alloc o1).alloc o2).alloc o3):=fun o1 o2 o3=>(((Below.refl _ w).alloc (Nat.le_refl _) _).alloc (by simp) _).alloc (by simp; omega) _
 obtain ⟨nb,hnb⟩:∃ n,bids.length=n:=⟨_,rfl⟩; obtain ⟨na,hna⟩:∃ n,asks.length=n:=⟨_,rfl⟩
 have MC:Hid (∀ W,Below w.heap.size w W->Calls Tryz.prog 138 #[.agg #[.slice p nb c,.slice p' na c'],.agg #[.int .i64 a,.int .i64 ac,.int .i64 sd,.int .i64 pr,.int .i64 q]] W fun e w'=>e=.returned (.int .i64 0) /\ Below W.heap.size W w'):=fun W hW=>by
  have:=mcheck_any p p' c c' bids asks a ac sd pr q W (orow_below h.row hW) (orow_below h'.row hW) (by omega) (by omega)
  rw [takeErr_zero.2 ⟨hR,hok⟩,hnb,hna] at this; exact this
 have CB:Hid (∀ W,Below w.heap.size w W->Calls Tryz.prog 139 #[.slice p nb c] W fun e w'=>∃ v,e=.returned v /\ w'.ownsRow W.heap.size 27 5 v bids.length (flat bids) /\ Below W.heap.size W w'):=fun W hW=>by
  rw [<- hnb]
  exact mcopyOf_any p c bids W (h.below hW) (by omega)
 have CA:Hid (∀ W,Below w.heap.size w W->Calls Tryz.prog 139 #[.slice p' na c'] W fun e w'=>∃ v,e=.returned v /\ w'.ownsRow W.heap.size 27 5 v asks.length (flat asks) /\ Below W.heap.size W w'):=fun W hW=>by
  rw [<- hna]
  exact mcopyOf_any p' c' asks W (h'.below hW) (by omega)
 have hqq:=okOrder_pq hok; dsimp only [oqt] at hqq
 have QB:Hid (∀ x,x ∈ bids->1<=oqt x /\ oqt x<=1000):=fun x hx=>(okOrder_pq (hR.b.ok x hx)).2.2
 have QA:Hid (∀ x,x ∈ asks->1<=oqt x /\ oqt x<=1000):=fun x hx=>(okOrder_pq (hR.a.ok x hx)).2.2
 have LB:Hid (bids.length<=1000):=by show bids.length<=1000; omega
 have LA:Hid (asks.length<=1000):=by show asks.length<=1000; omega
 rw [hnb,hna]; clear h h' hR hok hl hnb hna
 go_enter Tryz.func127,Tryz.ntmps127
 go_wp2_with fail
 refine (MC.out _ (hb0 _ _ _)).mono ?_
 rintro e W ⟨rfl,hb⟩
 have BW:=hide ((hb0 _ _ _).trans (hb.mono (by simp; omega)))
 have T:=hide (two_below (two_made _ _ _ _ _) hb); have e0:W.cell? ⟨w.heap.size,0,none⟩ = some (.slice p nb c):=box3_a hb rfl; have e1:W.cell? ⟨w.heap.size,1,none⟩ = some (.slice p' na c'):=box3_a hb rfl; have f0:W.cell? ⟨w.heap.size + 1,0,none⟩ = some (.int .i64 a):=box3_b hb rfl; have f1:W.cell? ⟨w.heap.size + 1,1,none⟩ = some (.int .i64 ac):=box3_b hb rfl; have f2:W.cell? ⟨w.heap.size + 1,2,none⟩ = some (.int .i64 sd):=box3_b hb rfl; have f3:W.cell? ⟨w.heap.size + 1,3,none⟩ = some (.int .i64 pr):=box3_b hb rfl; have f4:W.cell? ⟨w.heap.size + 1,4,none⟩ = some (.int .i64 q):=box3_b hb rfl; clear hb hb0 MC; have tW:Hid (w.heap.size + 1 + 1 < W.heap.size):=two_lt T.out; obtain ⟨C,hCC⟩:∃ C,C=RC W (w.heap.size + 1 + 1):=⟨_,rfl⟩
 have CR:Hid (∀ x,C x->RC W (w.heap.size + 1 + 1) x):=fun x hx=>by rw [hCC] at hx; exact hx
 have CQ:Hid (∀ x,RC W (w.heap.size + 1 + 1) x->C x):=fun x hx=>by rw [hCC]; exact hx
 have CS:Hid (Shut C):=by rw [hCC]; exact rc_shut
 have C0:Hid (C { W with drawn:=W.drawn + 1 }):=by rw [hCC]; exact ⟨(below_drawn W).mono (Nat.le_of_lt tW.out),Nat.le_refl _,two_below T.out (below_drawn W)⟩
 have hC:∀ p1:InC C,∀ a v,a.block < w.heap.size + 1 + 1->W.cell? a=some v->p1.w.cell? a=some v:=fun p1 a v ha hv=>((CR.out p1.w p1.h).1.cell ha).trans hv
 have g0:=fun p1=>hC p1 ⟨w.heap.size,0,none⟩ _ (by simp; omega) e0
 have g1:=fun p1=>hC p1 ⟨w.heap.size,1,none⟩ _ (by simp; omega) e1
 have F0:=hide f0; have F1:=hide f1; have F2:=hide f2; have F3:=hide f3; have F4:=hide f4; clear hC hCC e0 e1 f0 f1 f2 f3 f4
 go_wp2_with fail
 refine wp_region_mix [(0,true),(1,true),(3,true),(4,true),(2,false),(5,false),(6,true),(7,false)] C mixed (by kernel_rfl) C0.out ?_
 repeat (refine mix_still (by rfl) ?_; go_big_quiet_step (exact rfl); refine wpQuiet_nil ?_)
 refine mix_main (by rfl) ?_
 rintro ⟨x1,hx1⟩
 dsimp only; have cr1:=CR.out x1 hx1
 have bx1:=BW.out.trans (cr1.1.mono (by omega))
 have hcon:=CB.out x1 bx1; have hsz1:Hid (w.heap.size + 1 + 1 + 1<=x1.heap.size):=Nat.le_trans tW.out cr1.2.1; have HX1:=hide hx1; clear cr1 bx1
 go_wp2_with (go_at_call 139; refine hcon.mono ?_; rintro e w1 ⟨v1,rfl,hown1,hb1⟩)
 have hown1':=own_base hown1 hsz1.out; obtain ⟨p1,c1,rfl,-,hlt1⟩:=own_ov hown1'
 refine ⟨fun x=>Owning C (w.heap.size + 1 + 1 + 1) (.slice p1 bids.length c1) bids x /\ w1.heap.size<=x.heap.size,⟨⟨CS.out x1 w1 HX1.out hb1,hown1'⟩,Nat.le_refl _⟩,fun x hx=>hx.1.1,?_⟩
 have M1:Hid (∀ a,p1=some a->a.block < w1.heap.size):=fun a ha=>(hlt1 a ha).2
 generalize w1.heap.size=M at M1 ⊢
 have CS1:Hid (Shut (fun x=>Owning C (w.heap.size + 1 + 1 + 1) (.slice p1 bids.length c1) bids x /\ M<=x.heap.size)):=fun x y hx hy=>⟨owning_shut CS.out (w.heap.size + 1 + 1 + 1) (.slice p1 bids.length c1) bids x y hx.1 hy,Nat.le_trans hx.2 hy.size⟩
 have K1:Hid (∀ x,(fun x=>Owning C (w.heap.size + 1 + 1 + 1) (.slice p1 bids.length c1) bids x /\ M<=x.heap.size) x ↔ (C x /\ x.ownsRow (w.heap.size + 1 + 1 + 1) 27 5 (.slice p1 bids.length c1) bids.length (flat bids)) /\ M<=x.heap.size):=fun x=>Iff.rfl
 generalize (fun x=>Owning C (w.heap.size + 1 + 1 + 1) (.slice p1 bids.length c1) bids x /\ M<=x.heap.size)=C1 at CS1 K1 ⊢
 clear hcon hown1 hown1' hb1 w1 HX1 hsz1 g0 g1 hlt1 hx1 x1
 refine mix_main (by rfl) ?_
 rintro ⟨x2,hx2⟩
 dsimp only; have cr2:=CR.out x2 ((K1.out x2).1 hx2).1.1
 have bx2:=BW.out.trans (cr2.1.mono (by omega))
 have hcon:=CA.out x2 bx2; have hsz2:Hid (w.heap.size + 1 + 1 + 1<=x2.heap.size):=Nat.le_trans tW.out cr2.2.1; have hM2:Hid (M<=x2.heap.size):=((K1.out x2).1 hx2).2; have HX2:=hide hx2; clear cr2 bx2
 go_wp2_with (go_at_call 139; refine hcon.mono ?_; rintro e w2 ⟨v2,rfl,hown2,hb2⟩)
 have hown2':=own_base hown2 (show max M (w.heap.size + 1 + 1 + 1)<=x2.heap.size from Nat.max_le.2 ⟨hM2.out,hsz2.out⟩); obtain ⟨M2,hM2e⟩:∃ M2,M2=max M (w.heap.size + 1 + 1 + 1):=⟨_,rfl⟩; rw [<- hM2e] at hown2'
 have MM:Hid (M<=M2 /\ w.heap.size + 1 + 1 + 1<=M2):=by rw [hM2e]; exact ⟨Nat.le_max_left _ _,Nat.le_max_right _ _⟩
 obtain ⟨p2,c2,rfl,-,-⟩:=own_ov hown2'
 refine ⟨Owning C1 M2 (.slice p2 asks.length c2) asks,⟨CS1.out x2 w2 HX2.out hb2,hown2'⟩,fun x hx=>hx.1,?_⟩
 have K2:Hid (∀ x,Owning C1 M2 (.slice p2 asks.length c2) asks x ↔ C1 x /\ x.ownsRow M2 27 5 (.slice p2 asks.length c2) asks.length (flat asks)):=fun x=>Iff.rfl
 generalize Owning C1 M2 (.slice p2 asks.length c2) asks=C2 at K2 ⊢; clear hcon hown2 hown2' hb2 w2 HX2 hsz2 hM2 hM2e hx2 x2
 repeat (refine mix_still (by rfl) ?_; go_big_quiet_step (exact rfl); refine wpQuiet_nil ?_)
 refine mix_main (by rfl) ?_
 rintro ⟨x3,hx3⟩
 dsimp only; obtain ⟨y1,y2⟩:=(K2.out x3).1 hx3; obtain ⟨⟨z1,z2⟩,z3⟩:=(K1.out x3).1 y1; have cr3:=CR.out x3 z1; obtain ⟨u0,u1,t0,t1,t2,t3⟩:=two_facts cr3.2.2; have S1:=hide (two_set cr3.2.2 (.slice p1 bids.length c1) (.slice p2 asks.length c2)); have S2:=hide (CQ.out _ (rc_set cr3 (.slice p1 bids.length c1) (.slice p2 asks.length c2)))
 have S3:=hide (two_ownsRow z2 (t:=w.heap.size + 1 + 1) (by omega) (.slice p1 bids.length c1) (.slice p2 asks.length c2))
 have S4:=hide (two_ownsRow y2 (t:=w.heap.size + 1 + 1) (by have:=MM.out.2; omega) (.slice p1 bids.length c1) (.slice p2 asks.length c2))
 have S5:Hid (M<=((x3.setCell ⟨w.heap.size + 1 + 1,0,none⟩ (.slice p1 bids.length c1)).setCell ⟨w.heap.size + 1 + 1,1,none⟩ (.slice p2 asks.length c2)).heap.size):=by rw [two_size]; exact z3
 clear y1 y2 z1 z2 z3 cr3
 go_wp2
 refine ⟨fun x=>C2 x /\ x.cell? ⟨w.heap.size + 1 + 1,0,none⟩ = some (.slice p1 bids.length c1) /\ x.cell? ⟨w.heap.size + 1 + 1,1,none⟩ = some (.slice p2 asks.length c2),⟨(K2.out _).2 ⟨(K1.out _).2 ⟨⟨S2.out,S3.out⟩,S5.out⟩,S4.out⟩,S1.out.1,S1.out.2⟩,fun x hx=>hx.1,?_⟩
 clear S1 S2 S3 S4 S5 t0 t1 t2 t3 hx3 x3
 refine mix_end ?_
 rintro ⟨x5,k2,s0,s1⟩
 dsimp only; obtain ⟨y1,y2⟩:=(K2.out x5).1 k2; obtain ⟨⟨z1,z2⟩,z3⟩:=(K1.out x5).1 y1; have cr5:=CR.out x5 z1
 have B5:=hide (BW.out.trans (cr5.1.mono (by omega)))
 have T5:=hide cr5.2.2
 have f0:=(cr5.1.cell (p:=⟨w.heap.size + 1,0,none⟩) (by simp)).trans F0.out
 have f1:=(cr5.1.cell (p:=⟨w.heap.size + 1,1,none⟩) (by simp)).trans F1.out
 have f2:=(cr5.1.cell (p:=⟨w.heap.size + 1,2,none⟩) (by simp)).trans F2.out
 have f3:=(cr5.1.cell (p:=⟨w.heap.size + 1,3,none⟩) (by simp)).trans F3.out
 have f4:=(cr5.1.cell (p:=⟨w.heap.size + 1,4,none⟩) (by simp)).trans F4.out
 obtain ⟨p3,c3,ev1,ov1,ob1⟩:=own_ov z2; obtain ⟨p4,c4,ev2,ov2,ob2⟩:=own_ov y2; cases ev1; cases ev2; have O1:=hide z2; have O2:=hide y2; have V1:=hide ov1; have V2:=hide ov2; have OB1:=hide ob1; have OB2:=hide ob2; clear k2 y1 y2 z1 z2 z3 cr5 ov1 ov2 ob1 ob2 K1 K2 C1 C2 CR CQ CS C0 C CS1 CA CB F0 F1 F2 F3 F4 BW T W tW
 have TF:=takeFrom_any (.slice p1 bids.length c1) (w.heap.size + 1 + 1 + 1) bids a ac sd pr q x5 O1.out LB.out QB.out (by omega) (by omega)
 rw [<- HT.out] at TF
 go_wp2_with fail
 refine TF.mono ?_
 rintro e w6 ⟨p6,c6,vF,rfl,h1,h2,h3,h4⟩
 have nt:some (w.heap.size + 1 + 1) ≠ Value.ownBlock (.slice p1 bids.length c1):=own_ne _ _ (fun ad ha=>by have:=(OB1.out ad ha).1; omega)
 have T6:=hide (two_grown T5.out h3 nt); have s1':=grown_cell h3 nt s1
 have W2:=hide (ov_grown V2.out h3 (fun ad ha=>own_ne _ _ (fun ad' ha'=>by have:=(OB2.out ad ha).1; have:=M1.out ad' ha'; have:=MM.out.1; omega)))
 have B6:=hide (B5.out.grown h3 B5.out.size (fun k hk=>by obtain ⟨ad,ha,rfl⟩:=own_some hk; have:=(OB1.out ad ha).1; omega))
 have P6:Hid (∀ ad,p6=some ad->w.heap.size + 1 + 1 + 1<=ad.block):=fun ad ha=>(h4 ad ha).1
 have P2:Hid (∀ ad,p2=some ad->w.heap.size + 1 + 1 + 1<=ad.block):=fun ad ha=>by have:=(OB2.out ad ha).1; have:=MM.out.2; omega
 have X5:Hid (w.heap.size + 1 + 1 < x5.heap.size):=two_lt T5.out; have H1:=hide h1; have H2:=hide h2; dsimp only at H1 H2 ⊢; obtain ⟨v0,v1,t0,t1,t2,t3⟩:=two_facts T6.out; obtain ⟨q0,q1,q2⟩:=two_zero T6.out s1' (.slice p6 R.length c6); obtain ⟨-,-,-,-,q3,q4⟩:=two_facts q2; have SZ:=hide (two_set q2 (.slice p6 R.length c6) (.slice p2 asks.length c2)); clear TF h1 h2 h3 h4 nt O1 O2 V1 V2 OB1 OB2 M1 MM s0 s1 f0 f1 f2 f3 f4 T5
 go_wp2
 obtain ⟨r0,r1⟩:=SZ.out
 refine bodyPost_ret (v:=.tuple #[.agg #[.slice p6 R.length c6,.slice p2 asks.length c2],vF,.int .i64 left,.bool met,.int .i64 0]) (by simp [results,Tryz.results127,go_sem,r0,r1]) rfl ⟨p6,c6,p2,c2,vF,rfl,?_,?_,?_,?_,fun ad ha=>by have:=P6.out ad ha; omega,fun ad ha=>by have:=P2.out ad ha; omega⟩
 ·exact ov_two (ov_set H1.out (fun ad ha=>by have:=P6.out ad ha; omega) _) (fun ad ha=>by have:=P6.out ad ha; omega) _ _
 ·exact ov_two (ov_set W2.out (fun ad ha=>by have:=P2.out ad ha; omega) _) (fun ad ha=>by have:=P2.out ad ha; omega) _ _
 ·exact own_base (ownsRow_setCell_below (ownsRow_setCell_below (ownsRow_setCell_below H2.out X5.out _) X5.out _) X5.out _) B5.out.size
 ·exact two_below_set (B6.out.setCell (by show w.heap.size<=w.heap.size + 1 + 1; omega) _) (by omega) _ _
theorem take_any (p p':Option Addr) (c c':Nat) (bids asks:List Odr) (o:Odr) (w:World) (h:OV w p c bids) (h':OV w p' c' asks) (hR:Right bids asks) (hok:okOrder o=0) :
  Calls Tryz.prog 127 #[.agg #[.slice p bids.length c,.slice p' asks.length c'],odrV o] w
   (TakePost w (takeB bids asks o) (takeA bids asks o) (takeT bids asks o).2.1 (takeT bids asks o).2.2.1 (takeT bids asks o).2.2.2):=by
 obtain ⟨a,ac,sd,pr,q⟩:=o
 by_cases hs:sd=1
 ·have:=take_buy p p' c c' bids asks a ac sd pr q w h h' hR hok hs
  simp only [takeB,takeA,takeT,osd,oqt,if_pos hs]; exact this
 ·have:=take_sell p p' c c' bids asks a ac sd pr q w h h' hR hok hs
  simp only [takeB,takeA,takeT,osd,oqt,if_neg hs]; exact this
end Go.Proofs.YtpkbiafhnflmnaaGreatDoor.Bk
