/-
  slices.Grow of nothing and slices.Concat at orders, by contracts.
-/
import Derived.Test.YtpkbiafhnflmnaaGreatDoorS09
import Derived.Laws.OwnMore
import Derived.Laws.AppendOwnNone
import Derived.Shelf.SlGeneric
import Derived.Shelf.SlSorted.Search
import Derived.Shelf.SlicesQ.Equal
import Derived.Shelf.Spec.SlicesGrow
import Derived.Ground.SlsoProg
import Derived.Ground.SlgqProg
import Derived.Ground.Names8Prog
import Derived.Test.YtpkbiafhnflmnaaGreatDoorProg
namespace Go.Proofs.YtpkbiafhnflmnaaGreatDoor.Bk
open Go.RowKit Go.Sort Go.Maps Go.Proofs.YtpkbiafhnflmnaaGreatDoor.Mix
theorem enc_length (o:Odr):(enc o).length=5:=rfl
/-- the cells of a row. -/
def flat (xs:List Odr):List Value:=xs.flatMap enc
theorem flat_cons (x:Odr) (xs:List Odr):flat (x :: xs)=enc x ++ flat xs:=rfl
theorem flat_append (xs ys:List Odr):flat (xs ++ ys)=flat xs ++ flat ys:=by unfold flat; rw [List.flatMap_append]
theorem flat_length:∀ xs:List Odr,(flat xs).length=xs.length * 5
 |[]=>rfl
 |x :: xs=>by rw [flat_cons,List.length_append,enc_length,flat_length xs,List.length_cons]; omega
theorem flat_get:∀ (xs:List Odr) (j i:Nat),j < xs.length->i < 5->(flat xs)[j * 5 + i]? = (enc xs[j]!)[i]?
 |[],j,_,h,_=>absurd h (by simp)
 |x :: xs,0,i,_,hi=>by
  rw [flat_cons,Nat.zero_mul,Nat.zero_add,List.getElem?_append_left (by rw [enc_length]; exact hi)]; rfl
 |x :: xs,j + 1,i,h,hi=>by
  rw [flat_cons,List.getElem?_append_right (by rw [enc_length]; omega),enc_length,show (j + 1) * 5 + i - 5=j * 5 + i by omega,flat_get xs j i (by simpa using h) hi]; rfl
theorem flat_one (xs:List Odr):∀ u ∈ flat xs,u.oneCell'=true:=by
 intro u hu
 obtain ⟨x,_,hx⟩:=List.mem_flatMap.1 hu; simp only [enc,List.mem_cons,List.not_mem_nil,or_false] at hx
 rcases hx with rfl | rfl | rfl | rfl | rfl <;> rfl
theorem add_lit (b off j:Nat):(⟨b,off,none⟩:Addr).add j = ⟨b,off + j,none⟩:=by unfold Addr.add; split <;> simp_all
/-- cells of a row, from its orders. -/
theorem flat_cells {w:World} {b off:Nat} {xs:List Odr} (hc:∀ j,j < xs.length->∀ i v,(enc xs[j]!)[i]? = some v->w.cell? ⟨b,off + j * 5 + i,none⟩ = some v) :
  ∀ j u,(flat xs)[j]? = some u->w.cell? ((⟨b,off,none⟩:Addr).add j)=some u:=by
 intro j u hu
 have hj:j < xs.length * 5:=by
  rw [<- flat_length]
  exact (List.getElem?_eq_some_iff.1 hu).1
 have e:j=(j / 5) * 5 + j % 5:=by omega
 rw [e,flat_get xs (j / 5) (j % 5) (by omega) (by omega)] at hu
 rw [add_lit]
 have:=hc (j / 5) (by omega) (j % 5) u hu
 rw [show off + j=off + j / 5 * 5 + j % 5 by omega]
 exact this
theorem cells_flat {w:World} {b off:Nat} {xs:List Odr} (h:∀ j u,(flat xs)[j]? = some u->w.cell? ⟨b,off + j,none⟩ = some u) :
  ∀ j,j < xs.length->∀ i v,(enc xs[j]!)[i]? = some v->w.cell? ⟨b,off + j * 5 + i,none⟩ = some v:=by
 intro j hj i v hv
 have hi:i < 5:=by have:=(List.getElem?_eq_some_iff.1 hv).1; rw [enc_length] at this; exact this
 rw [Nat.add_assoc]
 exact h (j * 5 + i) v (by rw [flat_get xs j i hj hi]; exact hv)
/-- a slice that holds these orders. -/
structure OV (w:World) (p:Option Addr) (c:Nat) (xs:List Odr):Prop where
 row:ORow w p xs
 nil:p=none->c=0
 cap:xs.length<=c
theorem OV.below {w w':World} {p:Option Addr} {c:Nat} {xs:List Odr} (h:OV w p c xs) (hb:Below w.heap.size w w'):OV w' p c xs:=⟨orow_below h.row hb,h.nil,h.cap⟩
theorem ov_nil (w:World):OV w none 0 []:=⟨.inl rfl,fun _=>rfl,Nat.le_refl _⟩
/-- what the call owns is such a slice. -/
theorem own_ov {w:World} {B:Nat} {v:Value} {xs:List Odr} (h:w.ownsRow B 27 5 v xs.length (flat xs)):∃ p c,v=.slice p xs.length c /\ OV w p c xs /\ (∀ a,p=some a->B<=a.block /\ a.block < w.heap.size):=by
 have hc:=fun g=>h.cells (g:=g)
 have hl:=h.lt
 rcases h.2 with ⟨rfl,hn⟩ | ⟨g,cap,cur,rfl,hb,hg,hnc,hm,hs,ht⟩
 ·have hx:xs=[]:=List.eq_nil_of_length_eq_zero hn
  subst hx
  exact ⟨none,0,rfl,ov_nil w,fun a ha=>by cases ha⟩
 ·refine ⟨some ⟨g,0,none⟩,cap,rfl,⟨.inr ⟨g,0,rfl,cells_flat fun j u hu=>?_⟩,(fun h=>by cases h),hnc⟩,fun a ha=>?_⟩
  ·have:=hc g rfl j u hu
   rw [add_lit] at this; exact this
  ·cases ha
   exact hl g rfl
theorem Tryz.infoO:(Tryz.prog.info? 27).map (fun i=>(i.zero,i.size,i.bytes))=some (some (odrV noOdr),5,40):=by kernel_rfl
set_option maxHeartbeats 1000000 in
theorem copyOf_any (p:Option Addr) (c:Nat) (xs:List Odr) (w:World) (h:OV w p c xs) (hn:xs.length * 40<=140737488351232) :
  Calls Tryz.prog 143 #[.slice p xs.length c] w fun e w'=>∃ v,e=.returned v /\ w'.ownsRow w.heap.size 27 5 v xs.length (flat xs) /\ Below w.heap.size w w':=by
 obtain ⟨i0,hi,hz0,hz1,hz2⟩:=info_parts Tryz.infoO
 cases p with
 |none =>
  have hc0:=h.nil rfl; subst hc0; have hx:xs=[]:=List.eq_nil_of_length_eq_zero (Nat.le_zero.1 h.cap); subst hx
  go_enter Tryz.func143,Tryz.ntmps143
  go_wp2_with (at_builtin; refine wpList_append_own_none rfl _ _ 48 rfl w.heap.size 27 i0 5 Tryz.underlying48 hi _ 0 [] rfl (World.ownsRow_nil _ _ _ _) rfl ?_)
  go_ret
  exact ⟨_,rfl,World.ownsRow_nil _ _ _ _,Below.refl _ _⟩
 |some ad =>
  have hcells:Hid (∀ j u,(flat xs)[j]? = some u->w.cell? (ad.add j)=some u):=by
   rcases h.row with rfl | ⟨b,off,he,hc⟩
   ·intro j u hu; simp [flat] at hu
   ·cases he; exact flat_cells hc
  have hfl:=hide (flat_length xs); have hf1:=hide (flat_one xs); generalize hfx:flat xs=fl at hcells hfl hf1 ⊢; generalize hxn:xs.length=n at hfl hn ⊢; clear h hfx hxn xs
  go_enter Tryz.func143,Tryz.ntmps143
  go_wp2_with (at_builtin; refine wpList_append_own _ rfl _ _ 48 rfl w.heap.size 27 i0 (odrV noOdr) 5 40 Tryz.underlying48 hi hz0 hz1 hz2 rfl (by decide) _ 0 [] rfl (World.ownsRow_nil _ _ _ _) ad n c fl rfl hfl.out hcells.out hf1.out (by unfold maxLen; omega) (by omega) (Nat.le_refl _) ?_; intro v' w1 hown1 hgrow1 hnil1)
  go_ret
  refine ⟨_,rfl,?_,?_⟩
  ·rw [Nat.zero_add,List.nil_append] at hown1; exact hown1
  ·exact (Below.refl _ _).grown hgrow1 (Nat.le_refl _) (fun k hk=>by cases hk)
end Go.Proofs.YtpkbiafhnflmnaaGreatDoor.Bk
namespace Go.Proofs
open Go.Shelf
def Tryz.searchB_ren:Go.Shelf.Ren:=⟨fun | 16=>117 | n=>n,fun | 3=>3 | 35=>63 | 4=>4 | 38=>183 | n=>n,fun | n=>n⟩
theorem Tryz.searchB:Go.Proofs.SlLaysO.n16 Tryz.prog Tryz.searchB_ren:={
 mixed:=by kernel_rfl
 f16:=Tryz.func117.trans (congrArg some (by kernel_rfl))
 t3:=Tryz.underlying3
 a3:=Tryz.isAgg3
 z3:=Tryz.sizeOf3
 v3:=Tryz.zeroValue3
 t4:=Tryz.underlying4
 a4:=Tryz.isAgg4
 z4:=Tryz.sizeOf4
 v4:=Tryz.zeroValue4
 t35:=Tryz.underlying63
 a35:=Tryz.isAgg63
 z35:=Tryz.sizeOf63
 v35:=Tryz.zeroValue63
 t38:=Tryz.underlying183
 a38:=Tryz.isAgg183
 z38:=Tryz.sizeOf183
 v38:=Tryz.zeroValue183 }
def Tryz.equalB_ren:Go.Shelf.Ren:=⟨fun | 8=>119 | n=>n,fun | 22=>48 | 24=>27 | 4=>4 | 3=>3 | 0=>0 | n=>n,fun | n=>n⟩
theorem Tryz.equalB:Go.Proofs.SlLaysQ.n8 Tryz.prog Tryz.equalB_ren:={
 mixed:=by kernel_rfl
 f8:=⟨Tryz.f119.name,by decide,Tryz.func119.trans (congrArg some (by kernel_rfl))⟩
 t0:=Tryz.underlying0
 a0:=Tryz.isAgg0
 z0:=Tryz.sizeOf0
 v0:=Tryz.zeroValue0
 t3:=Tryz.underlying3
 a3:=Tryz.isAgg3
 z3:=Tryz.sizeOf3
 v3:=Tryz.zeroValue3
 t4:=Tryz.underlying4
 a4:=Tryz.isAgg4
 z4:=Tryz.sizeOf4
 v4:=Tryz.zeroValue4
 t22:=Tryz.underlying48
 a22:=Tryz.isAgg48
 z22:=Tryz.sizeOf48
 v22:=Tryz.zeroValue48 }
def Tryz.growB_ren:Go.Shelf.Ren:=⟨fun | 4=>67 | n=>n,fun | 22=>48 | 25=>27 | 3=>3 | 4=>4 | 9=>9 | 20=>20 | 0=>0 | n=>n,fun | n=>n⟩
theorem Tryz.growB:Go.Proofs.Lays8.n4 Tryz.prog Tryz.growB_ren:={
 mixed:=by kernel_rfl
 f4:=⟨Tryz.f67.name,by decide,Tryz.func67.trans (congrArg some (by kernel_rfl))⟩
 t0:=Tryz.underlying0
 a0:=Tryz.isAgg0
 z0:=Tryz.sizeOf0
 v0:=Tryz.zeroValue0
 t3:=Tryz.underlying3
 a3:=Tryz.isAgg3
 z3:=Tryz.sizeOf3
 v3:=Tryz.zeroValue3
 t4:=Tryz.underlying4
 a4:=Tryz.isAgg4
 z4:=Tryz.sizeOf4
 v4:=Tryz.zeroValue4
 t9:=Tryz.underlying9
 a9:=Tryz.isAgg9
 z9:=Tryz.sizeOf9
 v9:=Tryz.zeroValue9
 t20:=Tryz.underlying20
 a20:=Tryz.isAgg20
 z20:=Tryz.sizeOf20
 v20:=Tryz.zeroValue20
 t22:=Tryz.underlying48
 a22:=Tryz.isAgg48
 z22:=Tryz.sizeOf48
 v22:=Tryz.zeroValue48 }
end Go.Proofs
namespace Go.Proofs.YtpkbiafhnflmnaaGreatDoor.Bk
open Go.RowKit Go.Sort Go.Maps Go.Proofs.YtpkbiafhnflmnaaGreatDoor.Mix
theorem grow_any (n:Nat) (w:World) (hn:n * 40<=140737488351232) :
  Calls Tryz.prog 67 #[.slice none 0 0,.int .i64 n] w fun e w'=>∃ v,e=.returned v /\ w'.ownsRow w.heap.size 27 5 v 0 [] /\ Below w.heap.size w w':=by
 by_cases h0:n=0
 ·subst h0
  refine (Any8.slices_Grow_room Tryz.growB none 0 0 0 w (Nat.le_refl _) (by omega) (by omega) (by omega)).mono ?_
  rintro e w' ⟨rfl,rfl⟩
  exact ⟨_,rfl,World.ownsRow_nil _ _ _ _,Below.refl _ _⟩
 ·obtain ⟨i0,hi,hz0,hz1,hz2⟩:=info_parts Tryz.infoO
  have hg:=Any8.slices_Grow_grow Tryz.growB i0 (odrV noOdr) hi hz0 (by rw [hz1]; decide) none 0 0 n [] w (Nat.le_refl _) (by omega) (by rw [hz2]; omega) (by omega) (by simp) (fun _=>rfl) (fun a ha=>by cases ha)
  refine hg.mono ?_
  rintro e w' ⟨rfl,rfl⟩
  have hge:=grownCap_ge w (0 + n) 0 27
  have hle:=grownCap_le_maxLen w (0 + n) 0 27 (by unfold maxLen; omega)
  refine ⟨_,rfl,?_,?_⟩
  ·refine World.ownsRow_made (w:=w.drew) (base:=w.heap.size) (e:=27) (size:=5) _ _ (Nat.le_refl _) hle ?_
   simp only [Array.size_append,size_zeroCells]
   show 0 + (0 + n - 0) * 5 + (grownCap w (0 + n) 0 27 - (0 + n)) * 5=grownCap w (0 + n) 0 27 * 5
   omega
  ·exact ((Below.refl _ w).drew).alloc (Nat.le_refl _) _
abbrev Lst:=Option Addr × Nat × List Odr
abbrev lstV (l:Lst):Value:=.slice l.1 l.2.2.length l.2.1
def joined (ls:List Lst):List Odr:=ls.flatMap fun l=>l.2.2
theorem joined_at {ls:List Lst} {k:Nat} (h:k < ls.length):joined (ls.take (k + 1))=joined (ls.take k) ++ (ls[k]!).2.2:=by
 rw [List.take_add_one,List.getElem?_eq_getElem h,getElem!_pos ls k h]
 unfold joined; rw [List.flatMap_append]; simp
theorem joined_le (ls:List Lst) (k:Nat):(joined (ls.take k)).length<=(joined ls).length:=by
 conv=>rhs; rw [<- List.take_append_drop k ls]
 unfold joined; rw [List.flatMap_append,List.length_append]
 omega
set_option maxHeartbeats 2000000 in
set_option maxRecDepth 100000 in
theorem concat_any (g c:Nat) (ls:List Lst) (w:World) (hc:∀ j,j < ls.length->w.cell? ⟨g,j,none⟩ = some (lstV ls[j]!)) (hls:∀ j,j < ls.length->OV w (ls[j]!).1 (ls[j]!).2.1 (ls[j]!).2.2) (hg:g < w.heap.size)
  (hk:ls.length<=1000) (hn:(joined ls).length * 40<=140737488351232) :
  Calls Tryz.prog 26 #[.slice (some ⟨g,0,none⟩) ls.length c] w fun e w'=>∃ v,e=.returned v /\ w'.ownsRow w.heap.size 27 5 v (joined ls).length (flat (joined ls)) /\ Below w.heap.size w w':=by
 obtain ⟨i0,hi,hz0,hz1,hz2⟩:=info_parts Tryz.infoO; have HC:=hide hc; have HL:=hide hls; have JL:=hide (joined_le ls); clear hc hls; generalize hkn:ls.length=n at hk ⊢; have N:=hide hkn; clear hkn; generalize hjn:(joined ls).length=tot at hn JL; have JT:=hide hjn; clear hjn; have G:=hide hg; clear hg
 go_enter Tryz.func26,Tryz.ntmps26
 go_wp2
 go_loopw [3,11] (fun s i wr=>∃ k sk:Nat,k<=n /\ i=.int .i64 k /\ s=.int .i64 sk /\ Hid (Below w.heap.size w wr) /\ Hid (sk=(joined (ls.take k)).length)) (fun _ i _=>n - (intOf i).toNat)
 case atStart=>exact ⟨0,0,Nat.zero_le _,rfl,rfl,Below.refl _ _,rfl⟩
 case round =>
  obtain ⟨k,sk,hkn,rfl,rfl,BW,SK⟩:=hrel
  by_cases hlt:k < n
  ·have hltz:(k:Int) < (n:Int):=by omega
   have hkx:k < ls.length:=by rw [N.out]; exact hlt
   have cx:=(BW.out.cell (p:=⟨g,k,none⟩) G.out).trans (HC.out k hkx); have hj:=hide (congrArg List.length (joined_at hkx)); have hjl:=JL.out (k + 1); rw [hj.out,List.length_append,<- SK.out] at hjl; generalize hlk:ls[k]! = lk at cx hj hjl; obtain ⟨pk,ck,xk⟩:=lk; dsimp only [lstV] at cx hj hjl
   have hj2:Hid (sk + xk.length=(joined (ls.take (k + 1))).length):=by rw [hj.out,List.length_append,<- SK.out]; rfl
   generalize xk.length=nk at cx hj2 hjl; clear hj hlk
   go_wp2
   go_roundw
   case rel=>exact ⟨k + 1,sk + nk,by omega,by go_num,by go_num,BW,hj2⟩
   case measure=>simp [intOf]; omega
  ·have hk':k=n:=by omega
   subst hk'
   have hst:Hid (sk=tot):=by rw [SK.out,<- N.out,List.take_length,JT.out]; rfl
   have hst':=hst.out; clear SK; subst hst'
   go_wp2_with fail
   refine (grow_any sk wr (by omega)).mono ?_
   rintro e w2 ⟨v0,rfl,hown0,hb0⟩
   have O0:Hid (w2.ownsRow w.heap.size 27 5 v0 0 []):=hide (by
    refine ⟨hown0.1,?_⟩
    rcases hown0.2 with h | ⟨g1,cap,cur,h1,h2,h3⟩
    ·exact .inl h
    ·exact .inr ⟨g1,cap,cur,h1,Nat.le_trans BW.out.size h2,h3⟩)
   have BW2:=hide (BW.out.trans (hb0.mono BW.out.size)); clear hown0 hb0 hst BW
   go_wp2
   go_loopw [6,27] (fun v i wr=>∃ j:Nat,j<=k /\ i=.int .i64 j /\ Hid (Below w.heap.size w wr) /\ Hid (wr.ownsRow w.heap.size 27 5 v (joined (ls.take j)).length (flat (joined (ls.take j))))) (fun _ i _=>k - (intOf i).toNat)
   case atStart=>exact ⟨0,Nat.zero_le _,rfl,BW2,O0⟩
   case round =>
    obtain ⟨j,hjk,rfl,BW,O⟩:=hrel
    by_cases hltj:j < k
    ·have hltz2:(j:Int) < (k:Int):=by omega
     have hjx:j < ls.length:=by rw [N.out]; exact hltj
     have cx:=(BW.out.cell (p:=⟨g,j,none⟩) G.out).trans (HC.out j hjx); have hov:=(HL.out j hjx).below BW.out; have hja:=hide (joined_at hjx); have hjl:=JL.out (j + 1); rw [hja.out,List.length_append] at hjl; generalize ls[j]! = lj at cx hja hjl hov; obtain ⟨pj,cj,xj⟩:=lj; dsimp only [lstV] at cx hja hjl hov; have hsz:=BW.out.size
     cases pj with
     |none =>
      have hc0:=hov.nil rfl; subst hc0; have hx:xj=[]:=List.eq_nil_of_length_eq_zero (Nat.le_zero.1 hov.cap); subst hx; clear hov; simp only [List.length_nil] at cx
      have hja2:Hid (joined (ls.take (j + 1))=joined (ls.take j)):=by rw [hja.out,List.append_nil]; rfl
      clear hja hjl
      go_wp2_with (at_builtin; refine wpList_append_own_none rfl _ _ 48 rfl w.heap.size 27 i0 5 Tryz.underlying48 hi _ _ _ rfl O.out rfl ?_)
      go_roundw
      case rel=>exact ⟨j + 1,by omega,by go_num,BW,by rw [hja2.out]; exact O⟩
      case measure=>simp [intOf]; omega
     |some ad =>
      have hcells:Hid (∀ jj u,(flat xj)[jj]? = some u->wr.cell? (ad.add jj)=some u):=by
       rcases hov.row with rfl | ⟨b,off,he,hc⟩
       ·intro jj u hu; simp [flat] at hu
       ·cases he; exact flat_cells hc
      have hfl:=hide (flat_length xj); have hf1:=hide (flat_one xj)
      have hj3:Hid ((joined (ls.take (j + 1))).length=(joined (ls.take j)).length + xj.length):=by rw [hja.out,List.length_append]; rfl
      have hj4:Hid (flat (joined (ls.take (j + 1)))=flat (joined (ls.take j)) ++ flat xj):=by rw [hja.out,flat_append]; rfl
      clear hja hov; generalize flat xj=fx at hcells hfl hf1 hj4; generalize xj.length=nj at cx hfl hjl hj3; generalize joined (ls.take j)=J at O hj3 hj4 hjl; generalize hJn:J.length=Jn at O hj3 hjl; generalize hJf:flat J=Jf at O hj4; clear hJn hJf
      go_wp2_with (at_builtin; refine wpList_append_own _ rfl _ _ 48 rfl w.heap.size 27 i0 (odrV noOdr) 5 40 Tryz.underlying48 hi hz0 hz1 hz2 rfl (by decide) _ Jn Jf rfl O.out ad nj cj fx rfl hfl.out hcells.out hf1.out (by unfold maxLen; omega) (by omega) hsz ?_; intro v' w1 hown1 hgrow1 hnil1)
      go_roundw
      case rel =>
       refine ⟨j + 1,by omega,by go_num,?_,?_⟩
       ·exact BW.out.grown hgrow1 hsz (fun kk hkk=>(O.out.lt kk hkk).1)
       ·rw [hj3.out,hj4.out]; exact hown1
      case measure=>simp [intOf]; omega
    ·have hj':j=k:=by omega
     subst hj'
     go_wp2
     go_ret
     refine ⟨_,rfl,?_,BW.out⟩
     have:=O.out; rw [<- N.out,List.take_length,JT.out] at this; exact this
end Go.Proofs.YtpkbiafhnflmnaaGreatDoor.Bk
