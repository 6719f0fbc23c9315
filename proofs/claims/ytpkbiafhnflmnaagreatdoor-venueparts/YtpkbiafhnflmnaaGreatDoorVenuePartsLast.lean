/-
  VenueParts is true of every venue, all lists of commands and every number: commands in two runs do what they do in one. The table of tiers reads as the program's text lays it (the card ties it).
-/
import Derived.Shelf.SlGeneric
import Derived.Shelf.SlicesQ.Equal
import Derived.Ground.SlgqProg
import Derived.Shelf.Spec.SlicesGrow
import Derived.Ground.Names8Prog
import Derived.Test.YtpkbiafhnflmnaaGreatDoorProg
import Derived.Test.YtpkbiafhnflmnaaGreatDoorS46
import Derived.Test.YtpkbiafhnflmnaaGreatDoorS12
import Derived.Laws.StructEq
import Derived.Test.YtpkbiafhnflmnaaGreatDoorS10
import Derived.Test.YtpkbiafhnflmnaaGreatDoorS19
import Derived.Test.YtpkbiafhnflmnaaGreatDoorS48
import Derived.Test.YtpkbiafhnflmnaaGreatDoorRows
import Derived.Test.YtpkbiafhnflmnaaGreatDoorCards
import Derived.Test.YtpkbiafhnflmnaaGreatDoorTie
import Derived.Outline
import Derived.ProofKit
import Derived.OpenShut
import Derived.ChangeOld
import Derived.Below
import Derived.SizedLaws
import Derived.Lay
import Derived.MakeChecks
import Derived.SevenTiedAt
namespace Go.Proofs
open Go.Shelf
def Tryz.equalV_ren:Go.Shelf.Ren:=⟨fun | 8=>43 | n=>n,fun | 22=>30 | 24=>70 | 4=>4 | 3=>3 | 0=>0 | n=>n,fun | n=>n⟩
theorem Tryz.equalV:Go.Proofs.SlLaysQ.n8 Tryz.prog Tryz.equalV_ren:={
 mixed:=by kernel_rfl
 f8:=⟨Tryz.f43.name,by decide,Tryz.func43.trans (congrArg some (by kernel_rfl))⟩
 t0:=Tryz.underlying0
 a0:=Tryz.isAgg0
 z0:=Tryz.sizeOf0
 v0:=Tryz.zeroValue0
 t3:=Tryz.underlying3
 a3:=Tryz.isAgg3
 z3:=Tryz.sizeOf3
 v3:=Tryz.zeroValue3
 t4:=Tryz.underlying4
 a4:=Tryz.isAgg4
 z4:=Tryz.sizeOf4
 v4:=Tryz.zeroValue4
 t22:=Tryz.underlying30
 a22:=Tryz.isAgg30
 z22:=Tryz.sizeOf30
 v22:=Tryz.zeroValue30 }
def Tryz.growV_ren:Go.Shelf.Ren:=⟨fun | 4=>73 | n=>n,fun | 22=>81 | 25=>30 | 3=>3 | 4=>4 | 9=>9 | 20=>20 | 0=>0 | n=>n,fun | n=>n⟩
theorem Tryz.growV:Go.Proofs.Lays8.n4 Tryz.prog Tryz.growV_ren:={
 mixed:=by kernel_rfl
 f4:=⟨Tryz.f73.name,by decide,Tryz.func73.trans (congrArg some (by kernel_rfl))⟩
 t0:=Tryz.underlying0
 a0:=Tryz.isAgg0
 z0:=Tryz.sizeOf0
 v0:=Tryz.zeroValue0
 t3:=Tryz.underlying3
 a3:=Tryz.isAgg3
 z3:=Tryz.sizeOf3
 v3:=Tryz.zeroValue3
 t4:=Tryz.underlying4
 a4:=Tryz.isAgg4
 z4:=Tryz.sizeOf4
 v4:=Tryz.zeroValue4
 t9:=Tryz.underlying9
 a9:=Tryz.isAgg9
 z9:=Tryz.sizeOf9
 v9:=Tryz.zeroValue9
 t20:=Tryz.underlying20
 a20:=Tryz.isAgg20
 z20:=Tryz.sizeOf20
 v20:=Tryz.zeroValue20
 t22:=Tryz.underlying81
 a22:=Tryz.isAgg81
 z22:=Tryz.sizeOf81
 v22:=Tryz.zeroValue81 }
end Go.Proofs
namespace Go.Proofs.YtpkbiafhnflmnaaGreatDoor.Vn
open Go.RowKit Go.Lib Go.Proofs.YtpkbiafhnflmnaaGreatDoor.Num Go.Proofs.YtpkbiafhnflmnaaGreatDoor.Fix Go.Proofs.YtpkbiafhnflmnaaGreatDoor.AcP Go.Proofs.YtpkbiafhnflmnaaGreatDoor.FuP Go.Proofs.YtpkbiafhnflmnaaGreatDoor.Bk Go.Proofs.YtpkbiafhnflmnaaGreatDoor.Rm Go.Proofs.YtpkbiafhnflmnaaGreatDoor.Ac Go.Sort Go.Maps Go.Proofs.YtpkbiafhnflmnaaGreatDoor.Mix Go.Proofs.YtpkbiafhnflmnaaGreatDoor.RkP
set_option maxHeartbeats 4000000 in
set_option maxRecDepth 100000 in
theorem eqFl (a1 a2 a3 a4 a5 a6 a7 b1 b2 b3 b4 b5 b6 b7:Int) (w:World):Sem.run Tryz.prog (Op.equalIn 9999 68 (.agg #[.int .i64 a1,.int .i64 a2,.int .i64 a3,.int .i64 a4,.int .i64 a5,.int .i64 a6,.int .i64 a7]) (.agg #[.int .i64 b1,.int .i64 b2,.int .i64 b3,.int .i64 b4,.int .i64 b5,.int .i64 b6,.int .i64 b7])) w=.ok (a1 == b1 && a2 == b2 && a3 == b3 && a4 == b4 && a5 == b5 && a6 == b6 && a7 == b7) w:=by
 have u3:=Tryz.underlying3; have ag:=Tryz.isAgg3; have z3:=Tryz.sizeOf3
 have hS2:Tryz.prog.underlying 68=some (.struct (Tryz.prog.fieldsOf 68)):=by kernel_rfl
 have hp2:Tryz.prog.stoodInHeld 68=false:=by kernel_rfl
 rw [show (9999:Nat)=9998 + 1 from rfl,run_equalIn_agg w 9998 68 _ _ hS2 hp2]; simp only [Program.fieldsOf,Tryz.underlying68]; clear hS2 hp2; cases h1:(a1 == b1)
 ·go_simp
 cases h2:(a2 == b2)
 ·go_simp
 cases h3:(a3 == b3)
 ·go_simp
 cases h4:(a4 == b4)
 ·go_simp
 cases h5:(a5 == b5)
 ·go_simp
 cases h6:(a6 == b6)
 ·go_simp
 cases h7:(a7 == b7)
 ·go_simp
 go_simp
def evEq (x y:Ev):Bool:=x.1 == y.1 && x.2.1 == y.2.1 && x.2.2.1 == y.2.2.1 && x.2.2.2.1 == y.2.2.2.1 && x.2.2.2.2.1 == y.2.2.2.2.1 && x.2.2.2.2.2.1 == y.2.2.2.2.2.1 && (x.2.2.2.2.2.2.1 == y.2.2.2.2.2.2.1 && x.2.2.2.2.2.2.2.1 == y.2.2.2.2.2.2.2.1 && x.2.2.2.2.2.2.2.2.1 == y.2.2.2.2.2.2.2.2.1 && x.2.2.2.2.2.2.2.2.2.1 == y.2.2.2.2.2.2.2.2.2.1 && x.2.2.2.2.2.2.2.2.2.2.1 == y.2.2.2.2.2.2.2.2.2.2.1 && x.2.2.2.2.2.2.2.2.2.2.2.1 == y.2.2.2.2.2.2.2.2.2.2.2.1 && x.2.2.2.2.2.2.2.2.2.2.2.2 == y.2.2.2.2.2.2.2.2.2.2.2.2)
set_option maxHeartbeats 8000000 in
set_option maxRecDepth 100000 in
theorem neqE:NeqAt Tryz.prog 70 (fun x=>.agg (encE x).toArray) evEq:=by
 refine ⟨fun x y w=>?_,GuardAt.agg _ (by kernel_rfl)⟩
 have u3:=Tryz.underlying3; have ag:=Tryz.isAgg3; have z3:=Tryz.sizeOf3; have u3':=Tryz.underlying31; have ag':=Tryz.isAgg31; have z3':=Tryz.sizeOf31; have ao:=Tryz.isAgg68; have zo:=Tryz.sizeOf68
 have hS:Tryz.prog.underlying 70=some (.struct (Tryz.prog.fieldsOf 70)):=by kernel_rfl
 have hp:Tryz.prog.stoodInHeld 70=false:=by kernel_rfl
 obtain ⟨a1,a2,a3,a4,a5,a6,a7,a8,a9,a10,a11,a12,a13⟩:=x; obtain ⟨b1,b2,b3,b4,b5,b6,b7,b8,b9,b10,b11,b12,b13⟩:=y; have eo:=eqFl a7 a8 a9 a10 a11 a12 a13 b7 b8 b9 b10 b11 b12 b13; simp only [evEq]; simp only [encE,encF,List.cons_append,List.nil_append]; rw [run_neq_struct,show (10000:Nat)=9999 + 1 from rfl,run_equalIn_agg w 9999 70 _ _ hS hp]; simp only [Program.fieldsOf,Tryz.underlying70]; clear hS hp; generalize (a7 == b7 && a8 == b8 && a9 == b9 && a10 == b10 && a11 == b11 && a12 == b12 && a13 == b13)=q at *; cases h1:(a1 == b1)
 ·go_simp
 cases h2:(a2 == b2)
 ·go_simp
 cases h3:(a3 == b3)
 ·go_simp
 cases h4:(a4 == b4)
 ·go_simp
 cases h5:(a5 == b5)
 ·go_simp
 cases h6:(a6 == b6)
 ·go_simp
 cases q <;> go_simp
theorem allEqE:∀ xs:List Ev,Lib.allEq evEq xs xs=true
 |[]=>by simp [Lib.allEq]
 |x :: xs=>by simp [Lib.allEq,allEqE xs,evEq]
set_option maxRecDepth 100000 in
theorem equalE_none (p p':Option Addr) (c c':Nat) (w:World) :
  Calls Tryz.prog 43 #[.slice p 0 c,.slice p' 0 c'] w fun e w'=>e=.returned (.bool true) /\ ∃ k,w'=w.drewN k:=by
 go_enter Tryz.func43,Tryz.ntmps43
 go_wp2
 refine wp_loop_rounds 1 ?_
 rw [rounds_succ]
 go_wp2
 go_ret
 exact ⟨rfl,0,rfl⟩
/-- a list of events against itself, wherever it lies. -/
theorem equalE_same (x y:Value) (K:List Ev) (G G':Nat->Prop) (w:World) (h:EIn G w x K) (h':EIn G' w y K) :
  Calls Tryz.prog 43 #[x,y] w fun e w'=>e=.returned (.bool true) /\ Below w.heap.size w w':=by
 have hb:∀ k,Below w.heap.size w (w.drewN k):=fun k=>drewN_below (Below.refl _ w) k
 by_cases hx:K=[]
 ·subst hx
  obtain ⟨p,c,rfl,-⟩:=h; obtain ⟨p',c',rfl,-⟩:=h'
  exact (equalE_none p p' c c' w).mono fun _ _ ⟨he,k,hk⟩=>⟨he,hk ▸ hb k⟩
 ·have hl:=List.length_pos_iff.2 hx
  obtain ⟨p,c,rfl,-,hm,hr,-⟩:=h; obtain ⟨p',c',rfl,-,-,hr',-⟩:=h'
  obtain ⟨b,off,rfl,hc⟩:∃ b off,p=some ⟨b,off,none⟩ /\ ∀ j u,(flatE K)[j]? = some u->w.cell? ⟨b,off + j,none⟩ = some u:=by
   rcases hr with e | e
   ·exact absurd e hx
   ·exact e
  obtain ⟨b',off',rfl,hc'⟩:∃ b off,p'=some ⟨b,off,none⟩ /\ ∀ j u,(flatE K)[j]? = some u->w.cell? ⟨b,off + j,none⟩ = some u:=by
   rcases hr' with e | e
   ·exact absurd e hx
   ·exact e
  have cell:∀ (b off:Nat),(∀ j u,(flatE K)[j]? = some u->w.cell? ⟨b,off + j,none⟩ = some u)->∀ j,j < K.length->∀ i v,(encE K[j]!)[i]? = some v->w.cell? ⟨b,off + j * 13 + i,none⟩ = some v:=fun b off hc j hj i v hv=>by
   have hi:i < 13:=(List.getElem?_eq_some_iff.1 hv).1
   rw [getElem!_pos K j hj] at hv; rw [Nat.add_assoc]; exact hc _ v ((flat_get encE_len K j hj i hi).trans hv)
  have hcon:=AnyQ.slices_Equal Tryz.equalV 13 Tryz.isAgg70 Tryz.sizeOf70 encE encE_len evEq neqE b off K.length c b' off' K.length c' K K w (Nat.le_refl _) (Nat.le_refl _) (by unfold maxLen at hm; omega) (by unfold maxLen at hm; omega) (cell b off hc) (cell b' off' hc')
  rw [List.take_length,allEqE] at hcon
  exact hcon.mono fun _ _ ⟨he,k,hk⟩=>⟨he,hk ▸ hb k⟩
theorem partsEq_any (x y:Value) (K:List Ev) (G G':Nat->Prop) (w:World) (h:EIn G w x K) (h':EIn G' w y K) :
  Calls Tryz.prog 42 #[x,y] w fun e w'=>e=.returned (.bool true) /\ Below w.heap.size w w':=by
 have EQ:=hide (equalE_same x y K G G' w h h'); clear h h'
 go_enter Tryz.func42,Tryz.ntmps42
 go_wp2_with fail
 refine EQ.out.mono ?_
 rintro e w' ⟨rfl,hb⟩
 go_wp2
 go_ret
 exact ⟨rfl,hb⟩
/-- lists of lists that can be read. -/
def LRow (w:World) (p:Option Addr) (L:List (List Ev)):Prop:=L=[] \/ ∃ b off,p=some ⟨b,off,none⟩ /\ ∀ i (hi:i < L.length),∃ x,w.cell? ⟨b,off + i,none⟩ = some x /\ EIn (fun _=>False) w x (L[i]'hi)
theorem EIn.below {w w':World} {x:Value} {K:List Ev} (h:EIn (fun _=>False) w x K) (hb:Below w.heap.size w w'):EIn (fun _=>False) w' x K:=h.but (F:=fun _=>False) (.of_below hb) (fun _ f=>f)
theorem EEv.lrow {B:Nat} {w:World} {v:Value} {L:List (List Ev)} (h:EEv B w v L):∃ p c,v=.slice p L.length c /\ LRow w p L /\ (p=none->c=0):=by
 by_cases hL:L=[]
 ·subst hL
  obtain ⟨E,h1,-⟩:=h
  rcases h1.2 with ⟨rfl,-⟩ | ⟨g,cap,cur,rfl,-⟩
  ·exact ⟨none,0,rfl,.inl rfl,fun _=>rfl⟩
  ·exact ⟨_,_,rfl,.inl rfl,fun e=>by cases e⟩
 ·obtain ⟨g,cap,rfl,hc⟩:=h.at (List.length_pos_iff.2 hL)
  refine ⟨_,_,rfl,.inr ⟨g,0,rfl,fun i hi=>?_⟩,fun e=>by cases e⟩
  obtain ⟨x,h1,h2⟩:=hc i hi
  exact ⟨x,by rw [Nat.zero_add]; exact h1,h2.mono (fun _ f=>f.elim)⟩
set_option maxHeartbeats 2000000 in
set_option maxRecDepth 100000 in
theorem equalL_same (p p':Option Addr) (n c c':Nat) (L:List (List Ev)) (w:World) (hl:L.length=n) (hn:n<=1000000) (h:LRow w p L) (h':LRow w p' L) :
  Calls Tryz.prog 40 #[.slice p n c,.slice p' n c',fnV 42] w fun e w'=>e=.returned (.bool true) /\ Below w.heap.size w w':=by
 have eg:∀ args w,(callFunc 42 args).run Tryz.prog w=.ok (.enter 42 args) w:=enters_of Tryz.func42 (by kernel_rfl) rfl
 have H:=hide h; have H':=hide h'; have HL:=hide hl; clear h h' hl
 go_enter Tryz.func40,Tryz.ntmps40
 go_wp2
 go_loopw [17] (fun i wr=>∃ k:Nat,k<=n /\ i=.int .i64 k /\ Hid (Below w.heap.size w wr)) (fun i _=>n - (intOf i).toNat)
 case atStart=>exact ⟨0,Nat.zero_le _,rfl,Below.refl _ _⟩
 case round =>
  obtain ⟨k,hk,rfl,BW⟩:=hrel
  by_cases hlt:k < n
  ·have hltz:(k:Int) < (n:Int):=by omega
   have hkx:k < L.length:=by rw [HL.out]; exact hlt
   obtain ⟨b,off,rfl,hc⟩:∃ b off,p=some ⟨b,off,none⟩ /\ ∀ i (hi:i < L.length),∃ x,w.cell? ⟨b,off + i,none⟩ = some x /\ EIn (fun _=>False) w x (L[i]'hi):=by
    rcases H.out with e | e
    ·rw [e] at hkx; simp at hkx
    ·exact e
   obtain ⟨b',off',rfl,hc'⟩:∃ b off,p'=some ⟨b,off,none⟩ /\ ∀ i (hi:i < L.length),∃ x,w.cell? ⟨b,off + i,none⟩ = some x /\ EIn (fun _=>False) w x (L[i]'hi):=by
    rcases H'.out with e | e
    ·rw [e] at hkx; simp at hkx
    ·exact e
   obtain ⟨x,x1,x2⟩:=hc k hkx; obtain ⟨y,y1,y2⟩:=hc' k hkx; have X1:=(BW.out.cell (World.block_lt_of_cell? _ _ x1)).trans x1; have Y1:=(BW.out.cell (World.block_lt_of_cell? _ _ y1)).trans y1; have hcall:=partsEq_any x y _ _ _ wr (x2.below BW.out) (y2.below BW.out); clear hc hc' x1 x2 y1 y2
   go_wp2_with (go_at_fn 42; refine hcall.mono ?_; rintro e w' ⟨rfl,hb'⟩)
   go_roundw
   case rel=>exact ⟨k + 1,by omega,by go_num,BW.out.trans (hb'.mono BW.out.size)⟩
   case measure=>simp [intOf]; omega
  ·have hk':k=n:=by omega
   subst hk'
   go_wp2
   go_ret
   exact ⟨rfl,BW.out⟩
theorem infoL:(Tryz.prog.info? 30).map (fun i=>(i.zero,i.size,i.bytes))=some (some (.slice none 0 0),1,24):=by kernel_rfl
theorem growL_any (n:Nat) (w:World) (hn:n * 24<=140737488351232) :
  Calls Tryz.prog 73 #[.slice none 0 0,.int .i64 n] w fun e w'=>∃ v,e=.returned v /\ w'.ownsRow w.heap.size 30 1 v 0 [] /\ Below w.heap.size w w':=by
 by_cases h0:n=0
 ·subst h0
  refine (Any8.slices_Grow_room Tryz.growV none 0 0 0 w (Nat.le_refl _) (by omega) (by omega) (by omega)).mono ?_
  rintro e w' ⟨rfl,rfl⟩
  exact ⟨_,rfl,World.ownsRow_nil _ _ _ _,Below.refl _ _⟩
 ·obtain ⟨i0,hi,hz0,hz1,hz2⟩:=info_parts infoL
  have hg:=Any8.slices_Grow_grow Tryz.growV i0 (.slice none 0 0) hi hz0 (by rw [hz1]; decide) none 0 0 n [] w (Nat.le_refl _) (by omega) (by rw [hz2]; omega) (by omega) (by simp) (fun _=>rfl) (fun a ha=>by cases ha)
  refine hg.mono ?_
  rintro e w' ⟨rfl,rfl⟩
  have hge:=grownCap_ge w (0 + n) 0 30
  have hle:=grownCap_le_maxLen w (0 + n) 0 30 (by unfold maxLen; omega)
  refine ⟨_,rfl,?_,?_⟩
  ·refine World.ownsRow_made (w:=w.drew) (base:=w.heap.size) (e:=30) (size:=1) _ _ (Nat.le_refl _) hle ?_
   simp only [Array.size_append,size_zeroCells]
   show 0 + (0 + n - 0) * 1 + (grownCap w (0 + n) 0 30 - (0 + n)) * 1=grownCap w (0 + n) 0 30 * 1
   omega
  ·exact ((Below.refl _ w).drew).alloc (Nat.le_refl _) _
abbrev Lsv:=Option Addr × Nat × List Value
abbrev lsvV (l:Lsv):Value:=.slice l.1 l.2.2.length l.2.1
structure LOk (w:World) (l:Lsv):Prop where
 row:l.2.2=[] \/ ∃ b off,l.1=some ⟨b,off,none⟩ /\ ∀ j u,l.2.2[j]? = some u->w.cell? ⟨b,off + j,none⟩ = some u
 nil:l.1=none->l.2.1=0 /\ l.2.2=[]
 one:∀ u,u ∈ l.2.2->u.oneCell'=true
theorem LOk.below {w w':World} {l:Lsv} (h:LOk w l) (hb:Below w.heap.size w w'):LOk w' l:=by
 refine ⟨?_,h.nil,h.one⟩
 rcases h.row with e | ⟨b,off,e,hc⟩
 ·exact .inl e
 ·exact .inr ⟨b,off,e,fun j u hu=>(hb.cell (World.block_lt_of_cell? _ _ (hc j u hu))).trans (hc j u hu)⟩
def joinV (ls:List Lsv):List Value:=ls.flatMap fun l=>l.2.2
theorem joinV_at {ls:List Lsv} {k:Nat} (h:k < ls.length):joinV (ls.take (k + 1))=joinV (ls.take k) ++ (ls[k]'h).2.2:=by
 rw [List.take_add_one,List.getElem?_eq_getElem h]
 unfold joinV; rw [List.flatMap_append]; simp
theorem joinV_le (ls:List Lsv) (k:Nat):(joinV (ls.take k)).length<=(joinV ls).length:=by
 conv=>rhs; rw [<- List.take_append_drop k ls]
 unfold joinV; rw [List.flatMap_append,List.length_append]
 omega
set_option maxHeartbeats 2000000 in
set_option maxRecDepth 100000 in
theorem concatL_any (g c:Nat) (ls:List Lsv) (w:World) (hc:∀ j (hj:j < ls.length),w.cell? ⟨g,j,none⟩ = some (lsvV (ls[j]'hj))) (hls:∀ j (hj:j < ls.length),LOk w (ls[j]'hj)) (hg:g < w.heap.size)
  (hk:ls.length<=1000) (hn:(joinV ls).length * 24<=140737488351232) :
  Calls Tryz.prog 41 #[.slice (some ⟨g,0,none⟩) ls.length c] w fun e w'=>∃ v,e=.returned v /\ w'.ownsRow w.heap.size 30 1 v (joinV ls).length (joinV ls) /\ Below w.heap.size w w':=by
 obtain ⟨i0,hi,hz0,hz1,hz2⟩:=info_parts infoL; have HC:=hide hc; have HL:=hide hls; have JL:=hide (joinV_le ls); clear hc hls; generalize hkn:ls.length=n at hk ⊢; have N:=hide hkn; clear hkn; generalize hjn:(joinV ls).length=tot at hn JL; have JT:=hide hjn; clear hjn; have G:=hide hg; clear hg
 go_enter Tryz.func41,Tryz.ntmps41
 go_wp2
 go_loopw [3,11] (fun s i wr=>∃ k sk:Nat,k<=n /\ i=.int .i64 k /\ s=.int .i64 sk /\ Hid (Below w.heap.size w wr) /\ Hid (sk=(joinV (ls.take k)).length)) (fun _ i _=>n - (intOf i).toNat)
 case atStart=>exact ⟨0,0,Nat.zero_le _,rfl,rfl,Below.refl _ _,rfl⟩
 case round =>
  obtain ⟨k,sk,hkn,rfl,rfl,BW,SK⟩:=hrel
  by_cases hlt:k < n
  ·have hltz:(k:Int) < (n:Int):=by omega
   have hkx:k < ls.length:=by rw [N.out]; exact hlt
   have cx:=(BW.out.cell (p:=⟨g,k,none⟩) G.out).trans (HC.out k hkx); have hj:=hide (congrArg List.length (joinV_at hkx)); have hjl:=JL.out (k + 1); rw [hj.out,List.length_append,<- SK.out] at hjl; generalize hlk:ls[k]'hkx=lk at cx hj hjl; obtain ⟨pk,ck,xk⟩:=lk; dsimp only [lsvV] at cx hj hjl
   have hj2:Hid (sk + xk.length=(joinV (ls.take (k + 1))).length):=by rw [hj.out,List.length_append,<- SK.out]; rfl
   generalize xk.length=nk at cx hj2 hjl; clear hj hlk
   go_wp2
   go_roundw
   case rel=>exact ⟨k + 1,sk + nk,by omega,by go_num,by go_num,BW,hj2⟩
   case measure=>simp [intOf]; omega
  ·have hk':k=n:=by omega
   subst hk'
   have hst:Hid (sk=tot):=by rw [SK.out,<- N.out,List.take_length,JT.out]; rfl
   have hst':=hst.out; clear SK; subst hst'
   go_wp2_with fail
   refine (growL_any sk wr (by omega)).mono ?_
   rintro e w2 ⟨v0,rfl,hown0,hb0⟩
   have O0:Hid (w2.ownsRow w.heap.size 30 1 v0 0 []):=hide (by
    refine ⟨hown0.1,?_⟩
    rcases hown0.2 with h | ⟨g1,cap,cur,h1,h2,h3⟩
    ·exact .inl h
    ·exact .inr ⟨g1,cap,cur,h1,Nat.le_trans BW.out.size h2,h3⟩)
   have BW2:=hide (BW.out.trans (hb0.mono BW.out.size)); clear hown0 hb0 hst BW
   go_wp2
   go_loopw [6,27] (fun v i wr=>∃ j:Nat,j<=k /\ i=.int .i64 j /\ Hid (Below w.heap.size w wr) /\ Hid (wr.ownsRow w.heap.size 30 1 v (joinV (ls.take j)).length (joinV (ls.take j)))) (fun _ i _=>k - (intOf i).toNat)
   case atStart=>exact ⟨0,Nat.zero_le _,rfl,BW2,O0⟩
   case round =>
    obtain ⟨j,hjk,rfl,BW,O⟩:=hrel
    by_cases hltj:j < k
    ·have hltz2:(j:Int) < (k:Int):=by omega
     have hjx:j < ls.length:=by rw [N.out]; exact hltj
     have cx:=(BW.out.cell (p:=⟨g,j,none⟩) G.out).trans (HC.out j hjx); have hov:=(HL.out j hjx).below BW.out; have hja:=hide (joinV_at hjx); have hjl:=JL.out (j + 1); rw [hja.out,List.length_append] at hjl; generalize ls[j]'hjx=lj at cx hja hjl hov; obtain ⟨pj,cj,xj⟩:=lj; dsimp only [lsvV] at cx hja hjl; have hsz:=BW.out.size
     cases pj with
     |none =>
      obtain ⟨hc0,hx⟩:=hov.nil rfl; dsimp only at hc0 hx; subst hc0; subst hx; clear hov; simp only [List.length_nil] at cx
      have hja2:Hid (joinV (ls.take (j + 1))=joinV (ls.take j)):=by rw [hja.out,List.append_nil]; rfl
      clear hja hjl
      go_wp2_with (at_builtin; refine wpList_append_own_none rfl _ _ 81 rfl w.heap.size 30 i0 1 Tryz.underlying81 hi _ _ _ rfl O.out rfl ?_)
      go_roundw
      case rel=>exact ⟨j + 1,by omega,by go_num,BW,by rw [hja2.out]; exact O⟩
      case measure=>simp [intOf]; omega
     |some ad =>
      have hcells:Hid (∀ jj u,xj[jj]? = some u->wr.cell? (ad.add jj)=some u):=by
       rcases hov.row with e | ⟨b,off,he,hc⟩
       ·dsimp only at e
        subst e
        intro jj u hu; simp at hu
       ·cases he; exact fun jj u hu=>by rw [add_lit]; exact hc jj u hu
      have hf1:Hid (∀ u ∈ xj,u.oneCell'=true):=hov.one
      have hj3:Hid ((joinV (ls.take (j + 1))).length=(joinV (ls.take j)).length + xj.length):=by rw [hja.out,List.length_append]; rfl
      have hj4:Hid (joinV (ls.take (j + 1))=joinV (ls.take j) ++ xj):=hja; clear hja hov; have hfl:Hid (xj.length=xj.length * 1):=(Nat.mul_one _).symm; generalize hnj:xj.length=nj at cx hfl hjl hj3
      have hfl2:Hid (xj.length=nj * 1):=by show xj.length=nj * 1; omega
      clear hnj hfl; generalize joinV (ls.take j)=J at O hj3 hj4 hjl; generalize hJn:J.length=Jn at O hj3 hjl; clear hJn
      go_wp2_with (at_builtin; refine wpList_append_own _ rfl _ _ 81 rfl w.heap.size 30 i0 (.slice none 0 0) 1 24 Tryz.underlying81 hi hz0 hz1 hz2 rfl (by decide) _ Jn J rfl O.out ad nj cj xj rfl hfl2.out hcells.out hf1.out (by unfold maxLen; omega) (by omega) hsz ?_; intro v' w1 hown1 hgrow1 hnil1)
      go_roundw
      case rel =>
       refine ⟨j + 1,by omega,by go_num,?_,?_⟩
       ·exact BW.out.grown hgrow1 hsz (fun kk hkk=>(O.out.lt kk hkk).1)
       ·rw [hj3.out,hj4.out]; exact hown1
      case measure=>simp [intOf]; omega
    ·have hj':j=k:=by omega
     subst hj'
     go_wp2
     go_ret
     refine ⟨_,rfl,?_,BW.out⟩
     have:=O.out; rw [<- N.out,List.take_length,JT.out] at this; exact this
/-- a list of lists, as a row of values. -/
theorem EEv.lok {B:Nat} {w:World} {v:Value} {L:List (List Ev)} (h:EEv B w v L):∃ l:Lsv,v=lsvV l /\ LOk w l /\ l.2.2.length=L.length /\ ∀ i (hi:i < L.length) x,l.2.2[i]? = some x->EIn (fun _=>False) w x (L[i]'hi):=by
 obtain ⟨E,h1,h2⟩:=h; have h1':=h1
 have hE:E.length=L.length:=by have:=h1.1; omega
 have hone:∀ u,u ∈ E->u.oneCell'=true:=fun u hu=>by
  obtain ⟨i,hi,rfl⟩:=List.getElem_of_mem hu
  obtain ⟨p,c,e,-⟩:=h2 i (by omega) _ (List.getElem?_eq_getElem hi)
  rw [e]
  rfl
 rcases h1.2 with ⟨rfl,e⟩ | ⟨g,cap,cur,rfl,hb,hg,hn,hm,hs,ht⟩
 ·have hE0:E=[]:=List.eq_nil_of_length_eq_zero (by omega)
  subst hE0
  refine ⟨(none,0,[]),rfl,⟨.inl rfl,fun _=>⟨rfl,rfl⟩,hone⟩,hE,fun i hi x hx=>by simp at hx⟩
 ·refine ⟨(some ⟨g,0,none⟩,cap,E),by simp only [lsvV]; rw [hE],⟨.inr ⟨g,0,rfl,fun j u hu=>?_⟩,(fun e=>by cases e),hone⟩,hE,fun i hi x hx=>(h2 i hi x hx).mono (fun _ f=>f.elim)⟩
  have hj:j < E.length:=(List.getElem?_eq_some_iff.1 hu).1
  dsimp only at hu ⊢
  rw [Nat.zero_add,h1'.cellAt j (by omega)]
  exact hu
end Go.Proofs.YtpkbiafhnflmnaaGreatDoor.Vn
namespace Go.Proofs.YtpkbiafhnflmnaaGreatDoor.Vn
open Go.RowKit Go.Proofs.YtpkbiafhnflmnaaGreatDoor.Num Go.Proofs.YtpkbiafhnflmnaaGreatDoor.Fix Go.Proofs.YtpkbiafhnflmnaaGreatDoor.AcP Go.Proofs.YtpkbiafhnflmnaaGreatDoor.FuP Go.Proofs.YtpkbiafhnflmnaaGreatDoor.Bk Go.Proofs.YtpkbiafhnflmnaaGreatDoor.Rm Go.Proofs.YtpkbiafhnflmnaaGreatDoor.Ac Go.Sort Go.Maps Go.Proofs.YtpkbiafhnflmnaaGreatDoor.Mix Go.Proofs.YtpkbiafhnflmnaaGreatDoor.RkP
theorem crow_drop {w:World} {b off:Nat} {l:List Cm} (hc:∀ j u,(l.flatMap encC)[j]? = some u->w.cell? ⟨b,off + j,none⟩ = some u) (k:Nat):∀ j u,((l.drop k).flatMap encC)[j]? = some u->w.cell? ⟨b,off + k * 11 + j,none⟩ = some u:=fun j u hu=>by
 by_cases hk:k<=l.length
 ·have h:=hc (k * 11 + j) u (by
   conv=>lhs; rw [<- List.take_append_drop k l,List.flatMap_append]
   have hl:((l.take k).flatMap encC).length=k * 11:=by
    rw [flat_len encC_len,List.length_take,Nat.min_eq_left hk]
   rw [List.getElem?_append_right (by omega),hl,show k * 11 + j - k * 11=j by omega]
   exact hu)
  rw [<- Nat.add_assoc] at h; exact h
 ·rw [List.drop_eq_nil_of_le (by omega)] at hu
  simp at hu
theorem run_len {s t:Tn} {l:List Cm} {L:List (List Ev)} (h:runR s l=.ok (t,L)):l.length<=60 /\ L.length=l.length /\ t.accs.length<=8 /\ t.mkts.length<=2:=by
 unfold runR at h
 split at h
 ·rename_i hc
  split at h
  ·cases h
  ·rename_i hl
   obtain ⟨u,K,e1,e2,e3,-⟩:=runL_ok l s [] hc; rw [e1] at h; simp only [List.nil_append,Except.ok.injEq,Prod.mk.injEq] at h; obtain ⟨rfl,rfl⟩:=h; have:=(checkE_zero.1 e2).1
   exact ⟨by omega,e3,this.few,this.m2⟩
 ·cases h
theorem own_lrow {w:World} {B:Nat} {v:Value} {L:List (List Ev)} {E:List Value} (h:w.ownsRow B 30 1 v E.length E) (hE:E.length=L.length) (h2:∀ i (hi:i < L.length) x,E[i]? = some x->EIn (fun _=>False) w x (L[i]'hi)):∃ p c,v=.slice p L.length c /\ LRow w p L:=by
 have h':=h
 rcases h.2 with ⟨rfl,e⟩ | ⟨g,cap,cur,rfl,hb,hg,hn,hm,hs,ht⟩
 ·have hL:L=[]:=List.eq_nil_of_length_eq_zero (by omega)
  subst hL; exact ⟨none,0,rfl,.inl rfl⟩
 ·refine ⟨_,_,by rw [hE],?_⟩
  by_cases hL:L=[]
  ·exact .inl hL
  ·refine .inr ⟨g,0,rfl,fun i hi=>?_⟩
   have hiE:i < E.length:=by omega
   refine ⟨E[i]'hiE,?_,h2 i hi _ (List.getElem?_eq_getElem hiE)⟩
   rw [Nat.zero_add,h'.cellAt i (by omega)]
   exact List.getElem?_eq_getElem hiE
abbrev zeroVO:Obj:=.cells #[.slice none 0 0,.slice none 0 0,.int .i64 0,.int .i64 0,.int .i64 0,.int .i64 0,.int .i64 0] 25
/-- what a run answers that goes well. -/
abbrev RunOk (t:Tn) (L:List (List Ev)) (w:World) (e:Ending) (w':World):Prop:=∃ v ev,e=.returned (.tuple #[v,ev,.int .i64 0]) /\ Below w.heap.size w w' /\ VNew w.heap.size w' v t /\ EEv w.heap.size w' ev L
theorem run_okay (v:Value) (s t:Tn) (L:List (List Ev)) (pl:Option Addr) (l:List Cm) (n c:Nat) (w:World) (h:VIn w v s) (hl:l.length=n) (hr:CRow w pl l) (hn:n<=140737488351232) (hL:Rk.Laid w) (hrun:runR s l=.ok (t,L)) :
  Calls Tryz.prog 39 #[v,.slice pl n c] w (RunOk t L w):=by
 refine (venue_run v s pl l n c w h hl hr hn hL).mono ?_
 rintro e w' ⟨hb,⟨t',L',v',ev',e1,e2,e3,e4⟩ | ⟨r,e1,-⟩⟩
 ·rw [hrun] at e1
  cases e1; exact ⟨_,_,e2,hb,e3,e4⟩
 ·rw [hrun] at e1
  cases e1
set_option maxHeartbeats 8000000 in
set_option maxRecDepth 100000 in
theorem law_parts (v:Value) (s:Tn) (pl:Option Addr) (cl:Nat) (l:List Cm) (k:Int) (w:World) (h:VIn w v s) (hcl:l.length<=140737488351232 /\ l.length<=cl /\ (pl=none->cl=0)) (hr:CRow w pl l) (hL:Rk.Laid w) :
  Calls Tryz.prog 10 #[v,.slice pl l.length cl,.int .i64 k] w fun e w'=>e=.returned (.bool true) /\ Below w.heap.size w w':=by
 have mixed:Tryz.prog.follows .mixedOrders=true:=by kernel_rfl
 obtain ⟨hln,hlc,hnil⟩:=hcl; obtain ⟨p,n1,cc,p',n2,cc',hv⟩:=vnew_is h; subst hv; obtain ⟨W,hW⟩:∃ W,W=w.alloc (.cells #[.slice p n1 cc,.slice p' n2 cc',.int .i64 s.ins,.int .i64 s.res,.int .i64 s.next,.int .i64 s.inn,.int .i64 s.out] 25):=⟨_,rfl⟩
 have b0:Below w.heap.size w W:=by rw [hW]; exact Ac.below_alloc _ _
 have E0:Hid (W.heap[w.heap.size]? = some (venO (.slice p n1 cc) (.slice p' n2 cc') s)):=by
  show W.heap[w.heap.size]? = _
  rw [hW]; exact heap_alloc_new w _
 have RU:=hide (venue_run _ s pl l l.length cl W (h.below b0) rfl (crow_below hr b0) hln (hL.next b0)); have VI:=hide h; have LD:=hide hL; have HR:=hide hr; have HW:=hide hW; have BW:=hide b0; clear hW b0 h hL hr; obtain ⟨n,hn⟩:∃ n,n=l.length:=⟨_,rfl⟩; rw [<- hn] at RU hln hlc ⊢; have HN:=hide hn; clear hn; obtain ⟨a0,a1,a2,a3,a4,a5,a6⟩:=ven_cells E0.out
 go_enter Tryz.func10,Tryz.ntmps10
 go_wp2_with (rw [<- HW.out])
 refine RU.out.mono ?_
 rintro e X ⟨hbX,⟨T,L,v',ev,hrun,rfl,hvX,heX⟩ | ⟨r,hrun,hr0,rfl⟩⟩
 ·obtain ⟨q,qn,qc,q',qn',qc',rfl⟩:=vnew_is hvX
  obtain ⟨X1,hX1⟩:∃ X1,X1=X.alloc (venO (.slice q qn qc) (.slice q' qn' qc') T):=⟨_,rfl⟩
  have hb1:Below X.heap.size X X1:=by rw [hX1]; exact Ac.below_alloc _ _
  have N1:=hide (hbX.trans (hb1.mono hbX.size)); have B1:=hide (BW.out.trans (N1.out.mono BW.out.size))
  have F1:Hid (X1.heap[X.heap.size]? = some (venO (.slice q qn qc) (.slice q' qn' qc') T)):=by show X1.heap[X.heap.size]? = _; rw [hX1]; exact heap_alloc_new X _
  have VX1:=hide ((hvX.below hb1).mono (Nat.zero_le _)); have EX1:=hide ((heX.below hb1).mono (Nat.zero_le _)); have F0:=hide (blk_below E0.out N1.out); have OP:=hide (opened_any X1 (LD.out.next B1.out)); have L1:=hide (LD.out.next B1.out); have HX1:=hide hX1; obtain ⟨l60,lL,lA,lM⟩:=run_len hrun; have HRUN:=hide hrun; have LLN:=hide lL; rw [<- HN.out] at l60; clear hX1 hb1 hvX heX hbX RU HW E0 a0 a1 a2 a3 a4 a5 a6 hrun lL
  go_wp2_with (rw [<- HX1.out])
  refine OP.out.mono ?_
  rintro e Y ⟨rfl,hbY⟩
  have BY:=hide (B1.out.trans (hbY.mono B1.out.size)); have LY:=hide (L1.out.next hbY); have Y0:=hide (blk_below F0.out hbY); have Y1:=hide (blk_below F1.out hbY); have VY:=hide (VX1.out.below hbY); have EY:=hide (EX1.out.below hbY); have VS:=hide (VI.out.below BY.out); have RY:=hide (crow_below HR.out BY.out)
  have AT:=hide (Own.at_any k ((n:Int) + 1) Y (by omega) (by omega))
  have ⟨m1,m2⟩:=Own.at_bd k ((n:Int) + 1) (by omega)
  clear OP HX1 hbY F0 F1 VX1 EX1 VI N1 B1 L1 HR
  go_wp2_with fail
  refine AT.out.mono ?_
  rintro e Z' ⟨rfl,hZ'⟩
  rw [hZ']; clear hZ' AT; obtain ⟨j,hj⟩:=Int.eq_ofNat_of_zero_le m1; rw [hj] at m2 ⊢; clear m1 hj
  have hjn:j<=n:=by omega
  have hjc:j<=cl:=by omega
  obtain ⟨y,La,Lb,r1,r2,r3⟩:=run_parts HRUN.out j; obtain ⟨-,ll1,ll2,ll3⟩:=run_len r1; obtain ⟨-,ll4,-,-⟩:=run_len r2
  obtain ⟨p2,c2,SLA,SLB,hp2⟩:∃ p2 c2,(∀ W:World,(Instr.slice 80 (.slice pl n cl) none (some (.int .i64 (j:Nat))) none).run Tryz.prog W=.ok (.slice pl j cl) W) /\ (∀ W:World,(Instr.slice 80 (.slice pl n cl) (some (.int .i64 (j:Nat))) none none).run Tryz.prog W=.ok (.slice p2 (n - j) c2) W) /\ CRow Y p2 (l.drop j):=by
   have hz:=Tryz.sizeOf29; have hu:=Tryz.underlying80
   have hel:Tryz.prog.elem 80=29:=by kernel_rfl
   refine ⟨if cl=j then pl else pl.map (·.add (j * 11)),cl - j,fun W=>?_,fun W=>?_,?_⟩
   ·rw [run_slice_h (P:=Tryz.prog) W 80 pl n cl (by rw [hel]; exact hu) .i64 (j:Int) (by omega) (by omega),hel,hz W]
    simp only [Result.andThen,sliced,Int.toNat_natCast,Nat.zero_mul,Nat.sub_zero]
    cases pl with
    |none=>simp
    |some a=>simp [Addr.add]
   ·rw [run_slice_l (P:=Tryz.prog) W 80 pl n cl (by rw [hel]; exact hu) .i64 (j:Int) (by omega) (by omega),hel,hz W]
    simp only [Result.andThen,sliced,Int.toNat_natCast]
   ·by_cases hd:l.drop j=[]
    ·exact .inl hd
    ·have hjl:j < l.length:=by
      by_cases hh:j < l.length
      ·exact hh
      ·exact absurd (List.drop_eq_nil_of_le (by omega)) hd
     rcases RY.out with e | ⟨b,off,rfl,hc⟩
     ·rw [e] at hjl; simp at hjl
     ·have hne:¬ cl=j:=by have:=HN.out; omega
      rw [if_neg hne]
      refine .inr ⟨b,off + j * 11,?_,crow_drop hc j⟩
      simp [add_lit]
  have RA:Hid (∀ Z,Below Y.heap.size Y Z->Calls Tryz.prog 39 #[venV (.slice p n1 cc) (.slice p' n2 cc') s,.slice pl j cl] Z (RunOk y La Z)):=fun Z hZ =>
   run_okay _ s y La pl (l.take j) j cl Z (VS.out.below hZ) (by rw [List.length_take,<- HN.out]; omega) (crow_take (crow_below RY.out hZ) j) (by omega) (LY.out.next hZ) r1
  have RB:Hid (∀ u Z,Below Y.heap.size Y Z->VIn Z u y->Calls Tryz.prog 39 #[u,.slice p2 (n - j) c2] Z (RunOk T Lb Z)):=fun u Z hZ hu =>
   run_okay u y T Lb p2 (l.drop j) (n - j) c2 Z hu (by rw [List.length_drop,<- HN.out]) (crow_below hp2 hZ) (by omega) (LY.out.next hZ) r2
  have HLL:Hid (L=La ++ Lb):=r3
  have HL1:Hid (La.length<=60 /\ Lb.length<=60):=by
   have h1:(l.take j).length<=60:=by rw [List.length_take]; have:=HN.out; omega
   have h2:(l.drop j).length<=60:=by rw [List.length_drop]; have:=HN.out; omega
   exact ⟨by omega,by omega⟩
  clear r1 r2 r3 hp2 RY VS HRUN ll1 ll2 ll3 ll4; obtain ⟨a0,a1,a2,a3,a4,a5,a6⟩:=ven_cells Y0.out
  have x0:∀ Z,Below Y.heap.size Y Z->Z.cell? ⟨w.heap.size,0,none⟩ = some (.slice p n1 cc):=fun Z hZ=>(hZ.cell (World.block_lt_of_cell? _ _ a0)).trans a0
  have x1:∀ Z,Below Y.heap.size Y Z->Z.cell? ⟨w.heap.size,1,none⟩ = some (.slice p' n2 cc'):=fun Z hZ=>(hZ.cell (World.block_lt_of_cell? _ _ a1)).trans a1
  have x2:∀ Z,Below Y.heap.size Y Z->Z.cell? ⟨w.heap.size,2,none⟩ = some (.int .i64 s.ins):=fun Z hZ=>(hZ.cell (World.block_lt_of_cell? _ _ a2)).trans a2
  have x3:∀ Z,Below Y.heap.size Y Z->Z.cell? ⟨w.heap.size,3,none⟩ = some (.int .i64 s.res):=fun Z hZ=>(hZ.cell (World.block_lt_of_cell? _ _ a3)).trans a3
  have x4:∀ Z,Below Y.heap.size Y Z->Z.cell? ⟨w.heap.size,4,none⟩ = some (.int .i64 s.next):=fun Z hZ=>(hZ.cell (World.block_lt_of_cell? _ _ a4)).trans a4
  have x5:∀ Z,Below Y.heap.size Y Z->Z.cell? ⟨w.heap.size,5,none⟩ = some (.int .i64 s.inn):=fun Z hZ=>(hZ.cell (World.block_lt_of_cell? _ _ a5)).trans a5
  have x6:∀ Z,Below Y.heap.size Y Z->Z.cell? ⟨w.heap.size,6,none⟩ = some (.int .i64 s.out):=fun Z hZ=>(hZ.cell (World.block_lt_of_cell? _ _ a6)).trans a6
  clear a0 a1 a2 a3 a4 a5 a6; have WD:Hid (Below Y.heap.size Y Y.drew):=(Below.refl _ Y).drew; have sx:Y.heap.size<=Y.heap.size + 1:=Nat.le_succ _
  have KN:Hid (∀ x,Below (Y.alloc zeroVO).drew.heap.size (Y.alloc zeroVO).drew x->x.heap[Y.heap.size]? = some zeroVO):=fun x hx=>blk_below (w:=(Y.alloc zeroVO).drew) (heap_alloc_new Y _) hx
  go_wp2_with fail
  go_region_held3 (fun w'=>Below Y.heap.size Y w') (first | (with_reducible assumption) | (with_reducible exact WD.out) | (repeat (first | (with_reducible assumption) | (with_reducible exact WD.out) | (with_reducible exact Below.refl _ _) | (with_reducible refine Below.drew ?_) | (with_reducible refine Below.alloc ?_ ?_ _) | (with_reducible refine Below.setCell ?_ ?_ _) | (exact Below.size (by with_reducible assumption)) | (exact Nat.le_refl _) | (exact sx) | (with_reducible refine (?_:Below Y.heap.size Y _).size) | (simp; done)))) ((go_at_call 39; refine (RA.out _ ?_).mono ?_; assumption; rintro e w1 ⟨v9,evA,rfl,hb,hv9,he9⟩; obtain ⟨t,tn,tc,t',tn',tc',rfl⟩:=vnew_is hv9; have hb':Below Y.heap.size Y w1:=Below.trans (by assumption) (hb.mono (Below.size (by assumption))); have HV:=hide hv9; have HE:=hide he9; clear hv9 he9; try (have kn:=(by with_reducible exact KN.out w1 hb:w1.heap[Y.heap.size]? = some zeroVO); have HKN:=hide kn; obtain ⟨⟨⟨u0,hu0⟩,uf0⟩,⟨⟨u1,hu1⟩,uf1⟩,⟨⟨u2,hu2⟩,uf2⟩,⟨⟨u3,hu3⟩,uf3⟩,⟨⟨u4,hu4⟩,uf4⟩,⟨⟨u5,hu5⟩,uf5⟩,⟨⟨u6,hu6⟩,uf6⟩⟩:=ven_opq kn; clear kn)))
  ·obtain ⟨N,hN⟩:∃ N00,N00=w1.alloc (venO (.slice t tn tc) (.slice t' tn' tc') y):=⟨_,rfl⟩
   rw [<- hN]
   have hbN:Below w1.heap.size w1 N:=by rw [hN]; exact Ac.below_alloc _ _
   have BN:Hid (Below Y.heap.size Y N):=hb'.trans (hbN.mono hb'.size)
   have FN:Hid (N.heap[w1.heap.size]? = some (venO (.slice t tn tc) (.slice t' tn' tc') y)):=by show N.heap[w1.heap.size]? = _; rw [hN]; exact heap_alloc_new w1 _
   have VN:Hid (VIn N (venV (.slice t tn tc) (.slice t' tn' tc') y) y):=(HV.out.below hbN).mono (Nat.zero_le _); have EN:Hid (EEv 0 N _ La):=(HE.out.below hbN).mono (Nat.zero_le _); clear hN hbN hb hb' HV HE WD sx KN; generalize w1.heap.size=tN at *; clear x0 x1 x2 x3 x4 x5 x6 RA
   have RN:Hid (∀ Z,Below N.heap.size N Z->Calls Tryz.prog 39 #[venV (.slice t tn tc) (.slice t' tn' tc') y,.slice p2 (n - j) c2] Z (RunOk T Lb Z)):=fun Z hZ=>RB.out _ Z (BN.out.trans (hZ.mono BN.out.size)) (VN.out.below hZ)
   obtain ⟨a0,a1,a2,a3,a4,a5,a6⟩:=ven_cells FN.out
   have x0:∀ Z,Below N.heap.size N Z->Z.cell? ⟨tN,0,none⟩ = some (.slice t tn tc):=fun Z hZ=>(hZ.cell (World.block_lt_of_cell? _ _ a0)).trans a0
   have x1:∀ Z,Below N.heap.size N Z->Z.cell? ⟨tN,1,none⟩ = some (.slice t' tn' tc'):=fun Z hZ=>(hZ.cell (World.block_lt_of_cell? _ _ a1)).trans a1
   have x2:∀ Z,Below N.heap.size N Z->Z.cell? ⟨tN,2,none⟩ = some (.int .i64 y.ins):=fun Z hZ=>(hZ.cell (World.block_lt_of_cell? _ _ a2)).trans a2
   have x3:∀ Z,Below N.heap.size N Z->Z.cell? ⟨tN,3,none⟩ = some (.int .i64 y.res):=fun Z hZ=>(hZ.cell (World.block_lt_of_cell? _ _ a3)).trans a3
   have x4:∀ Z,Below N.heap.size N Z->Z.cell? ⟨tN,4,none⟩ = some (.int .i64 y.next):=fun Z hZ=>(hZ.cell (World.block_lt_of_cell? _ _ a4)).trans a4
   have x5:∀ Z,Below N.heap.size N Z->Z.cell? ⟨tN,5,none⟩ = some (.int .i64 y.inn):=fun Z hZ=>(hZ.cell (World.block_lt_of_cell? _ _ a5)).trans a5
   have x6:∀ Z,Below N.heap.size N Z->Z.cell? ⟨tN,6,none⟩ = some (.int .i64 y.out):=fun Z hZ=>(hZ.cell (World.block_lt_of_cell? _ _ a6)).trans a6
   clear a0 a1 a2 a3 a4 a5 a6 RB; have WD:Hid (Below N.heap.size N N.drew):=(Below.refl _ N).drew; have sx:N.heap.size<=N.heap.size + 1:=Nat.le_succ _
   have KN:Hid (∀ x,Below (N.alloc zeroVO).drew.heap.size (N.alloc zeroVO).drew x->x.heap[N.heap.size]? = some zeroVO):=fun x hx=>blk_below (w:=(N.alloc zeroVO).drew) (heap_alloc_new N _) hx
   go_wp2_with fail
   go_region_held3 (fun w'=>Below N.heap.size N w') (first | (with_reducible assumption) | (with_reducible exact WD.out) | (repeat (first | (with_reducible assumption) | (with_reducible exact WD.out) | (with_reducible exact Below.refl _ _) | (with_reducible refine Below.drew ?_) | (with_reducible refine Below.alloc ?_ ?_ _) | (with_reducible refine Below.setCell ?_ ?_ _) | (exact Below.size (by with_reducible assumption)) | (exact Nat.le_refl _) | (exact sx) | (with_reducible refine (?_:Below N.heap.size N _).size) | (simp; done)))) ((go_at_call 39; refine (RN.out _ ?_).mono ?_; assumption; rintro e w1 ⟨v9,evB,rfl,hb,hv9,he9⟩; obtain ⟨u,un,uc,u',un',uc',rfl⟩:=vnew_is hv9; have hb':Below N.heap.size N w1:=Below.trans (by assumption) (hb.mono (Below.size (by assumption))); have HV:=hide hv9; have HE:=hide he9; clear hv9 he9; try (have kn:=(by with_reducible exact KN.out w1 hb:w1.heap[N.heap.size]? = some zeroVO); have HKN:=hide kn; obtain ⟨⟨⟨u0,hu0⟩,uf0⟩,⟨⟨u1,hu1⟩,uf1⟩,⟨⟨u2,hu2⟩,uf2⟩,⟨⟨u3,hu3⟩,uf3⟩,⟨⟨u4,hu4⟩,uf4⟩,⟨⟨u5,hu5⟩,uf5⟩,⟨⟨u6,hu6⟩,uf6⟩⟩:=ven_opq kn; clear kn)))
   ·obtain ⟨O,hN⟩:∃ N00,N00=w1.alloc (venO (.slice u un uc) (.slice u' un' uc') T):=⟨_,rfl⟩
    rw [<- hN]
    have hbN:Below w1.heap.size w1 O:=by rw [hN]; exact Ac.below_alloc _ _
    have BO:Hid (Below N.heap.size N O):=hb'.trans (hbN.mono hb'.size)
    have FO:Hid (O.heap[w1.heap.size]? = some (venO (.slice u un uc) (.slice u' un' uc') T)):=by show O.heap[w1.heap.size]? = _; rw [hN]; exact heap_alloc_new w1 _
    have VO:Hid (VIn O (venV (.slice u un uc) (.slice u' un' uc') T) T):=(HV.out.below hbN).mono (Nat.zero_le _); have EO:Hid (EEv 0 O _ Lb):=(HE.out.below hbN).mono (Nat.zero_le _); clear hN hbN hb hb' HV HE WD sx KN; generalize w1.heap.size=tO at *; have JO:=hide (BN.out.trans (BO.out.mono BN.out.size)); have YX:=hide (blk_below Y1.out JO.out); have EL:=hide (EY.out.below JO.out)
    have SM:=hide (venue_same _ _ T T O (VY.out.below JO.out) VO.out rfl rfl rfl rfl rfl rfl rfl (by omega) (by omega))
    obtain ⟨⟨pa,ca,ea⟩,hla,oka,lena,ela⟩:=(EN.out.below BO.out).lok; obtain ⟨⟨pb,cb,eb⟩,hlb,okb,lenb,elb⟩:=EO.out.lok; subst hla; subst hlb; dsimp only [lsvV]; dsimp only at lena lenb ela elb; obtain ⟨b0,b1,b2,b3,b4,b5,b6⟩:=ven_cells YX.out; obtain ⟨c0,c1,c2_,c3,c4,c5,c6⟩:=ven_cells FO.out; have OKA:=hide oka; have OKB:=hide okb; have ELA:=hide ela; have ELB:=hide elb; have LNA:=hide lena; have LNB:=hide lenb; clear x0 x1 x2 x3 x4 x5 x6 RN EN EO oka okb ela elb lena lenb VN VO FN
    go_wp2_with fail
    refine SM.out.mono ?_
    rintro e P ⟨rfl,hbP⟩
    have JP:=hide (JO.out.trans (hbP.mono JO.out.size)); clear b0 b1 b2 b3 b4 b5 b6 c0 c1 c2_ c3 c4 c5 c6 SM YX FO; obtain ⟨na,hna⟩:∃ na,na=ea.length:=⟨_,rfl⟩; obtain ⟨nb,hnb⟩:∃ nb,nb=eb.length:=⟨_,rfl⟩; rw [<- hna,<- hnb]; obtain ⟨P1,hP1⟩:∃ P1,P1=P.alloc (.cells #[.slice pa na ca,.slice pb nb cb] 81):=⟨_,rfl⟩
    have hbP1:Below P.heap.size P P1:=by rw [hP1]; exact Ac.below_alloc _ _
    have g0:P1.cell? ⟨P.heap.size,0,none⟩ = some (.slice pa na ca):=by rw [hP1]; exact new_cell P _ _ 0 _ rfl
    have g1:P1.cell? ⟨P.heap.size,1,none⟩ = some (.slice pb nb cb):=by rw [hP1]; exact new_cell P _ _ 1 _ rfl
    have JP1:=hide (JP.out.trans (hbP1.mono JP.out.size)); have OP1:=hide (hbP.trans (hbP1.mono hbP.size))
    have CC:Hid (Calls Tryz.prog 41 #[.slice (some ⟨P.heap.size,0,none⟩) 2 2] P1 fun e w'=>∃ v,e=.returned v /\ w'.ownsRow P1.heap.size 30 1 v (ea ++ eb).length (ea ++ eb) /\ Below P1.heap.size P1 w'):=by
     have hj:joinV [(pa,ca,ea),(pb,cb,eb)]=ea ++ eb:=by simp [joinV]
     have:=concatL_any P.heap.size 2 [(pa,ca,ea),(pb,cb,eb)] P1 (fun j hj=>by
      have hj2:j < 2:=hj
      match j,hj2 with
      |0,_=>rw [g0,hna]; rfl
      |1,_=>rw [g1,hnb]; rfl) (fun j hj=>by
      have hj2:j < 2:=hj
      match j,hj2 with
      |0,_=>exact OKA.out.below OP1.out
      |1,_=>exact OKB.out.below OP1.out) (World.block_lt_of_cell? _ _ g0) (by simp) (by
      rw [hj,List.length_append]; have h1:=LNA.out; have h2:=LNB.out; have h3:=HL1.out
      omega)
     rw [hj] at this; exact this
    have HP1:=hide hP1; have HNA:=hide hna; have HNB:=hide hnb; clear hP1 hbP1 g0 g1 hbP hna hnb
    go_wp2_with (rw [<- HP1.out])
    refine CC.out.mono ?_
    rintro e R ⟨vc,rfl,ho,hbR⟩
    have OR:=hide (OP1.out.trans (hbR.mono OP1.out.size)); have JR:=hide (JP1.out.trans (hbR.mono JP1.out.size))
    have EQ:∃ pc c9 pe ce,vc=.slice pc L.length c9 /\ ev=.slice pe L.length ce /\ Calls Tryz.prog 40 #[.slice pe L.length ce,.slice pc L.length c9,fnV 42] R fun e w'=>e=.returned (.bool true) /\ Below R.heap.size R w':=by
     have hle:(ea ++ eb).length=L.length:=by rw [HLL.out,List.length_append,List.length_append,LNA.out,LNB.out]
     obtain ⟨pc,c9,e1,lrc⟩:=own_lrow ho hle (fun i hi x hx=>by
      by_cases hia:i < La.length
      ·rw [List.getElem?_append_left (by rw [LNA.out]; exact hia)] at hx
       have:=ELA.out i hia x hx
       have hh:L[i]=La[i]:=by simp only [HLL.out,List.getElem_append_left hia]
       rw [hh]; exact this.below OR.out
      ·rw [List.getElem?_append_right (by rw [LNA.out]; omega),LNA.out] at hx
       have hib:i - La.length < Lb.length:=by rw [HLL.out,List.length_append] at hi; omega
       have:=ELB.out (i - La.length) hib x hx
       have hh:L[i]=Lb[i - La.length]:=by simp only [HLL.out,List.getElem_append_right (show La.length<=i by omega)]
       rw [hh]; exact this.below OR.out)
     obtain ⟨pe,ce,e2,lre,-⟩:=(EL.out.below OR.out).lrow
     refine ⟨pc,c9,pe,ce,e1,e2,equalL_same pe pc L.length ce c9 L R rfl ?_ lre lrc⟩
     have h1:=LLN.out; have h2:=HN.out
     omega
    obtain ⟨pc,c9,pe,ce,rfl,rfl,EQ⟩:=EQ; have EQ:=hide EQ; clear ho hbR CC HP1 OKA OKB ELA ELB LNA LNB EL HNA HNB
    go_wp2_with fail
    refine EQ.out.mono ?_
    rintro e Q ⟨rfl,hbQ⟩
    go_wp2
    go_ret
    exact ⟨rfl,BY.out.trans ((JR.out.trans (hbQ.mono JR.out.size)).mono BY.out.size)⟩
   ·obtain ⟨O,hN⟩:∃ N00,N00=((((((w1.setCell ⟨N.heap.size,0,none⟩ (.slice u un uc)).setCell ⟨N.heap.size,1,none⟩ (.slice u' un' uc')).setCell ⟨N.heap.size,2,none⟩ (.int .i64 T.ins)).setCell ⟨N.heap.size,3,none⟩ (.int .i64 T.res)).setCell ⟨N.heap.size,4,none⟩ (.int .i64 T.next)).setCell ⟨N.heap.size,5,none⟩ (.int .i64 T.inn)).setCell ⟨N.heap.size,6,none⟩ (.int .i64 T.out):=⟨_,rfl⟩
    rw [<- hN]
    have hbN:But (fun x=>x=N.heap.size) w1 O:=by rw [hN]; exact seven_but w1 N.heap.size _ _ _ _ _ _ _
    have BO:Hid (Below N.heap.size N O):=hbN.below_of hb' (Nat.le_refl _)
    have FO:Hid (O.heap[N.heap.size]? = some (venO (.slice u un uc) (.slice u' un' uc') T)):=by show O.heap[N.heap.size]? = _; rw [hN]; exact seven_heap HKN.out _ _ _ _ _ _ _
    have VO:Hid (VIn O (venV (.slice u un uc) (.slice u' un' uc') T) T):=(HV.out.but hbN (fun b e=>by rw [e]; simp)).mono (Nat.zero_le _)
    have EO:Hid (EEv 0 O _ Lb):=(HE.out.but hbN (fun b e=>by rw [e]; simp)).mono (Nat.zero_le _)
    clear hN hbN hb hb' HV HE WD sx KN HKN hu0 hu1 hu2 hu3 hu4 hu5 hu6 uf0 uf1 uf2 uf3 uf4 uf5 uf6; obtain ⟨tO,hTY⟩:∃ t,t=N.heap.size:=⟨_,rfl⟩; rw [<- hTY] at FO ⊢; clear hTY; have JO:=hide (BN.out.trans (BO.out.mono BN.out.size)); have YX:=hide (blk_below Y1.out JO.out); have EL:=hide (EY.out.below JO.out)
    have SM:=hide (venue_same _ _ T T O (VY.out.below JO.out) VO.out rfl rfl rfl rfl rfl rfl rfl (by omega) (by omega))
    obtain ⟨⟨pa,ca,ea⟩,hla,oka,lena,ela⟩:=(EN.out.below BO.out).lok; obtain ⟨⟨pb,cb,eb⟩,hlb,okb,lenb,elb⟩:=EO.out.lok; subst hla; subst hlb; dsimp only [lsvV]; dsimp only at lena lenb ela elb; obtain ⟨b0,b1,b2,b3,b4,b5,b6⟩:=ven_cells YX.out; obtain ⟨c0,c1,c2_,c3,c4,c5,c6⟩:=ven_cells FO.out; have OKA:=hide oka; have OKB:=hide okb; have ELA:=hide ela; have ELB:=hide elb; have LNA:=hide lena; have LNB:=hide lenb; clear x0 x1 x2 x3 x4 x5 x6 RN EN EO oka okb ela elb lena lenb VN VO FN
    go_wp2_with fail
    refine SM.out.mono ?_
    rintro e P ⟨rfl,hbP⟩
    have JP:=hide (JO.out.trans (hbP.mono JO.out.size)); clear b0 b1 b2 b3 b4 b5 b6 c0 c1 c2_ c3 c4 c5 c6 SM YX FO; obtain ⟨na,hna⟩:∃ na,na=ea.length:=⟨_,rfl⟩; obtain ⟨nb,hnb⟩:∃ nb,nb=eb.length:=⟨_,rfl⟩; rw [<- hna,<- hnb]; obtain ⟨P1,hP1⟩:∃ P1,P1=P.alloc (.cells #[.slice pa na ca,.slice pb nb cb] 81):=⟨_,rfl⟩
    have hbP1:Below P.heap.size P P1:=by rw [hP1]; exact Ac.below_alloc _ _
    have g0:P1.cell? ⟨P.heap.size,0,none⟩ = some (.slice pa na ca):=by rw [hP1]; exact new_cell P _ _ 0 _ rfl
    have g1:P1.cell? ⟨P.heap.size,1,none⟩ = some (.slice pb nb cb):=by rw [hP1]; exact new_cell P _ _ 1 _ rfl
    have JP1:=hide (JP.out.trans (hbP1.mono JP.out.size)); have OP1:=hide (hbP.trans (hbP1.mono hbP.size))
    have CC:Hid (Calls Tryz.prog 41 #[.slice (some ⟨P.heap.size,0,none⟩) 2 2] P1 fun e w'=>∃ v,e=.returned v /\ w'.ownsRow P1.heap.size 30 1 v (ea ++ eb).length (ea ++ eb) /\ Below P1.heap.size P1 w'):=by
     have hj:joinV [(pa,ca,ea),(pb,cb,eb)]=ea ++ eb:=by simp [joinV]
     have:=concatL_any P.heap.size 2 [(pa,ca,ea),(pb,cb,eb)] P1 (fun j hj=>by
      have hj2:j < 2:=hj
      match j,hj2 with
      |0,_=>rw [g0,hna]; rfl
      |1,_=>rw [g1,hnb]; rfl) (fun j hj=>by
      have hj2:j < 2:=hj
      match j,hj2 with
      |0,_=>exact OKA.out.below OP1.out
      |1,_=>exact OKB.out.below OP1.out) (World.block_lt_of_cell? _ _ g0) (by simp) (by
      rw [hj,List.length_append]; have h1:=LNA.out; have h2:=LNB.out; have h3:=HL1.out
      omega)
     rw [hj] at this; exact this
    have HP1:=hide hP1; have HNA:=hide hna; have HNB:=hide hnb; clear hP1 hbP1 g0 g1 hbP hna hnb
    go_wp2_with (rw [<- HP1.out])
    refine CC.out.mono ?_
    rintro e R ⟨vc,rfl,ho,hbR⟩
    have OR:=hide (OP1.out.trans (hbR.mono OP1.out.size)); have JR:=hide (JP1.out.trans (hbR.mono JP1.out.size))
    have EQ:∃ pc c9 pe ce,vc=.slice pc L.length c9 /\ ev=.slice pe L.length ce /\ Calls Tryz.prog 40 #[.slice pe L.length ce,.slice pc L.length c9,fnV 42] R fun e w'=>e=.returned (.bool true) /\ Below R.heap.size R w':=by
     have hle:(ea ++ eb).length=L.length:=by rw [HLL.out,List.length_append,List.length_append,LNA.out,LNB.out]
     obtain ⟨pc,c9,e1,lrc⟩:=own_lrow ho hle (fun i hi x hx=>by
      by_cases hia:i < La.length
      ·rw [List.getElem?_append_left (by rw [LNA.out]; exact hia)] at hx
       have:=ELA.out i hia x hx
       have hh:L[i]=La[i]:=by simp only [HLL.out,List.getElem_append_left hia]
       rw [hh]; exact this.below OR.out
      ·rw [List.getElem?_append_right (by rw [LNA.out]; omega),LNA.out] at hx
       have hib:i - La.length < Lb.length:=by rw [HLL.out,List.length_append] at hi; omega
       have:=ELB.out (i - La.length) hib x hx
       have hh:L[i]=Lb[i - La.length]:=by simp only [HLL.out,List.getElem_append_right (show La.length<=i by omega)]
       rw [hh]; exact this.below OR.out)
     obtain ⟨pe,ce,e2,lre,-⟩:=(EL.out.below OR.out).lrow
     refine ⟨pc,c9,pe,ce,e1,e2,equalL_same pe pc L.length ce c9 L R rfl ?_ lre lrc⟩
     have h1:=LLN.out; have h2:=HN.out
     omega
    obtain ⟨pc,c9,pe,ce,rfl,rfl,EQ⟩:=EQ; have EQ:=hide EQ; clear ho hbR CC HP1 OKA OKB ELA ELB LNA LNB EL HNA HNB
    go_wp2_with fail
    refine EQ.out.mono ?_
    rintro e Q ⟨rfl,hbQ⟩
    go_wp2
    go_ret
    exact ⟨rfl,BY.out.trans ((JR.out.trans (hbQ.mono JR.out.size)).mono BY.out.size)⟩
  ·obtain ⟨N,hN⟩:∃ N00,N00=((((((w1.setCell ⟨Y.heap.size,0,none⟩ (.slice t tn tc)).setCell ⟨Y.heap.size,1,none⟩ (.slice t' tn' tc')).setCell ⟨Y.heap.size,2,none⟩ (.int .i64 y.ins)).setCell ⟨Y.heap.size,3,none⟩ (.int .i64 y.res)).setCell ⟨Y.heap.size,4,none⟩ (.int .i64 y.next)).setCell ⟨Y.heap.size,5,none⟩ (.int .i64 y.inn)).setCell ⟨Y.heap.size,6,none⟩ (.int .i64 y.out):=⟨_,rfl⟩
   rw [<- hN]
   have hbN:But (fun x=>x=Y.heap.size) w1 N:=by rw [hN]; exact seven_but w1 Y.heap.size _ _ _ _ _ _ _
   have BN:Hid (Below Y.heap.size Y N):=hbN.below_of hb' (Nat.le_refl _)
   have FN:Hid (N.heap[Y.heap.size]? = some (venO (.slice t tn tc) (.slice t' tn' tc') y)):=by show N.heap[Y.heap.size]? = _; rw [hN]; exact seven_heap HKN.out _ _ _ _ _ _ _
   have VN:Hid (VIn N (venV (.slice t tn tc) (.slice t' tn' tc') y) y):=(HV.out.but hbN (fun b e=>by rw [e]; simp)).mono (Nat.zero_le _)
   have EN:Hid (EEv 0 N _ La):=(HE.out.but hbN (fun b e=>by rw [e]; simp)).mono (Nat.zero_le _)
   clear hN hbN hb hb' HV HE WD sx KN HKN hu0 hu1 hu2 hu3 hu4 hu5 hu6 uf0 uf1 uf2 uf3 uf4 uf5 uf6; obtain ⟨tN,hTY⟩:∃ t,t=Y.heap.size:=⟨_,rfl⟩; rw [<- hTY] at FN ⊢; clear hTY; clear x0 x1 x2 x3 x4 x5 x6 RA
   have RN:Hid (∀ Z,Below N.heap.size N Z->Calls Tryz.prog 39 #[venV (.slice t tn tc) (.slice t' tn' tc') y,.slice p2 (n - j) c2] Z (RunOk T Lb Z)):=fun Z hZ=>RB.out _ Z (BN.out.trans (hZ.mono BN.out.size)) (VN.out.below hZ)
   obtain ⟨a0,a1,a2,a3,a4,a5,a6⟩:=ven_cells FN.out
   have x0:∀ Z,Below N.heap.size N Z->Z.cell? ⟨tN,0,none⟩ = some (.slice t tn tc):=fun Z hZ=>(hZ.cell (World.block_lt_of_cell? _ _ a0)).trans a0
   have x1:∀ Z,Below N.heap.size N Z->Z.cell? ⟨tN,1,none⟩ = some (.slice t' tn' tc'):=fun Z hZ=>(hZ.cell (World.block_lt_of_cell? _ _ a1)).trans a1
   have x2:∀ Z,Below N.heap.size N Z->Z.cell? ⟨tN,2,none⟩ = some (.int .i64 y.ins):=fun Z hZ=>(hZ.cell (World.block_lt_of_cell? _ _ a2)).trans a2
   have x3:∀ Z,Below N.heap.size N Z->Z.cell? ⟨tN,3,none⟩ = some (.int .i64 y.res):=fun Z hZ=>(hZ.cell (World.block_lt_of_cell? _ _ a3)).trans a3
   have x4:∀ Z,Below N.heap.size N Z->Z.cell? ⟨tN,4,none⟩ = some (.int .i64 y.next):=fun Z hZ=>(hZ.cell (World.block_lt_of_cell? _ _ a4)).trans a4
   have x5:∀ Z,Below N.heap.size N Z->Z.cell? ⟨tN,5,none⟩ = some (.int .i64 y.inn):=fun Z hZ=>(hZ.cell (World.block_lt_of_cell? _ _ a5)).trans a5
   have x6:∀ Z,Below N.heap.size N Z->Z.cell? ⟨tN,6,none⟩ = some (.int .i64 y.out):=fun Z hZ=>(hZ.cell (World.block_lt_of_cell? _ _ a6)).trans a6
   clear a0 a1 a2 a3 a4 a5 a6 RB; have WD:Hid (Below N.heap.size N N.drew):=(Below.refl _ N).drew; have sx:N.heap.size<=N.heap.size + 1:=Nat.le_succ _
   have KN:Hid (∀ x,Below (N.alloc zeroVO).drew.heap.size (N.alloc zeroVO).drew x->x.heap[N.heap.size]? = some zeroVO):=fun x hx=>blk_below (w:=(N.alloc zeroVO).drew) (heap_alloc_new N _) hx
   go_wp2_with fail
   go_region_held3 (fun w'=>Below N.heap.size N w') (first | (with_reducible assumption) | (with_reducible exact WD.out) | (repeat (first | (with_reducible assumption) | (with_reducible exact WD.out) | (with_reducible exact Below.refl _ _) | (with_reducible refine Below.drew ?_) | (with_reducible refine Below.alloc ?_ ?_ _) | (with_reducible refine Below.setCell ?_ ?_ _) | (exact Below.size (by with_reducible assumption)) | (exact Nat.le_refl _) | (exact sx) | (with_reducible refine (?_:Below N.heap.size N _).size) | (simp; done)))) ((go_at_call 39; refine (RN.out _ ?_).mono ?_; assumption; rintro e w1 ⟨v9,evB,rfl,hb,hv9,he9⟩; obtain ⟨u,un,uc,u',un',uc',rfl⟩:=vnew_is hv9; have hb':Below N.heap.size N w1:=Below.trans (by assumption) (hb.mono (Below.size (by assumption))); have HV:=hide hv9; have HE:=hide he9; clear hv9 he9; try (have kn:=(by with_reducible exact KN.out w1 hb:w1.heap[N.heap.size]? = some zeroVO); have HKN:=hide kn; obtain ⟨⟨⟨u0,hu0⟩,uf0⟩,⟨⟨u1,hu1⟩,uf1⟩,⟨⟨u2,hu2⟩,uf2⟩,⟨⟨u3,hu3⟩,uf3⟩,⟨⟨u4,hu4⟩,uf4⟩,⟨⟨u5,hu5⟩,uf5⟩,⟨⟨u6,hu6⟩,uf6⟩⟩:=ven_opq kn; clear kn)))
   ·obtain ⟨O,hN⟩:∃ N00,N00=w1.alloc (venO (.slice u un uc) (.slice u' un' uc') T):=⟨_,rfl⟩
    rw [<- hN]
    have hbN:Below w1.heap.size w1 O:=by rw [hN]; exact Ac.below_alloc _ _
    have BO:Hid (Below N.heap.size N O):=hb'.trans (hbN.mono hb'.size)
    have FO:Hid (O.heap[w1.heap.size]? = some (venO (.slice u un uc) (.slice u' un' uc') T)):=by show O.heap[w1.heap.size]? = _; rw [hN]; exact heap_alloc_new w1 _
    have VO:Hid (VIn O (venV (.slice u un uc) (.slice u' un' uc') T) T):=(HV.out.below hbN).mono (Nat.zero_le _); have EO:Hid (EEv 0 O _ Lb):=(HE.out.below hbN).mono (Nat.zero_le _); clear hN hbN hb hb' HV HE WD sx KN; generalize w1.heap.size=tO at *; have JO:=hide (BN.out.trans (BO.out.mono BN.out.size)); have YX:=hide (blk_below Y1.out JO.out); have EL:=hide (EY.out.below JO.out)
    have SM:=hide (venue_same _ _ T T O (VY.out.below JO.out) VO.out rfl rfl rfl rfl rfl rfl rfl (by omega) (by omega))
    obtain ⟨⟨pa,ca,ea⟩,hla,oka,lena,ela⟩:=(EN.out.below BO.out).lok; obtain ⟨⟨pb,cb,eb⟩,hlb,okb,lenb,elb⟩:=EO.out.lok; subst hla; subst hlb; dsimp only [lsvV]; dsimp only at lena lenb ela elb; obtain ⟨b0,b1,b2,b3,b4,b5,b6⟩:=ven_cells YX.out; obtain ⟨c0,c1,c2_,c3,c4,c5,c6⟩:=ven_cells FO.out; have OKA:=hide oka; have OKB:=hide okb; have ELA:=hide ela; have ELB:=hide elb; have LNA:=hide lena; have LNB:=hide lenb; clear x0 x1 x2 x3 x4 x5 x6 RN EN EO oka okb ela elb lena lenb VN VO FN
    go_wp2_with fail
    refine SM.out.mono ?_
    rintro e P ⟨rfl,hbP⟩
    have JP:=hide (JO.out.trans (hbP.mono JO.out.size)); clear b0 b1 b2 b3 b4 b5 b6 c0 c1 c2_ c3 c4 c5 c6 SM YX FO; obtain ⟨na,hna⟩:∃ na,na=ea.length:=⟨_,rfl⟩; obtain ⟨nb,hnb⟩:∃ nb,nb=eb.length:=⟨_,rfl⟩; rw [<- hna,<- hnb]; obtain ⟨P1,hP1⟩:∃ P1,P1=P.alloc (.cells #[.slice pa na ca,.slice pb nb cb] 81):=⟨_,rfl⟩
    have hbP1:Below P.heap.size P P1:=by rw [hP1]; exact Ac.below_alloc _ _
    have g0:P1.cell? ⟨P.heap.size,0,none⟩ = some (.slice pa na ca):=by rw [hP1]; exact new_cell P _ _ 0 _ rfl
    have g1:P1.cell? ⟨P.heap.size,1,none⟩ = some (.slice pb nb cb):=by rw [hP1]; exact new_cell P _ _ 1 _ rfl
    have JP1:=hide (JP.out.trans (hbP1.mono JP.out.size)); have OP1:=hide (hbP.trans (hbP1.mono hbP.size))
    have CC:Hid (Calls Tryz.prog 41 #[.slice (some ⟨P.heap.size,0,none⟩) 2 2] P1 fun e w'=>∃ v,e=.returned v /\ w'.ownsRow P1.heap.size 30 1 v (ea ++ eb).length (ea ++ eb) /\ Below P1.heap.size P1 w'):=by
     have hj:joinV [(pa,ca,ea),(pb,cb,eb)]=ea ++ eb:=by simp [joinV]
     have:=concatL_any P.heap.size 2 [(pa,ca,ea),(pb,cb,eb)] P1 (fun j hj=>by
      have hj2:j < 2:=hj
      match j,hj2 with
      |0,_=>rw [g0,hna]; rfl
      |1,_=>rw [g1,hnb]; rfl) (fun j hj=>by
      have hj2:j < 2:=hj
      match j,hj2 with
      |0,_=>exact OKA.out.below OP1.out
      |1,_=>exact OKB.out.below OP1.out) (World.block_lt_of_cell? _ _ g0) (by simp) (by
      rw [hj,List.length_append]; have h1:=LNA.out; have h2:=LNB.out; have h3:=HL1.out
      omega)
     rw [hj] at this; exact this
    have HP1:=hide hP1; have HNA:=hide hna; have HNB:=hide hnb; clear hP1 hbP1 g0 g1 hbP hna hnb
    go_wp2_with (rw [<- HP1.out])
    refine CC.out.mono ?_
    rintro e R ⟨vc,rfl,ho,hbR⟩
    have OR:=hide (OP1.out.trans (hbR.mono OP1.out.size)); have JR:=hide (JP1.out.trans (hbR.mono JP1.out.size))
    have EQ:∃ pc c9 pe ce,vc=.slice pc L.length c9 /\ ev=.slice pe L.length ce /\ Calls Tryz.prog 40 #[.slice pe L.length ce,.slice pc L.length c9,fnV 42] R fun e w'=>e=.returned (.bool true) /\ Below R.heap.size R w':=by
     have hle:(ea ++ eb).length=L.length:=by rw [HLL.out,List.length_append,List.length_append,LNA.out,LNB.out]
     obtain ⟨pc,c9,e1,lrc⟩:=own_lrow ho hle (fun i hi x hx=>by
      by_cases hia:i < La.length
      ·rw [List.getElem?_append_left (by rw [LNA.out]; exact hia)] at hx
       have:=ELA.out i hia x hx
       have hh:L[i]=La[i]:=by simp only [HLL.out,List.getElem_append_left hia]
       rw [hh]; exact this.below OR.out
      ·rw [List.getElem?_append_right (by rw [LNA.out]; omega),LNA.out] at hx
       have hib:i - La.length < Lb.length:=by rw [HLL.out,List.length_append] at hi; omega
       have:=ELB.out (i - La.length) hib x hx
       have hh:L[i]=Lb[i - La.length]:=by simp only [HLL.out,List.getElem_append_right (show La.length<=i by omega)]
       rw [hh]; exact this.below OR.out)
     obtain ⟨pe,ce,e2,lre,-⟩:=(EL.out.below OR.out).lrow
     refine ⟨pc,c9,pe,ce,e1,e2,equalL_same pe pc L.length ce c9 L R rfl ?_ lre lrc⟩
     have h1:=LLN.out; have h2:=HN.out
     omega
    obtain ⟨pc,c9,pe,ce,rfl,rfl,EQ⟩:=EQ; have EQ:=hide EQ; clear ho hbR CC HP1 OKA OKB ELA ELB LNA LNB EL HNA HNB
    go_wp2_with fail
    refine EQ.out.mono ?_
    rintro e Q ⟨rfl,hbQ⟩
    go_wp2
    go_ret
    exact ⟨rfl,BY.out.trans ((JR.out.trans (hbQ.mono JR.out.size)).mono BY.out.size)⟩
   ·obtain ⟨O,hN⟩:∃ N00,N00=((((((w1.setCell ⟨N.heap.size,0,none⟩ (.slice u un uc)).setCell ⟨N.heap.size,1,none⟩ (.slice u' un' uc')).setCell ⟨N.heap.size,2,none⟩ (.int .i64 T.ins)).setCell ⟨N.heap.size,3,none⟩ (.int .i64 T.res)).setCell ⟨N.heap.size,4,none⟩ (.int .i64 T.next)).setCell ⟨N.heap.size,5,none⟩ (.int .i64 T.inn)).setCell ⟨N.heap.size,6,none⟩ (.int .i64 T.out):=⟨_,rfl⟩
    rw [<- hN]
    have hbN:But (fun x=>x=N.heap.size) w1 O:=by rw [hN]; exact seven_but w1 N.heap.size _ _ _ _ _ _ _
    have BO:Hid (Below N.heap.size N O):=hbN.below_of hb' (Nat.le_refl _)
    have FO:Hid (O.heap[N.heap.size]? = some (venO (.slice u un uc) (.slice u' un' uc') T)):=by show O.heap[N.heap.size]? = _; rw [hN]; exact seven_heap HKN.out _ _ _ _ _ _ _
    have VO:Hid (VIn O (venV (.slice u un uc) (.slice u' un' uc') T) T):=(HV.out.but hbN (fun b e=>by rw [e]; simp)).mono (Nat.zero_le _)
    have EO:Hid (EEv 0 O _ Lb):=(HE.out.but hbN (fun b e=>by rw [e]; simp)).mono (Nat.zero_le _)
    clear hN hbN hb hb' HV HE WD sx KN HKN hu0 hu1 hu2 hu3 hu4 hu5 hu6 uf0 uf1 uf2 uf3 uf4 uf5 uf6; obtain ⟨tO,hTY⟩:∃ t,t=N.heap.size:=⟨_,rfl⟩; rw [<- hTY] at FO ⊢; clear hTY; have JO:=hide (BN.out.trans (BO.out.mono BN.out.size)); have YX:=hide (blk_below Y1.out JO.out); have EL:=hide (EY.out.below JO.out)
    have SM:=hide (venue_same _ _ T T O (VY.out.below JO.out) VO.out rfl rfl rfl rfl rfl rfl rfl (by omega) (by omega))
    obtain ⟨⟨pa,ca,ea⟩,hla,oka,lena,ela⟩:=(EN.out.below BO.out).lok; obtain ⟨⟨pb,cb,eb⟩,hlb,okb,lenb,elb⟩:=EO.out.lok; subst hla; subst hlb; dsimp only [lsvV]; dsimp only at lena lenb ela elb; obtain ⟨b0,b1,b2,b3,b4,b5,b6⟩:=ven_cells YX.out; obtain ⟨c0,c1,c2_,c3,c4,c5,c6⟩:=ven_cells FO.out; have OKA:=hide oka; have OKB:=hide okb; have ELA:=hide ela; have ELB:=hide elb; have LNA:=hide lena; have LNB:=hide lenb; clear x0 x1 x2 x3 x4 x5 x6 RN EN EO oka okb ela elb lena lenb VN VO FN
    go_wp2_with fail
    refine SM.out.mono ?_
    rintro e P ⟨rfl,hbP⟩
    have JP:=hide (JO.out.trans (hbP.mono JO.out.size)); clear b0 b1 b2 b3 b4 b5 b6 c0 c1 c2_ c3 c4 c5 c6 SM YX FO; obtain ⟨na,hna⟩:∃ na,na=ea.length:=⟨_,rfl⟩; obtain ⟨nb,hnb⟩:∃ nb,nb=eb.length:=⟨_,rfl⟩; rw [<- hna,<- hnb]; obtain ⟨P1,hP1⟩:∃ P1,P1=P.alloc (.cells #[.slice pa na ca,.slice pb nb cb] 81):=⟨_,rfl⟩
    have hbP1:Below P.heap.size P P1:=by rw [hP1]; exact Ac.below_alloc _ _
    have g0:P1.cell? ⟨P.heap.size,0,none⟩ = some (.slice pa na ca):=by rw [hP1]; exact new_cell P _ _ 0 _ rfl
    have g1:P1.cell? ⟨P.heap.size,1,none⟩ = some (.slice pb nb cb):=by rw [hP1]; exact new_cell P _ _ 1 _ rfl
    have JP1:=hide (JP.out.trans (hbP1.mono JP.out.size)); have OP1:=hide (hbP.trans (hbP1.mono hbP.size))
    have CC:Hid (Calls Tryz.prog 41 #[.slice (some ⟨P.heap.size,0,none⟩) 2 2] P1 fun e w'=>∃ v,e=.returned v /\ w'.ownsRow P1.heap.size 30 1 v (ea ++ eb).length (ea ++ eb) /\ Below P1.heap.size P1 w'):=by
     have hj:joinV [(pa,ca,ea),(pb,cb,eb)]=ea ++ eb:=by simp [joinV]
     have:=concatL_any P.heap.size 2 [(pa,ca,ea),(pb,cb,eb)] P1 (fun j hj=>by
      have hj2:j < 2:=hj
      match j,hj2 with
      |0,_=>rw [g0,hna]; rfl
      |1,_=>rw [g1,hnb]; rfl) (fun j hj=>by
      have hj2:j < 2:=hj
      match j,hj2 with
      |0,_=>exact OKA.out.below OP1.out
      |1,_=>exact OKB.out.below OP1.out) (World.block_lt_of_cell? _ _ g0) (by simp) (by
      rw [hj,List.length_append]; have h1:=LNA.out; have h2:=LNB.out; have h3:=HL1.out
      omega)
     rw [hj] at this; exact this
    have HP1:=hide hP1; have HNA:=hide hna; have HNB:=hide hnb; clear hP1 hbP1 g0 g1 hbP hna hnb
    go_wp2_with (rw [<- HP1.out])
    refine CC.out.mono ?_
    rintro e R ⟨vc,rfl,ho,hbR⟩
    have OR:=hide (OP1.out.trans (hbR.mono OP1.out.size)); have JR:=hide (JP1.out.trans (hbR.mono JP1.out.size))
    have EQ:∃ pc c9 pe ce,vc=.slice pc L.length c9 /\ ev=.slice pe L.length ce /\ Calls Tryz.prog 40 #[.slice pe L.length ce,.slice pc L.length c9,fnV 42] R fun e w'=>e=.returned (.bool true) /\ Below R.heap.size R w':=by
     have hle:(ea ++ eb).length=L.length:=by rw [HLL.out,List.length_append,List.length_append,LNA.out,LNB.out]
     obtain ⟨pc,c9,e1,lrc⟩:=own_lrow ho hle (fun i hi x hx=>by
      by_cases hia:i < La.length
      ·rw [List.getElem?_append_left (by rw [LNA.out]; exact hia)] at hx
       have:=ELA.out i hia x hx
       have hh:L[i]=La[i]:=by simp only [HLL.out,List.getElem_append_left hia]
       rw [hh]; exact this.below OR.out
      ·rw [List.getElem?_append_right (by rw [LNA.out]; omega),LNA.out] at hx
       have hib:i - La.length < Lb.length:=by rw [HLL.out,List.length_append] at hi; omega
       have:=ELB.out (i - La.length) hib x hx
       have hh:L[i]=Lb[i - La.length]:=by simp only [HLL.out,List.getElem_append_right (show La.length<=i by omega)]
       rw [hh]; exact this.below OR.out)
     obtain ⟨pe,ce,e2,lre,-⟩:=(EL.out.below OR.out).lrow
     refine ⟨pc,c9,pe,ce,e1,e2,equalL_same pe pc L.length ce c9 L R rfl ?_ lre lrc⟩
     have h1:=LLN.out; have h2:=HN.out
     omega
    obtain ⟨pc,c9,pe,ce,rfl,rfl,EQ⟩:=EQ; have EQ:=hide EQ; clear ho hbR CC HP1 OKA OKB ELA ELB LNA LNB EL HNA HNB
    go_wp2_with fail
    refine EQ.out.mono ?_
    rintro e Q ⟨rfl,hbQ⟩
    go_wp2
    go_ret
    exact ⟨rfl,BY.out.trans ((JR.out.trans (hbQ.mono JR.out.size)).mono BY.out.size)⟩
 ·obtain ⟨X1,hX1⟩:∃ X1,X1=X.alloc zeroVO:=⟨_,rfl⟩
  have hb1:Below X.heap.size X X1:=by rw [hX1]; exact Ac.below_alloc _ _
  have B1:=hide (BW.out.trans ((hbX.trans (hb1.mono hbX.size)).mono BW.out.size)); have OP:=hide (opened_any X1 (LD.out.next B1.out)); have L1:=hide (LD.out.next B1.out); have HX1:=hide hX1; clear hX1 hb1 hbX RU HW E0 a0 a1 a2 a3 a4 a5 a6 hrun VI HR
  go_wp2_with fail
  rw [<- HX1.out]
  refine OP.out.mono ?_
  rintro e Y ⟨rfl,hbY⟩
  have BY:=hide (B1.out.trans (hbY.mono B1.out.size)); have LY:=hide (L1.out.next hbY); clear OP HX1 hbY L1 B1; have OP2:=hide (opened_any Y LY.out)
  go_wp2_with fail
  refine OP2.out.mono ?_
  rintro e Z9 ⟨rfl,hb9⟩
  go_wp2
  go_ret
  exact ⟨rfl,BY.out.trans (hb9.mono BY.out.size)⟩
end Go.Proofs.YtpkbiafhnflmnaaGreatDoor.Vn
namespace Go.Proofs.YtpkbiafhnflmnaaGreatDoor.Vn
open Go.ChangeShapes Go.WideShapes Go.ChangeAt Go.RowKit Go.Joins Go.Deep Go.Proofs.YtpkbiafhnflmnaaGreatDoor.Fix Go.Proofs.YtpkbiafhnflmnaaGreatDoor.Ac Go.Proofs.YtpkbiafhnflmnaaGreatDoor.Bk Go.Proofs.YtpkbiafhnflmnaaGreatDoor.Rm
variable {H:Type} {enc:TypeId × Value->H} {w:World} {base:Nat} {spare:Nat->Bool} {held:Bool}
instance:Inhabited Cm:=⟨⟨0,0,0,0,(0,0,0,0,0),0,false⟩⟩
theorem bytesCm:Tryz.prog.bytesOf 29=88:=by kernel_rfl
set_option maxRecDepth 100000 in
/-- a list of commands, read. -/
theorem cmds_read {r:Reach} {b0:Nat} {v:Value} {d:DataW H} {ps:List MemPlace} (hv:Value.okWide Tryz.prog w r b0 80 v) (h:DataW.Trod enc Tryz.prog w base spare held 80 v d ps)
  (hw:∀ m,m ∈ d.weights Tryz.prog 80->m<=reachBytes):∃ p c,∃ L:List Cm,v=.slice p L.length c /\ (L.length<=140737488351232 /\ L.length<=c /\ (p=none->c=0)) /\ CRow w p L:=by
 obtain ⟨a0,len0,cap0,rfl⟩:=okWide_slice Tryz.underlying80 hv; obtain ⟨fuel,hf⟩:=h
 rcases open_slice Tryz.underlying80 hf with ⟨hcs,hx⟩ | ⟨a,len,cap,m,n,D,Pl,hcs,hb,hl,hm,hmm,hxx,hx⟩
 ·simp [Value.cells] at hcs
  obtain ⟨rfl,rfl,rfl⟩:=hcs
  exact ⟨none,0,[],rfl,⟨Nat.zero_le _,Nat.le_refl _,fun _=>rfl⟩,.inl rfl⟩
 ·simp [Value.cells] at hcs
  obtain ⟨rfl,rfl,rfl⟩:=hcs; have hd:d=_:=congrArg Prod.fst hxx
  have hlm:len0<=m:=by rw [hmm]; split <;> omega
  have each:∀ i,i < len0->∃ o:Cm,w.cells? base (a.add (i * 11)) 11=some (encC o):=fun i hi=>by
   obtain ⟨cs',h1,h2⟩:=hx i (by omega)
   obtain ⟨o,rfl⟩:=cmd_cells h2; rw [cellsCm] at h1; exact ⟨o,h1⟩
  obtain ⟨q,hq⟩:=choose_lt each
  have few:len0<=140737488351232:=by
   have:=hw ((((List.range len0).map D).length + ((List.range (m - len0)).map fun j=>D (len0 + j)).length) * Tryz.prog.bytesOf 29) (by rw [hd]; simp only [DataW.weights,Tryz.underlying80]; exact List.mem_cons_self)
   rw [bytesCm] at this; have h4:=reach4; simp at this
   omega
  refine ⟨some a,cap0,(List.range len0).map q,by simp,⟨by simpa using few,by simpa using hl,(fun e=>by cases e)⟩,?_⟩
  by_cases h0:len0=0
  ·subst h0; exact .inl rfl
  ·obtain ⟨b,off,spot⟩:=a
   have hc0:=(World.cells?_some (hq 0 (by omega))).2.2 0 (by decide)
   have hs:spot=none:=by simpa [Addr.add] using World.cell?_spot hc0
   subst hs
   refine .inr ⟨b,off,rfl,fun j u hu=>?_⟩
   have hjl:j < len0 * 11:=by
    have:=(List.getElem?_eq_some_iff.1 hu).1
    rw [Vn.flat_len encC_len] at this
    simpa using this
   have hj4:j / 11 < len0:=by omega
   have hcj:=(World.cells?_some (hq (j / 11) hj4)).2.2 (j % 11) (by omega)
   have hg:=Vn.flat_get encC_len ((List.range len0).map q) (j / 11) (by simpa using hj4) (j % 11) (by omega)
   rw [show j / 11 * 11 + j % 11=j by omega,hu] at hg
   simp only [List.getElem_map,List.getElem_range] at hg
   rw [<- hg,Ac.addL,Ac.addL,Nat.add_assoc,show j / 11 * 11 + j % 11=j by omega] at hcj
   exact hcj
end Go.Proofs.YtpkbiafhnflmnaaGreatDoor.Vn
namespace Go.Proofs.YtpkbiafhnflmnaaGreatDoor.venueParts
open Go.ChangeShapes Go.WideShapes Go.ChangeAt Go.RowKit Go.Joins Go.Proofs.YtpkbiafhnflmnaaGreatDoor.Rk Go.Proofs.YtpkbiafhnflmnaaGreatDoor.Vn
set_option linter.unusedVariables false
theorem own:ownKnob Tryz.prog.godebug=none:=by kernel_rfl
theorem laidOut:laidOutB Tryz.prog=true:=by kernel_rfl
set_option maxRecDepth 100000 in
theorem lifted (os:Os) (started:os.Started) (H:Type) (enc:TypeId × Value->H) :
  ReturnsInHanded {} Tryz.checked os 10 .any (fun w args=>(Rows.venuePartsSpec.pre enc Tryz.prog Tryz.f10 Rows.venuePartsRow.domain false w args /\ laidMetH Tryz.prog laid1 w) /\ sizedMet enc Tryz.prog Tryz.f10 (OpenSpec.ofChange Rows.venuePartsSpec) false w args)
   (Rows.venuePartsSpec.post enc Tryz.prog Tryz.f10 false true false false):=by
 refine returnsInHanded_of_change_and (C:=Tryz.checked) (X:=fun w _=>laidMetH Tryz.prog laid1 w) (fun _ _ _ hh h=>h.of_heap hh) own started (by kernel_rfl) Tryz.func10
  (ChangeSpec.witness_shaped (enc:=enc) (C:=Tryz.checked) (os:=os) (X:=fun w _=>laidMetH Tryz.prog laid1 w) false (World.laidAll Tryz.prog os laid1) #[.agg #[.slice none 0 0,.slice none 0 0,.int .i64 0,.int .i64 0,.int .i64 0,.int .i64 0,.int .i64 0],.slice none 0 0,.int .i64 0] 8 (World.laidAll_os _ _ _)
   (World.shaped_of_ZipB (by kernel_rfl) (by kernel_rfl)) (by kernel_rfl) (by kernel_rfl) (by kernel_rfl)
   (by rw [MakeChecks.laidMetH_plain _ _ _ (by kernel_rfl)]; exact laidMet_laidAll _ (by kernel_rfl) (by kernel_rfl))) ?_
 intro W base args ds gs before hval0 hW hcnd hsz0 hX _
 have hval:∀ (j:Nat) t v,Tryz.f10.params[j]? = some t->args[j]? = some v->Value.okWide Tryz.prog W .any base t v:=hval0; have hLd:=of_laid hX; have hW':=hW; obtain ⟨p,q,hA0,hV,rfl,hfz,hnd⟩:=hW
 have hA:DataW.TrodAll enc Tryz.prog W 0 (fun _=>true) true Tryz.f10.params.toList args.toList ds p:=hA0
 have hsz:(DataW.weightsEach Tryz.prog (Tryz.f10.params.toList ++ Rows.venuePartsSpec.plain.varTypes Tryz.prog) (ds ++ gs)).all (·<=reachBytes)=true:=hsz0
 rw [Tryz.params10] at hA hval hsz; obtain ⟨v0,vs0,d0,ds0,p0,q0,hargs,rfl,rfl,h0,r0⟩:=trodAll_cons hA; obtain ⟨v1,vs1,d1,ds1,p1,q1,rfl,rfl,rfl,h1,r1⟩:=trodAll_cons r0; obtain ⟨v2,vs2,d2,ds2,p2,q2,rfl,rfl,rfl,h2,r2⟩:=trodAll_cons r1; obtain ⟨rfl,rfl,rfl⟩:=trodAll_nil r2
 obtain rfl:args = #[v0,v1,v2]:=by cases args; simp_all
 obtain ⟨rfl,rfl⟩:=trodVars_none hV; have k0:=h0; have k1:=h1; have k2:=h2
 have lt0:∀ x ∈ p0,x.block < W.heap.size:=by obtain ⟨m,hm⟩:=k0; exact DataW.trod_lt m _ _ _ hm
 have lt1:∀ x ∈ p1,x.block < W.heap.size:=by obtain ⟨m,hm⟩:=k1; exact DataW.trod_lt m _ _ _ hm
 have lt2:∀ x ∈ p2,x.block < W.heap.size:=by obtain ⟨m,hm⟩:=k2; exact DataW.trod_lt m _ _ _ hm
 have big:∀ {j:Nat} {t:TypeId} {d:DataW H},([25,80,3] ++ Rows.venuePartsSpec.plain.varTypes Tryz.prog)[j]? = some t->([d0,d1,d2] ++ [])[j]? = some d->∀ m,m ∈ d.weights Tryz.prog t->m<=reachBytes:=fun ht hd m hm=>by
  have:=List.all_eq_true.1 hsz m (DataW.weights_mem_each ht hd m hm)
  simpa using this
 obtain ⟨s0,hs0⟩:=venue_read (hval 0 25 v0 rfl rfl) h0 (big (j:=0) rfl rfl); obtain ⟨pl1,cl1,l1,rfl,hl1,hr1⟩:=cmds_read (hval 1 80 v1 rfl rfl) h1 (big (j:=1) rfl rfl); obtain ⟨n2,rfl,rfl,rfl,w2⟩:=open_int Tryz.underlying3 (hval 2 3 v2 rfl rfl) h2; clear hA0 hval0 big
 refine (law_parts v0 s0 pl1 cl1 l1 n2 W hs0 hl1 hr1 hLd).mono fun e W' ⟨he,bel⟩=>?_
 subst he
 exact ⟨_,rfl,_,_,_,[],_,[],hW',trodAll_mk1 (shut_bool Tryz.underlying4 _),(trodAll_cons_mk (Below.trod laidOut (by kernel_rfl) (of_decide_eq_true (by kernel_rfl)) k0 bel lt0) (trodAll_cons_mk (Below.trod laidOut (by kernel_rfl) (of_decide_eq_true (by kernel_rfl)) k1 bel lt1) (trodAll_cons_mk (Below.trod laidOut (by kernel_rfl) (of_decide_eq_true (by kernel_rfl)) k2 bel lt2) trodAll_mk0))),rfl,bel.frame _,fun h=>by cases h⟩
theorem over:Rows.VenuePartsSaid :=
 OpenClaim.holds_of_wide 10 Tryz.f10 rfl rfl rfl rfl rfl rfl rfl ⟨rfl,rfl,rfl,rfl,rfl⟩ rfl rfl rfl rfl rfl (by kernel_rfl) Tryz.func10 (by kernel_rfl)
  (of_decide_eq_true (by kernel_rfl)) (by unfold Func.isWrapper; first | (rw [if_pos (by decide +kernel)]; kernel_rfl) | (rw [if_neg (by decide +kernel)]; exact ⟨rfl,rfl⟩))
  (fun os started H enc _=>lifted os started H enc)
theorem card:Rows.VenuePartsCardSaid :=
 Claim7.holds_tied_plain_at .later [] [.data] true (true, "282d2aec10900769c483711ccf7034c4226bb8f84f208cece23444b1ce27ece2") false
  over (fun _ h=>by cases h) (by kernel_rfl) (fun _ h=>by cases h) venueParts_row_tie rfl ⟨rfl,rfl⟩ (by kernel_rfl) rfl
  (fun f fn hf hfn=>by
   obtain rfl : f = 10 := Option.some.inj ((show Tryz.prog.funcNamed "tollbooth/tollboothlaw.VenueParts" = some 10 by kernel_rfl).symm.trans hf) |>.symm
   obtain rfl:fn=Tryz.f10:=(Option.some.inj (Tryz.func10.symm.trans hfn)).symm
   exact ⟨by kernel_rfl,fun j t ht=>by
    rw [Tryz.params10] at ht
    rcases j with _ | _ | _ | j
    ·obtain rfl:t=25:=by simpa using ht.symm
     exact (show Tryz.prog.wantsStandIn 25=false by kernel_rfl)
    ·obtain rfl:t=80:=by simpa using ht.symm
     exact (show Tryz.prog.wantsStandIn 80=false by kernel_rfl)
    ·obtain rfl:t=3:=by simpa using ht.symm
     exact (show Tryz.prog.wantsStandIn 3=false by kernel_rfl)
    ·simp at ht⟩)
  (by kernel_rfl)
end Go.Proofs.YtpkbiafhnflmnaaGreatDoor.venueParts
namespace Go.Proofs.YtpkbiafhnflmnaaGreatDoor
theorem venueParts_holds:Rows.VenuePartsCardSaid:=venueParts.card
#print axioms venueParts_holds
end Go.Proofs.YtpkbiafhnflmnaaGreatDoor
