/-
  VenueFills is true of every venue and command: all fills of an account together are what its position changed by, and what was paid is what its balance changed by. The table of tiers reads as the program's text lays it (the card ties it).
-/
import Derived.Test.YtpkbiafhnflmnaaGreatDoorT42
import Derived.Test.YtpkbiafhnflmnaaGreatDoorT43
import Derived.Test.YtpkbiafhnflmnaaGreatDoorT44
import Derived.Test.YtpkbiafhnflmnaaGreatDoorT45
import Derived.Test.YtpkbiafhnflmnaaGreatDoorT46
import Derived.Test.YtpkbiafhnflmnaaGreatDoorT47
import Derived.Test.YtpkbiafhnflmnaaGreatDoorT48
import Derived.Maps.Own
import Derived.Maps.Views
import Derived.Carry
import Derived.BigQuiet
import Derived.Test.YtpkbiafhnflmnaaGreatDoorRows
import Derived.Test.YtpkbiafhnflmnaaGreatDoorCards
import Derived.Test.YtpkbiafhnflmnaaGreatDoorTie
import Derived.Outline
import Derived.ProofKit
import Derived.OpenShut
import Derived.ChangeOld
import Derived.Below
import Derived.SizedLaws
import Derived.Lay
import Derived.MakeChecks
import Derived.SevenTiedAt
namespace Go.Proofs.YtpkbiafhnflmnaaGreatDoor.Vn
open Go.RowKit Num Fix AcP FuP Bk Rm Ac Go.Sort Go.Maps Mix RkP
theorem blt {w:World}{p:Addr}{v:Value}(h:w.cell? p=some v):p.block<w.heap.size:=World.block_lt_of_cell? _ _ h
theorem bc {w:World}{B:Nat}{cs:Array Value}{t:TypeId}(h:w.heap[B]? = some (.cells cs t (0,0)))(i:Nat):w.cell? ⟨B,i,none⟩=cs[i]?:=(blk_cell h i).1
theorem erow_below {w w':World}{p:Option Addr}{L:List Ev}(h:ERow w p L)(hb:Below w.heap.size w w'):ERow w' p L:=by
 rcases h with h | ⟨b,off,rfl,hc⟩
 ·exact .inl h
 ·exact .inr ⟨b,off,rfl,fun j u hu=>(hb.cell (blt (hc j u hu))).trans (hc j u hu)⟩
end Go.Proofs.YtpkbiafhnflmnaaGreatDoor.Vn
namespace Go.Proofs.YtpkbiafhnflmnaaGreatDoor.Vn
open Num AcP FuP RkP Bk Rm
open Go.RowKit Fix Ac Go.Sort Go.Maps Mix
theorem two_blk (w:World)(o o':Obj):((w.alloc o).alloc o').drew.heap[w.heap.size]? = some o/\((w.alloc o).alloc o').drew.heap[w.heap.size+1]? = some o':=by
 refine⟨blk_below (heap_alloc_new w o) ((Ac.below_alloc _ _).drew),?_⟩
 have:=heap_alloc_new (w.alloc o) o'
 rw [show (w.alloc o).heap.size=w.heap.size+1 by simp] at this
 exact this
theorem zRow {w:World}{g n:Nat}(h:w.heap[g]? = some (.cells (zInts n) 3 (0,0))):Row w (some ⟨g,0,none⟩) (List.replicate n 0):=by
 refine .inr ⟨g,0,rfl,fun i hi=>?_⟩
 rw [Nat.zero_add,(blk_cell h i).1];simp only [List.length_replicate] at hi;unfold zInts;simp [hi]
end Go.Proofs.YtpkbiafhnflmnaaGreatDoor.Vn
namespace Go.Proofs.YtpkbiafhnflmnaaGreatDoor.Vn
open Num AcP FuP RkP Bk Rm
abbrev w8 (x:Int):Prop:=0<=x/\x<=7
def Ids (l:List Acc):Prop:=∀a,a ∈ l->w8 a.1
/-- an event that names only accounts that there can be. -/
def WOk (e:Ev):Prop:=(e.1=5->w8 e.2.2.2.2.1)/\(e.1=3\/e.1=6->w8 e.2.2.2.2.2.2.2.2.1/\w8 e.2.2.2.2.2.2.2.2.2.1)
def Wld (s t:Tn):Prop:=∃L,t.evs=s.evs ++ L/\∀e,e ∈ L->WOk e
theorem Wld.none {s t:Tn}(h:t.evs=s.evs):Wld s t:=⟨[],by rw [h];simp,fun _ h=>by cases h⟩
theorem Wld.refl (s:Tn):Wld s s:=.none rfl
theorem Wld.trans {s t u:Tn}(h:Wld s t)(k:Wld t u):Wld s u:=by
 obtain⟨L,e1,h1⟩:=h;obtain⟨M,e2,h2⟩:=k
 refine⟨L ++ M,by rw [e2,e1,List.append_assoc],fun e he=>?_⟩
 rcases List.mem_append.1 he with he | he
 ·exact h1 e he
 ·exact h2 e he
theorem Wld.one {s t:Tn}(e:Ev)(h:t.evs=s.evs ++ [e])(he:WOk e):Wld s t:=⟨[e],h,fun x hx=>by simp at hx;subst hx;exact he⟩
theorem wok_plain {e:Ev}(h:e.1=2\/e.1=4):WOk e:=⟨fun h5=>by omega,fun h6=>by omega⟩
theorem Str.ids {s:Tn}(h:Str s):Ids s.accs:=fun a ha=>by
 have:=betw_true (accErr_ok (h.acc a ha)).1;exact this
theorem at_w8 {s:Tn}(h:Ids s.accs)(k:Nat):w8 (accAt s k).1:=by
 unfold accAt
 rw [List.getD_eq_getElem?_getD]
 cases hx:s.accs[k]? with
 |none=>exact⟨by decide,by decide⟩
 |some a=>exact h a (List.mem_of_getElem? hx)
theorem has_w8 {s:Tn}(h:Ids s.accs){id:Int}(hh:hasA s.accs id=true):w8 id:=by
 unfold hasA at hh;obtain⟨a,ha,e⟩:=List.any_eq_true.1 hh
 have e:a.1=id:=by simpa using e
 rw [<- e];exact h a ha
theorem ids_mem_set {s:Tn}(h:Ids s.accs){k:Nat}{a:Acc}(ha:w8 a.1):Ids (s.accs.set k a):=fun b hb=>by
 rcases List.mem_or_eq_of_mem_set hb with hb | rfl
 ·exact h b hb
 ·exact ha
theorem who_move {s t:Tn}{k:Nat}{n:Int}(h:moveR s k n=.ok t)(hi:Ids s.accs):Wld s t:=by
 unfold moveR at h
 split at h
 ·cases h
  refine .one _ rfl ⟨fun _=>at_w8 hi k,fun h6=>?_⟩
  rcases h6 with h6 | h6<;>cases h6
 ·cases h
theorem tradeOf_ids {s t:Tn}{id mk q p fee:Int}(h:tradeOfR s id mk q p fee=.ok t)(hi:Ids s.accs):Ids t.accs:=by
 unfold tradeOfR at h
 split at h
 ·cases h
  exact ids_mem_set hi (at_w8 hi _)
 ·cases h
theorem trade_ids {s t:Tn}{mk:Int}{f:Fil}{fee:Int}(h:tradeR s mk f fee=.ok t)(hi:Ids s.accs):Ids t.accs:=by
 unfold tradeR at h
 split at h
 ·rename_i u hu
  split at h
  ·rename_i v hv
   unfold insR at h
   split at h
   ·cases h
    have hx:=tradeOf_ids hv (tradeOf_ids hu hi);exact hx
   ·cases h
  ·cases h
 ·cases h
theorem fills_ids (mk:Int)(free:Bool):∀(l:List Fil)(s t:Tn),fillsR mk free l s=.ok t->Ids s.accs->Ids t.accs
 |[],s,t,h,hi=>by cases h;exact hi
 |f :: l,s,t,h,hi=>by
  unfold fillsR at h
  split at h
  ·split at h
   ·rename_i u hu
    have hx:=trade_ids hu hi;exact fills_ids mk free l _ t h hx
   ·cases h
  ·cases h
theorem who_fills {mk:Int}{free:Bool}{l:List Fil}{s t:Tn}(h:fillsR mk free l s=.ok t)(hl:∀f,f ∈ l->w8 f.2.2.1/\w8 f.2.2.2.1):Wld s t:=by
 obtain⟨h2,-⟩:=fills_evs mk free l s t h
 refine⟨_,h2,fun e he=>?_⟩
 obtain⟨f,hf,rfl⟩:=List.mem_map.1 he
 exact⟨(fun h5=>by cases h5),fun _=>hl f hf⟩
theorem who_others (k:Nat)(id sd pr:Int)(hid:w8 id):∀(n:Nat)(q:Int)(s t:Tn),othersR k id sd pr n q s=.ok t->Ids s.accs->Wld s t
 |0,q,s,t,h,_=>by cases h;exact .refl _
 |n+1,q,s,t,h,hi=>by
  unfold othersR at h
  split at h
  ·split at h
   ·rename_i u hu
    have hx:=trade_ids hu hi
    refine Wld.trans (t:=u) (.none (trade_same hu)) (Wld.trans (.one _ rfl ?_) (who_others k id sd pr hid n _ _ t h hx))
    exact⟨(fun h5=>by cases h5),fun _=>⟨at_w8 hi _,hid⟩⟩
   ·cases h
  ·cases h;exact .refl _
theorem who_drop (id:Int)(k:Nat):∀(l:List Odr)(s t:Tn),dropL id k l s=.ok t->Wld s t
 |[],s,t,h=>by cases h;exact .refl _
 |o :: l,s,t,h=>by
  unfold dropL at h
  split at h
  ·split at h
   ·exact(Wld.one _ rfl (wok_plain (.inr rfl))).trans (who_drop id k l _ t h)
   ·cases h
  ·exact who_drop id k l s t h
theorem who_dropM (id:Int):∀(n k:Nat)(s t:Tn),dropM id n k s=.ok t->Wld s t
 |0,k,s,t,h=>by cases h;exact .refl _
 |n+1,k,s,t,h=>by
  unfold dropM at h
  split at h
  ·rename_i u hu
   exact(who_drop id k _ s u hu).trans (who_dropM id n (k+1) u t h)
  ·cases h
theorem who_closeIn {s t:Tn}{i k:Nat}{marks:List Int}(h:closeInR s i k marks=.ok t)(hs:Str s)(hk:k<s.mkts.length):Wld s t:=by
 unfold closeInR at h
 split at h
 ·obtain⟨c1,-,-⟩:=closeO_is (accAt s i) k (bankR (accAt s i).1 (accAt s i).2.1 (accAt s i).2.2 marks k).1
  generalize closeO (accAt s i) k (bankR (accAt s i).1 (accAt s i).2.1 (accAt s i).2.2 marks k).1=o at h c1
  have ho8:w8 (oac o):=by rw [c1];exact at_w8 hs.ids i
  unfold closeInO at h
  split at h
  ·rename_i ht
   obtain⟨hR,hok⟩:=takeErr_zero.1 ht
   split at h
   ·rename_i u hu
    have hw:=who_fills hu (fun f hf=>by
     obtain⟨x,hx,e1,e2,-⟩:=(take_fills hR hok).1 f hf;rw [e1,e2];exact⟨has_w8 hs.ids ((hs.at hk).2.2.2 x hx).1,ho8⟩)
    have hj:=fills_ids _ _ _ _ _ hu hs.ids;have hw2:Wld s u:=hw;exact hw2.trans (who_others k _ _ _ ho8 _ _ _ _ h hj)
   ·cases h
  ·cases h
 ·cases h
theorem who_closeM (i:Nat)(marks:List Int):∀(n k:Nat)(s t:Tn),closeM i marks n k s=.ok t->Str s->Sums s->i<s.accs.length->k+n=s.mkts.length->Wld s t
 |0,k,s,t,h,_,_,_,_=>by cases h;exact .refl _
 |n+1,k,s,t,h,hs,hS,hi,hk=>by
  unfold closeM at h
  split at h
  ·exact who_closeM i marks n (k+1) s t h hs hS hi (by omega)
  ·split at h
   ·rename_i u hu
    obtain⟨F,-,-⟩:=closeIn_facts hu hs hS hi (by omega)
    exact(who_closeIn hu hs (by omega)).trans (who_closeM i marks n (k+1) u t h F.str F.sums (by rw [F.lenA];exact hi) (by rw [F.len];omega))
   ·cases h
theorem who_cover {s t:Tn}{i:Nat}(h:coverR s i=.ok t)(hi:Ids s.accs):Wld s t:=by
 unfold coverR at h
 split at h
 ·cases h;exact .refl _
 ·exact Wld.trans (t:={ s with ins:=s.ins - min (-(accAt s i).2.1) s.ins }) (.none rfl) (who_move h hi)
theorem who_closeAll {s t:Tn}{i:Nat}{marks:List Int}(h:closeAllR s i marks=.ok t)(hs:Str s)(hS:Sums s)(hi:i<s.accs.length):Wld s t:=by
 unfold closeAllR at h
 split at h
 ·rename_i u hu
  split at h
  ·rename_i v hv
   obtain⟨F,fa⟩:=dropM_facts _ _ _ _ _ hu hs hS (by simp)
   obtain⟨G,-⟩:=closeM_facts i marks _ _ _ _ hv F.str F.sums (by rw [fa];exact hi) (by simp)
   exact(who_dropM _ _ _ _ _ hu).trans ((who_closeM i marks _ _ _ _ hv F.str F.sums (by rw [fa];exact hi) (by simp)).trans (who_cover h G.str.ids))
  ·cases h
 ·cases h
theorem who_sweepL (marks:List Int):∀(n i:Nat)(s t:Tn),sweepL marks n i s=.ok t->Str s->Sums s->i+n=s.accs.length->Wld s t
 |0,i,s,t,h,_,_,_=>by cases h;exact .refl _
 |n+1,i,s,t,h,hs,hS,hi=>by
  unfold sweepL at h
  split at h
  ·split at h
   ·exact who_sweepL marks n (i+1) s t h hs hS (by omega)
   ·split at h
    ·rename_i u hu
     have hf:=(closeAll_facts hu hs hS (by omega)).1
     exact(who_closeAll hu hs hS (by omega)).trans (who_sweepL marks n (i+1) u t h hf.str hf.sums (by rw [hf.lenA];omega))
    ·cases h
  ·cases h
theorem who_paid:∀(a b:List Acc)(e:Ev),e ∈ paidEv a b->Ids b->WOk e
 |[],_,e,h,_=>by unfold paidEv at h;cases h
 |_ :: _,[],e,h,_=>by unfold paidEv at h;cases h
 |a :: l,b :: k,e,h,hi=>by
  unfold paidEv at h
  split at h
  ·exact who_paid l k e h (fun x hx=>hi x (by simp [hx]))
  ·rcases List.mem_cons.1 h with rfl | h
   ·refine⟨fun _=>hi b (by simp),fun h6=>?_⟩
    rcases h6 with h6 | h6<;>cases h6
   ·exact who_paid l k e h (fun x hx=>hi x (by simp [hx]))
theorem who_gone (s:Tn)(mk:Int)(o:Odr)(n:Int):Wld s (goneIf s mk o n):=by
 unfold goneIf
 split
 ·exact .one _ rfl (wok_plain (.inr rfl))
 ·exact .refl _
theorem who_place {s t:Tn}{mk:Nat}{o:Odr}{how:Int}{red:Bool}(h:placeO s mk o how red=.ok t)(hs:Str s)(hS:Sums s)(hk:mk<s.mkts.length)(ho:oid o=s.next)(hn:¬ s.next=100000)(hac:hasA s.accs (oac o)=true):Wld s t:=by
 obtain⟨u,P,-⟩:=place_is h hs hS hk ho hn hac;rw [P.is]
 refine Wld.trans (t:=u) (Wld.trans (Wld.one (t:=cameR s mk o how) (evAccepted mk (oid o) (oac o)) rfl (wok_plain (.inl rfl))) (who_fills P.fills (fun f hf=>?_))) (who_gone _ _ _ _)
 obtain⟨p1,p2,-⟩:=place_fills hs hk P.he hac f hf;have hi:Ids (cameR s mk o how).accs:=hs.ids;exact⟨has_w8 hi p1,has_w8 hi p2⟩
theorem who_cancel (s:Tn)(ac n:Int):∀(l:List Mp)(k:Nat)(t:Tn),cancelL s ac n k l=.ok t->Wld s t
 |[],k,t,h=>by cases h
 |x :: l,k,t,h=>by
  unfold cancelL at h
  split at h
  ·cases h;exact .one _ rfl (wok_plain (.inr rfl))
  ·exact who_cancel s ac n l (k+1) t h
theorem open_ids {s:Tn}{id:Int}(h:Ids s.accs)(hid:w8 id):Ids (openR s id).accs:=by
 unfold openR
 split
 ·exact h
 ·intro a ha
  unfold putA at ha
  rcases List.mem_append.1 ha with ha | ha
  ·exact h a (List.mem_of_mem_take ha)
  ·rcases List.mem_cons.1 ha with rfl | ha
   ·exact hid
   ·exact h a (List.mem_of_mem_drop ha)
theorem turn_who {s t:Tn}{c:Cm}(h:turnR s c=.ok t)(hs:Str s)(hS:Sums s):Wld s t:=by
 unfold turnR at h
 split at h
 ·unfold depositR at h
  split at h
  ·rename_i hp
   obtain⟨-,hp2⟩:=pay_ok hp
   split at h
   ·refine Wld.trans (t:=openR { s with inn:=addV s.inn c.n } c.ac) (.none ?_) (who_move h (open_ids (s:={ s with inn:=addV s.inn c.n }) hs.ids (by omega)))
    unfold openR
    split<;>rfl
   ·cases h
  ·cases h
 ·split at h
  ·unfold withdrawR at h
   split at h
   ·split at h
    ·split at h
     ·split at h
      ·rename_i u hu
       split at h
       ·cases h
        exact Wld.trans (t:={ s with out:=addV s.out c.n }) (.none rfl) (who_move hu hs.ids)
       ·cases h
      ·cases h
     ·cases h
    ·cases h
   ·cases h
  ·split at h
   ·unfold placeR at h
    split at h
    ·rename_i ho
     obtain⟨-,-,o3,o4,o5,-⟩:=order_ok ho;obtain⟨m1,m2⟩:=hasM_iff.1 o4
     obtain⟨k,hk⟩:∃k:Nat,c.mkt=k:=⟨c.mkt.toNat,by omega⟩
     rw [hk] at h m2
     exact who_place h hs hS (by omega) rfl o5 o3
    ·cases h
   ·split at h
    ·exact who_cancel _ _ _ _ _ _ h
    ·split at h
     ·unfold indexR at h
      split at h
      ·split at h
       ·cases h
       ·cases h;exact .none rfl
      ·cases h
     ·split at h
      ·have K:=(fund_facts h hs hS).1
       unfold fundR at h
       split at h
       ·split at h
        ·split at h
         ·split at h
          ·cases h
           exact⟨_,rfl,fun e he=>who_paid _ _ e he K.str.ids⟩
          ·cases h
         ·cases h
        ·cases h
       ·cases h
      ·split at h
       ·unfold sweepR at h
        split at h
        ·exact who_sweepL _ _ _ _ _ h hs hS (by simp)
        ·cases h
       ·cases h
theorem sweepL_len (marks:List Int):∀(n i:Nat)(s t:Tn),sweepL marks n i s=.ok t->Str s->Sums s->i+n=s.accs.length->t.evs.length<=s.evs.length+3000 * n
 |0,i,s,t,h,_,_,_=>by cases h;omega
 |n+1,i,s,t,h,hs,hS,hi=>by
  unfold sweepL at h
  split at h
  ·split at h
   ·have:=sweepL_len marks n (i+1) s t h hs hS (by omega)
    omega
   ·split at h
    ·rename_i u hu
     have hf:=(closeAll_facts hu hs hS (by omega)).1
     have h1:=closeAll_len hu hs hS (by omega)
     have h2:=sweepL_len marks n (i+1) u t h hf.str hf.sums (by rw [hf.lenA];omega)
     omega
    ·cases h
  ·cases h
theorem paid_len:∀(a b:List Acc),(paidEv a b).length<=a.length
 |[],_=>by simp [paidEv]
 |_ :: _,[]=>by simp [paidEv]
 |a :: l,b :: k=>by
  have:=paid_len l k;unfold paidEv
  split
  ·simp;omega
  ·simp;omega
theorem move_len {s t:Tn}{k:Nat}{n:Int}(h:moveR s k n=.ok t):t.evs.length=s.evs.length+1:=by
 unfold moveR at h
 split at h
 ·cases h;simp [Tn.tell,Tn.setA]
 ·cases h
theorem cancel_len (s:Tn)(ac n:Int):∀(l:List Mp)(k:Nat)(t:Tn),cancelL s ac n k l=.ok t->t.evs.length=s.evs.length+1
 |[],k,t,h=>by cases h
 |x :: l,k,t,h=>by
  unfold cancelL at h
  split at h
  ·cases h;simp [remR,Tn.tell,Tn.setB,Tn.setM]
  ·exact cancel_len s ac n l (k+1) t h
/-- how many events a command tells. -/
theorem turn_len {s t:Tn}{c:Cm}(h:turnR s c=.ok t)(hs:Str s)(hS:Sums s):t.evs.length<=s.evs.length+100000:=by
 unfold turnR at h
 split at h
 ·unfold depositR at h
  split at h
  ·split at h
   ·have h1:=move_len h
    have h2:(openR { s with inn:=addV s.inn c.n } c.ac).evs=s.evs:=by unfold openR;split<;>rfl
    rw [h2] at h1
    omega
   ·cases h
  ·cases h
 ·split at h
  ·unfold withdrawR at h
   split at h
   ·split at h
    ·split at h
     ·split at h
      ·rename_i u hu
       split at h
       ·cases h
        have h1:=move_len hu;dsimp only at h1
        omega
       ·cases h
      ·cases h
     ·cases h
    ·cases h
   ·cases h
  ·split at h
   ·unfold placeR at h
    split at h
    ·rename_i ho
     obtain⟨-,-,o3,o4,o5,-⟩:=order_ok ho;obtain⟨m1,m2⟩:=hasM_iff.1 o4
     obtain⟨k,hk⟩:∃k:Nat,c.mkt=k:=⟨c.mkt.toNat,by omega⟩
     rw [hk] at h m2
     obtain⟨u,P,-⟩:=place_is h hs hS (by omega) rfl o5 o3
     have h1:=fills_len _ _ _ _ _ P.fills;have h2:=(come_fok hs P.hk P.he o3).2
     have h3:(cameR s k (orderO s c) c.how).evs.length=s.evs.length+1:=by unfold cameR;simp [Tn.setB,Tn.setM,Tn.tell]
     have h4:t.evs.length<=u.evs.length+1:=by
      rw [P.is];unfold goneIf
      split<;>simp [Tn.tell]
     omega
    ·cases h
   ·split at h
    ·have:=cancel_len _ _ _ _ _ _ h
     omega
    ·split at h
     ·unfold indexR at h
      split at h
      ·split at h
       ·cases h
       ·cases h;simp [Tn.setI,Tn.setM]
      ·cases h
     ·split at h
      ·unfold fundR at h
       split at h
       ·split at h
        ·split at h
         ·split at h
          ·cases h
           have h1:=paid_len s.accs (settleP s.accs c.mkt (fundMark s c.mkt).1 c.n).1;have h2:=hs.few;rw [List.length_append]
           omega
          ·cases h
         ·cases h
        ·cases h
       ·cases h
      ·split at h
       ·unfold sweepR at h
        split at h
        ·have h1:=sweepL_len _ _ _ _ _ h hs hS (by simp)
         have h2:=hs.few
         omega
        ·cases h
       ·cases h
end Go.Proofs.YtpkbiafhnflmnaaGreatDoor.Vn
namespace Go.Proofs.YtpkbiafhnflmnaaGreatDoor.Vn
open Go.RowKit Go.Maps
theorem lawI:Keyed Tryz.prog 3:=int_keyed Tryz.underlying3
theorem zeroI (w:World):(zeroValue 3).run Tryz.prog w=.ok (.int .i64 0) w:=by kernel_rfl
theorem wfI {x:Int}(h:-9223372036854775808<=x/\x<=9223372036854775807):(Lit.int .i64 x).wf=true:=WalkArith.wf_i64 h
/-- block b is a map of at most n entries; at x it has f x. -/
def IM (w:World) (b n:Nat) (f:Int->Int):Prop:=∃D:DataW Unit,w.ownsMap Tryz.prog 3 (plainElem Tryz.prog 3) b n D/\IsMap D/\∀x,(Lit.int .i64 x).wf=true->D.atKey (.int .i64 x) (.lit (.int .i64 0))=.lit (.int .i64 (f x))
theorem IM.lt {w:World}{b n:Nat}{f:Int->Int}(h:IM w b n f):b<w.heap.size:=by
 obtain⟨D,h1,-⟩:=h;exact h1.lt
theorem im_made (w:World):IM (w.alloc (.map #[] 0)) w.heap.size 0 (fun _=>0):=⟨_,World.ownsMap_made _ _ _ _,isMap_empty,fun _ _=>rfl⟩
theorem IM.below {w w':World}{b n:Nat}{f:Int->Int}(h:IM w b n f)(hb:Below w.heap.size w w'):IM w' b n f:=by
 obtain⟨D,⟨es,clock,h1,h4⟩,h2,h3⟩:=h
 exact⟨D,⟨es,clock,(hb.block b (Array.getElem?_eq_some_iff.1 h1).1).trans h1,h4⟩,h2,h3⟩
theorem IM.but {w w':World}{b n:Nat}{f:Int->Int}{F:Nat->Prop}(h:IM w b n f)(hb:But F w w')(hF:¬ F b):IM w' b n f:=by
 obtain⟨D,⟨es,clock,h1,h4⟩,h2,h3⟩:=h
 exact⟨D,⟨es,clock,(hb.block b (Array.getElem?_eq_some_iff.1 h1).1 hF).trans h1,h4⟩,h2,h3⟩
theorem IM.look {w:World}{b n:Nat}{f:Int->Int}(h:IM w b n f){x:Int}(hx:(Lit.int .i64 x).wf=true):(Instr.lookup 65 (.map (some b)) (.int .i64 x) false).run Tryz.prog w=.ok (.int .i64 (f x)) w/\(Lit.int .i64 (f x)).wf=true:=by
 obtain⟨D,h1,h2,h3⟩:=h;obtain⟨c,e1,e2,e3⟩:=h1.lookup_int lawI Tryz.underlying65 Tryz.underlying3 (zeroI w) (keyOf_int_mk Tryz.underlying3 hx);rw [h3 x hx] at e2;cases e2;exact⟨e1,e3⟩
def upd (f:Int->Int) (x v:Int):Int->Int:=fun y=>if y=x then v else f y
theorem IM.put {w:World}{b n:Nat}{f:Int->Int}(h:IM w b n f)(hn:n<maxLen){x v:Int}(hx:(Lit.int .i64 x).wf=true)(hv:(Lit.int .i64 v).wf=true) :
  ∃w',(Instr.mapUpdate 65 (.map (some b)) (.int .i64 x) (.int .i64 v)).run Tryz.prog w=.ok () w'/\IM w' b (n+1) (upd f x v)/\w.grownBy w' (some b):=by
 obtain⟨D,h1,h2,h3⟩:=h;obtain⟨w',e1,e2,e3⟩:=h1.update lawI Tryz.underlying65 hn (keyOf_int_mk Tryz.underlying3 hx) (plainElem_int Tryz.underlying3 hv)
 refine⟨w',e1,⟨_,e2,h2.put _ _,fun y hy=>?_⟩,e3⟩
 unfold upd
 split
 ·rename_i e
  subst e;exact atKey_put_same (k:=Lit.int .i64 y) h2 trivial _ _
 ·rename_i e
  rw [atKey_put_other (by intro he;cases he;exact e rfl)]
  exact h3 y hy
/-- how a map reads that lies in a map. -/
def RM (v:Value):Option (DataW Unit × List MemPlace) :=
 match v with
 |.map (some b)=>some (.lit (.int .i64 (b:Int)),[])
 |.map none=>some (.lit (.int .i64 (-1)),[])
 |_=>none
theorem RM_inv {v:Value}{b:Nat}{ps:List MemPlace}(h:RM v=some (.lit (.int .i64 (b:Int)),ps)):v=.map (some b):=by
 unfold RM at h
 split at h
 ·simp only [Option.some.injEq,Prod.mk.injEq,DataW.lit.injEq,Lit.int.injEq,true_and] at h
  have:=h.1;rw [show (_:Nat)=b from Int.ofNat_inj.1 this]
 ·simp only [Option.some.injEq,Prod.mk.injEq,DataW.lit.injEq,Lit.int.injEq,true_and] at h
  have:=h.1
  omega
 ·cases h
theorem zeroMM (w:World):(zeroValue 65).run Tryz.prog w=.ok (.map none) w:=by kernel_rfl
abbrev k0:Lit:=.int .i64 0
abbrev k1:Lit:=.int .i64 1
/-- block b: a map of two maps. -/
def OM (w:World) (b bA bB:Nat):Prop:=w.ownsMap Tryz.prog 3 RM b 2 (((DataW.map []:DataW Unit).put k0 (.lit (.int .i64 (bA:Int)))).put k1 (.lit (.int .i64 (bB:Int))))
theorem OM.but {w w':World}{b bA bB:Nat}{F:Nat->Prop}(h:OM w b bA bB)(hb:But F w w')(hF:¬ F b):OM w' b bA bB:=by
 obtain⟨es,clock,h1,h4⟩:=h
 exact⟨es,clock,(hb.block b (Array.getElem?_eq_some_iff.1 h1).1 hF).trans h1,h4⟩
theorem OM.look0 {w:World}{b bA bB:Nat}(h:OM w b bA bB):(Instr.lookup 66 (.map (some b)) (.int .i64 0) false).run Tryz.prog w=.ok (.map (some bA)) w:=by
 obtain⟨v,ps,e1,e2⟩:=World.ownsMap.lookup h lawI Tryz.underlying66 (zeroMM w) (zd:=.lit (.int .i64 (-1))) (zp:=[]) rfl (keyOf_int_mk Tryz.underlying3 (a:=0) (by decide))
 rw [atKey_put_other (by intro he;cases he),atKey_put_same (k:=k0) isMap_empty trivial] at e2
 rw [RM_inv e2] at e1;exact e1
theorem OM.look1 {w:World}{b bA bB:Nat}(h:OM w b bA bB):(Instr.lookup 66 (.map (some b)) (.int .i64 1) false).run Tryz.prog w=.ok (.map (some bB)) w:=by
 obtain⟨v,ps,e1,e2⟩:=World.ownsMap.lookup h lawI Tryz.underlying66 (zeroMM w) (zd:=.lit (.int .i64 (-1))) (zp:=[]) rfl (keyOf_int_mk Tryz.underlying3 (a:=1) (by decide))
 rw [atKey_put_same (k:=k1) (isMap_empty.put _ _) trivial] at e2;rw [RM_inv e2] at e1;exact e1
/-- the map of maps, made. -/
theorem om_first (bA:Nat):∀W b,W.ownsMap Tryz.prog 3 RM b 0 (DataW.map []:DataW Unit)->∃W',(Instr.mapUpdate 66 (.map (some b)) (.int .i64 0) (.map (some bA))).run Tryz.prog W=.ok () W'/\W'.ownsMap Tryz.prog 3 RM b 1 ((DataW.map []:DataW Unit).put k0 (.lit (.int .i64 (bA:Int))))/\W.grownBy W' (some b):=fun W b h =>
 World.ownsMap.update h lawI Tryz.underlying66 (by decide) (keyOf_int_mk Tryz.underlying3 (a:=0) (by decide)) rfl
theorem om_second {bA:Nat}(bB:Nat):∀W b,W.ownsMap Tryz.prog 3 RM b 1 ((DataW.map []:DataW Unit).put k0 (.lit (.int .i64 (bA:Int))))->∃W',(Instr.mapUpdate 66 (.map (some b)) (.int .i64 1) (.map (some bB))).run Tryz.prog W=.ok () W'/\OM W' b bA bB/\W.grownBy W' (some b):=fun W b h =>
 World.ownsMap.update h lawI Tryz.underlying66 (by decide) (keyOf_int_mk Tryz.underlying3 (a:=1) (by decide)) rfl
abbrev wr (n:Int):Int:=wrap64 n
theorem wr_is (n:Int):wr n=(n+9223372036854775808) % 18446744073709551616 - 9223372036854775808:=by unfold wr wrap64;omega
theorem wr_same {a b:Int}(h:(a - b) % 18446744073709551616=0):wr a=wr b:=by rw [wr_is,wr_is];omega
theorem wr_back (a:Int):∃t,wr a=a+18446744073709551616 * t:=⟨-((a+9223372036854775808) / 18446744073709551616),by rw [wr_is];omega⟩
theorem wr_add (a b:Int):wr (wr a+b)=wr (a+b):=by
 obtain⟨t,e⟩:=wr_back a
 exact wr_same (by rw [e];omega)
theorem wr_add2 (a b:Int):wr (a+wr b)=wr (a+b):=by
 obtain⟨t,e⟩:=wr_back b
 exact wr_same (by rw [e];omega)
theorem wr_sub (a b:Int):wr (wr a - b)=wr (a - b):=by
 obtain⟨t,e⟩:=wr_back a
 exact wr_same (by rw [e];omega)
theorem wr_sub2 (a b:Int):wr (a - wr b)=wr (a - b):=by
 obtain⟨t,e⟩:=wr_back b
 exact wr_same (by rw [e];omega)
theorem wr_mul (a b:Int):wr (wr a * b)=wr (a * b):=by
 obtain⟨t,e⟩:=wr_back a
 refine wr_same ?_
 rw [e,Int.add_mul,Int.mul_assoc]
 have:a * b+18446744073709551616 * (t * b) - a * b=18446744073709551616 * (t * b):=by omega
 rw [this]
 omega
theorem wr_wf (n:Int):(Lit.int .i64 (wr n)).wf=true:=wrap64_wf n
/-- what the maps hold after k events. -/
def mB9 (free:Bool) (L:List Ev) (k:Nat):Int->Int:=fun id=>wr (sumBalE free id (L.take k))
def mP9 (j:Nat) (L:List Ev) (k:Nat):Int->Int:=fun id=>wr (sumPosE j id (L.take k))
theorem mB_zero (free:Bool)(L:List Ev):mB9 free L 0=fun _=>0:=by funext id;unfold mB9;rw [wr_is];simp [sumBalE]
theorem mP_zero (j:Nat)(L:List Ev):mP9 j L 0=fun _=>0:=by funext id;unfold mP9;rw [wr_is];simp [sumPosE]
theorem sumB_take {free:Bool}{id:Int}{L:List Ev}{k:Nat}(h:k<L.length):sumBalE free id (L.take (k+1))=sumBalE free id (L.take k)+evBal free id (L[k]'h):=by
 unfold sumBalE;rw [List.take_succ_eq_append_getElem h,List.map_append,List.sum_append];simp
theorem sumP_take {j:Nat}{id:Int}{L:List Ev}{k:Nat}(h:k<L.length):sumPosE j id (L.take (k+1))=sumPosE j id (L.take k)+evPos j id (L[k]'h):=by
 unfold sumPosE;rw [List.take_succ_eq_append_getElem h,List.map_append,List.sum_append];simp
theorem mB_quiet {free:Bool}{L:List Ev}{k:Nat}(h:k<L.length)(h5:¬ (L[k]'h).1=5)(h3:¬ ((L[k]'h).1=3\/(L[k]'h).1=6)):mB9 free L (k+1)=mB9 free L k:=by
 funext id
 unfold mB9;rw [sumB_take h];unfold evBal;rw [if_neg h5,if_neg h3,Int.add_zero]
theorem mP_quiet {j:Nat}{L:List Ev}{k:Nat}(h:k<L.length)(h3:¬ (((L[k]'h).1=3\/(L[k]'h).1=6)/\(L[k]'h).2.2.1=j)):mP9 j L (k+1)=mP9 j L k:=by
 funext id
 unfold mP9;rw [sumP_take h];unfold evPos;rw [if_neg h3,Int.add_zero]
theorem mB_moved {free:Bool}{L:List Ev}{k:Nat}(h:k<L.length)(h5:(L[k]'h).1=5):upd (mB9 free L k) (L[k]'h).2.2.2.2.1 (wr (mB9 free L k (L[k]'h).2.2.2.2.1+(L[k]'h).2.2.2.2.2.1))=mB9 free L (k+1):=by
 funext id
 unfold upd
 rw [show mB9 free L (k+1) id=wr (sumBalE free id (L.take k)+evBal free id (L[k]'h)) by unfold mB9;rw [sumB_take h]]
 unfold evBal;rw [if_pos h5]
 split
 ·rename_i e
  subst e;rw [if_pos rfl];exact wr_add _ _
 ·rename_i e
  rw [if_neg (fun e'=>e e'.symm),Int.add_zero]
  rfl
theorem mB_fill {free:Bool}{L:List Ev}{k:Nat}(h:k<L.length)(h5:¬ (L[k]'h).1=5)(h3:(L[k]'h).1=3\/(L[k]'h).1=6){t m sd pr qt fee:Int}(ht:t=(L[k]'h).2.2.2.2.2.2.2.2.2.1)(hm:m=(L[k]'h).2.2.2.2.2.2.2.2.1)(hs:sd=(L[k]'h).2.2.2.2.2.2.2.2.2.2.1)(hp:pr=(L[k]'h).2.2.2.2.2.2.2.2.2.2.2.1)(hq:qt=(L[k]'h).2.2.2.2.2.2.2.2.2.2.2.2)(hf:fee=feeF free (L[k]'h).2.2.2.2.2.2) :
  upd (upd (mB9 free L k) t (wr (mB9 free L k t - wr (wr (wr (sd * qt) * pr)+fee)))) m (wr (upd (mB9 free L k) t (wr (mB9 free L k t - wr (wr (wr (sd * qt) * pr)+fee))) m+wr (wr (sd * qt) * pr)))=mB9 free L (k+1):=by
 have e1:wr (wr (sd * qt) * pr)=wr (sd * qt * pr):=wr_mul _ _
 have e2:∀x,wr (mB9 free L k x - wr (wr (wr (sd * qt) * pr)+fee))=wr (sumBalE free x (L.take k) - (sd * qt * pr+fee)):=fun x=>by
  rw [e1,wr_add,wr_sub2];exact wr_sub _ _
 rw [e2,e1]
 funext id
 rw [show mB9 free L (k+1) id=wr (sumBalE free id (L.take k)+evBal free id (L[k]'h)) by unfold mB9;rw [sumB_take h]]
 unfold evBal filBal;rw [if_neg h5,if_pos h3,<- ht,<- hm,<- hs,<- hp,<- hq,<- hf];unfold upd
 by_cases em:id=m
 ·subst em
  rw [if_pos rfl,if_pos rfl,wr_add2]
  by_cases et:id=t
  ·subst et
   rw [if_pos rfl,if_pos rfl,wr_add]
   congr 1
   omega
  ·rw [if_neg et,if_neg (show ¬ t=id from fun e=>et e.symm)]
   unfold mB9;rw [wr_add]
   congr 1
   omega
 ·rw [if_neg em,if_neg (show ¬ m=id from fun e=>em e.symm)]
  by_cases et:id=t
  ·subst et
   rw [if_pos rfl,if_pos rfl]
   congr 1
   omega
  ·rw [if_neg et,if_neg (show ¬ t=id from fun e=>et e.symm)]
   unfold mB9
   congr 1
   omega
theorem mP_fill {j:Nat}{L:List Ev}{k:Nat}(h:k<L.length)(h3:((L[k]'h).1=3\/(L[k]'h).1=6)/\(L[k]'h).2.2.1=j){t m sd qt:Int}(ht:t=(L[k]'h).2.2.2.2.2.2.2.2.2.1)(hm:m=(L[k]'h).2.2.2.2.2.2.2.2.1)(hs:sd=(L[k]'h).2.2.2.2.2.2.2.2.2.2.1)(hq:qt=(L[k]'h).2.2.2.2.2.2.2.2.2.2.2.2) :
  upd (upd (mP9 j L k) t (wr (mP9 j L k t+wr (sd * qt)))) m (wr (upd (mP9 j L k) t (wr (mP9 j L k t+wr (sd * qt))) m - wr (sd * qt)))=mP9 j L (k+1):=by
 have e2:∀x,wr (mP9 j L k x+wr (sd * qt))=wr (sumPosE j x (L.take k)+sd * qt):=fun x=>by
  rw [wr_add2];exact wr_add _ _
 rw [e2]
 funext id
 rw [show mP9 j L (k+1) id=wr (sumPosE j id (L.take k)+evPos j id (L[k]'h)) by unfold mP9;rw [sumP_take h]]
 unfold evPos filPos;rw [if_pos h3,<- ht,<- hm,<- hs,<- hq];unfold upd
 by_cases em:id=m
 ·subst em
  rw [if_pos rfl,if_pos rfl,wr_sub2]
  by_cases et:id=t
  ·subst et
   rw [if_pos rfl,if_pos rfl,wr_sub]
   congr 1
   omega
  ·rw [if_neg et,if_neg (show ¬ t=id from fun e=>et e.symm)]
   unfold mP9;rw [wr_sub]
   congr 1
   omega
 ·rw [if_neg em,if_neg (show ¬ m=id from fun e=>em e.symm)]
  by_cases et:id=t
  ·subst et
   rw [if_pos rfl,if_pos rfl]
   congr 1
   omega
  ·rw [if_neg et,if_neg (show ¬ t=id from fun e=>et e.symm)]
   unfold mP9
   congr 1
   omega
open Num Fix AcP FuP Bk Rm Ac Go.Sort Mix RkP
set_option maxHeartbeats 2000000 in
set_option maxRecDepth 100000 in
theorem fills_idx_some (b off c:Nat)(A:List Am)(P:Am->Bool)(B:Nat)(w:World)(hn:A.length<=140737488351232)
  (hc:∀j u,(A.flatMap encA)[j]? = some u->w.cell? ⟨b,off+j,none⟩=some u) (hb:b<w.heap.size)
  (hq:∀W,Below w.heap.size w W->∀k (hk:k<A.length),Calls Tryz.prog 31 #[accV (A[k]'hk).id (A[k]'hk).bal (A[k]'hk).p (A[k]'hk).n (A[k]'hk).c ,.pointer (some ⟨B,0,none⟩)] W fun e w'=>e=.returned (.bool (P (A[k]'hk)))/\Below W.heap.size W w') :
  Calls Tryz.prog 16 #[.slice (some ⟨b,off,none⟩) A.length c,.func (.func 31) #[] #[.pointer (some ⟨B,0,none⟩)]] w fun e w'=>e=.returned (.int .i64 (idxP P A 0))/\Below w.heap.size w w':=by
 have eg:∀args w,(callFunc 31 args).run Tryz.prog w=.ok (.enter 31 args) w:=enters_of Tryz.func31 (by kernel_rfl) rfl
 generalize hr:idxP P A 0=r;have R0:Hid (idxP P (A.drop 0) 0=r):=hr;clear hr;have HC:=hide hc;have HQ:=hide hq;clear hc hq;generalize hxn:A.length=n at hn ⊢;have N:=hide hxn;clear hxn
 go_enter Tryz.func16,Tryz.ntmps16
 go_wp2
 go_loopw [8] (fun i wr=>∃k:Nat,k<=n/\i=.int .i64 k/\Hid (Below w.heap.size w wr)/\Hid (idxP P (A.drop k) k=r)) (fun i _=>n - (intOf i).toNat)
 case atStart=>exact⟨0,Nat.zero_le _,rfl,Below.refl _ _,R0⟩
 case round =>
  obtain⟨k,hk,rfl,BW,R⟩:=hrel
  by_cases hlt:k<n
  ·have hltz:(k:Int)<(n:Int):=by omega
   have hkx:k<A.length:=by rw [N.out];exact hlt
   obtain⟨c0,c1,c2⟩:=arow_cells (w:=wr) (b:=b) (off:=off) (fun j u hu=>(BW.out.cell hb).trans (HC.out j u hu)) hkx
   have hcall:=HQ.out wr BW.out k hkx;have HH:=hide (idxP_at P hkx);generalize (A[k]'hkx).id=z1 at c0 hcall;generalize (A[k]'hkx).bal=z2 at c1 hcall;generalize (A[k]'hkx).p=z3 at c2 hcall;generalize (A[k]'hkx).n=z4 at c2 hcall;generalize (A[k]'hkx).c=z5 at c2 hcall
   cases hh:P (A[k]'hkx) with
   |true =>
    rw [hh] at hcall
    go_wp2_with (go_at_fn 31;refine hcall.mono ?_;rintro e w' ⟨rfl,hb'⟩)
    go_ret
    refine⟨?_,BW.out.trans (hb'.mono BW.out.size)⟩
    rw [<- R.out,HH.out,if_pos hh]
    rfl
   |false =>
    rw [hh] at hcall
    go_wp2_with (go_at_fn 31;refine hcall.mono ?_;rintro e w' ⟨rfl,hb'⟩)
    go_roundw
    case rel =>
     refine⟨k+1,by omega,by go_num,BW.out.trans (hb'.mono BW.out.size),?_⟩
     show idxP P (A.drop (k+1)) (k+1)=r
     rw [<- R.out,HH.out,hh]
     rfl
    case measure=>simp [intOf];omega
  ·have hk':k=n:=by omega
   subst hk'
   go_wp2
   go_ret
   refine⟨?_,BW.out⟩
   rw [<- R.out,<- N.out,List.drop_length]
   rfl
theorem fills_idx (p:Option Addr)(c:Nat)(A:List Am)(P:Am->Bool)(B:Nat)(w:World)(hn:A.length<=140737488351232)(h:ARow w p A)
  (hq:∀W,Below w.heap.size w W->∀k (hk:k<A.length),Calls Tryz.prog 31 #[accV (A[k]'hk).id (A[k]'hk).bal (A[k]'hk).p (A[k]'hk).n (A[k]'hk).c ,.pointer (some ⟨B,0,none⟩)] W fun e w'=>e=.returned (.bool (P (A[k]'hk)))/\Below W.heap.size W w') :
  Calls Tryz.prog 16 #[.slice p A.length c,.func (.func 31) #[] #[.pointer (some ⟨B,0,none⟩)]] w fun e w'=>e=.returned (.int .i64 (idxP P A 0))/\Below w.heap.size w w':=by
 by_cases hx:A=[]
 ·subst hx
  refine(accIdx_none p c _ w).mono ?_
  rintro e w' ⟨rfl,rfl⟩
  exact⟨rfl,Below.refl _ _⟩
 ·rcases h with h | ⟨b,off,rfl,hc⟩
  ·exact absurd h hx
  ·exact fills_idx_some b off c A P B w hn hc (World.block_lt_of_cell? w _ (arow_cells hc (List.length_pos_iff.2 hx)).1) hq
theorem fills1_any (b:Am)(id:Int)(B:Nat)(w:World)(k0:w.cell? ⟨B,0,none⟩=some (.int .i64 id)) :
  Calls Tryz.prog 31 #[accV b.id b.bal b.p b.n b.c,.pointer (some ⟨B,0,none⟩)] w fun e w'=>e=.returned (.bool (b.id == id))/\Below w.heap.size w w':=by
 have k0:=fun o=>cell_old k0 o
 go_enter Tryz.func31,Tryz.ntmps31
 go_wp2
 go_ret
 exact⟨rfl,Ac.below_alloc _ _⟩
structure FlF (s T:Tn) (free:Bool):Prop where
 bal:∀id,balOf T.accs id=balOf s.accs id+sumBalE free id T.evs
 pos:∀k id,posOf T.accs k id=posOf s.accs k id+sumPosE k id T.evs
 ok:∀e,e ∈ T.evs->EvOk free s.mkts.length e
 who:∀e,e ∈ T.evs->WOk e
 len:T.evs.length<=100000
 str:Str T
 ml:T.mkts.length=s.mkts.length
theorem fill_facts {s:Tn}{c:Cm}(h:checkE s=0)(hr:rejectedL (doR s c).1.evs=false){free:Bool}(h3:c.kind=3->free=false)(h7:c.kind=7->free=true):FlF s (doR s c).1 free:=by
 obtain⟨hs,hS⟩:=checkE_zero.1 h;have ht:=do_ok h hr;generalize (doR s c).1=T at ht ⊢;obtain⟨K,LD⟩:=turn_keeps ht (str_evs hs []) (sums_evs hS []);obtain⟨L,e1,b1,p1⟩:=LD free h3 h7;obtain⟨L2,e2,o2⟩:=turn_told ht (str_evs hs []) (sums_evs hS []) free h3 h7;obtain⟨L3,e3,o3⟩:=turn_who ht (str_evs hs []) (sums_evs hS []);have h4:=turn_len ht (str_evs hs []) (sums_evs hS []);simp only [List.nil_append] at e1 e2 e3;rw [<- e1] at b1 p1;rw [<- e2] at o2;rw [<- e3] at o3
 exact⟨b1,p1,o2,o3,by simpa using h4,K.str,K.len⟩
/-- the maps after k events. -/
structure FI (Y:World) (free:Bool) (L:List Ev) (bM bO bA bB k:Nat) (w:World):Prop where
 below:Below Y.heap.size Y w
 m:IM w bM (2 * k) (mB9 free L k)
 o:OM w bO bA bB
 a:IM w bA (2 * k) (mP9 0 L k)
 b:IM w bB (2 * k) (mP9 1 L k)
theorem FI.to {Y:World}{free:Bool}{L:List Ev}{bM bO bA bB k:Nat}{w w':World}{F:Nat->Prop}(h:FI Y free L bM bO bA bB k w)(hb:But F w w')(hF:∀b,F b->Y.heap.size<=b/\bM<b/\bO<b/\bA<b/\bB<b):FI Y free L bM bO bA bB k w' :=
 ⟨hb.below_all h.below (fun b f=>(hF b f).1),h.m.but hb (fun f=>by have:=(hF _ f).2.1;omega),h.o.but hb (fun f=>by have:=(hF _ f).2.2.1;omega),h.a.but hb (fun f=>by have:=(hF _ f).2.2.2.1;omega),h.b.but hb (fun f=>by have:=(hF _ f).2.2.2.2;omega)⟩
theorem FI.next {Y:World}{free:Bool}{L:List Ev}{bM bO bA bB k:Nat}{w w':World}(h:FI Y free L bM bO bA bB k w)(hb:Below w.heap.size w w'):FI Y free L bM bO bA bB k w':=h.to (F:=fun _=>False) (.of_below hb) (fun _ f=>f.elim)
/-- what an account has, by what is told. -/
theorem fill_bal {s T:Tn}{free:Bool}(F:FlF s T free){b:Acc}(hb:b ∈ T.accs){N:Nat}(hN:N=T.evs.length):wrap64 ((accOf s.accs b.1).2.1+mB9 free T.evs N b.1)=b.2.1:=by
 obtain⟨i,hi,rfl⟩:=List.getElem_of_mem hb;have h1:=F.bal (T.accs[i]).1;unfold balOf at h1;rw [<- accAt_get hi,accOf_at F.str.srt hi] at h1;rw [<- accAt_get hi];have h2:=money_true (accErr_ok (F.str.accOk hi)).2.2.2.1;unfold mB9;rw [hN,List.take_length];rw [show wrap64 ((accOf s.accs (accAt T i).1).2.1+wr (sumBalE free (accAt T i).1 T.evs))=wrap64 ((accOf s.accs (accAt T i).1).2.1+sumBalE free (accAt T i).1 T.evs) from wr_add2 _ _,<- h1]
 exact IntWalk.wrap64_in _ (by omega)
theorem fill_pos {s T:Tn}{free:Bool}(F:FlF s T free){b:Acc}(hb:b ∈ T.accs){N:Nat}(hN:N=T.evs.length)(k:Nat):wrap64 (posAt (accOf s.accs b.1) k+mP9 k T.evs N b.1)=posAt b k:=by
 obtain⟨i,hi,rfl⟩:=List.getElem_of_mem hb;have h1:=F.pos k (T.accs[i]).1;unfold posOf at h1;rw [<- accAt_get hi,accOf_at F.str.srt hi] at h1;rw [<- accAt_get hi]
 have h2:-1000<=posAt (accAt T i) k/\posAt (accAt T i) k<=1000:=by
  have:=(accErr_ok (F.str.accOk hi)).2.2.2.2;unfold posAt
  rw [List.getD_eq_getElem?_getD]
  cases hx:(accAt T i).2.2[k]? with
  |none=>simp
  |some x =>
   have:=List.all_eq_true.1 this x (List.mem_of_getElem? hx);have:=betw_true this
   simpa using this
 unfold mP9;rw [hN,List.take_length];rw [show wrap64 (posAt (accOf s.accs (accAt T i).1) k+wr (sumPosE k (accAt T i).1 T.evs))=wrap64 (posAt (accOf s.accs (accAt T i).1) k+sumPosE k (accAt T i).1 T.evs) from wr_add2 _ _,<- h1]
 exact IntWalk.wrap64_in _ (by omega)
theorem accOf_none {l:List Acc}{id:Int}(h:∀b,b ∈ l->¬ b.1=id):accOf l id=(id,0,[]):=by
 unfold accOf
 rw [List.find?_eq_none.2 (fun b hb=>by simpa using h b hb)]
 rfl
theorem IM.mono {w:World}{b n n':Nat}{f:Int->Int}(h:IM w b n f)(hn:n<=n'):IM w b n' f:=by
 obtain⟨D,h1,h2⟩:=h;exact⟨D,h1.mono hn,h2⟩
theorem OM.below {w w':World}{b bA bB:Nat}(h:OM w b bA bB)(hb:Below w.heap.size w w'):OM w' b bA bB:=h.but (F:=fun _=>False) (.of_below hb) (fun f=>f)
theorem grown_but {w w':World}{b:Nat}(h:w.grownBy w' (some b)):But (fun x=>x=b) w w':=(But.refl (fun x=>x=b) w).grown h (fun k hk=>.inl (by cases hk;rfl))
set_option maxHeartbeats 8000000 in
set_option maxRecDepth 100000 in
theorem law_fills (v:Value)(s:Tn)(c:Cm)(w:World)(h:VIn w v s)(hL:Rk.Laid w) :
  Calls Tryz.prog 6 #[v,cmV c] w fun e w'=>e=.returned (.bool true)/\Below w.heap.size w w':=by
 have hmm:=@run_makeMap Tryz.prog;obtain⟨p,n1,cc,p',n2,cc',hv⟩:=vnew_is h;subst hv;obtain⟨W,hW⟩:∃W,W=(w.alloc (.cells #[.slice p n1 cc,.slice p' n2 cc',.int .i64 s.ins,.int .i64 s.res,.int .i64 s.next,.int .i64 s.inn,.int .i64 s.out] 25)).alloc (cmO c):=⟨_,rfl⟩
 have b0:Below w.heap.size w W:=by rw [hW];exact((Below.refl _ w).alloc (Nat.le_refl _) _).alloc (by simp) _
 have E0:Hid (W.heap[w.heap.size]? = some (venO (.slice p n1 cc) (.slice p' n2 cc') s)):=by
  show W.heap[w.heap.size]? = _
  rw [hW];exact blk_below (heap_alloc_new w _) (Ac.below_alloc _ _)
 have E1:Hid (W.heap[w.heap.size+1]? = some (cmO c)):=by
  show W.heap[w.heap.size+1]? = _
  rw [hW]
  have hx:(w.alloc (.cells #[.slice p n1 cc,.slice p' n2 cc',.int .i64 s.ins,.int .i64 s.res,.int .i64 s.next,.int .i64 s.inn,.int .i64 s.out] 25)).heap.size=w.heap.size+1:=by simp
  have:=heap_alloc_new (w.alloc (.cells #[.slice p n1 cc,.slice p' n2 cc',.int .i64 s.ins,.int .i64 s.res,.int .i64 s.next,.int .i64 s.inn,.int .i64 s.out] 25)) (cmO c);rw [hx] at this;exact this
 have DO:=hide (venue_do _ s c W (h.below b0) (hL.next b0));have VI:=hide h;have LD:=hide hL;have HW:=hide hW;have BW:=hide b0;clear hW b0 h hL;obtain⟨a0,a1,a2,a3,a4,a5,a6⟩:=ven_cells E0.out;have d0:=bc E1.out 0;have d1:=bc E1.out 1;have d2:=bc E1.out 2;have d3:=bc E1.out 3;have d4:=bc E1.out 4;have d5:=bc E1.out 5;have d6:=bc E1.out 6;have d7:=bc E1.out 7;have d8:=bc E1.out 8;have d9:=bc E1.out 9;have d10:=bc E1.out 10
 simp only [List.getElem?_toArray,List.getElem?_cons_zero,List.getElem?_cons_succ] at d0 d1 d2 d3 d4 d5 d6 d7 d8 d9 d10
 go_enter Tryz.func6,Tryz.ntmps6
 go_wp2_with (rw [<- HW.out])
 refine DO.out.mono ?_
 rintro e X ⟨v',ev,rfl,hbX,hvX,heX⟩
 obtain⟨q,m1,dd,q',m2,dd',rfl⟩:=vnew_is hvX;obtain⟨X1,hX1⟩:∃X1,X1=X.alloc (.cells #[.slice q m1 dd,.slice q' m2 dd',.int .i64 (doR s c).1.ins,.int .i64 (doR s c).1.res,.int .i64 (doR s c).1.next,.int .i64 (doR s c).1.inn,.int .i64 (doR s c).1.out] 25):=⟨_,rfl⟩
 have hb1:Below X.heap.size X X1:=by rw [hX1];exact Ac.below_alloc _ _
 have BX1:=hide ((BW.out.trans (hbX.mono BW.out.size)).trans (hb1.mono (Nat.le_trans BW.out.size hbX.size)));have F0:=hide (blk_below (blk_below E0.out hbX) hb1);have FC:=hide (blk_below (blk_below E1.out hbX) hb1)
 have F1:Hid (X1.heap[X.heap.size]? = some (venO (.slice q m1 dd) (.slice q' m2 dd') (doR s c).1)):=by show X1.heap[X.heap.size]? = _;rw [hX1];exact heap_alloc_new X _
 have VX:=hide ((hvX.below hb1).mono (Nat.zero_le _));have EX:=hide ((heX.below hb1).mono (Nat.zero_le _));have OP:=hide (opened_any X1 (LD.out.next BX1.out));have HX1:=hide hX1
 obtain⟨pe,ce,rfl⟩:∃p c',ev=.slice p (doR s c).1.evs.length c':=by obtain⟨q,c',e,-⟩:=heX;exact⟨q,c',e⟩
 clear hX1 hb1 hvX heX hbX DO HW E0 E1 a0 a1 a2 a3 a4 a5 a6 d0 d1 d2 d3 d4 d5 d6 d7 d8 d9 d10
 by_cases hce:checkE s=0
 ·obtain⟨z1,z2,-⟩:=do_cases c hce
  obtain⟨free,hfree⟩:∃free,free = !(c.kind == 3):=⟨_,rfl⟩
  have DOK:Hid (rejectedL (doR s c).1.evs=false->FlF s (doR s c).1 free):=fun hr=>fill_facts hce hr (fun h=>by rw [hfree,h];rfl) (fun h=>by rw [hfree,h];rfl)
  have HFREE:=hide hfree;have STR:=hide (checkE_zero.1 hce).1;clear hfree;rw [z1];obtain⟨T,hT⟩:∃T,T=(doR s c).1:=⟨_,rfl⟩;rw [<- hT] at HX1 F1 VX EX z2 DOK ⊢;have LX:=hide (LD.out.next BX1.out);clear hT z1
  go_wp2_with (rw [<- HX1.out])
  refine OP.out.mono ?_
  rintro e Y ⟨rfl,hbY⟩
  have BY:=hide (BX1.out.trans (hbY.mono BX1.out.size));have LY:=hide (LX.out.next hbY);have Y0:=hide (blk_below F0.out hbY);have Y1:=hide (blk_below F1.out hbY);have YC:=hide (blk_below FC.out hbY);have VY:=hide (VX.out.below hbY);have EY:=hide (EX.out.below hbY);have VS:=hide (VI.out.below BY.out);have RJ:=hide (rejected_any _ _ Y EY.out);clear OP HX1 hbY F0 F1 FC VX EX VI BX1 LX
  go_wp2_with fail
  refine RJ.out.mono ?_
  rintro e Z' ⟨rfl,hZ'⟩
  rw [hZ'];clear hZ' RJ;cases hrj:rejectedL T.evs
  ·have F:=DOK.out hrj
   obtain⟨bM,hbM⟩:∃b,b=Y.heap.size:=⟨_,rfl⟩
   have om0:(((Y.alloc (.map #[] 0)).alloc (.map #[] 0)).alloc (.map #[] 0)).ownsMap Tryz.prog 3 RM (Y.heap.size+1) 0 (DataW.map []:DataW Unit):=by
    have:=(World.ownsMap_made (Y.alloc (.map #[] 0)) Tryz.prog 3 RM).alloc (.map #[] 0)
    rw [show (Y.alloc (.map #[] 0)).heap.size=Y.heap.size+1 by simp] at this
    exact this
   obtain⟨W4,e4,om1,g4⟩:=om_first (Y.heap.size+1+1) _ _ om0;obtain⟨W6,e6,om2,g6⟩:=om_second W4.heap.size (W4.alloc (.map #[] 0)) (Y.heap.size+1) (om1.alloc _)
   have s4:Y.heap.size+1+1+1<=W4.heap.size:=by have:=g4.size;simpa using this
   have bb4:=grown_but g4;have bb6:=grown_but g6
   have im1:IM W6 Y.heap.size 0 (fun _=>0):=by
    have h1:=((im_made Y).below (Ac.below_alloc _ (.map #[] 0))).below (Ac.below_alloc _ (.map #[] 0))
    have h2:=(h1.but bb4 (by omega)).below (Ac.below_alloc _ (.map #[] 0))
    exact h2.but bb6 (by omega)
   have im2:IM W6 (Y.heap.size+1+1) 0 (fun _=>0):=by
    have h1:=im_made ((Y.alloc (.map #[] 0)).alloc (.map #[] 0))
    rw [show ((Y.alloc (.map #[] 0)).alloc (.map #[] 0)).heap.size=Y.heap.size+1+1 by simp] at h1
    have h2:=(h1.but bb4 (by omega)).below (Ac.below_alloc _ (.map #[] 0))
    exact h2.but bb6 (by omega)
   have im3:IM W6 W4.heap.size 0 (fun _=>0):=(im_made W4).but bb6 (by omega)
   have bw6:Below Y.heap.size Y W6:=by
    have h1:Below Y.heap.size Y (((Y.alloc (.map #[] 0)).alloc (.map #[] 0)).alloc (.map #[] 0)):=(Ac.below_alloc2 Y _ _).alloc (by simp;omega) _
    have h2:=(bb4.below_of h1 (by omega)).alloc (by omega:Y.heap.size<=W4.heap.size) (.map #[] 0)
    exact bb6.below_of h2 (by omega)
   obtain⟨N,hN⟩:∃N,N=T.evs.length:=⟨_,rfl⟩;obtain⟨bB,hbB⟩:∃b,b=W4.heap.size:=⟨_,rfl⟩
   have I0:Hid (FI Y free T.evs Y.heap.size (Y.heap.size+1) (Y.heap.size+1+1) bB 0 W6):=by
    rw [hbB]
    exact⟨bw6,by rw [mB_zero];exact im1,om2,by rw [mP_zero];exact im2,by rw [mP_zero];exact im3⟩
   have HF:=hide F
   have HBB:Hid (Y.heap.size+1+1+1<=bB):=by rw [hbB];exact s4
   have hN1:N<=100000:=by rw [hN];exact F.len
   have HN:=hide hN;rw [<- hN];have HBE:=hide hbB;clear hbM om0 om1 om2 g4 g6 bb4 bb6 im1 im2 im3 bw6 s4 F hN DOK hbB
   go_wp2_with fail
   rw [<- HBE.out];clear e4 e6
   have EE:Hid (ERow Y pe T.evs):=by
    obtain⟨p9,c9,e9,-,-,hr9,-⟩:=EY.out;cases e9;exact hr9
   have d0:=bc YC.out 0
   simp only [List.getElem?_toArray,List.getElem?_cons_zero] at d0
   go_loopw [46] (fun i wr=>∃(k:Nat),k<=N/\i=.int .i64 k/\Hid (FI Y free T.evs Y.heap.size (Y.heap.size+1) (Y.heap.size+1+1) bB k wr)) (fun i _=>N - (intOf i).toNat)
   case atStart=>exact⟨0,Nat.zero_le _,rfl,I0⟩
   case round =>
    obtain⟨k,hk,rfl,J⟩:=hrel
    by_cases hlt:k<N
    ·have hltz:(k:Int)<(N:Int):=by omega
     have hkA:k<T.evs.length:=by rw [<- HN.out];exact hlt
     obtain⟨b,off,rfl,hc⟩:∃b off,pe=some ⟨b,off,none⟩/\∀j u,(flatE T.evs)[j]? = some u->wr.cell? ⟨b,off+j,none⟩=some u:=by
      rcases erow_below EE.out J.out.below with e | e
      ·rw [e] at hkA;simp at hkA
      ·exact e
     obtain⟨c0,c1,c2,c3,c4,c5,c6,c7,c8,c9,c10,c11,c12⟩:=erow_cells hc hkA;have EOK:=hide (HF.out.ok _ (List.getElem_mem hkA));have EWH:=hide (HF.out.who _ (List.getElem_mem hkA));have MQ:=hide (mB_quiet (free:=free) hkA);have MM:=hide (mB_moved (free:=free) hkA)
     have MF:=hide (fun h5 h3=>@mB_fill free T.evs k hkA h5 h3)
     have PQ:=hide (fun j=>mP_quiet (j:=j) hkA)
     have PF:=hide (fun j h3=>@mP_fill j T.evs k hkA h3)
     generalize T.evs[k]'hkA=ev at *;obtain⟨x1,x2,x3,x4,x5,x6,x7,x8,x9,x10,x11,x12,x13⟩:=ev;dsimp only at c0 c1 c2 c3 c4 c5 c6 c7 c8 c9 c10 c11 c12 EOK EWH MQ MM MF PQ PF;obtain⟨V,hV⟩:∃V,V=wr.alloc (.cells #[.int .i64 x1,.int .i64 x2,.int .i64 x3,.int .i64 x4,.int .i64 x5,.int .i64 x6,.int .i64 x7,.int .i64 x8,.int .i64 x9,.int .i64 x10,.int .i64 x11,.int .i64 x12,.int .i64 x13] 70):=⟨_,rfl⟩
     have hbV:Below wr.heap.size wr V:=by rw [hV];exact Ac.below_alloc _ _
     have VE:Hid (V.heap[wr.heap.size]? = some (.cells #[.int .i64 x1,.int .i64 x2,.int .i64 x3,.int .i64 x4,.int .i64 x5,.int .i64 x6,.int .i64 x7,.int .i64 x8,.int .i64 x9,.int .i64 x10,.int .i64 x11,.int .i64 x12,.int .i64 x13] 70)):=by show V.heap[wr.heap.size]? = _;rw [hV];exact heap_alloc_new _ _
     have JV:Hid (FI Y free T.evs Y.heap.size (Y.heap.size+1) (Y.heap.size+1+1) bB k V):=⟨J.out.below.trans (hbV.mono J.out.below.size),J.out.m.below hbV,J.out.o.below hbV,J.out.a.below hbV,J.out.b.below hbV⟩;have HV:=hide hV;have WS:Hid (bB<wr.heap.size):=J.out.b.lt;have v0:=bc VE.out 0;have v2:=bc VE.out 2;have v4:=bc VE.out 4;have v5:=bc VE.out 5
     simp only [List.getElem?_toArray,List.getElem?_cons_zero,List.getElem?_cons_succ] at v0 v2 v4 v5
     clear hc hV hbV;cases h5:(x1 == 5)
     ·have h5n:¬ x1=5:=by simpa using h5
      by_cases h36:x1=3\/x1=6
      ·obtain⟨hw1,hw2⟩:=EWH.out.2 h36
       obtain⟨hm0,hm1,hfee⟩:=EOK.out.2 h36;dsimp only at hw1 hw2 hm0 hm1 hfee
       have wfm:(Lit.int .i64 x9).wf=true:=wfI (by omega)
       have wft:(Lit.int .i64 x10).wf=true:=wfI (by omega)
       have hm2:s.mkts.length<=2:=STR.out.m2;have v8:=bc VE.out 8;have v9:=bc VE.out 9;have v10:=bc VE.out 10;have v11:=bc VE.out 11;have v12:=bc VE.out 12
       simp only [List.getElem?_toArray,List.getElem?_cons_zero,List.getElem?_cons_succ] at v8 v9 v10 v11 v12
       have FEE:∃fee R,fee=feeF free (x7,x8,x9,x10,x11,x12,x13)/\True:=⟨_,0,rfl,trivial⟩;obtain⟨fee,-,hfe,-⟩:=FEE
       have hk3:(c.kind == 3) = !free:=by rw [HFREE.out];simp
       have MF':=hide (MF.out h5n h36 rfl rfl rfl rfl rfl hfe)
       have PF':=hide (fun (j:Nat) (hj:x3=(j:Int))=>PF.out j ⟨h36,hj⟩ rfl rfl rfl rfl)
       have PQ':=hide (fun (j:Nat) (hj:¬ x3=(j:Int))=>PQ.out j (fun h=>hj h.2))
       have h3o:(x1 == 3)=true\/(x1 == 3)=false/\(x1 == 6)=true:=by
        rcases h36 with e | e
        ·exact .inl (by rw [e];rfl)
        ·exact .inr ⟨by rw [e];rfl,by rw [e];rfl⟩
       have hx3:x3=0\/x3=1:=by omega
       clear MQ MM MF PQ PF h5n h36 EOK EWH;obtain⟨n0,hn0⟩:∃n0,n0=wrap64 (x11 * x13):=⟨_,rfl⟩;obtain⟨n1,hn1⟩:∃n1,n1=wrap64 (n0 * x12):=⟨_,rfl⟩
       have MF2:Hid (upd (upd (mB9 free T.evs k) x10 (wrap64 (mB9 free T.evs k x10 - wrap64 (n1+fee)))) x9 (wrap64 (upd (mB9 free T.evs k) x10 (wrap64 (mB9 free T.evs k x10 - wrap64 (n1+fee))) x9+n1))=mB9 free T.evs (k+1)):=by rw [hn1,hn0];exact MF'.out
       have PF2:Hid (∀j:Nat,x3=(j:Int)->upd (upd (mP9 j T.evs k) x10 (wrap64 (mP9 j T.evs k x10+n0))) x9 (wrap64 (upd (mP9 j T.evs k) x10 (wrap64 (mP9 j T.evs k x10+n0)) x9 - n0))=mP9 j T.evs (k+1)):=by rw [hn0];exact PF'.out
       have hn0':=hn0.symm;have hn1':=hn1.symm;clear MF' PF' hn0 hn1;have FW:Hid (∀R,Below V.heap.size V R->∃R1 R2,(Instr.lookup 65 (.map (some Y.heap.size)) (.int .i64 x10) false).run Tryz.prog R=.ok (.int .i64 (mB9 free T.evs k x10)) R/\(Instr.mapUpdate 65 (.map (some Y.heap.size)) (.int .i64 x10) (.int .i64 (wrap64 (mB9 free T.evs k x10 - wrap64 (n1+fee))))).run Tryz.prog R=.ok () R1 /\
         (Instr.lookup 65 (.map (some Y.heap.size)) (.int .i64 x9) false).run Tryz.prog R1=.ok (.int .i64 (upd (mB9 free T.evs k) x10 (wrap64 (mB9 free T.evs k x10 - wrap64 (n1+fee))) x9)) R1/\(Instr.mapUpdate 65 (.map (some Y.heap.size)) (.int .i64 x9) (.int .i64 (wrap64 (upd (mB9 free T.evs k) x10 (wrap64 (mB9 free T.evs k x10 - wrap64 (n1+fee))) x9+n1)))).run Tryz.prog R1=.ok () R2 /\
         But (fun b=>b=Y.heap.size) R R1/\But (fun b=>b=Y.heap.size) R R2/\IM R2 Y.heap.size (2 * (k+1)) (mB9 free T.evs (k+1))):=fun R hR=>by
        have im:=JV.out.m.below hR;obtain⟨l1,-⟩:=im.look wft
        obtain⟨R1,p1,im1,g1⟩:=im.put (by unfold maxLen;omega) wft (wr_wf (mB9 free T.evs k x10 - wrap64 (n1+fee)))
        obtain⟨l2,-⟩:=im1.look wfm
        obtain⟨R2,p2,im2,g2⟩:=im1.put (by unfold maxLen;omega) wfm (wr_wf (upd (mB9 free T.evs k) x10 (wrap64 (mB9 free T.evs k x10 - wrap64 (n1+fee))) x9+n1))
        have b1:=grown_but g1
        have b2:=b1.trans (grown_but g2) (fun i hi=>.inl hi)
        refine⟨R1,R2,l1,p1,l2,p2,b1,b2,?_⟩
        have:=im2;rw [show upd (upd (mB9 free T.evs k) x10 (wrap64 (mB9 free T.evs k x10 - wrap64 (n1+fee)))) x9 (wrap64 (upd (mB9 free T.evs k) x10 (wrap64 (mB9 free T.evs k x10 - wrap64 (n1+fee))) x9+n1))=mB9 free T.evs (k+1) from MF2.out] at this
        exact this.mono (by omega)
       have GW:Hid (∀(j bJ:Nat) R,x3=(j:Int)->IM R bJ (2 * k) (mP9 j T.evs k)->∃R3 R4,(Instr.lookup 65 (.map (some bJ)) (.int .i64 x10) false).run Tryz.prog R=.ok (.int .i64 (mP9 j T.evs k x10)) R/\(Instr.mapUpdate 65 (.map (some bJ)) (.int .i64 x10) (.int .i64 (wrap64 (mP9 j T.evs k x10+n0)))).run Tryz.prog R=.ok () R3 /\
         (Instr.lookup 65 (.map (some bJ)) (.int .i64 x9) false).run Tryz.prog R3=.ok (.int .i64 (upd (mP9 j T.evs k) x10 (wrap64 (mP9 j T.evs k x10+n0)) x9)) R3/\(Instr.mapUpdate 65 (.map (some bJ)) (.int .i64 x9) (.int .i64 (wrap64 (upd (mP9 j T.evs k) x10 (wrap64 (mP9 j T.evs k x10+n0)) x9 - n0)))).run Tryz.prog R3=.ok () R4 /\
         But (fun b=>b=bJ) R R3/\But (fun b=>b=bJ) R R4/\IM R4 bJ (2 * (k+1)) (mP9 j T.evs (k+1))):=fun j bJ R hj im=>by
        obtain⟨l1,-⟩:=im.look wft
        obtain⟨R1,p1,im1,g1⟩:=im.put (by unfold maxLen;omega) wft (wr_wf (mP9 j T.evs k x10+n0))
        obtain⟨l2,-⟩:=im1.look wfm
        obtain⟨R2,p2,im2,g2⟩:=im1.put (by unfold maxLen;omega) wfm (wr_wf (upd (mP9 j T.evs k) x10 (wrap64 (mP9 j T.evs k x10+n0)) x9 - n0))
        have b1:=grown_but g1
        have b2:=b1.trans (grown_but g2) (fun i hi=>.inl hi)
        refine⟨R1,R2,l1,p1,l2,p2,b1,b2,?_⟩
        have:=im2;rw [show upd (upd (mP9 j T.evs k) x10 (wrap64 (mP9 j T.evs k x10+n0))) x9 (wrap64 (upd (mP9 j T.evs k) x10 (wrap64 (mP9 j T.evs k x10+n0)) x9 - n0))=mP9 j T.evs (k+1) from PF2.out j hj] at this
        exact this.mono (by omega)
       clear MF2 PF2 wft wfm;have vd:=(JV.out.below.cell (blt d0)).trans d0
       rcases (Bool.eq_false_or_eq_true free).symm with hfr | hfr
       ·have h3k:(c.kind == 3)=true:=by rw [hk3,hfr];rfl
        have hfe2:(feeR x13 x12).2=0:=hfee hfr
        have hfe1:fee=(feeR x13 x12).1:=by rw [hfe,hfr];rfl
        have FC:=fee_any x13 x12 V;rw [hfe2,<- hfe1] at FC;have FC:=hide FC;clear hk3 hfee hfe hfe1 hfe2;clear hfr
        rcases h3o with h3 | ⟨h3,h6⟩
        ·go_wp2_with (rw [<- HV.out])
         refine FC.out.mono ?_
         rintro e V' ⟨rfl,q9,hq9⟩
         have bdV:Below V.heap.size V V':=by rw [hq9];exact drewN_below (Below.refl _ _) _
         clear hq9;obtain⟨R1,R2,l1,p1,l2,p2,b1,b2,im2⟩:=FW.out V' bdV
         have R1E:=hide (blk_but (blk_below VE.out bdV) b1 (by have:=WS.out;have:=HBB.out;omega))
         have R2E:=hide (blk_but (blk_below VE.out bdV) b2 (by have:=WS.out;have:=HBB.out;omega))
         have RE:=hide (blk_below VE.out bdV)
         have o2:=(JV.out.o.below bdV).but b2 (by omega)
         have a2:=(JV.out.a.below bdV).but b2 (by omega)
         have bb2:=(JV.out.b.below bdV).but b2 (by have:=HBB.out;omega)
         have bl2:Below Y.heap.size Y R2:=b2.below_of (JV.out.below.trans (bdV.mono JV.out.below.size)) (Nat.le_refl _)
         rcases hx3 with e3 | e3
         ·obtain⟨R3,R4,l3,p3,l4,p4,b3,b4,im4⟩:=GW.out 0 (Y.heap.size+1+1) R2 e3 a2
          have ff:Hid (FI Y free T.evs Y.heap.size (Y.heap.size+1) (Y.heap.size+1+1) bB (k+1) R4):=by
           refine⟨b4.below_of bl2 (by omega),im2.but b4 (by omega),o2.but b4 (by omega),im4,?_⟩
           rw [PQ'.out 1 (by rw [e3];decide)]
           exact(bb2.but b4 (by have:=HBB.out;omega)).mono (by omega)
          have R3E:=hide (blk_but R2E.out b3 (by have:=WS.out;have:=HBB.out;omega))
          have lo2:=o2.look0
          have lo3:=(o2.but b3 (by have:=HBB.out;omega)).look0
          subst e3;have r8:=bc RE.out 8;have r9:=bc RE.out 9;have r10:=bc RE.out 10;have r11:=bc RE.out 11;have r12:=bc RE.out 12;have s8:=bc R1E.out 8;have s11:=bc R1E.out 11;have t2:=bc R2E.out 2;have t9:=bc R2E.out 9;have u2:=bc R3E.out 2;have u8:=bc R3E.out 8
          simp only [List.getElem?_toArray,List.getElem?_cons_zero,List.getElem?_cons_succ] at r8 r9 r10 r11 r12 s8 s11 t2 t9 u2 u8
          generalize upd (mB9 free T.evs k) x10 (wrap64 (mB9 free T.evs k x10 - wrap64 (n1+fee))) x9=f2 at l2 p2;generalize mB9 free T.evs k x10=f1 at l1 p1;generalize upd (mP9 0 T.evs k) x10 (wrap64 (mP9 0 T.evs k x10+n0)) x9=f4 at l4 p4;generalize mP9 0 T.evs k x10=f3 at l3 p3;clear FW GW PQ' R1E R2E R3E RE o2 a2 bb2 bl2 b1 b2 b3 b4 im2 im4 hm0 hm1 hw1 hw2
          go_wp2_with (rw [<- HV.out])
          go_roundw
          case rel=>exact⟨k+1,by omega,by go_num,ff⟩
          case measure=>simp [intOf];omega
         ·obtain⟨R3,R4,l3,p3,l4,p4,b3,b4,im4⟩:=GW.out 1 bB R2 e3 bb2
          have ff:Hid (FI Y free T.evs Y.heap.size (Y.heap.size+1) (Y.heap.size+1+1) bB (k+1) R4):=by
           refine⟨b4.below_of bl2 (by have:=HBB.out;omega),im2.but b4 (by have:=HBB.out;omega),o2.but b4 (by have:=HBB.out;omega),?_,im4⟩
           rw [PQ'.out 0 (by rw [e3];decide)]
           exact(a2.but b4 (by have:=HBB.out;omega)).mono (by omega)
          have R3E:=hide (blk_but R2E.out b3 (by have:=WS.out;have:=HBB.out;omega))
          have lo2:=o2.look1
          have lo3:=(o2.but b3 (by have:=HBB.out;omega)).look1
          subst e3;have r8:=bc RE.out 8;have r9:=bc RE.out 9;have r10:=bc RE.out 10;have r11:=bc RE.out 11;have r12:=bc RE.out 12;have s8:=bc R1E.out 8;have s11:=bc R1E.out 11;have t2:=bc R2E.out 2;have t9:=bc R2E.out 9;have u2:=bc R3E.out 2;have u8:=bc R3E.out 8
          simp only [List.getElem?_toArray,List.getElem?_cons_zero,List.getElem?_cons_succ] at r8 r9 r10 r11 r12 s8 s11 t2 t9 u2 u8
          generalize upd (mB9 free T.evs k) x10 (wrap64 (mB9 free T.evs k x10 - wrap64 (n1+fee))) x9=f2 at l2 p2;generalize mB9 free T.evs k x10=f1 at l1 p1;generalize upd (mP9 1 T.evs k) x10 (wrap64 (mP9 1 T.evs k x10+n0)) x9=f4 at l4 p4;generalize mP9 1 T.evs k x10=f3 at l3 p3;clear FW GW PQ' R1E R2E R3E RE o2 a2 bb2 bl2 b1 b2 b3 b4 im2 im4 hm0 hm1 hw1 hw2
          go_wp2_with (rw [<- HV.out])
          go_roundw
          case rel=>exact⟨k+1,by omega,by go_num,ff⟩
          case measure=>simp [intOf];omega
        ·go_wp2_with (rw [<- HV.out])
         refine FC.out.mono ?_
         rintro e V' ⟨rfl,q9,hq9⟩
         have bdV:Below V.heap.size V V':=by rw [hq9];exact drewN_below (Below.refl _ _) _
         clear hq9;obtain⟨R1,R2,l1,p1,l2,p2,b1,b2,im2⟩:=FW.out V' bdV
         have R1E:=hide (blk_but (blk_below VE.out bdV) b1 (by have:=WS.out;have:=HBB.out;omega))
         have R2E:=hide (blk_but (blk_below VE.out bdV) b2 (by have:=WS.out;have:=HBB.out;omega))
         have RE:=hide (blk_below VE.out bdV)
         have o2:=(JV.out.o.below bdV).but b2 (by omega)
         have a2:=(JV.out.a.below bdV).but b2 (by omega)
         have bb2:=(JV.out.b.below bdV).but b2 (by have:=HBB.out;omega)
         have bl2:Below Y.heap.size Y R2:=b2.below_of (JV.out.below.trans (bdV.mono JV.out.below.size)) (Nat.le_refl _)
         rcases hx3 with e3 | e3
         ·obtain⟨R3,R4,l3,p3,l4,p4,b3,b4,im4⟩:=GW.out 0 (Y.heap.size+1+1) R2 e3 a2
          have ff:Hid (FI Y free T.evs Y.heap.size (Y.heap.size+1) (Y.heap.size+1+1) bB (k+1) R4):=by
           refine⟨b4.below_of bl2 (by omega),im2.but b4 (by omega),o2.but b4 (by omega),im4,?_⟩
           rw [PQ'.out 1 (by rw [e3];decide)]
           exact(bb2.but b4 (by have:=HBB.out;omega)).mono (by omega)
          have R3E:=hide (blk_but R2E.out b3 (by have:=WS.out;have:=HBB.out;omega))
          have lo2:=o2.look0
          have lo3:=(o2.but b3 (by have:=HBB.out;omega)).look0
          subst e3;have r8:=bc RE.out 8;have r9:=bc RE.out 9;have r10:=bc RE.out 10;have r11:=bc RE.out 11;have r12:=bc RE.out 12;have s8:=bc R1E.out 8;have s11:=bc R1E.out 11;have t2:=bc R2E.out 2;have t9:=bc R2E.out 9;have u2:=bc R3E.out 2;have u8:=bc R3E.out 8
          simp only [List.getElem?_toArray,List.getElem?_cons_zero,List.getElem?_cons_succ] at r8 r9 r10 r11 r12 s8 s11 t2 t9 u2 u8
          generalize upd (mB9 free T.evs k) x10 (wrap64 (mB9 free T.evs k x10 - wrap64 (n1+fee))) x9=f2 at l2 p2;generalize mB9 free T.evs k x10=f1 at l1 p1;generalize upd (mP9 0 T.evs k) x10 (wrap64 (mP9 0 T.evs k x10+n0)) x9=f4 at l4 p4;generalize mP9 0 T.evs k x10=f3 at l3 p3;clear FW GW PQ' R1E R2E R3E RE o2 a2 bb2 bl2 b1 b2 b3 b4 im2 im4 hm0 hm1 hw1 hw2
          go_wp2_with (rw [<- HV.out])
          go_roundw
          case rel=>exact⟨k+1,by omega,by go_num,ff⟩
          case measure=>simp [intOf];omega
         ·obtain⟨R3,R4,l3,p3,l4,p4,b3,b4,im4⟩:=GW.out 1 bB R2 e3 bb2
          have ff:Hid (FI Y free T.evs Y.heap.size (Y.heap.size+1) (Y.heap.size+1+1) bB (k+1) R4):=by
           refine⟨b4.below_of bl2 (by have:=HBB.out;omega),im2.but b4 (by have:=HBB.out;omega),o2.but b4 (by have:=HBB.out;omega),?_,im4⟩
           rw [PQ'.out 0 (by rw [e3];decide)]
           exact(a2.but b4 (by have:=HBB.out;omega)).mono (by omega)
          have R3E:=hide (blk_but R2E.out b3 (by have:=WS.out;have:=HBB.out;omega))
          have lo2:=o2.look1
          have lo3:=(o2.but b3 (by have:=HBB.out;omega)).look1
          subst e3;have r8:=bc RE.out 8;have r9:=bc RE.out 9;have r10:=bc RE.out 10;have r11:=bc RE.out 11;have r12:=bc RE.out 12;have s8:=bc R1E.out 8;have s11:=bc R1E.out 11;have t2:=bc R2E.out 2;have t9:=bc R2E.out 9;have u2:=bc R3E.out 2;have u8:=bc R3E.out 8
          simp only [List.getElem?_toArray,List.getElem?_cons_zero,List.getElem?_cons_succ] at r8 r9 r10 r11 r12 s8 s11 t2 t9 u2 u8
          generalize upd (mB9 free T.evs k) x10 (wrap64 (mB9 free T.evs k x10 - wrap64 (n1+fee))) x9=f2 at l2 p2;generalize mB9 free T.evs k x10=f1 at l1 p1;generalize upd (mP9 1 T.evs k) x10 (wrap64 (mP9 1 T.evs k x10+n0)) x9=f4 at l4 p4;generalize mP9 1 T.evs k x10=f3 at l3 p3;clear FW GW PQ' R1E R2E R3E RE o2 a2 bb2 bl2 b1 b2 b3 b4 im2 im4 hm0 hm1 hw1 hw2
          go_wp2_with (rw [<- HV.out])
          go_roundw
          case rel=>exact⟨k+1,by omega,by go_num,ff⟩
          case measure=>simp [intOf];omega
       ·have h3k:(c.kind == 3)=false:=by rw [hk3,hfr];rfl
        have hfe1:fee=0:=by rw [hfe,hfr];rfl
        clear hk3 hfee hfe;clear hfr;have HF1:=hide hfe1;clear hfe1;have bdV:Below V.heap.size V V:=Below.refl _ _
        rcases h3o with h3 | ⟨h3,h6⟩
        ·obtain⟨R1,R2,l1,p1,l2,p2,b1,b2,im2⟩:=FW.out V bdV
         have R1E:=hide (blk_but (blk_below VE.out bdV) b1 (by have:=WS.out;have:=HBB.out;omega))
         have R2E:=hide (blk_but (blk_below VE.out bdV) b2 (by have:=WS.out;have:=HBB.out;omega))
         have RE:=hide (blk_below VE.out bdV)
         have o2:=(JV.out.o.below bdV).but b2 (by omega)
         have a2:=(JV.out.a.below bdV).but b2 (by omega)
         have bb2:=(JV.out.b.below bdV).but b2 (by have:=HBB.out;omega)
         have bl2:Below Y.heap.size Y R2:=b2.below_of (JV.out.below.trans (bdV.mono JV.out.below.size)) (Nat.le_refl _)
         rcases hx3 with e3 | e3
         ·obtain⟨R3,R4,l3,p3,l4,p4,b3,b4,im4⟩:=GW.out 0 (Y.heap.size+1+1) R2 e3 a2
          have ff:Hid (FI Y free T.evs Y.heap.size (Y.heap.size+1) (Y.heap.size+1+1) bB (k+1) R4):=by
           refine⟨b4.below_of bl2 (by omega),im2.but b4 (by omega),o2.but b4 (by omega),im4,?_⟩
           rw [PQ'.out 1 (by rw [e3];decide)]
           exact(bb2.but b4 (by have:=HBB.out;omega)).mono (by omega)
          have R3E:=hide (blk_but R2E.out b3 (by have:=WS.out;have:=HBB.out;omega))
          have lo2:=o2.look0
          have lo3:=(o2.but b3 (by have:=HBB.out;omega)).look0
          subst e3;have r8:=bc RE.out 8;have r9:=bc RE.out 9;have r10:=bc RE.out 10;have r11:=bc RE.out 11;have r12:=bc RE.out 12;have s8:=bc R1E.out 8;have s11:=bc R1E.out 11;have t2:=bc R2E.out 2;have t9:=bc R2E.out 9;have u2:=bc R3E.out 2;have u8:=bc R3E.out 8
          simp only [List.getElem?_toArray,List.getElem?_cons_zero,List.getElem?_cons_succ] at r8 r9 r10 r11 r12 s8 s11 t2 t9 u2 u8
          rw [HF1.out] at p1 l2 p2;simp only [Int.add_zero] at p1 l2 p2;generalize upd (mB9 free T.evs k) x10 (wrap64 (mB9 free T.evs k x10 - wrap64 n1)) x9=f2 at l2 p2;generalize mB9 free T.evs k x10=f1 at l1 p1;generalize upd (mP9 0 T.evs k) x10 (wrap64 (mP9 0 T.evs k x10+n0)) x9=f4 at l4 p4;generalize mP9 0 T.evs k x10=f3 at l3 p3;clear FW GW PQ' R1E R2E R3E RE o2 a2 bb2 bl2 b1 b2 b3 b4 im2 im4 hm0 hm1 hw1 hw2
          go_wp2_with (rw [<- HV.out])
          go_roundw
          case rel=>exact⟨k+1,by omega,by go_num,ff⟩
          case measure=>simp [intOf];omega
         ·obtain⟨R3,R4,l3,p3,l4,p4,b3,b4,im4⟩:=GW.out 1 bB R2 e3 bb2
          have ff:Hid (FI Y free T.evs Y.heap.size (Y.heap.size+1) (Y.heap.size+1+1) bB (k+1) R4):=by
           refine⟨b4.below_of bl2 (by have:=HBB.out;omega),im2.but b4 (by have:=HBB.out;omega),o2.but b4 (by have:=HBB.out;omega),?_,im4⟩
           rw [PQ'.out 0 (by rw [e3];decide)]
           exact(a2.but b4 (by have:=HBB.out;omega)).mono (by omega)
          have R3E:=hide (blk_but R2E.out b3 (by have:=WS.out;have:=HBB.out;omega))
          have lo2:=o2.look1
          have lo3:=(o2.but b3 (by have:=HBB.out;omega)).look1
          subst e3;have r8:=bc RE.out 8;have r9:=bc RE.out 9;have r10:=bc RE.out 10;have r11:=bc RE.out 11;have r12:=bc RE.out 12;have s8:=bc R1E.out 8;have s11:=bc R1E.out 11;have t2:=bc R2E.out 2;have t9:=bc R2E.out 9;have u2:=bc R3E.out 2;have u8:=bc R3E.out 8
          simp only [List.getElem?_toArray,List.getElem?_cons_zero,List.getElem?_cons_succ] at r8 r9 r10 r11 r12 s8 s11 t2 t9 u2 u8
          rw [HF1.out] at p1 l2 p2;simp only [Int.add_zero] at p1 l2 p2;generalize upd (mB9 free T.evs k) x10 (wrap64 (mB9 free T.evs k x10 - wrap64 n1)) x9=f2 at l2 p2;generalize mB9 free T.evs k x10=f1 at l1 p1;generalize upd (mP9 1 T.evs k) x10 (wrap64 (mP9 1 T.evs k x10+n0)) x9=f4 at l4 p4;generalize mP9 1 T.evs k x10=f3 at l3 p3;clear FW GW PQ' R1E R2E R3E RE o2 a2 bb2 bl2 b1 b2 b3 b4 im2 im4 hm0 hm1 hw1 hw2
          go_wp2_with (rw [<- HV.out])
          go_roundw
          case rel=>exact⟨k+1,by omega,by go_num,ff⟩
          case measure=>simp [intOf];omega
        ·obtain⟨R1,R2,l1,p1,l2,p2,b1,b2,im2⟩:=FW.out V bdV
         have R1E:=hide (blk_but (blk_below VE.out bdV) b1 (by have:=WS.out;have:=HBB.out;omega))
         have R2E:=hide (blk_but (blk_below VE.out bdV) b2 (by have:=WS.out;have:=HBB.out;omega))
         have RE:=hide (blk_below VE.out bdV)
         have o2:=(JV.out.o.below bdV).but b2 (by omega)
         have a2:=(JV.out.a.below bdV).but b2 (by omega)
         have bb2:=(JV.out.b.below bdV).but b2 (by have:=HBB.out;omega)
         have bl2:Below Y.heap.size Y R2:=b2.below_of (JV.out.below.trans (bdV.mono JV.out.below.size)) (Nat.le_refl _)
         rcases hx3 with e3 | e3
         ·obtain⟨R3,R4,l3,p3,l4,p4,b3,b4,im4⟩:=GW.out 0 (Y.heap.size+1+1) R2 e3 a2
          have ff:Hid (FI Y free T.evs Y.heap.size (Y.heap.size+1) (Y.heap.size+1+1) bB (k+1) R4):=by
           refine⟨b4.below_of bl2 (by omega),im2.but b4 (by omega),o2.but b4 (by omega),im4,?_⟩
           rw [PQ'.out 1 (by rw [e3];decide)]
           exact(bb2.but b4 (by have:=HBB.out;omega)).mono (by omega)
          have R3E:=hide (blk_but R2E.out b3 (by have:=WS.out;have:=HBB.out;omega))
          have lo2:=o2.look0
          have lo3:=(o2.but b3 (by have:=HBB.out;omega)).look0
          subst e3;have r8:=bc RE.out 8;have r9:=bc RE.out 9;have r10:=bc RE.out 10;have r11:=bc RE.out 11;have r12:=bc RE.out 12;have s8:=bc R1E.out 8;have s11:=bc R1E.out 11;have t2:=bc R2E.out 2;have t9:=bc R2E.out 9;have u2:=bc R3E.out 2;have u8:=bc R3E.out 8
          simp only [List.getElem?_toArray,List.getElem?_cons_zero,List.getElem?_cons_succ] at r8 r9 r10 r11 r12 s8 s11 t2 t9 u2 u8
          rw [HF1.out] at p1 l2 p2;simp only [Int.add_zero] at p1 l2 p2;generalize upd (mB9 free T.evs k) x10 (wrap64 (mB9 free T.evs k x10 - wrap64 n1)) x9=f2 at l2 p2;generalize mB9 free T.evs k x10=f1 at l1 p1;generalize upd (mP9 0 T.evs k) x10 (wrap64 (mP9 0 T.evs k x10+n0)) x9=f4 at l4 p4;generalize mP9 0 T.evs k x10=f3 at l3 p3;clear FW GW PQ' R1E R2E R3E RE o2 a2 bb2 bl2 b1 b2 b3 b4 im2 im4 hm0 hm1 hw1 hw2
          go_wp2_with (rw [<- HV.out])
          go_roundw
          case rel=>exact⟨k+1,by omega,by go_num,ff⟩
          case measure=>simp [intOf];omega
         ·obtain⟨R3,R4,l3,p3,l4,p4,b3,b4,im4⟩:=GW.out 1 bB R2 e3 bb2
          have ff:Hid (FI Y free T.evs Y.heap.size (Y.heap.size+1) (Y.heap.size+1+1) bB (k+1) R4):=by
           refine⟨b4.below_of bl2 (by have:=HBB.out;omega),im2.but b4 (by have:=HBB.out;omega),o2.but b4 (by have:=HBB.out;omega),?_,im4⟩
           rw [PQ'.out 0 (by rw [e3];decide)]
           exact(a2.but b4 (by have:=HBB.out;omega)).mono (by omega)
          have R3E:=hide (blk_but R2E.out b3 (by have:=WS.out;have:=HBB.out;omega))
          have lo2:=o2.look1
          have lo3:=(o2.but b3 (by have:=HBB.out;omega)).look1
          subst e3;have r8:=bc RE.out 8;have r9:=bc RE.out 9;have r10:=bc RE.out 10;have r11:=bc RE.out 11;have r12:=bc RE.out 12;have s8:=bc R1E.out 8;have s11:=bc R1E.out 11;have t2:=bc R2E.out 2;have t9:=bc R2E.out 9;have u2:=bc R3E.out 2;have u8:=bc R3E.out 8
          simp only [List.getElem?_toArray,List.getElem?_cons_zero,List.getElem?_cons_succ] at r8 r9 r10 r11 r12 s8 s11 t2 t9 u2 u8
          rw [HF1.out] at p1 l2 p2;simp only [Int.add_zero] at p1 l2 p2;generalize upd (mB9 free T.evs k) x10 (wrap64 (mB9 free T.evs k x10 - wrap64 n1)) x9=f2 at l2 p2;generalize mB9 free T.evs k x10=f1 at l1 p1;generalize upd (mP9 1 T.evs k) x10 (wrap64 (mP9 1 T.evs k x10+n0)) x9=f4 at l4 p4;generalize mP9 1 T.evs k x10=f3 at l3 p3;clear FW GW PQ' R1E R2E R3E RE o2 a2 bb2 bl2 b1 b2 b3 b4 im2 im4 hm0 hm1 hw1 hw2
          go_wp2_with (rw [<- HV.out])
          go_roundw
          case rel=>exact⟨k+1,by omega,by go_num,ff⟩
          case measure=>simp [intOf];omega
      ·have q0:=PQ.out 0 (fun h=>h36 h.1)
       have q1:=PQ.out 1 (fun h=>h36 h.1)
       have qm:=MQ.out h5n h36
       have h3:(x1 == 3)=false:=by simpa using fun h=>h36 (.inl h)
       have h6:(x1 == 6)=false:=by simpa using fun h=>h36 (.inr h)
       have ff:Hid (FI Y free T.evs Y.heap.size (Y.heap.size+1) (Y.heap.size+1+1) bB (k+1) V):=by
        refine⟨JV.out.below,?_,JV.out.o,?_,?_⟩
        ·rw [qm];exact JV.out.m.mono (by omega)
        ·rw [q0];exact JV.out.a.mono (by omega)
        ·rw [q1];exact JV.out.b.mono (by omega)
       clear h5n h36 q0 q1 qm MQ MM MF PQ PF
       go_wp2_with (rw [<- HV.out])
       go_roundw
       case rel=>exact⟨k+1,by omega,by go_num,ff⟩
       case measure=>simp [intOf];omega
     ·have h5':x1=5:=by simpa using h5
      have hw:=EWH.out.1 h5'
      have wfx:(Lit.int .i64 x5).wf=true:=wfI (by have:=hw.1;have:=hw.2;dsimp only at *;omega)
      obtain⟨lk,-⟩:=JV.out.m.look wfx
      obtain⟨V1,pt,im1,g1⟩:=JV.out.m.put (by unfold maxLen;omega) wfx (wr_wf (mB9 free T.evs k x5+x6))
      rw [MM.out h5'] at im1
      have ff:Hid (FI Y free T.evs Y.heap.size (Y.heap.size+1) (Y.heap.size+1+1) bB (k+1) V1):=by
       have bb:=grown_but g1
       have q0:=PQ.out 0 (by rw [h5'];rintro ⟨h | h,-⟩<;>cases h)
       have q1:=PQ.out 1 (by rw [h5'];rintro ⟨h | h,-⟩<;>cases h)
       refine⟨bb.below_of JV.out.below (Nat.le_refl _),im1.mono (by omega),JV.out.o.but bb (by omega),?_,?_⟩
       ·rw [q0]
        exact(JV.out.a.but bb (by omega)).mono (by omega)
       ·rw [q1]
        exact(JV.out.b.but bb (by have:=HBB.out;omega)).mono (by omega)
      clear h5' MQ MM MF PQ PF im1 g1;generalize mB9 free T.evs k x5=f0 at lk pt
      go_wp2_with (rw [<- HV.out])
      go_roundw
      case rel=>exact⟨k+1,by omega,by go_num,ff⟩
      case measure=>simp [intOf];omega
    ·obtain rfl:k=N:=by omega
     obtain⟨Z0,hZ0⟩:∃Z0,Z0=wr:=⟨_,rfl⟩;rw [<- hZ0] at J ⊢;clear hZ0;obtain⟨q9,q9',g9,g9',A,M,e,-,-,vr,-⟩:=VS.out;simp only [Value.agg.injEq,Array.mk.injEq,List.cons.injEq,Value.slice.injEq,and_true] at e;obtain⟨⟨rfl,rfl,rfl⟩,⟨rfl,rfl,rfl⟩⟩:=e;obtain⟨r9,r9',f9,f9',A',M',e,-,-,vr',-⟩:=VY.out;simp only [Value.agg.injEq,Array.mk.injEq,List.cons.injEq,Value.slice.injEq,and_true] at e;obtain⟨⟨rfl,rfl,rfl⟩,⟨rfl,rfl,rfl⟩⟩:=e;obtain⟨m,hm⟩:∃m,m=A'.length:=⟨_,rfl⟩
     have hm8:m<=8:=by have:=HF.out.str.few;have:=(few_vin vr').1;omega
     have hN:∀a,a ∈ A->a.n=s.mkts.length:=fun a ha=>by
      have h1:a.acc ∈ s.accs:=by rw [<- vr.accs];exact List.mem_map_of_mem ha
      have h2:=acc_len (STR.out.acc _ h1);have h3:=(vr.eachA a ha).len;exact h3.symm.trans (Int.ofNat_inj.1 h2)
     have hN':∀a,a ∈ A'->a.n=s.mkts.length:=fun a ha=>by
      have h1:a.acc ∈ T.accs:=by rw [<- vr'.accs];exact List.mem_map_of_mem ha
      have h2:=acc_len (HF.out.str.acc _ h1);have h3:=(vr'.eachA a ha).len;exact(h3.symm.trans (Int.ofNat_inj.1 h2)).trans HF.out.ml
     have hk2:s.mkts.length<=2:=STR.out.m2;obtain⟨ml,hml⟩:∃ml,ml=s.mkts.length:=⟨_,rfl⟩;rw [<- hml] at hN hN' hk2
     have IX:Hid (∀W,Below Y.heap.size Y W->∀id B,W.cell? ⟨B,0,none⟩=some (.int .i64 id)->Calls Tryz.prog 16 #[.slice p A.length cc,.func (.func 31) #[] #[.pointer (some ⟨B,0,none⟩)]] W fun e w'=>e=.returned (.int .i64 (idxP (fun b:Am=>b.id == id) A 0))/\Below W.heap.size W w'):=fun W hW id B kB =>
      fills_idx p cc A (fun b=>b.id == id) B W vr.na (arow_below vr.rowA hW) (fun W' hW' k hk=>fills1_any _ id B W' ((hW'.cell (blt kB)).trans kB))
     have MK:∀W:World,(Instr.makeSlice 38 (.int .i64 (ml:Nat)) (.int .i64 (ml:Nat))).run Tryz.prog W=.ok (.slice (some ⟨W.heap.size,0,none⟩) ml ml) (W.alloc (.cells (zInts ml) 3)):=fun W=>make_ints ml (by omega) W
     have HA:=hide vr.rowA;have HA':=hide vr'.rowA;have HM:=hide hm;rw [<- hm] at Y1;obtain⟨b0,b1,b2,b3,b4,b5,b6⟩:=ven_cells Y1.out;obtain⟨a0,a1,a2,a3,a4,a5,a6⟩:=ven_cells Y0.out;have HNA:=hide hN;have HNA':=hide hN';have VR:=hide vr;have VR':=hide vr';have z0:=(J.out.below.cell (blt b0)).trans b0;clear hN hN' hml vr vr' hm VS VY EY Y1 Y0 I0 EE hlt
     go_wp2_with fail
     go_loopw [143] (fun i wr=>∃(j:Nat),j<=m/\i=.int .i64 j/\Hid (FI Y free T.evs Y.heap.size (Y.heap.size+1) (Y.heap.size+1+1) bB k wr)) (fun i _=>m - (intOf i).toNat)
     case atStart=>exact⟨0,Nat.zero_le _,rfl,J⟩
     case round =>
      obtain⟨j,hj,rfl,J⟩:=hrel
      by_cases hjlt:j<m
      ·have hltz:(j:Int)<(m:Int):=by omega
       have hkA:j<A'.length:=by rw [<- HM.out];exact hjlt
       obtain⟨b,off,rfl,hc⟩:∃b off,q=some ⟨b,off,none⟩/\∀j u,(A'.flatMap encA)[j]? = some u->wr.cell? ⟨b,off+j,none⟩=some u:=by
        rcases arow_below HA'.out J.out.below with e | e
        ·rw [e] at hkA;simp at hkA
        ·exact e
       obtain⟨c0,c1,c2⟩:=arow_cells hc hkA;have hzn:(A'[j]'hkA).n=ml:=HNA'.out _ (List.getElem_mem hkA);rw [hzn] at c2;have AM:=hide (List.getElem_mem hkA);generalize A'[j]'hkA=a at *;clear hc;obtain⟨z1,z2,z3,z4,z5,zp⟩:=a;dsimp only at c0 c1 c2 hzn;subst hzn
       have hav:((z1,z2,zp):Acc) ∈ T.accs:=by rw [<- VR'.out.accs];exact List.mem_map.2 ⟨_,AM.out,rfl⟩
       have zao:=hide (VR'.out.eachA _ AM.out);have hw8:w8 z1:=HF.out.str.ids _ hav
       have wfz:(Lit.int .i64 z1).wf=true:=wfI (by have:=hw8.1;have:=hw8.2;omega)
       obtain⟨wa,hwa⟩:∃wa,wa=accOf s.accs z1:=⟨_,rfl⟩
       have FB:Hid (wrap64 (wa.2.1+mB9 free T.evs k z1)=z2):=by rw [hwa];exact fill_bal HF.out hav HN.out
       have FP:Hid (∀i,wrap64 (posAt wa i+mP9 i T.evs k z1)=zp.getD i 0):=fun i=>by rw [hwa];exact fill_pos HF.out hav HN.out i
       have W0:Hid ((∀b,b ∈ A->(b.id == z1)=false)->wa.2.1=0/\∀i,posAt wa i=0):=fun h=>by
        rw [hwa,accOf_none (fun b hb=>by
         rw [<- VR.out.accs] at hb;obtain⟨b',hb',rfl⟩:=List.mem_map.1 hb;have:=h b' hb'
         show ¬ b'.id=z1
         simpa using this)]
        exact⟨rfl,fun i=>by simp [posAt]⟩
       have W1:Hid (∀i (hi:i<A.length),((A[i]'hi).id == z1)=true->wa.2.1=(A[i]'hi).bal/\∀l,posAt wa l=(A[i]'hi).pos.getD l 0):=fun i hi h=>by
        have hil:i<s.accs.length:=by have:=(few_vin VR.out).1;omega
        have hac:(A[i]'hi).acc=accAt s i:=by
         unfold accAt
         rw [<- VR.out.accs,List.getD_eq_getElem?_getD,List.getElem?_map,List.getElem?_eq_getElem hi]
         rfl
        have hid:(A[i]'hi).id=z1:=by simpa using h
        have h2:=accOf_at STR.out.srt hil;rw [<- hac] at h2;have h3:accOf s.accs (A[i]'hi).id=(A[i]'hi).acc:=h2;rw [hid] at h3;rw [hwa,h3]
        exact⟨rfl,fun l=>rfl⟩
       clear hwa hav hw8;obtain⟨S,hS⟩:∃S,S=wr.alloc (.cells #[.int .i64 z1,.int .i64 z2,.slice z3 z4 z5] 40):=⟨_,rfl⟩
       have hbS:Below wr.heap.size wr S:=by rw [hS];exact Ac.below_alloc _ _
       have hnS:S.heap[wr.heap.size]? = some (.cells #[.int .i64 z1,.int .i64 z2,.slice z3 z4 z5] 40):=by rw [hS];exact heap_alloc_new _ _
       have k0:=bc hnS 0;have k1:=bc hnS 1;have k2:=bc hnS 2
       simp only [List.getElem?_toArray,List.getElem?_cons_zero,List.getElem?_cons_succ] at k0 k1 k2
       have JS:=hide (J.out.next hbS);have WS:Hid (bB<wr.heap.size):=J.out.b.lt;have HS:=hide hS;clear hS hbS hnS
       have x0:∀Y,Below S.heap.size S Y->Y.cell? ⟨wr.heap.size,0,none⟩=some (.int .i64 z1):=fun Y hY=>(hY.cell (blt k0)).trans k0
       have x2:∀Y,Below S.heap.size S Y->Y.cell? ⟨wr.heap.size,2,none⟩=some (.slice z3 z4 z5):=fun Y hY=>(hY.cell (blt k2)).trans k2
       have XD:Hid (Below S.heap.size S S.drew):=(Below.refl _ S).drew;have sx:S.heap.size<=S.heap.size+1:=Nat.le_succ _
       go_wp2_with (rw [<- HS.out])
       go_region_held3 (fun w'=>Below S.heap.size S w') (first | (with_reducible assumption) | (with_reducible exact XD.out) | (repeat (first | (with_reducible assumption) | (with_reducible exact XD.out) | (with_reducible exact Below.refl _ _) | (with_reducible refine Below.drew ?_) | (with_reducible refine Below.alloc ?_ ?_ _) | (with_reducible refine Below.setCell ?_ ?_ _) | (exact Below.size (by with_reducible assumption)) | (exact Nat.le_refl _) | (exact sx) | (with_reducible refine(?_:Below S.heap.size S _).size) | (simp;done)))) (fail)
       ·obtain⟨Z,hZ⟩:∃Z,Z=((S.alloc (.cells (zInts z4) 3)).alloc (.cells #[.int .i64 z1,.int .i64 0,.slice (some ⟨S.heap.size,0,none⟩) z4 z4] 40)).drew:=⟨_,rfl⟩
        rw [<- hZ]
        have hg:Z.heap[S.heap.size]? = some (.cells (zInts z4) 3):=by rw [hZ];exact(two_blk S _ _).1
        have hbo:Z.heap[S.heap.size+1]? = some (.cells #[.int .i64 z1,.int .i64 0,.slice (some ⟨S.heap.size,0,none⟩) z4 z4] 40):=by rw [hZ];exact(two_blk S _ _).2
        have hbZ:Below S.heap.size S Z:=by rw [hZ];exact(Ac.below_alloc2 S _ _).drew
        clear hZ;have JZ:=hide (JS.out.next hbZ);have kz0:=(hbZ.cell (blt k0)).trans k0;have kz1:=(hbZ.cell (blt k1)).trans k1;have kz2:=(hbZ.cell (blt k2)).trans k2;have ab0:=(JZ.out.below.cell (blt a0)).trans a0;have IZ:=hide (IX.out Z JZ.out.below z1 _ kz0)
        have NE:¬ wr.heap.size=(S.heap.size+1):=by have:=(blt k0);dsimp only at this;omega
        have HBO:=hide hbo;have HG:=hide hg
        have HWS:Hid (wr.heap.size<(S.heap.size+1)):=by have:=(blt k0);dsimp only at this;show wr.heap.size<(S.heap.size+1);omega
        clear hbo hg hbZ HS k0 k1 k2 x0 x2 XD sx c0 c1 c2 JS;generalize S.heap.size+1=bo at *;generalize S.heap.size=g at *
        go_wp2_with fail
        refine IZ.out.mono ?_
        rintro e P ⟨rfl,hbP⟩
        have JP:=hide (JZ.out.next hbP);have kp0:=(hbP.cell (blt kz0)).trans kz0;have kp1:=(hbP.cell (blt kz1)).trans kz1;have kp2:=(hbP.cell (blt kz2)).trans kz2;have ap0:=(hbP.cell (blt ab0)).trans ab0;have PBO:=hide (blk_below HBO.out hbP);have PG:=hide (blk_below HG.out hbP);clear IZ hbP kz0 kz1 kz2 ab0 HBO HG JZ
        rcases idxP_ways (fun b:Am=>b.id == z1) A 0 with⟨i1,i2⟩ | ⟨l,hl,i1,i2,-⟩
        ·rw [i1]
         obtain⟨wz1,wz2⟩:=W0.out i2
         have q1:P.cell? ⟨bo,1,none⟩=some (.int .i64 wa.2.1):=by rw [wz1];exact bc PBO.out 1
         have q2:P.cell? ⟨bo,2,none⟩=some (.slice (some ⟨g,0,none⟩) z4 z4):=bc PBO.out 2
         have RW:Hid (∀i,i<z4->∃b o,(some (⟨g,0,none⟩:Addr))=some ⟨b,o,none⟩/\P.cell? ⟨b,o+i,none⟩=some (.int .i64 (posAt wa i))):=fun i hi=>by
          refine⟨g,0,rfl,?_⟩
          rw [wz2 i]
          rcases zRow PG.out with e | ⟨b,o,e,hcc⟩
          ·have:=congrArg List.length e
           simp at this
           omega
          ·cases e
           rw [hcc i (by simpa using hi)]
           simp [hi]
         clear wz1 wz2 i1 i2 W0 W1 PBO PG;have FOLD:=hide (rfl:P=P);obtain⟨lkM,-⟩:=JP.out.m.look wfz;have hcmp:wrap64 (wa.2.1+mB9 free T.evs k z1)=z2:=FB.out;generalize mB9 free T.evs k z1=fM at lkM hcmp;generalize wa.2.1=wb at *
         go_wp2_with (fail)
         obtain⟨wo,hwo⟩:∃wo,wo=wr:=⟨_,rfl⟩;subst hwo
         go_loopw [178] (fun i wr=>∃(i9:Nat),i9<=z4/\i=.int .i64 i9/\Hid (Below P.heap.size P wr)) (fun i _=>z4 - (intOf i).toNat)
         case atStart=>exact⟨0,Nat.zero_le _,rfl,Below.refl _ _⟩
         case round =>
          obtain⟨i9,hi9,rfl,B9⟩:=hrel
          by_cases hilt:i9<z4
          ·have hiz:(i9:Int)<(z4:Int):=by omega
           have hlz:zp.length=z4:=zao.out.len
           obtain⟨zb,zo,rfl,hzc⟩:∃b o,z3=some ⟨b,o,none⟩/\∀i,i<zp.length->Y.cell? ⟨b,o+i,none⟩=some (.int .i64 (zp.getD i 0)):=by
            rcases zao.out.row with e | ⟨b,o,e,hcc⟩
            ·have e:zp=[]:=e
             rw [e] at hlz;simp at hlz
             omega
            ·exact⟨b,o,e,hcc⟩
           have hz9:=hzc i9 (by rw [hlz];exact hilt)
           have J9:=JP.out.next B9.out;have n0:=(J9.below.cell (blt hz9)).trans hz9;obtain⟨rb,ro,hrb,hrc⟩:=RW.out i9 hilt;have n1:=(B9.out.cell (blt hrc)).trans hrc;have m0:=(B9.out.cell (blt kp0)).trans kp0;have m2:=(B9.out.cell (blt kp2)).trans kp2;have m3:=(B9.out.cell (blt q2)).trans q2;rw [hrb] at m3;have hcp:=FP.out i9;clear hzc hz9 hrc hlz RW FP FB
           have hi01:i9=0\/i9=1:=by omega
           obtain⟨bJ,fP,lo,li,hcp2⟩:∃bJ fP,(∀q,(Instr.lookup 66 (.map (some (Y.heap.size+1))) (.int .i64 (i9:Nat)) false).run Tryz.prog (World.drewN wr q)=.ok (.map (some bJ)) (World.drewN wr q))/\(∀q,(Instr.lookup 65 (.map (some bJ)) (.int .i64 z1) false).run Tryz.prog (World.drewN wr q)=.ok (.int .i64 fP) (World.drewN wr q))/\wrap64 (posAt wa i9+fP)=zp.getD i9 0:=by
            rcases hi01 with e | e
            ·refine⟨Y.heap.size+1+1,mP9 0 T.evs k z1,fun q=>?_,fun q=>(IM.look (w:=World.drewN wr q) J9.a wfz).1,by rw [e] at hcp ⊢;exact hcp⟩
             rw [e];exact OM.look0 (w:=World.drewN wr q) J9.o
            ·refine⟨bB,mP9 1 T.evs k z1,fun q=>?_,fun q=>(IM.look (w:=World.drewN wr q) J9.b wfz).1,by rw [e] at hcp ⊢;exact hcp⟩
             rw [e];exact OM.look1 (w:=World.drewN wr q) J9.o
           generalize zp.getD i9 0=zv at n0 hcp2;generalize posAt wa i9=wv at n1 hcp2
           have hcpk:IntKind.i64.wrap (wv+fP)=zv:=by rw [IntWalk.i64_left];exact hcp2
           have lo0:=lo 0;have li0:=li 0;simp only [World.drewN] at lo0 li0;clear J9 IX MK hrb hcp hi01
           go_wp2_with fail
           go_quiet (fail)
           obtain⟨P9,hP9⟩:∃P9,P9=World.drewN wr nq:=⟨_,rfl⟩;rw [<- hP9]
           have bd:Below wr.heap.size wr P9:=by rw [hP9];exact drewN_below (Below.refl _ _) _
           clear hP9
           go_wp2
           go_roundw
           case rel=>exact⟨i9+1,by omega,by go_num,B9.out.trans (bd.mono B9.out.size)⟩
           case measure=>simp [intOf];omega
          ·obtain rfl:i9=z4:=by omega
           go_wp2
           go_roundw
           case rel=>exact⟨j+1,by omega,by go_num,hide (JP.out.next B9.out)⟩
           case measure=>simp [intOf];omega
        ·rw [i1,Nat.zero_add]
         have hjz:(l:Int)<(A.length:Int):=by omega
         obtain⟨wz1,wz2⟩:=W1.out l hl i2
         obtain⟨bb,oo,rfl,hc⟩:∃b off,p=some ⟨b,off,none⟩/\∀j u,(A.flatMap encA)[j]? = some u->P.cell? ⟨b,off+j,none⟩=some u:=by
          rcases arow_below HA.out JP.out.below with e | e
          ·rw [e] at hl;simp at hl
          ·exact e
         obtain⟨d0',d1',d2'⟩:=arow_cells hc hl;have hln:(A[l]'hl).n=z4:=HNA.out _ (List.getElem_mem hl);rw [hln] at d2';rw [<- wz1] at d1';have lao:=VR.out.eachA _ (List.getElem_mem hl)
         have hz0:0<z4\/z4=0:=by omega
         obtain⟨w0,f0⟩:=blk_cell PBO.out 0;obtain⟨w1,f1⟩:=blk_cell PBO.out 1;obtain⟨w2,f2⟩:=blk_cell PBO.out 2
         simp only [List.getElem?_toArray,List.getElem?_cons_zero,List.getElem?_cons_succ] at w0 w1 w2
         have RWA0:Hid (∀i,i<z4->∃b o,(A[l]'hl).p=some ⟨b,o,none⟩/\∀i,i<z4->Y.cell? ⟨b,o+i,none⟩=some (.int .i64 (posAt wa i))):=fun i hi=>by
          have hll:(A[l]'hl).pos.length=z4:=by rw [lao.len,hln]
          rcases lao.row with e | ⟨b,o,e,hcc⟩
          ·rw [e] at hll
           simp at hll
           omega
          ·exact⟨b,o,e,fun i hi=>by rw [hcc i (by rw [hll];exact hi),wz2 i]⟩
         clear hc W0 W1 i1 i2 PBO PG lao wz1 wz2 hln;generalize (A[l]'hl).id=t1 at *;generalize (A[l]'hl).p=t3 at *;generalize (A[l]'hl).c=t5 at *;obtain⟨u0,w0⟩:∃u,P.cell? ⟨bo,0,none⟩=some u:=⟨_,w0⟩;obtain⟨u1,w1⟩:∃u,P.cell? ⟨bo,1,none⟩=some u:=⟨_,w1⟩;obtain⟨u2,w2⟩:∃u,P.cell? ⟨bo,2,none⟩=some u:=⟨_,w2⟩;obtain⟨Q,hQ⟩:∃Q,Q=((P.setCell ⟨bo,0,none⟩ (.int .i64 t1)).setCell ⟨bo,1,none⟩ (.int .i64 wa.2.1)).setCell ⟨bo,2,none⟩ (.slice t3 z4 t5):=⟨_,rfl⟩
         have hbq:But (fun b=>b=bo) P Q:=by
          rw [hQ];exact((but_one P ⟨bo,0,none⟩ _).setCell (p:=⟨bo,1,none⟩) (.inl rfl) _).setCell (p:=⟨bo,2,none⟩) (.inl rfl) _
         have JQ:=hide (JP.out.to hbq (fun b e=>by
          have h1:=HWS.out;have h2:=WS.out;have h3:=HBB.out
          omega))
         have q1:Q.cell? ⟨bo,1,none⟩=some (.int .i64 wa.2.1):=by
          rw [hQ,cell_set_off _ _ (by omega)]
          refine World.cell?_setCell_same _ _ _ (u:=u1) ?_
          rw [cell_set_off _ _ (by omega)]
          exact w1
         have q2:Q.cell? ⟨bo,2,none⟩=some (.slice t3 z4 t5):=by
          rw [hQ]
          refine World.cell?_setCell_same _ _ _ (u:=u2) ?_
          rw [cell_set_off _ _ (by omega),cell_set_off _ _ (by omega)]
          exact w2
         have kq0:=hbq.cell (p:=⟨wr.heap.size,0,none⟩) NE kp0;have kq1:=hbq.cell (p:=⟨wr.heap.size,1,none⟩) NE kp1;have kq2:=hbq.cell (p:=⟨wr.heap.size,2,none⟩) NE kp2;have HQ:=hide hQ
         have RW:Hid (∀i,i<z4->∃b o,t3=some ⟨b,o,none⟩/\Q.cell? ⟨b,o+i,none⟩=some (.int .i64 (posAt wa i))):=fun i hi=>by
          obtain⟨b,o,e,hcc⟩:=RWA0.out i hi;have h9:=hcc i hi;exact⟨b,o,e,(JQ.out.below.cell (blt h9)).trans h9⟩
         clear hQ hbq kp0 kp1 kp2 NE RWA0 JP;obtain⟨lkM,-⟩:=JQ.out.m.look wfz;have hcmp:wrap64 (wa.2.1+mB9 free T.evs k z1)=z2:=FB.out;generalize mB9 free T.evs k z1=fM at lkM hcmp;generalize wa.2.1=wb at *
         go_wp2_with (rw [<- HQ.out])
         obtain⟨wo,hwo⟩:∃wo,wo=wr:=⟨_,rfl⟩;subst hwo
         go_loopw [178] (fun i wr=>∃(i9:Nat),i9<=z4/\i=.int .i64 i9/\Hid (Below Q.heap.size Q wr)) (fun i _=>z4 - (intOf i).toNat)
         case atStart=>exact⟨0,Nat.zero_le _,rfl,Below.refl _ _⟩
         case round =>
          obtain⟨i9,hi9,rfl,B9⟩:=hrel
          by_cases hilt:i9<z4
          ·have hiz:(i9:Int)<(z4:Int):=by omega
           have hlz:zp.length=z4:=zao.out.len
           obtain⟨zb,zo,rfl,hzc⟩:∃b o,z3=some ⟨b,o,none⟩/\∀i,i<zp.length->Y.cell? ⟨b,o+i,none⟩=some (.int .i64 (zp.getD i 0)):=by
            rcases zao.out.row with e | ⟨b,o,e,hcc⟩
            ·have e:zp=[]:=e
             rw [e] at hlz;simp at hlz
             omega
            ·exact⟨b,o,e,hcc⟩
           have hz9:=hzc i9 (by rw [hlz];exact hilt)
           have J9:=JQ.out.next B9.out;have n0:=(J9.below.cell (blt hz9)).trans hz9;obtain⟨rb,ro,hrb,hrc⟩:=RW.out i9 hilt;have n1:=(B9.out.cell (blt hrc)).trans hrc;have m0:=(B9.out.cell (blt kq0)).trans kq0;have m2:=(B9.out.cell (blt kq2)).trans kq2;have m3:=(B9.out.cell (blt q2)).trans q2;rw [hrb] at m3;have hcp:=FP.out i9;clear hzc hz9 hrc hlz RW FP FB
           have hi01:i9=0\/i9=1:=by omega
           obtain⟨bJ,fP,lo,li,hcp2⟩:∃bJ fP,(∀q,(Instr.lookup 66 (.map (some (Y.heap.size+1))) (.int .i64 (i9:Nat)) false).run Tryz.prog (World.drewN wr q)=.ok (.map (some bJ)) (World.drewN wr q))/\(∀q,(Instr.lookup 65 (.map (some bJ)) (.int .i64 z1) false).run Tryz.prog (World.drewN wr q)=.ok (.int .i64 fP) (World.drewN wr q))/\wrap64 (posAt wa i9+fP)=zp.getD i9 0:=by
            rcases hi01 with e | e
            ·refine⟨Y.heap.size+1+1,mP9 0 T.evs k z1,fun q=>?_,fun q=>(IM.look (w:=World.drewN wr q) J9.a wfz).1,by rw [e] at hcp ⊢;exact hcp⟩
             rw [e];exact OM.look0 (w:=World.drewN wr q) J9.o
            ·refine⟨bB,mP9 1 T.evs k z1,fun q=>?_,fun q=>(IM.look (w:=World.drewN wr q) J9.b wfz).1,by rw [e] at hcp ⊢;exact hcp⟩
             rw [e];exact OM.look1 (w:=World.drewN wr q) J9.o
           generalize zp.getD i9 0=zv at n0 hcp2;generalize posAt wa i9=wv at n1 hcp2
           have hcpk:IntKind.i64.wrap (wv+fP)=zv:=by rw [IntWalk.i64_left];exact hcp2
           have lo0:=lo 0;have li0:=li 0;simp only [World.drewN] at lo0 li0;clear J9 IX MK hrb hcp hi01
           go_wp2_with fail
           go_quiet (fail)
           obtain⟨P9,hP9⟩:∃P9,P9=World.drewN wr nq:=⟨_,rfl⟩;rw [<- hP9]
           have bd:Below wr.heap.size wr P9:=by rw [hP9];exact drewN_below (Below.refl _ _) _
           clear hP9
           go_wp2
           go_roundw
           case rel=>exact⟨i9+1,by omega,by go_num,B9.out.trans (bd.mono B9.out.size)⟩
           case measure=>simp [intOf];omega
          ·obtain rfl:i9=z4:=by omega
           go_wp2
           go_roundw
           case rel=>exact⟨j+1,by omega,by go_num,hide (JQ.out.next B9.out)⟩
           case measure=>simp [intOf];omega
       ·obtain⟨Z,hZ⟩:∃Z,Z=((S.alloc (.cells #[.int .i64 z1,.int .i64 0,.slice (some ⟨S.heap.size+1,0,none⟩) z4 z4] 40)).alloc (.cells (zInts z4) 3)).drew:=⟨_,rfl⟩
        rw [<- hZ]
        have hg:Z.heap[S.heap.size+1]? = some (.cells (zInts z4) 3):=by rw [hZ];exact(two_blk S _ _).2
        have hbo:Z.heap[S.heap.size]? = some (.cells #[.int .i64 z1,.int .i64 0,.slice (some ⟨S.heap.size+1,0,none⟩) z4 z4] 40):=by rw [hZ];exact(two_blk S _ _).1
        have hbZ:Below S.heap.size S Z:=by rw [hZ];exact(Ac.below_alloc2 S _ _).drew
        clear hZ;have JZ:=hide (JS.out.next hbZ);have kz0:=(hbZ.cell (blt k0)).trans k0;have kz1:=(hbZ.cell (blt k1)).trans k1;have kz2:=(hbZ.cell (blt k2)).trans k2;have ab0:=(JZ.out.below.cell (blt a0)).trans a0;have IZ:=hide (IX.out Z JZ.out.below z1 _ kz0)
        have NE:¬ wr.heap.size=S.heap.size:=by have:=(blt k0);dsimp only at this;omega
        have HBO:=hide hbo;have HG:=hide hg
        have HWS:Hid (wr.heap.size<S.heap.size):=by have:=(blt k0);dsimp only at this;show wr.heap.size<S.heap.size;omega
        clear hbo hg hbZ HS k0 k1 k2 x0 x2 XD sx c0 c1 c2 JS;generalize S.heap.size+1=g at *;generalize S.heap.size=bo at *
        go_wp2_with fail
        refine IZ.out.mono ?_
        rintro e P ⟨rfl,hbP⟩
        have JP:=hide (JZ.out.next hbP);have kp0:=(hbP.cell (blt kz0)).trans kz0;have kp1:=(hbP.cell (blt kz1)).trans kz1;have kp2:=(hbP.cell (blt kz2)).trans kz2;have ap0:=(hbP.cell (blt ab0)).trans ab0;have PBO:=hide (blk_below HBO.out hbP);have PG:=hide (blk_below HG.out hbP);clear IZ hbP kz0 kz1 kz2 ab0 HBO HG JZ
        rcases idxP_ways (fun b:Am=>b.id == z1) A 0 with⟨i1,i2⟩ | ⟨l,hl,i1,i2,-⟩
        ·rw [i1]
         obtain⟨wz1,wz2⟩:=W0.out i2
         have q1:P.cell? ⟨bo,1,none⟩=some (.int .i64 wa.2.1):=by rw [wz1];exact bc PBO.out 1
         have q2:P.cell? ⟨bo,2,none⟩=some (.slice (some ⟨g,0,none⟩) z4 z4):=bc PBO.out 2
         have RW:Hid (∀i,i<z4->∃b o,(some (⟨g,0,none⟩:Addr))=some ⟨b,o,none⟩/\P.cell? ⟨b,o+i,none⟩=some (.int .i64 (posAt wa i))):=fun i hi=>by
          refine⟨g,0,rfl,?_⟩
          rw [wz2 i]
          rcases zRow PG.out with e | ⟨b,o,e,hcc⟩
          ·have:=congrArg List.length e
           simp at this
           omega
          ·cases e
           rw [hcc i (by simpa using hi)]
           simp [hi]
         clear wz1 wz2 i1 i2 W0 W1 PBO PG;have FOLD:=hide (rfl:P=P);obtain⟨lkM,-⟩:=JP.out.m.look wfz;have hcmp:wrap64 (wa.2.1+mB9 free T.evs k z1)=z2:=FB.out;generalize mB9 free T.evs k z1=fM at lkM hcmp;generalize wa.2.1=wb at *
         go_wp2_with (fail)
         obtain⟨wo,hwo⟩:∃wo,wo=wr:=⟨_,rfl⟩;subst hwo
         go_loopw [178] (fun i wr=>∃(i9:Nat),i9<=z4/\i=.int .i64 i9/\Hid (Below P.heap.size P wr)) (fun i _=>z4 - (intOf i).toNat)
         case atStart=>exact⟨0,Nat.zero_le _,rfl,Below.refl _ _⟩
         case round =>
          obtain⟨i9,hi9,rfl,B9⟩:=hrel
          by_cases hilt:i9<z4
          ·have hiz:(i9:Int)<(z4:Int):=by omega
           have hlz:zp.length=z4:=zao.out.len
           obtain⟨zb,zo,rfl,hzc⟩:∃b o,z3=some ⟨b,o,none⟩/\∀i,i<zp.length->Y.cell? ⟨b,o+i,none⟩=some (.int .i64 (zp.getD i 0)):=by
            rcases zao.out.row with e | ⟨b,o,e,hcc⟩
            ·have e:zp=[]:=e
             rw [e] at hlz;simp at hlz
             omega
            ·exact⟨b,o,e,hcc⟩
           have hz9:=hzc i9 (by rw [hlz];exact hilt)
           have J9:=JP.out.next B9.out;have n0:=(J9.below.cell (blt hz9)).trans hz9;obtain⟨rb,ro,hrb,hrc⟩:=RW.out i9 hilt;have n1:=(B9.out.cell (blt hrc)).trans hrc;have m0:=(B9.out.cell (blt kp0)).trans kp0;have m2:=(B9.out.cell (blt kp2)).trans kp2;have m3:=(B9.out.cell (blt q2)).trans q2;rw [hrb] at m3;have hcp:=FP.out i9;clear hzc hz9 hrc hlz RW FP FB
           have hi01:i9=0\/i9=1:=by omega
           obtain⟨bJ,fP,lo,li,hcp2⟩:∃bJ fP,(∀q,(Instr.lookup 66 (.map (some (Y.heap.size+1))) (.int .i64 (i9:Nat)) false).run Tryz.prog (World.drewN wr q)=.ok (.map (some bJ)) (World.drewN wr q))/\(∀q,(Instr.lookup 65 (.map (some bJ)) (.int .i64 z1) false).run Tryz.prog (World.drewN wr q)=.ok (.int .i64 fP) (World.drewN wr q))/\wrap64 (posAt wa i9+fP)=zp.getD i9 0:=by
            rcases hi01 with e | e
            ·refine⟨Y.heap.size+1+1,mP9 0 T.evs k z1,fun q=>?_,fun q=>(IM.look (w:=World.drewN wr q) J9.a wfz).1,by rw [e] at hcp ⊢;exact hcp⟩
             rw [e];exact OM.look0 (w:=World.drewN wr q) J9.o
            ·refine⟨bB,mP9 1 T.evs k z1,fun q=>?_,fun q=>(IM.look (w:=World.drewN wr q) J9.b wfz).1,by rw [e] at hcp ⊢;exact hcp⟩
             rw [e];exact OM.look1 (w:=World.drewN wr q) J9.o
           generalize zp.getD i9 0=zv at n0 hcp2;generalize posAt wa i9=wv at n1 hcp2
           have hcpk:IntKind.i64.wrap (wv+fP)=zv:=by rw [IntWalk.i64_left];exact hcp2
           have lo0:=lo 0;have li0:=li 0;simp only [World.drewN] at lo0 li0;clear J9 IX MK hrb hcp hi01
           go_wp2_with fail
           go_quiet (fail)
           obtain⟨P9,hP9⟩:∃P9,P9=World.drewN wr nq:=⟨_,rfl⟩;rw [<- hP9]
           have bd:Below wr.heap.size wr P9:=by rw [hP9];exact drewN_below (Below.refl _ _) _
           clear hP9
           go_wp2
           go_roundw
           case rel=>exact⟨i9+1,by omega,by go_num,B9.out.trans (bd.mono B9.out.size)⟩
           case measure=>simp [intOf];omega
          ·obtain rfl:i9=z4:=by omega
           go_wp2
           go_roundw
           case rel=>exact⟨j+1,by omega,by go_num,hide (JP.out.next B9.out)⟩
           case measure=>simp [intOf];omega
        ·rw [i1,Nat.zero_add]
         have hjz:(l:Int)<(A.length:Int):=by omega
         obtain⟨wz1,wz2⟩:=W1.out l hl i2
         obtain⟨bb,oo,rfl,hc⟩:∃b off,p=some ⟨b,off,none⟩/\∀j u,(A.flatMap encA)[j]? = some u->P.cell? ⟨b,off+j,none⟩=some u:=by
          rcases arow_below HA.out JP.out.below with e | e
          ·rw [e] at hl;simp at hl
          ·exact e
         obtain⟨d0',d1',d2'⟩:=arow_cells hc hl;have hln:(A[l]'hl).n=z4:=HNA.out _ (List.getElem_mem hl);rw [hln] at d2';rw [<- wz1] at d1';have lao:=VR.out.eachA _ (List.getElem_mem hl)
         have hz0:0<z4\/z4=0:=by omega
         obtain⟨w0,f0⟩:=blk_cell PBO.out 0;obtain⟨w1,f1⟩:=blk_cell PBO.out 1;obtain⟨w2,f2⟩:=blk_cell PBO.out 2
         simp only [List.getElem?_toArray,List.getElem?_cons_zero,List.getElem?_cons_succ] at w0 w1 w2
         have RWA0:Hid (∀i,i<z4->∃b o,(A[l]'hl).p=some ⟨b,o,none⟩/\∀i,i<z4->Y.cell? ⟨b,o+i,none⟩=some (.int .i64 (posAt wa i))):=fun i hi=>by
          have hll:(A[l]'hl).pos.length=z4:=by rw [lao.len,hln]
          rcases lao.row with e | ⟨b,o,e,hcc⟩
          ·rw [e] at hll
           simp at hll
           omega
          ·exact⟨b,o,e,fun i hi=>by rw [hcc i (by rw [hll];exact hi),wz2 i]⟩
         clear hc W0 W1 i1 i2 PBO PG lao wz1 wz2 hln;generalize (A[l]'hl).id=t1 at *;generalize (A[l]'hl).p=t3 at *;generalize (A[l]'hl).c=t5 at *;obtain⟨u0,w0⟩:∃u,P.cell? ⟨bo,0,none⟩=some u:=⟨_,w0⟩;obtain⟨u1,w1⟩:∃u,P.cell? ⟨bo,1,none⟩=some u:=⟨_,w1⟩;obtain⟨u2,w2⟩:∃u,P.cell? ⟨bo,2,none⟩=some u:=⟨_,w2⟩;obtain⟨Q,hQ⟩:∃Q,Q=((P.setCell ⟨bo,0,none⟩ (.int .i64 t1)).setCell ⟨bo,1,none⟩ (.int .i64 wa.2.1)).setCell ⟨bo,2,none⟩ (.slice t3 z4 t5):=⟨_,rfl⟩
         have hbq:But (fun b=>b=bo) P Q:=by
          rw [hQ];exact((but_one P ⟨bo,0,none⟩ _).setCell (p:=⟨bo,1,none⟩) (.inl rfl) _).setCell (p:=⟨bo,2,none⟩) (.inl rfl) _
         have JQ:=hide (JP.out.to hbq (fun b e=>by
          have h1:=HWS.out;have h2:=WS.out;have h3:=HBB.out
          omega))
         have q1:Q.cell? ⟨bo,1,none⟩=some (.int .i64 wa.2.1):=by
          rw [hQ,cell_set_off _ _ (by omega)]
          refine World.cell?_setCell_same _ _ _ (u:=u1) ?_
          rw [cell_set_off _ _ (by omega)]
          exact w1
         have q2:Q.cell? ⟨bo,2,none⟩=some (.slice t3 z4 t5):=by
          rw [hQ]
          refine World.cell?_setCell_same _ _ _ (u:=u2) ?_
          rw [cell_set_off _ _ (by omega),cell_set_off _ _ (by omega)]
          exact w2
         have kq0:=hbq.cell (p:=⟨wr.heap.size,0,none⟩) NE kp0;have kq1:=hbq.cell (p:=⟨wr.heap.size,1,none⟩) NE kp1;have kq2:=hbq.cell (p:=⟨wr.heap.size,2,none⟩) NE kp2;have HQ:=hide hQ
         have RW:Hid (∀i,i<z4->∃b o,t3=some ⟨b,o,none⟩/\Q.cell? ⟨b,o+i,none⟩=some (.int .i64 (posAt wa i))):=fun i hi=>by
          obtain⟨b,o,e,hcc⟩:=RWA0.out i hi;have h9:=hcc i hi;exact⟨b,o,e,(JQ.out.below.cell (blt h9)).trans h9⟩
         clear hQ hbq kp0 kp1 kp2 NE RWA0 JP;obtain⟨lkM,-⟩:=JQ.out.m.look wfz;have hcmp:wrap64 (wa.2.1+mB9 free T.evs k z1)=z2:=FB.out;generalize mB9 free T.evs k z1=fM at lkM hcmp;generalize wa.2.1=wb at *
         go_wp2_with (rw [<- HQ.out])
         obtain⟨wo,hwo⟩:∃wo,wo=wr:=⟨_,rfl⟩;subst hwo
         go_loopw [178] (fun i wr=>∃(i9:Nat),i9<=z4/\i=.int .i64 i9/\Hid (Below Q.heap.size Q wr)) (fun i _=>z4 - (intOf i).toNat)
         case atStart=>exact⟨0,Nat.zero_le _,rfl,Below.refl _ _⟩
         case round =>
          obtain⟨i9,hi9,rfl,B9⟩:=hrel
          by_cases hilt:i9<z4
          ·have hiz:(i9:Int)<(z4:Int):=by omega
           have hlz:zp.length=z4:=zao.out.len
           obtain⟨zb,zo,rfl,hzc⟩:∃b o,z3=some ⟨b,o,none⟩/\∀i,i<zp.length->Y.cell? ⟨b,o+i,none⟩=some (.int .i64 (zp.getD i 0)):=by
            rcases zao.out.row with e | ⟨b,o,e,hcc⟩
            ·have e:zp=[]:=e
             rw [e] at hlz;simp at hlz
             omega
            ·exact⟨b,o,e,hcc⟩
           have hz9:=hzc i9 (by rw [hlz];exact hilt)
           have J9:=JQ.out.next B9.out;have n0:=(J9.below.cell (blt hz9)).trans hz9;obtain⟨rb,ro,hrb,hrc⟩:=RW.out i9 hilt;have n1:=(B9.out.cell (blt hrc)).trans hrc;have m0:=(B9.out.cell (blt kq0)).trans kq0;have m2:=(B9.out.cell (blt kq2)).trans kq2;have m3:=(B9.out.cell (blt q2)).trans q2;rw [hrb] at m3;have hcp:=FP.out i9;clear hzc hz9 hrc hlz RW FP FB
           have hi01:i9=0\/i9=1:=by omega
           obtain⟨bJ,fP,lo,li,hcp2⟩:∃bJ fP,(∀q,(Instr.lookup 66 (.map (some (Y.heap.size+1))) (.int .i64 (i9:Nat)) false).run Tryz.prog (World.drewN wr q)=.ok (.map (some bJ)) (World.drewN wr q))/\(∀q,(Instr.lookup 65 (.map (some bJ)) (.int .i64 z1) false).run Tryz.prog (World.drewN wr q)=.ok (.int .i64 fP) (World.drewN wr q))/\wrap64 (posAt wa i9+fP)=zp.getD i9 0:=by
            rcases hi01 with e | e
            ·refine⟨Y.heap.size+1+1,mP9 0 T.evs k z1,fun q=>?_,fun q=>(IM.look (w:=World.drewN wr q) J9.a wfz).1,by rw [e] at hcp ⊢;exact hcp⟩
             rw [e];exact OM.look0 (w:=World.drewN wr q) J9.o
            ·refine⟨bB,mP9 1 T.evs k z1,fun q=>?_,fun q=>(IM.look (w:=World.drewN wr q) J9.b wfz).1,by rw [e] at hcp ⊢;exact hcp⟩
             rw [e];exact OM.look1 (w:=World.drewN wr q) J9.o
           generalize zp.getD i9 0=zv at n0 hcp2;generalize posAt wa i9=wv at n1 hcp2
           have hcpk:IntKind.i64.wrap (wv+fP)=zv:=by rw [IntWalk.i64_left];exact hcp2
           have lo0:=lo 0;have li0:=li 0;simp only [World.drewN] at lo0 li0;clear J9 IX MK hrb hcp hi01
           go_wp2_with fail
           go_quiet (fail)
           obtain⟨P9,hP9⟩:∃P9,P9=World.drewN wr nq:=⟨_,rfl⟩;rw [<- hP9]
           have bd:Below wr.heap.size wr P9:=by rw [hP9];exact drewN_below (Below.refl _ _) _
           clear hP9
           go_wp2
           go_roundw
           case rel=>exact⟨i9+1,by omega,by go_num,B9.out.trans (bd.mono B9.out.size)⟩
           case measure=>simp [intOf];omega
          ·obtain rfl:i9=z4:=by omega
           go_wp2
           go_roundw
           case rel=>exact⟨j+1,by omega,by go_num,hide (JQ.out.next B9.out)⟩
           case measure=>simp [intOf];omega
      ·go_wp2
       go_ret
       exact⟨rfl,BY.out.trans (J.out.below.mono BY.out.size)⟩
  ·have OP2:=hide (opened_any Y LY.out)
   go_wp2_with fail
   refine OP2.out.mono ?_
   rintro e Z9 ⟨rfl,hb9⟩
   go_wp2
   go_ret
   exact⟨rfl,BY.out.trans (hb9.mono BY.out.size)⟩
 ·have HR:(doR s c).2=checkE s:=by rw [do_bad c hce]
  rw [HR];obtain⟨r,hr⟩:∃r,r=checkE s:=⟨_,rfl⟩;rw [<- hr] at hce ⊢;obtain⟨T,hT⟩:∃T,T=(doR s c).1:=⟨_,rfl⟩;rw [<- hT] at HX1 ⊢;clear hT hr HR F0 F1 FC VX EX VI;have LX:=hide (LD.out.next BX1.out)
  go_wp2_with (rw [<- HX1.out])
  refine OP.out.mono ?_
  rintro e Y ⟨rfl,hbY⟩
  have BY:=hide (BX1.out.trans (hbY.mono BX1.out.size));have OP2:=hide (opened_any Y (LX.out.next hbY));clear OP HX1 hbY LX BX1
  go_wp2_with fail
  refine OP2.out.mono ?_
  rintro e Z ⟨rfl,hbZ⟩
  have BZ:=hide (BY.out.trans (hbZ.mono BY.out.size));clear OP2 hbZ BY
  go_wp2
  go_ret
  exact⟨rfl,BZ.out⟩
end Go.Proofs.YtpkbiafhnflmnaaGreatDoor.Vn
namespace Go.Proofs.YtpkbiafhnflmnaaGreatDoor.venueFills
open Go.ChangeShapes Go.WideShapes Go.ChangeAt Go.RowKit Go.Joins Rk Vn
set_option linter.unusedVariables false
theorem own:ownKnob Tryz.prog.godebug=none:=by kernel_rfl
theorem laidOut:laidOutB Tryz.prog=true:=by kernel_rfl
set_option maxRecDepth 100000 in
theorem lifted (os:Os)(started:os.Started)(H:Type)(enc:TypeId × Value->H) :
  ReturnsInHanded {} Tryz.checked os 6 .any (fun w args=>(Rows.venueFillsSpec.pre enc Tryz.prog Tryz.f6 Rows.venueFillsRow.domain false w args/\laidMetH Tryz.prog laid1 w)/\sizedMet enc Tryz.prog Tryz.f6 (OpenSpec.ofChange Rows.venueFillsSpec) false w args)
   (Rows.venueFillsSpec.post enc Tryz.prog Tryz.f6 false true false false):=by
 refine returnsInHanded_of_change_and (C:=Tryz.checked) (X:=fun w _=>laidMetH Tryz.prog laid1 w) (fun _ _ _ hh h=>h.of_heap hh) own started (by kernel_rfl) Tryz.func6
  (ChangeSpec.witness_shaped (enc:=enc) (C:=Tryz.checked) (os:=os) (X:=fun w _=>laidMetH Tryz.prog laid1 w) false (World.laidAll Tryz.prog os laid1) #[.agg #[.slice none 0 0,.slice none 0 0,.int .i64 0,.int .i64 0,.int .i64 0,.int .i64 0,.int .i64 0],.agg #[.int .i64 0,.int .i64 0,.int .i64 0,.int .i64 0,.int .i64 0,.int .i64 0,.int .i64 0,.int .i64 0,.int .i64 0,.int .i64 0,.bool false]] 8 (World.laidAll_os _ _ _)
   (World.shaped_of_ZipB (by kernel_rfl) (by kernel_rfl)) (by kernel_rfl) (by kernel_rfl) (by kernel_rfl)
   (by rw [MakeChecks.laidMetH_plain _ _ _ (by kernel_rfl)];exact laidMet_laidAll _ (by kernel_rfl) (by kernel_rfl))) ?_
 intro W base args ds gs before hval0 hW hcnd hsz0 hX _
 have hval:∀(j:Nat) t v,Tryz.f6.params[j]? = some t->args[j]? = some v->Value.okWide Tryz.prog W .any base t v:=hval0;have hLd:=of_laid hX;have hW':=hW;obtain⟨p,q,hA0,hV,rfl,hfz,hnd⟩:=hW
 have hA:DataW.TrodAll enc Tryz.prog W 0 (fun _=>true) true Tryz.f6.params.toList args.toList ds p:=hA0
 have hsz:(DataW.weightsEach Tryz.prog (Tryz.f6.params.toList ++ Rows.venueFillsSpec.plain.varTypes Tryz.prog) (ds ++ gs)).all (·<=reachBytes)=true:=hsz0
 rw [Tryz.params6] at hA hval hsz;obtain⟨v0,vs0,d0,ds0,p0,q0,hargs,rfl,rfl,h0,r0⟩:=trodAll_cons hA;obtain⟨v1,vs1,d1,ds1,p1,q1,rfl,rfl,rfl,h1,r1⟩:=trodAll_cons r0;obtain⟨rfl,rfl,rfl⟩:=trodAll_nil r1
 obtain rfl:args = #[v0,v1]:=by cases args;simp_all
 obtain⟨rfl,rfl⟩:=trodVars_none hV;have k0:=h0;have k1:=h1
 have lt0:∀x ∈ p0,x.block<W.heap.size:=by obtain⟨m,hm⟩:=k0;exact DataW.trod_lt m _ _ _ hm
 have lt1:∀x ∈ p1,x.block<W.heap.size:=by obtain⟨m,hm⟩:=k1;exact DataW.trod_lt m _ _ _ hm
 have big:∀{j:Nat} {t:TypeId} {d:DataW H},([25,29] ++ Rows.venueFillsSpec.plain.varTypes Tryz.prog)[j]? = some t->([d0,d1] ++ [])[j]? = some d->∀m,m ∈ d.weights Tryz.prog t->m<=reachBytes:=fun ht hd m hm=>by
  have:=List.all_eq_true.1 hsz m (DataW.weights_mem_each ht hd m hm)
  simpa using this
 obtain⟨s0,hs0⟩:=venue_read (hval 0 25 v0 rfl rfl) h0 (big (j:=0) rfl rfl);obtain⟨c1,rfl⟩:=cmd_read (hval 1 29 v1 rfl rfl) h1;clear hA0 hval0 big
 refine(law_fills v0 s0 c1 W hs0 hLd).mono fun e W' ⟨he,bel⟩=>?_
 subst he
 exact⟨_,rfl,_,_,_,[],_,[],hW',trodAll_mk1 (shut_bool Tryz.underlying4 _),(trodAll_cons_mk (Below.trod laidOut (by kernel_rfl) (of_decide_eq_true (by kernel_rfl)) k0 bel lt0) (trodAll_cons_mk (Below.trod laidOut (by kernel_rfl) (of_decide_eq_true (by kernel_rfl)) k1 bel lt1) trodAll_mk0)),rfl,bel.frame _,fun h=>by cases h⟩
theorem over:Rows.VenueFillsSaid :=
 OpenClaim.holds_of_wide 6 Tryz.f6 rfl rfl rfl rfl rfl rfl rfl ⟨rfl,rfl,rfl,rfl,rfl⟩ rfl rfl rfl rfl rfl (by kernel_rfl) Tryz.func6 (by kernel_rfl)
  (of_decide_eq_true (by kernel_rfl)) (by unfold Func.isWrapper;first | (rw [if_pos (by decide +kernel)];kernel_rfl) | (rw [if_neg (by decide +kernel)];exact⟨rfl,rfl⟩))
  (fun os started H enc _=>lifted os started H enc)
theorem card:Rows.VenueFillsCardSaid :=
 Claim7.holds_tied_plain_at .later [] [.data] true (true, "282d2aec10900769c483711ccf7034c4226bb8f84f208cece23444b1ce27ece2") false
  over (fun _ h=>by cases h) (by kernel_rfl) (fun _ h=>by cases h) venueFills_row_tie rfl ⟨rfl,rfl⟩ (by kernel_rfl) rfl
  (fun f fn hf hfn=>by
   obtain rfl : f = 6 := Option.some.inj ((show Tryz.prog.funcNamed "tollbooth/tollboothlaw.VenueFills" = some 6 by kernel_rfl).symm.trans hf) |>.symm
   obtain rfl:fn=Tryz.f6:=(Option.some.inj (Tryz.func6.symm.trans hfn)).symm
   exact⟨by kernel_rfl,fun j t ht=>by
    rw [Tryz.params6] at ht
    rcases j with _ | _ | j
    ·obtain rfl:t=25:=by simpa using ht.symm
     exact(show Tryz.prog.wantsStandIn 25=false by kernel_rfl)
    ·obtain rfl:t=29:=by simpa using ht.symm
     exact(show Tryz.prog.wantsStandIn 29=false by kernel_rfl)
    ·simp at ht⟩)
  (by kernel_rfl)
end Go.Proofs.YtpkbiafhnflmnaaGreatDoor.venueFills
namespace Go.Proofs.YtpkbiafhnflmnaaGreatDoor
theorem venueFills_holds:Rows.VenueFillsCardSaid:=venueFills.card
#print axioms venueFills_holds
end Go.Proofs.YtpkbiafhnflmnaaGreatDoor
