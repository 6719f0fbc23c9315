/-
  What the laws of chapter 7 share.
-/
import Derived.Test.YtpkbiafhnflmnaaGreatDoorT43
import Derived.Test.YtpkbiafhnflmnaaGreatDoorS12
import Derived.Test.YtpkbiafhnflmnaaGreatDoorT45
namespace Go.Proofs.YtpkbiafhnflmnaaGreatDoor.Vn
open Go.RowKit Num Fix AcP FuP Bk Rm Ac Go.Sort Go.Maps Mix RkP
def accEq (id bal:Int) (pos:List Int) (id2 bal2:Int) (pos2:List Int):Bool:=decide (id=id2) && (decide (bal=bal2) && decide (pos=pos2))
theorem drewN_below {w x:World}{B:Nat}(h:Below B w x)(q:Nat):Below B w (x.drewN q):=⟨h.os,h.tape,h.output,h.size,h.block⟩
set_option maxHeartbeats 4000000 in
set_option maxHeartbeats 4000000 in
/-- two venues that are one. -/
theorem few_vin {w:World}{A:List Am}{M:List Mkt}{s:Tn}{p p':Option Addr}(h:VRead w p p' A M s):A.length=s.accs.length/\M.length=s.mkts.length:=by
 refine⟨?_,?_⟩
 ·rw [<- h.accs];simp
 ·rw [<- h.mkts];simp
set_option maxHeartbeats 4000000 in
set_option maxHeartbeats 1000000 in
theorem rejected_any (ev:Value)(L:List Ev)(w:World)(h:EvIn w ev L):Calls Tryz.prog 14 #[ev] w fun e w'=>e=.returned (.bool (rejectedL L))/\w'=w:=by
 obtain⟨p,c,rfl,-,-,hr,-⟩:=h
 by_cases h1:L.length=1
 ·obtain⟨x,rfl⟩:=List.length_eq_one_iff.1 h1
  obtain⟨b,off,rfl,hc⟩:∃b off,p=some ⟨b,off,none⟩/\w.cell? ⟨b,off,none⟩=some (.int .i64 x.1):=by
   rcases hr with e | ⟨b,off,e,hc⟩
   ·cases e
   ·exact⟨b,off,e,hc 0 _ rfl⟩
  have hR:rejectedL [x]=(x.1 == 1):=by
   unfold rejectedL
   by_cases e:x.1=1
   ·simp [e]
   ·simp [e]
  rw [hR]
  show Calls Tryz.prog 14 #[.slice (some ⟨b,off,none⟩) 1 c] w _
  generalize x.1=k at hc ⊢;clear hr h1 hR
  go_enter Tryz.func14,Tryz.ntmps14
  go_wp2
  go_ret
  exact⟨rfl,rfl⟩
 ·have hR:rejectedL L=false:=by
   unfold rejectedL;simp [h1]
  have h2:((L.length:Int) == 1)=false:=by
   simp
   omega
  rw [hR];generalize L.length=n at h1 h2 ⊢;clear hr hR h1
  go_enter Tryz.func14,Tryz.ntmps14
  go_wp2
  go_ret
  exact⟨rfl,rfl⟩
end Go.Proofs.YtpkbiafhnflmnaaGreatDoor.Vn
