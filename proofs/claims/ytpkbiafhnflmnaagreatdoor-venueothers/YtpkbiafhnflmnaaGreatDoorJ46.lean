/-
  What the laws of chapter 7 share.
-/
import Derived.Test.YtpkbiafhnflmnaaGreatDoorJ43
import Derived.Test.YtpkbiafhnflmnaaGreatDoorJ12
import Derived.Test.YtpkbiafhnflmnaaGreatDoorJ45
namespace Go.Proofs.YtpkbiafhnflmnaaGreatDoor.Vn
open Go.RowKit Go.Proofs.YtpkbiafhnflmnaaGreatDoor.Num Go.Proofs.YtpkbiafhnflmnaaGreatDoor.Fix Go.Proofs.YtpkbiafhnflmnaaGreatDoor.AcP Go.Proofs.YtpkbiafhnflmnaaGreatDoor.FuP Go.Proofs.YtpkbiafhnflmnaaGreatDoor.Bk Go.Proofs.YtpkbiafhnflmnaaGreatDoor.Rm Go.Proofs.YtpkbiafhnflmnaaGreatDoor.Ac Go.Sort Go.Maps Go.Proofs.YtpkbiafhnflmnaaGreatDoor.Mix Go.Proofs.YtpkbiafhnflmnaaGreatDoor.RkP
theorem eqI_any (p p2:Option Addr) (n c c2:Nat) (xs ys:List Int) (w:World) (hl:xs.length=n) (hl2:ys.length=n) (hn:n<=140737488351232) (h:Row w p xs) (h':Row w p2 ys) :
    Calls Tryz.prog 70 #[.slice p n c,.slice p2 n c2] w fun e w'=>e=.returned (.bool (decide (xs=ys))) /\ ∃ q,w'=w.drewN q:=by
  rcases h with rfl | ⟨b,off,rfl,hc⟩
  · have h0:n=0:=by simpa using hl.symm
    subst h0; obtain rfl:ys=[]:=List.eq_nil_of_length_eq_zero hl2
    refine (Tryz.slices_Equal_int_empty _ _ _ _ _ _ (by omega)).mono ?_
    rintro e w' ⟨rfl,rfl⟩
    exact ⟨rfl,0,rfl⟩
  · rcases h' with rfl | ⟨b2,off2,rfl,hc2⟩
    · have h0:n=0:=by simpa using hl2.symm
      subst h0; obtain rfl:xs=[]:=List.eq_nil_of_length_eq_zero hl
      refine (Tryz.slices_Equal_int_empty _ _ _ _ _ _ (by omega)).mono ?_
      rintro e w' ⟨rfl,rfl⟩
      exact ⟨rfl,0,rfl⟩
    · refine (Tryz.slices_Equal_int b off n c b2 off2 n c2 xs ys w (by omega) (by omega) (by omega) (by omega) hc hc2).mono ?_
      rintro e w' ⟨rfl,q,rfl⟩
      refine ⟨?_,q,rfl⟩
      rw [List.take_of_length_le (by omega),List.take_of_length_le (by omega)]
      by_cases e:xs=ys
      · simp [e]
      · simp [e]
def accEq (id bal:Int) (pos:List Int) (id2 bal2:Int) (pos2:List Int):Bool:=decide (id=id2) && (decide (bal=bal2) && decide (pos=pos2))
theorem drewN_below {w x:World} {B:Nat} (h:Below B w x) (q:Nat):Below B w (x.drewN q):=⟨h.os,h.tape,h.output,h.size,h.block⟩
set_option maxHeartbeats 1000000 in
theorem accSame_any (id bal:Int) (p:Option Addr) (n c:Nat) (pos:List Int) (id2 bal2:Int) (p2:Option Addr) (c2:Nat) (pos2:List Int) (w:World) (hl:pos.length=n) (hl2:pos2.length=n) (hn:n<=140737488351232) (h:Row w p pos) (h2:Row w p2 pos2) :
    Calls Tryz.prog 34 #[accV id bal p n c,accV id2 bal2 p2 n c2] w fun e w'=>e=.returned (.bool (accEq id bal pos id2 bal2 pos2)) /\ Below w.heap.size w w':=by
  by_cases e1:id=id2
  · subst e1
    by_cases e2:bal=bal2
    · subst e2
      have EQ:=hide (fun W hW=>eqI_any p p2 n c c2 pos pos2 W hl hl2 hn (row_below h hW) (row_below h2 hW))
      rw [show accEq id bal pos id bal pos2=decide (pos=pos2) from by simp [accEq]]
      generalize decide (pos=pos2)=r at EQ ⊢; clear h h2 hl hl2
      go_enter Tryz.func34,Tryz.ntmps34
      go_wp2_with (go_at_call 70; refine (EQ.out _ (below_alloc2 _ _ _)).mono ?_; rintro e w' ⟨rfl,qq,hw'⟩; rw [hw']; clear hw')
      go_ret
      exact ⟨rfl,drewN_below (below_alloc2 _ _ _) _⟩
    · rw [show accEq id bal pos id bal2 pos2=false from by simp [accEq,e2]]
      have e3:(bal == bal2)=false:=by simp [e2]
      clear h h2 hl hl2
      go_enter Tryz.func34,Tryz.ntmps34
      go_wp2
      go_ret
      exact ⟨rfl,below_alloc2 _ _ _⟩
  · rw [show accEq id bal pos id2 bal2 pos2=false from by simp [accEq,e1]]
    have e3:(id == id2)=false:=by simp [e1]
    clear h h2 hl hl2
    go_enter Tryz.func34,Tryz.ntmps34
    go_wp2
    go_ret
    exact ⟨rfl,below_alloc2 _ _ _⟩
set_option maxHeartbeats 1000000 in
theorem rejected_any (ev:Value) (L:List Ev) (w:World) (h:EvIn w ev L):Calls Tryz.prog 14 #[ev] w fun e w'=>e=.returned (.bool (rejectedL L)) /\ w'=w:=by
  obtain ⟨p,c,rfl,-,-,hr,-⟩:=h
  by_cases h1:L.length=1
  · obtain ⟨x,rfl⟩:=List.length_eq_one_iff.1 h1
    obtain ⟨b,off,rfl,hc⟩:∃ b off,p=some ⟨b,off,none⟩ /\ w.cell? ⟨b,off,none⟩ = some (.int .i64 x.1):=by
      rcases hr with e | ⟨b,off,e,hc⟩
      · cases e
      · exact ⟨b,off,e,hc 0 _ rfl⟩
    have hR:rejectedL [x]=(x.1 == 1):=by
      unfold rejectedL
      by_cases e:x.1=1
      · simp [e]
      · simp [e]
    rw [hR]
    show Calls Tryz.prog 14 #[.slice (some ⟨b,off,none⟩) 1 c] w _
    generalize x.1=k at hc ⊢; clear hr h1 hR
    go_enter Tryz.func14,Tryz.ntmps14
    go_wp2
    go_ret
    exact ⟨rfl,rfl⟩
  · have hR:rejectedL L=false:=by
      unfold rejectedL; simp [h1]
    have h2:((L.length:Int) == 1)=false:=by
      simp
      omega
    rw [hR]; generalize L.length=n at h1 h2 ⊢; clear hr hR h1
    go_enter Tryz.func14,Tryz.ntmps14
    go_wp2
    go_ret
    exact ⟨rfl,rfl⟩
end Go.Proofs.YtpkbiafhnflmnaaGreatDoor.Vn
