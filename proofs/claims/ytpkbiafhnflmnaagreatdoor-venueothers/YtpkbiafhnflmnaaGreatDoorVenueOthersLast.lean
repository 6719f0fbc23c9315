/-
  VenueOthers is true of every venue and command: cash, orders that rest, and cancelling change nobody else's account; an index nobody's. The table of tiers reads as the program's text lays it (the card ties it).
-/
import Derived.Test.YtpkbiafhnflmnaaGreatDoorRows
import Derived.Test.YtpkbiafhnflmnaaGreatDoorCards
import Derived.Test.YtpkbiafhnflmnaaGreatDoorTie
import Derived.Test.YtpkbiafhnflmnaaGreatDoorJ48
import Derived.Test.YtpkbiafhnflmnaaGreatDoorJ47
import Derived.Outline
import Derived.ProofKit
import Derived.OpenShut
import Derived.ChangeOld
import Derived.Below
import Derived.SizedLaws
import Derived.Lay
import Derived.MakeChecks
import Derived.SevenTiedAt
namespace Go.Proofs.YtpkbiafhnflmnaaGreatDoor.venueOthers
open Go.ChangeShapes Go.WideShapes Go.ChangeAt Go.RowKit Go.Joins Go.Proofs.YtpkbiafhnflmnaaGreatDoor.Rk Go.Proofs.YtpkbiafhnflmnaaGreatDoor.Vn
set_option linter.unusedVariables false
theorem own:ownKnob Tryz.prog.godebug=none:=by kernel_rfl
theorem laidOut:laidOutB Tryz.prog=true:=by kernel_rfl
set_option maxRecDepth 100000 in
theorem lifted (os:Os) (started:os.Started) (H:Type) (enc:TypeId × Value->H) :
    ReturnsInHanded {} Tryz.checked os 9 .any (fun w args=>(Rows.venueOthersSpec.pre enc Tryz.prog Tryz.f9 Rows.venueOthersRow.domain false w args /\ laidMetH Tryz.prog laid1 w) /\ sizedMet enc Tryz.prog Tryz.f9 (OpenSpec.ofChange Rows.venueOthersSpec) false w args)
      (Rows.venueOthersSpec.post enc Tryz.prog Tryz.f9 false true false false):=by
  refine returnsInHanded_of_change_and (C:=Tryz.checked) (X:=fun w _=>laidMetH Tryz.prog laid1 w) (fun _ _ _ hh h=>h.of_heap hh) own started (by kernel_rfl) Tryz.func9
    (ChangeSpec.witness_shaped (enc:=enc) (C:=Tryz.checked) (os:=os) (X:=fun w _=>laidMetH Tryz.prog laid1 w) false (World.laidAll Tryz.prog os laid1) #[.agg #[.slice none 0 0,.slice none 0 0,.int .i64 0,.int .i64 0,.int .i64 0,.int .i64 0,.int .i64 0],.agg #[.int .i64 0,.int .i64 0,.int .i64 0,.int .i64 0,.int .i64 0,.int .i64 0,.int .i64 0,.int .i64 0,.int .i64 0,.int .i64 0,.bool false]] 8 (World.laidAll_os _ _ _)
      (World.shaped_of_ZipB (by kernel_rfl) (by kernel_rfl)) (by kernel_rfl) (by kernel_rfl) (by kernel_rfl)
      (by rw [MakeChecks.laidMetH_plain _ _ _ (by kernel_rfl)]; exact laidMet_laidAll _ (by kernel_rfl) (by kernel_rfl))) ?_
  intro W base args ds gs before hval0 hW hcnd hsz0 hX _
  have hval:∀ (j:Nat) t v,Tryz.f9.params[j]? = some t->args[j]? = some v->Value.okWide Tryz.prog W .any base t v:=hval0; have hLd:=of_laid hX; have hW':=hW; obtain ⟨p,q,hA0,hV,rfl,hfz,hnd⟩:=hW
  have hA:DataW.TrodAll enc Tryz.prog W 0 (fun _=>true) true Tryz.f9.params.toList args.toList ds p:=hA0
  have hsz:(DataW.weightsEach Tryz.prog (Tryz.f9.params.toList ++ Rows.venueOthersSpec.plain.varTypes Tryz.prog) (ds ++ gs)).all (·<=reachBytes)=true:=hsz0
  rw [Tryz.params9] at hA hval hsz; obtain ⟨v0,vs0,d0,ds0,p0,q0,hargs,rfl,rfl,h0,r0⟩:=trodAll_cons hA; obtain ⟨v1,vs1,d1,ds1,p1,q1,rfl,rfl,rfl,h1,r1⟩:=trodAll_cons r0; obtain ⟨rfl,rfl,rfl⟩:=trodAll_nil r1
  obtain rfl:args = #[v0,v1]:=by cases args; simp_all
  obtain ⟨rfl,rfl⟩:=trodVars_none hV; have k0:=h0; have k1:=h1
  have lt0:∀ x ∈ p0,x.block < W.heap.size:=by obtain ⟨m,hm⟩:=k0; exact DataW.trod_lt m _ _ _ hm
  have lt1:∀ x ∈ p1,x.block < W.heap.size:=by obtain ⟨m,hm⟩:=k1; exact DataW.trod_lt m _ _ _ hm
  have big:∀ {j:Nat} {t:TypeId} {d:DataW H},([25,29] ++ Rows.venueOthersSpec.plain.varTypes Tryz.prog)[j]? = some t->([d0,d1] ++ [])[j]? = some d->∀ m,m ∈ d.weights Tryz.prog t->m<=reachBytes:=fun ht hd m hm=>by
    have:=List.all_eq_true.1 hsz m (DataW.weights_mem_each ht hd m hm)
    simpa using this
  obtain ⟨s,hs⟩:=venue_read (hval 0 25 v0 rfl rfl) h0 (big (j:=0) rfl rfl); obtain ⟨c,rfl⟩:=cmd_read (hval 1 29 v1 rfl rfl) h1; clear hA0 hval0 big
  refine (law_others v0 s c W hs hLd).mono fun e W' ⟨he,bel⟩=>?_
  subst he
  exact ⟨_,rfl,_,_,_,[],_,[],hW',trodAll_mk1 (shut_bool Tryz.underlying4 _),(trodAll_cons_mk (Below.trod laidOut (by kernel_rfl) (of_decide_eq_true (by kernel_rfl)) k0 bel lt0) (trodAll_cons_mk (Below.trod laidOut (by kernel_rfl) (of_decide_eq_true (by kernel_rfl)) k1 bel lt1) trodAll_mk0)),rfl,bel.frame _,fun h=>by cases h⟩
theorem over:Rows.VenueOthersSaid :=
  OpenClaim.holds_of_wide 9 Tryz.f9 rfl rfl rfl rfl rfl rfl rfl ⟨rfl,rfl,rfl,rfl,rfl⟩ rfl rfl rfl rfl rfl (by kernel_rfl) Tryz.func9 (by kernel_rfl)
    (of_decide_eq_true (by kernel_rfl)) (by unfold Func.isWrapper; first | (rw [if_pos (by decide +kernel)]; kernel_rfl) | (rw [if_neg (by decide +kernel)]; exact ⟨rfl,rfl⟩))
    (fun os started H enc _=>lifted os started H enc)
theorem card:Rows.VenueOthersCardSaid :=
  Claim7.holds_tied_plain_at .later [] [.data] true (true, "282d2aec10900769c483711ccf7034c4226bb8f84f208cece23444b1ce27ece2") false
    over (fun _ h=>by cases h) (by kernel_rfl) (fun _ h=>by cases h) venueOthers_row_tie rfl ⟨rfl,rfl⟩ (by kernel_rfl) rfl
    (fun f fn hf hfn=>by
      obtain rfl : f = 9 := Option.some.inj ((show Tryz.prog.funcNamed "tollbooth/tollboothlaw.VenueOthers" = some 9 by kernel_rfl).symm.trans hf) |>.symm
      obtain rfl:fn=Tryz.f9:=(Option.some.inj (Tryz.func9.symm.trans hfn)).symm
      exact ⟨by kernel_rfl,fun j t ht=>by
        rw [Tryz.params9] at ht
        rcases j with _ | _ | j
        · obtain rfl:t=25:=by simpa using ht.symm
          exact (show Tryz.prog.wantsStandIn 25=false by kernel_rfl)
        · obtain rfl:t=29:=by simpa using ht.symm
          exact (show Tryz.prog.wantsStandIn 29=false by kernel_rfl)
        · simp at ht⟩)
    (by kernel_rfl)
end Go.Proofs.YtpkbiafhnflmnaaGreatDoor.venueOthers
namespace Go.Proofs.YtpkbiafhnflmnaaGreatDoor
theorem venueOthers_holds:Rows.VenueOthersCardSaid:=venueOthers.card
#print axioms venueOthers_holds
end Go.Proofs.YtpkbiafhnflmnaaGreatDoor
