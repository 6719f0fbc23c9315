/-
  VenueKeeps, walked.
-/
import Derived.Test.YtpkbiafhnflmnaaGreatDoorK46
namespace Go.Proofs.YtpkbiafhnflmnaaGreatDoor.Vn
open Go.RowKit Go.Proofs.YtpkbiafhnflmnaaGreatDoor.Num Go.Proofs.YtpkbiafhnflmnaaGreatDoor.Fix Go.Proofs.YtpkbiafhnflmnaaGreatDoor.AcP Go.Proofs.YtpkbiafhnflmnaaGreatDoor.FuP Go.Proofs.YtpkbiafhnflmnaaGreatDoor.Bk Go.Proofs.YtpkbiafhnflmnaaGreatDoor.Rm Go.Proofs.YtpkbiafhnflmnaaGreatDoor.Ac Go.Sort Go.Maps Go.Proofs.YtpkbiafhnflmnaaGreatDoor.Mix Go.Proofs.YtpkbiafhnflmnaaGreatDoor.RkP
/-- what is so behind a Do of a right venue. -/
structure DoF (s T:Tn):Prop where
  str:Str T
  sums:Sums T
  n1:s.next<=T.next
  n2:T.next<=s.next + 1
  inn:s.inn<=T.inn
  out:s.out<=T.out
  rej:rejectedL T.evs=true->s.accs=T.accs /\ s.mkts=T.mkts /\ s.ins=T.ins /\ s.res=T.res /\ s.next=T.next /\ s.inn=T.inn /\ s.out=T.out
theorem do_facts {s:Tn} (c:Cm) (h:checkE s=0):DoF s (doR s c).1:=by
  obtain ⟨hs,hS⟩:=checkE_zero.1 h; obtain ⟨-,-,⟨t,h1,h2,h3⟩ | ⟨e,h1,h2⟩⟩:=do_cases c h
  · rw [h2]
    have K:=(turn_keeps h1 (str_evs hs []) (sums_evs hS [])).1
    exact ⟨K.str,K.sums,K.next.1,K.next.2,K.inn,K.out,fun hr=>by rw [rejected_no h3] at hr; cases hr⟩
  · rw [h2]
    exact ⟨str_evs hs _,sums_evs hS _,Int.le_refl _,by show s.next<=s.next + 1; omega,Int.le_refl _,Int.le_refl _,fun _=>⟨rfl,rfl,rfl,rfl,rfl,rfl,rfl⟩⟩
theorem sumBal_take {l:List Acc} {k:Nat} (h:k < l.length):sumBal (l.take (k + 1))=sumBal (l.take k) + (l[k]'h).2.1:=by
  unfold sumBal; rw [List.take_succ_eq_append_getElem h,List.map_append,List.sum_append]; simp
theorem sumPos_take {l:List Acc} {j k:Nat} (h:k < l.length):sumPos j (l.take (k + 1))=sumPos j (l.take k) + posAt (l[k]'h) j:=by
  unfold sumPos; rw [List.take_succ_eq_append_getElem h,List.map_append,List.sum_append]; simp
theorem sumBal_bd:∀ (l:List Acc),(∀ a,a ∈ l->money a.2.1=true)->-(1000000000000 * (l.length:Int))<=sumBal l /\ sumBal l<=1000000000000 * (l.length:Int)
  | [],_=>by simp [sumBal]
  | a :: l,h=>by
    have h1:=money_true (h a (by simp))
    have h2:=sumBal_bd l (fun x hx=>h x (by simp [hx]))
    have h3:sumBal (a :: l)=a.2.1 + sumBal l:=by simp [sumBal]
    rw [h3,List.length_cons]
    omega
theorem sumPos_bd (j:Nat):∀ (l:List Acc),(∀ a,a ∈ l->-1000<=posAt a j /\ posAt a j<=1000)->-(1000 * (l.length:Int))<=sumPos j l /\ sumPos j l<=1000 * (l.length:Int)
  | [],_=>by simp [sumPos]
  | a :: l,h=>by
    have h1:=h a (by simp)
    have h2:=sumPos_bd j l (fun x hx=>h x (by simp [hx]))
    have h3:sumPos j (a :: l)=posAt a j + sumPos j l:=by simp [sumPos]
    rw [h3,List.length_cons]
    omega
set_option maxHeartbeats 8000000 in
set_option maxRecDepth 100000 in
theorem keeps_any (v:Value) (s:Tn) (c:Cm) (w:World) (h:VIn w v s) (hL:Rk.Laid w) :
    Calls Tryz.prog 3 #[v,cmV c] w fun e w'=>e=.returned (.bool true) /\ Below w.heap.size w w':=by
  obtain ⟨p,n1,cc,p',n2,cc',hv⟩:=vnew_is h; subst hv; obtain ⟨W,hW⟩:∃ W,W=(w.alloc (.cells #[.slice p n1 cc,.slice p' n2 cc',.int .i64 s.ins,.int .i64 s.res,.int .i64 s.next,.int .i64 s.inn,.int .i64 s.out] 25)).alloc (cmO c):=⟨_,rfl⟩
  have b0:Below w.heap.size w W:=by rw [hW]; exact ((Below.refl _ w).alloc (Nat.le_refl _) _).alloc (by simp) _
  have E0:Hid (W.heap[w.heap.size]? = some (venO (.slice p n1 cc) (.slice p' n2 cc') s)):=by
    show W.heap[w.heap.size]? = _
    rw [hW]; exact blk_below (heap_alloc_new w _) (Ac.below_alloc _ _)
  have E1:Hid (W.heap[w.heap.size + 1]? = some (cmO c)):=by
    show W.heap[w.heap.size + 1]? = _
    rw [hW]
    have hx:(w.alloc (.cells #[.slice p n1 cc,.slice p' n2 cc',.int .i64 s.ins,.int .i64 s.res,.int .i64 s.next,.int .i64 s.inn,.int .i64 s.out] 25)).heap.size=w.heap.size + 1:=by simp
    have:=heap_alloc_new (w.alloc (.cells #[.slice p n1 cc,.slice p' n2 cc',.int .i64 s.ins,.int .i64 s.res,.int .i64 s.next,.int .i64 s.inn,.int .i64 s.out] 25)) (cmO c); rw [hx] at this; exact this
  have DO:=hide (venue_do _ s c W (h.below b0) (hL.next b0)); have VI:=hide h; have LD:=hide hL; have HW:=hide hW; have BW:=hide b0; clear hW b0 h hL; obtain ⟨a0,a1,a2,a3,a4,a5,a6⟩:=ven_cells E0.out; have d0:=(blk_cell E1.out 0).1; have d1:=(blk_cell E1.out 1).1; have d2:=(blk_cell E1.out 2).1; have d3:=(blk_cell E1.out 3).1; have d4:=(blk_cell E1.out 4).1; have d5:=(blk_cell E1.out 5).1; have d6:=(blk_cell E1.out 6).1; have d7:=(blk_cell E1.out 7).1; have d8:=(blk_cell E1.out 8).1; have d9:=(blk_cell E1.out 9).1; have d10:=(blk_cell E1.out 10).1
  simp only [List.getElem?_toArray,List.getElem?_cons_zero,List.getElem?_cons_succ] at d0 d1 d2 d3 d4 d5 d6 d7 d8 d9 d10
  go_enter Tryz.func3,Tryz.ntmps3
  go_wp2_with (rw [<- HW.out])
  refine DO.out.mono ?_
  rintro e X ⟨v',ev,rfl,hbX,hvX,heX⟩
  obtain ⟨q,m1,dd,q',m2,dd',rfl⟩:=vnew_is hvX; obtain ⟨X1,hX1⟩:∃ X1,X1=X.alloc (.cells #[.slice q m1 dd,.slice q' m2 dd',.int .i64 (doR s c).1.ins,.int .i64 (doR s c).1.res,.int .i64 (doR s c).1.next,.int .i64 (doR s c).1.inn,.int .i64 (doR s c).1.out] 25):=⟨_,rfl⟩
  have hb1:Below X.heap.size X X1:=by rw [hX1]; exact Ac.below_alloc _ _
  have BX1:=hide ((BW.out.trans (hbX.mono BW.out.size)).trans (hb1.mono (Nat.le_trans BW.out.size hbX.size))); have F0:=hide (blk_below (blk_below E0.out hbX) hb1)
  have F1:Hid (X1.heap[X.heap.size]? = some (venO (.slice q m1 dd) (.slice q' m2 dd') (doR s c).1)):=by show X1.heap[X.heap.size]? = _; rw [hX1]; exact heap_alloc_new X _
  have VX:=hide ((hvX.below hb1).mono (Nat.zero_le _)); have EX:=hide ((heX.below hb1).mono (Nat.zero_le _)); have OP:=hide (opened_any X1 (LD.out.next BX1.out)); have HX1:=hide hX1
  obtain ⟨pe,ce,rfl⟩:∃ p c',ev=.slice p (doR s c).1.evs.length c':=by obtain ⟨q,c',e,-⟩:=heX; exact ⟨q,c',e⟩
  clear hX1 hb1 hvX heX hbX DO HW E0 E1 a0 a1 a2 a3 a4 a5 a6 d0 d1 d2 d3 d4 d5 d6 d7 d8 d9 d10
  by_cases hce:checkE s=0
  · obtain ⟨z1,z2,-⟩:=do_cases c hce
    have DF:=do_facts c hce; rw [z1]; obtain ⟨T,hT⟩:∃ T,T=(doR s c).1:=⟨_,rfl⟩; rw [<- hT] at HX1 F1 VX EX z2 DF ⊢; clear hT z1 hce
    go_wp2_with (rw [<- HX1.out])
    refine OP.out.mono ?_
    rintro e Y ⟨rfl,hbY⟩
    have BY:=hide (BX1.out.trans (hbY.mono BX1.out.size)); have Y0:=hide (blk_below F0.out hbY); have Y1:=hide (blk_below F1.out hbY); have VY:=hide (VX.out.below hbY); have EY:=hide (EX.out.below hbY); have VS:=hide (VI.out.below BY.out); have CH:=hide (vin_check _ T Y VY.out); rw [z2] at CH; clear OP HX1 hbY F0 F1 VX EX VI BX1; have nx:=DF.str.nx; have x1:=DF.n1; have x2:=DF.n2; have x3:=DF.inn; have x4:=DF.out; obtain ⟨a0,a1,a2,a3,a4,a5,a6⟩:=ven_cells Y0.out; obtain ⟨b0,b1,b2,b3,b4,b5,b6⟩:=ven_cells Y1.out
    go_wp2_with fail
    refine CH.out.mono ?_
    rintro e Z ⟨rfl,hbZ⟩
    have BZ:=hide (BY.out.trans (hbZ.mono BY.out.size)); have Z0:=hide (blk_below Y0.out hbZ); have Z1:=hide (blk_below Y1.out hbZ); have VZ:=hide (VY.out.below hbZ); have EZ:=hide (EY.out.below hbZ); have VSZ:=hide (VS.out.below hbZ); have RJ:=hide (rejected_any _ _ Z EZ.out)
    have f1:¬ T.next < s.next:=by omega
    have f2:¬ s.next + 1 < T.next:=by omega
    have f3:¬ T.inn < s.inn:=by omega
    have f4:¬ T.out < s.out:=by omega
    have hnx:0<=s.next /\ s.next<=100000:=by omega
    clear CH hbZ Y0 Y1 VY EY VS BY a0 a1 a2 a3 a4 a5 a6 b0 b1 b2 b3 b4 b5 b6; obtain ⟨a0,a1,a2,a3,a4,a5,a6⟩:=ven_cells Z0.out; obtain ⟨b0,b1,b2,b3,b4,b5,b6⟩:=ven_cells Z1.out
    go_wp2_with fail
    refine RJ.out.mono ?_
    rintro e Z' ⟨rfl,hZ'⟩
    rw [hZ']; clear hZ' RJ; cases hrj:rejectedL T.evs
    · clear a0 a1 a2 a3 a4 a5 a6 b0 b1 b2 b3 b4 b5 b6 VSZ EZ Z0
      obtain ⟨q0,q0',g0,g0',A,M,e,-,-,vr,-⟩:=VZ.out; simp only [Value.agg.injEq,Array.mk.injEq,List.cons.injEq,Value.slice.injEq,and_true] at e; obtain ⟨⟨rfl,rfl,rfl⟩,⟨rfl,rfl,rfl⟩⟩:=e
      have hAl:A.length=T.accs.length:=by rw [<- vr.accs]; simp
      have hMl:M.length=T.mkts.length:=by rw [<- vr.mkts]; simp
      have hA8:A.length<=8:=by rw [hAl]; exact DF.str.few
      have hM2:M.length<=2:=by rw [hMl]; exact DF.str.m2
      obtain ⟨n,hn⟩:∃ n,n=A.length:=⟨_,rfl⟩; obtain ⟨m,hm⟩:∃ m,m=M.length:=⟨_,rfl⟩; rw [<- hn] at hA8; rw [<- hm] at hM2
      have hbal:∀ a,a ∈ T.accs->money a.2.1=true:=fun a ha=>(accErr_ok (DF.str.acc a ha)).2.2.2.1
      have hpos:∀ a,a ∈ T.accs->∀ j,-1000<=posAt a j /\ posAt a j<=1000:=fun a ha j=>by
        have:=(accErr_ok (DF.str.acc a ha)).2.2.2.2; unfold posAt
        rw [List.getD_eq_getElem?_getD]
        cases hx:a.2.2[j]? with
        | none=>simp
        | some x =>
          have:=List.all_eq_true.1 this x (List.mem_of_getElem? hx); have:=betw_true this
          simpa using this
      have SB:Hid (∀ k,k<=n->-8000000000000<=sumBal (T.accs.take k) /\ sumBal (T.accs.take k)<=8000000000000):=fun k hk=>by
        have:=sumBal_bd (T.accs.take k) (fun a ha=>hbal a (List.mem_of_mem_take ha))
        have h2:((T.accs.take k).length:Int)<=8:=by simp; omega
        omega
      have SP:Hid (∀ j k,k<=n->-8000<=sumPos j (T.accs.take k) /\ sumPos j (T.accs.take k)<=8000):=fun j k hk=>by
        have:=sumPos_bd j (T.accs.take k) (fun a ha=>hpos a (List.mem_of_mem_take ha) j)
        have h2:((T.accs.take k).length:Int)<=8:=by simp; omega
        omega
      have ins:=DF.str.ins; have res:=DF.str.res; have inn:=DF.str.inn; have out:=DF.str.out; have HBAL:=hide hbal; have HPOS:=hide hpos; have HAL:=hide (hn.trans hAl); have HML:=hide (hm.trans hMl); have HN:=hide hn; have HM:=hide hm; have VR:=hide vr; have HDF:=hide DF; have SUMS:Hid (T.ins + T.res + sumBal T.accs=T.inn - T.out):=DF.sums.bal; have SUMP:Hid (∀ k,sumPos k T.accs=0):=DF.sums.pos; unfold rng at ins res inn out; obtain ⟨ins1,ins2⟩:=ins; obtain ⟨res1,res2⟩:=res; obtain ⟨inn1,inn2⟩:=inn; obtain ⟨out1,out2⟩:=out; rw [<- hn,<- hm] at Z1; rw [<- hn,<- hm]; clear hbal hpos hn hm hAl hMl vr DF; obtain ⟨b0,b1,b2,b3,b4,b5,b6⟩:=ven_cells Z1.out
      go_wp2_with fail
      go_loopw [8,79] (fun a i wr=>∃ (k:Nat) (x:Int),k<=n /\ i=.int .i64 k /\ a=.int .i64 x /\ -20000000000000<=x /\ x<=20000000000000 /\ Hid (x=T.ins + T.res + sumBal (T.accs.take k) /\ Below Z.heap.size Z wr)) (fun _ i _=>n - (intOf i).toNat)
      case atStart =>
        exact ⟨0,T.ins + T.res,Nat.zero_le _,rfl,by go_num,by omega,by omega,by simp [sumBal],Below.refl _ _⟩
      case round =>
        obtain ⟨k,x,hk,rfl,rfl,hx1,hx2,I⟩:=hrel
        by_cases hlt:k < n
        · have hltz:(k:Int) < (n:Int):=by omega
          have hkA:k < A.length:=by rw [<- HN.out]; exact hlt
          have hkT:k < T.accs.length:=by rw [<- HAL.out]; exact hlt
          obtain ⟨b,off,rfl,hc⟩:∃ b off,q=some ⟨b,off,none⟩ /\ ∀ j u,(A.flatMap encA)[j]? = some u->wr.cell? ⟨b,off + j,none⟩ = some u:=by
            rcases arow_below VR.out.rowA I.out.2 with e | e
            · rw [e] at hkA; simp at hkA
            · exact e
          obtain ⟨c0,c1,c2⟩:=arow_cells hc hkA
          have hak:(A[k]'hkA).bal=(T.accs[k]'hkT).2.1:=by
            have:=congrArg (fun l=>l[k]?) VR.out.accs
            simp only [List.getElem?_map,List.getElem?_eq_getElem hkA,List.getElem?_eq_getElem hkT,Option.map_some,Option.some.injEq] at this
            rw [<- this]
            rfl
          have hbb:=money_true (HBAL.out _ (List.getElem_mem hkT)); have hst:=sumBal_take hkT; have hsb:=SB.out (k + 1) hlt; rw [<- hak] at hbb hst
          have NX:Hid (x + (A[k]'hkA).bal=T.ins + T.res + sumBal (T.accs.take (k + 1)) /\ -20000000000000<=x + (A[k]'hkA).bal /\ x + (A[k]'hkA).bal<=20000000000000):=by
            have:=I.out.1
            refine ⟨by rw [hst]; omega,?_,?_⟩ <;> rw [hst] at hsb <;> omega
          have BI:=hide I.out.2; generalize (A[k]'hkA).id=z1 at *; generalize (A[k]'hkA).bal=z2 at *; generalize (A[k]'hkA).p=z3 at *; generalize (A[k]'hkA).n=z4 at *; generalize (A[k]'hkA).c=z5 at *; clear hc hak hst hsb I
          go_wp2
          go_roundw
          case rel =>
            obtain ⟨e1,e2,e3⟩:=NX.out
            exact ⟨k + 1,x + z2,by omega,by go_num,by go_num,e2,e3,e1,BI.out.trans ((Ac.below_alloc _ _).mono BI.out.size)⟩
          case measure=>simp [intOf]; omega
        · obtain rfl:k=n:=by omega
          have hxe:x=T.inn - T.out:=by
            rw [I.out.1,List.take_of_length_le (by rw [HAL.out]; exact Nat.le_refl _)]
            exact SUMS.out
          subst hxe; have BI:=hide I.out.2; have y1:=(BI.out.cell (World.block_lt_of_cell? _ _ b1)).trans b1; have y5:=(BI.out.cell (World.block_lt_of_cell? _ _ b5)).trans b5; have y6:=(BI.out.cell (World.block_lt_of_cell? _ _ b6)).trans b6; clear I
          go_wp2_with fail
          obtain ⟨wo,hwo⟩:∃ wo,wo=wr:=⟨_,rfl⟩; subst hwo
          go_loopw [98] (fun i wr=>∃ (j:Nat),j<=m /\ i=.int .i64 j /\ Hid (Below Z.heap.size Z wr)) (fun i _=>m - (intOf i).toNat)
          case atStart=>exact ⟨0,Nat.zero_le _,rfl,BI⟩
          case round =>
            obtain ⟨j,hj,rfl,J⟩:=hrel
            by_cases hjt:j < m
            · have hjz:(j:Int) < (m:Int):=by omega
              have w0:=(J.out.cell (World.block_lt_of_cell? _ _ b0)).trans b0
              go_wp2_with fail
              obtain ⟨wp,hwp⟩:∃ wp,wp=wr:=⟨_,rfl⟩; subst hwp
              go_loopw [12,104] (fun a i wr=>∃ (l:Nat) (x:Int),l<=k /\ i=.int .i64 l /\ a=.int .i64 x /\ -8000<=x /\ x<=8000 /\ Hid (x=sumPos j (T.accs.take l) /\ Below Z.heap.size Z wr)) (fun _ i _=>k - (intOf i).toNat)
              case atStart=>exact ⟨0,0,Nat.zero_le _,rfl,rfl,by omega,by omega,by simp [sumPos],J.out⟩
              case round =>
                obtain ⟨l,x,hl,rfl,rfl,hx1,hx2,I⟩:=hrel
                by_cases hlt:l < k
                · have hltz:(l:Int) < (k:Int):=by omega
                  have hkA:l < A.length:=by rw [<- HN.out]; exact hlt
                  have hkT:l < T.accs.length:=by rw [<- HAL.out]; exact hlt
                  obtain ⟨b,off,rfl,hc⟩:∃ b off,q=some ⟨b,off,none⟩ /\ ∀ j u,(A.flatMap encA)[j]? = some u->wr.cell? ⟨b,off + j,none⟩ = some u:=by
                    rcases arow_below VR.out.rowA I.out.2 with e | e
                    · rw [e] at hkA; simp at hkA
                    · exact e
                  obtain ⟨c0,c1,c2⟩:=arow_cells hc hkA
                  have hak:(A[l]'hkA).acc=T.accs[l]'hkT:=by
                    have:=congrArg (fun z=>z[l]?) VR.out.accs
                    simp only [List.getElem?_map,List.getElem?_eq_getElem hkA,List.getElem?_eq_getElem hkT,Option.map_some,Option.some.injEq] at this
                    exact this
                  have hok:=(VR.out.eachA _ (List.getElem_mem hkA)).below I.out.2
                  have hpl:(A[l]'hkA).n=m:=by
                    have h1:=acc_len (HDF.out.str.acc _ (List.getElem_mem hkT)); rw [<- hak] at h1; have h2:(A[l]'hkA).acc.2.2=(A[l]'hkA).pos:=rfl; rw [h2] at h1; have h3:=hok.len; have h4:=HML.out
                    omega
                  obtain ⟨bp,op,hpp,hcp⟩:∃ bp op,(A[l]'hkA).p=some ⟨bp,op,none⟩ /\ wr.cell? ⟨bp,op + j,none⟩ = some (.int .i64 (posAt (T.accs[l]'hkT) j)):=by
                    have hjl:j < (A[l]'hkA).pos.length:=by rw [hok.len,hpl]; exact hjt
                    rcases hok.row with e | ⟨b,o,e,hcc⟩
                    · rw [e] at hjl; simp at hjl
                    · refine ⟨b,o,e,?_⟩
                      rw [hcc j hjl,<- hak]
                      rfl
                  have hst:=sumPos_take (j:=j) hkT; have hsb:=SP.out j (l + 1) hlt; have hpb:=HPOS.out _ (List.getElem_mem hkT) j; rw [hpp,hpl] at c2
                  have NX:Hid (x + posAt (T.accs[l]'hkT) j=sumPos j (T.accs.take (l + 1)) /\ -8000<=x + posAt (T.accs[l]'hkT) j /\ x + posAt (T.accs[l]'hkT) j<=8000):=by
                    have:=I.out.1
                    refine ⟨by rw [hst]; omega,?_,?_⟩ <;> rw [hst] at hsb <;> omega
                  obtain ⟨hpb1,hpb2⟩:=hpb; have BJ:=hide I.out.2; generalize posAt (T.accs[l]'hkT) j=pj at *; generalize (A[l]'hkA).id=z1 at *; generalize (A[l]'hkA).bal=z2 at *; generalize (A[l]'hkA).c=z5 at *
                  have hcp':=fun o=>cell_old hcp o
                  clear hc hak hst hsb I hok hpl hpp
                  go_wp2
                  go_roundw
                  case rel =>
                    obtain ⟨e1,e2,e3⟩:=NX.out
                    exact ⟨l + 1,x + pj,by omega,by go_num,by go_num,e2,e3,e1,BJ.out.trans ((Ac.below_alloc _ _).mono BJ.out.size)⟩
                  case measure=>simp [intOf]; omega
                · obtain rfl:l=k:=by omega
                  have hxe:x=0:=by
                    rw [I.out.1,List.take_of_length_le (by rw [HAL.out]; exact Nat.le_refl _)]
                    exact SUMP.out j
                  subst hxe; have BJ:=hide I.out.2; clear I
                  go_wp2
                  go_roundw
                  case rel=>exact ⟨j + 1,by omega,by go_num,BJ⟩
                  case measure=>simp [intOf]; omega
            · obtain rfl:j=m:=by omega
              go_wp2
              go_ret
              exact ⟨rfl,BZ.out.trans (J.out.mono BZ.out.size)⟩
    · obtain ⟨y1,y2,y3,y4,y5,y6,y7⟩:=DF.rej hrj
      have SM:=hide (venue_same _ _ s T Z VSZ.out VZ.out y1 y2 y3 y4 y5 y6 y7 (by rw [y1]; have:=DF.str.few; omega) (by rw [y2]; have:=DF.str.m2; omega))
      clear y1 y2 y3 y4 y5 y6 y7 hrj
      go_wp2_with fail
      refine SM.out.mono ?_
      rintro e Y ⟨rfl,hbY⟩
      have BY:=hide (BZ.out.trans (hbY.mono BZ.out.size)); have Y1:=hide (blk_below Z1.out hbY); have VY:=hide (VZ.out.below hbY); clear SM hbY BZ Z1 VZ EZ VSZ Z0 a0 a1 a2 a3 a4 a5 a6 b0 b1 b2 b3 b4 b5 b6; obtain ⟨q0,q0',g0,g0',A,M,e,-,-,vr,-⟩:=VY.out; simp only [Value.agg.injEq,Array.mk.injEq,List.cons.injEq,Value.slice.injEq,and_true] at e; obtain ⟨⟨rfl,rfl,rfl⟩,⟨rfl,rfl,rfl⟩⟩:=e
      have hAl:A.length=T.accs.length:=by rw [<- vr.accs]; simp
      have hMl:M.length=T.mkts.length:=by rw [<- vr.mkts]; simp
      have hA8:A.length<=8:=by rw [hAl]; exact DF.str.few
      have hM2:M.length<=2:=by rw [hMl]; exact DF.str.m2
      obtain ⟨n,hn⟩:∃ n,n=A.length:=⟨_,rfl⟩; obtain ⟨m,hm⟩:∃ m,m=M.length:=⟨_,rfl⟩; rw [<- hn] at hA8; rw [<- hm] at hM2
      have hbal:∀ a,a ∈ T.accs->money a.2.1=true:=fun a ha=>(accErr_ok (DF.str.acc a ha)).2.2.2.1
      have hpos:∀ a,a ∈ T.accs->∀ j,-1000<=posAt a j /\ posAt a j<=1000:=fun a ha j=>by
        have:=(accErr_ok (DF.str.acc a ha)).2.2.2.2; unfold posAt
        rw [List.getD_eq_getElem?_getD]
        cases hx:a.2.2[j]? with
        | none=>simp
        | some x =>
          have:=List.all_eq_true.1 this x (List.mem_of_getElem? hx); have:=betw_true this
          simpa using this
      have SB:Hid (∀ k,k<=n->-8000000000000<=sumBal (T.accs.take k) /\ sumBal (T.accs.take k)<=8000000000000):=fun k hk=>by
        have:=sumBal_bd (T.accs.take k) (fun a ha=>hbal a (List.mem_of_mem_take ha))
        have h2:((T.accs.take k).length:Int)<=8:=by simp; omega
        omega
      have SP:Hid (∀ j k,k<=n->-8000<=sumPos j (T.accs.take k) /\ sumPos j (T.accs.take k)<=8000):=fun j k hk=>by
        have:=sumPos_bd j (T.accs.take k) (fun a ha=>hpos a (List.mem_of_mem_take ha) j)
        have h2:((T.accs.take k).length:Int)<=8:=by simp; omega
        omega
      have ins:=DF.str.ins; have res:=DF.str.res; have inn:=DF.str.inn; have out:=DF.str.out; have HBAL:=hide hbal; have HPOS:=hide hpos; have HAL:=hide (hn.trans hAl); have HML:=hide (hm.trans hMl); have HN:=hide hn; have HM:=hide hm; have VR:=hide vr; have HDF:=hide DF; have SUMS:Hid (T.ins + T.res + sumBal T.accs=T.inn - T.out):=DF.sums.bal; have SUMP:Hid (∀ k,sumPos k T.accs=0):=DF.sums.pos; unfold rng at ins res inn out; obtain ⟨ins1,ins2⟩:=ins; obtain ⟨res1,res2⟩:=res; obtain ⟨inn1,inn2⟩:=inn; obtain ⟨out1,out2⟩:=out; rw [<- hn,<- hm] at Y1; rw [<- hn,<- hm]; clear hbal hpos hn hm hAl hMl vr DF; obtain ⟨b0,b1,b2,b3,b4,b5,b6⟩:=ven_cells Y1.out
      go_wp2_with fail
      go_loopw [8,79] (fun a i wr=>∃ (k:Nat) (x:Int),k<=n /\ i=.int .i64 k /\ a=.int .i64 x /\ -20000000000000<=x /\ x<=20000000000000 /\ Hid (x=T.ins + T.res + sumBal (T.accs.take k) /\ Below Y.heap.size Y wr)) (fun _ i _=>n - (intOf i).toNat)
      case atStart =>
        exact ⟨0,T.ins + T.res,Nat.zero_le _,rfl,by go_num,by omega,by omega,by simp [sumBal],Below.refl _ _⟩
      case round =>
        obtain ⟨k,x,hk,rfl,rfl,hx1,hx2,I⟩:=hrel
        by_cases hlt:k < n
        · have hltz:(k:Int) < (n:Int):=by omega
          have hkA:k < A.length:=by rw [<- HN.out]; exact hlt
          have hkT:k < T.accs.length:=by rw [<- HAL.out]; exact hlt
          obtain ⟨b,off,rfl,hc⟩:∃ b off,q=some ⟨b,off,none⟩ /\ ∀ j u,(A.flatMap encA)[j]? = some u->wr.cell? ⟨b,off + j,none⟩ = some u:=by
            rcases arow_below VR.out.rowA I.out.2 with e | e
            · rw [e] at hkA; simp at hkA
            · exact e
          obtain ⟨c0,c1,c2⟩:=arow_cells hc hkA
          have hak:(A[k]'hkA).bal=(T.accs[k]'hkT).2.1:=by
            have:=congrArg (fun l=>l[k]?) VR.out.accs
            simp only [List.getElem?_map,List.getElem?_eq_getElem hkA,List.getElem?_eq_getElem hkT,Option.map_some,Option.some.injEq] at this
            rw [<- this]
            rfl
          have hbb:=money_true (HBAL.out _ (List.getElem_mem hkT)); have hst:=sumBal_take hkT; have hsb:=SB.out (k + 1) hlt; rw [<- hak] at hbb hst
          have NX:Hid (x + (A[k]'hkA).bal=T.ins + T.res + sumBal (T.accs.take (k + 1)) /\ -20000000000000<=x + (A[k]'hkA).bal /\ x + (A[k]'hkA).bal<=20000000000000):=by
            have:=I.out.1
            refine ⟨by rw [hst]; omega,?_,?_⟩ <;> rw [hst] at hsb <;> omega
          have BI:=hide I.out.2; generalize (A[k]'hkA).id=z1 at *; generalize (A[k]'hkA).bal=z2 at *; generalize (A[k]'hkA).p=z3 at *; generalize (A[k]'hkA).n=z4 at *; generalize (A[k]'hkA).c=z5 at *; clear hc hak hst hsb I
          go_wp2
          go_roundw
          case rel =>
            obtain ⟨e1,e2,e3⟩:=NX.out
            exact ⟨k + 1,x + z2,by omega,by go_num,by go_num,e2,e3,e1,BI.out.trans ((Ac.below_alloc _ _).mono BI.out.size)⟩
          case measure=>simp [intOf]; omega
        · obtain rfl:k=n:=by omega
          have hxe:x=T.inn - T.out:=by
            rw [I.out.1,List.take_of_length_le (by rw [HAL.out]; exact Nat.le_refl _)]
            exact SUMS.out
          subst hxe; have BI:=hide I.out.2; have y1:=(BI.out.cell (World.block_lt_of_cell? _ _ b1)).trans b1; have y5:=(BI.out.cell (World.block_lt_of_cell? _ _ b5)).trans b5; have y6:=(BI.out.cell (World.block_lt_of_cell? _ _ b6)).trans b6; clear I
          go_wp2_with fail
          obtain ⟨wo,hwo⟩:∃ wo,wo=wr:=⟨_,rfl⟩; subst hwo
          go_loopw [98] (fun i wr=>∃ (j:Nat),j<=m /\ i=.int .i64 j /\ Hid (Below Y.heap.size Y wr)) (fun i _=>m - (intOf i).toNat)
          case atStart=>exact ⟨0,Nat.zero_le _,rfl,BI⟩
          case round =>
            obtain ⟨j,hj,rfl,J⟩:=hrel
            by_cases hjt:j < m
            · have hjz:(j:Int) < (m:Int):=by omega
              have w0:=(J.out.cell (World.block_lt_of_cell? _ _ b0)).trans b0
              go_wp2_with fail
              obtain ⟨wp,hwp⟩:∃ wp,wp=wr:=⟨_,rfl⟩; subst hwp
              go_loopw [12,104] (fun a i wr=>∃ (l:Nat) (x:Int),l<=k /\ i=.int .i64 l /\ a=.int .i64 x /\ -8000<=x /\ x<=8000 /\ Hid (x=sumPos j (T.accs.take l) /\ Below Y.heap.size Y wr)) (fun _ i _=>k - (intOf i).toNat)
              case atStart=>exact ⟨0,0,Nat.zero_le _,rfl,rfl,by omega,by omega,by simp [sumPos],J.out⟩
              case round =>
                obtain ⟨l,x,hl,rfl,rfl,hx1,hx2,I⟩:=hrel
                by_cases hlt:l < k
                · have hltz:(l:Int) < (k:Int):=by omega
                  have hkA:l < A.length:=by rw [<- HN.out]; exact hlt
                  have hkT:l < T.accs.length:=by rw [<- HAL.out]; exact hlt
                  obtain ⟨b,off,rfl,hc⟩:∃ b off,q=some ⟨b,off,none⟩ /\ ∀ j u,(A.flatMap encA)[j]? = some u->wr.cell? ⟨b,off + j,none⟩ = some u:=by
                    rcases arow_below VR.out.rowA I.out.2 with e | e
                    · rw [e] at hkA; simp at hkA
                    · exact e
                  obtain ⟨c0,c1,c2⟩:=arow_cells hc hkA
                  have hak:(A[l]'hkA).acc=T.accs[l]'hkT:=by
                    have:=congrArg (fun z=>z[l]?) VR.out.accs
                    simp only [List.getElem?_map,List.getElem?_eq_getElem hkA,List.getElem?_eq_getElem hkT,Option.map_some,Option.some.injEq] at this
                    exact this
                  have hok:=(VR.out.eachA _ (List.getElem_mem hkA)).below I.out.2
                  have hpl:(A[l]'hkA).n=m:=by
                    have h1:=acc_len (HDF.out.str.acc _ (List.getElem_mem hkT)); rw [<- hak] at h1; have h2:(A[l]'hkA).acc.2.2=(A[l]'hkA).pos:=rfl; rw [h2] at h1; have h3:=hok.len; have h4:=HML.out
                    omega
                  obtain ⟨bp,op,hpp,hcp⟩:∃ bp op,(A[l]'hkA).p=some ⟨bp,op,none⟩ /\ wr.cell? ⟨bp,op + j,none⟩ = some (.int .i64 (posAt (T.accs[l]'hkT) j)):=by
                    have hjl:j < (A[l]'hkA).pos.length:=by rw [hok.len,hpl]; exact hjt
                    rcases hok.row with e | ⟨b,o,e,hcc⟩
                    · rw [e] at hjl; simp at hjl
                    · refine ⟨b,o,e,?_⟩
                      rw [hcc j hjl,<- hak]
                      rfl
                  have hst:=sumPos_take (j:=j) hkT; have hsb:=SP.out j (l + 1) hlt; have hpb:=HPOS.out _ (List.getElem_mem hkT) j; rw [hpp,hpl] at c2
                  have NX:Hid (x + posAt (T.accs[l]'hkT) j=sumPos j (T.accs.take (l + 1)) /\ -8000<=x + posAt (T.accs[l]'hkT) j /\ x + posAt (T.accs[l]'hkT) j<=8000):=by
                    have:=I.out.1
                    refine ⟨by rw [hst]; omega,?_,?_⟩ <;> rw [hst] at hsb <;> omega
                  obtain ⟨hpb1,hpb2⟩:=hpb; have BJ:=hide I.out.2; generalize posAt (T.accs[l]'hkT) j=pj at *; generalize (A[l]'hkA).id=z1 at *; generalize (A[l]'hkA).bal=z2 at *; generalize (A[l]'hkA).c=z5 at *
                  have hcp':=fun o=>cell_old hcp o
                  clear hc hak hst hsb I hok hpl hpp
                  go_wp2
                  go_roundw
                  case rel =>
                    obtain ⟨e1,e2,e3⟩:=NX.out
                    exact ⟨l + 1,x + pj,by omega,by go_num,by go_num,e2,e3,e1,BJ.out.trans ((Ac.below_alloc _ _).mono BJ.out.size)⟩
                  case measure=>simp [intOf]; omega
                · obtain rfl:l=k:=by omega
                  have hxe:x=0:=by
                    rw [I.out.1,List.take_of_length_le (by rw [HAL.out]; exact Nat.le_refl _)]
                    exact SUMP.out j
                  subst hxe; have BJ:=hide I.out.2; clear I
                  go_wp2
                  go_roundw
                  case rel=>exact ⟨j + 1,by omega,by go_num,BJ⟩
                  case measure=>simp [intOf]; omega
            · obtain rfl:j=m:=by omega
              go_wp2
              go_ret
              exact ⟨rfl,BY.out.trans (J.out.mono BY.out.size)⟩
  · have HR:(doR s c).2=checkE s:=by rw [do_bad c hce]
    rw [HR]; obtain ⟨r,hr⟩:∃ r,r=checkE s:=⟨_,rfl⟩; rw [<- hr] at hce ⊢; obtain ⟨T,hT⟩:∃ T,T=(doR s c).1:=⟨_,rfl⟩; rw [<- hT] at HX1 ⊢; clear hT hr HR F0 F1 VX EX VI; have LX:=hide (LD.out.next BX1.out)
    go_wp2_with (rw [<- HX1.out])
    refine OP.out.mono ?_
    rintro e Y ⟨rfl,hbY⟩
    have BY:=hide (BX1.out.trans (hbY.mono BX1.out.size)); have OP2:=hide (opened_any Y (LX.out.next hbY)); clear OP HX1 hbY LX BX1
    go_wp2_with fail
    refine OP2.out.mono ?_
    rintro e Z ⟨rfl,hbZ⟩
    have BZ:=hide (BY.out.trans (hbZ.mono BY.out.size)); clear OP2 hbZ BY
    go_wp2
    go_ret
    exact ⟨rfl,BZ.out⟩
end Go.Proofs.YtpkbiafhnflmnaaGreatDoor.Vn
