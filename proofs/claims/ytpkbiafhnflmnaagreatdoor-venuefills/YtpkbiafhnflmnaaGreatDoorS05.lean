/-
  Package account by contracts: Fee; the closed fact of chapter 4.
-/
import Derived.Test.YtpkbiafhnflmnaaGreatDoorS04
import Derived.BigQuiet
namespace Go.Proofs.YtpkbiafhnflmnaaGreatDoor.Ac
open Go.RowKit Go.Proofs.YtpkbiafhnflmnaaGreatDoor.Num Go.Proofs.YtpkbiafhnflmnaaGreatDoor.Fix Go.Proofs.YtpkbiafhnflmnaaGreatDoor.AcP
/-- what is left to reckon: so many amounts are there, these positions and marks are left. -/
def eqFrom (L ps ms:List Int):Int × Int :=
 match worths ps ms with
 |none=>(0,3)
 |some l=>addFrom 0 (L ++ l)
theorem eqFrom_on {L ps ms:List Int} {p m:Int} (hp:betw (-1000) p 1000=true) (hm:betw 0 m 10000=true):eqFrom L (p :: ps) (m :: ms)=eqFrom (L ++ [p * m]) ps ms:=by
 unfold eqFrom; simp only [worths,hp,hm,and_self,if_true]
 cases worths ps ms with
 |none=>rfl
 |some l=>simp
theorem eqFrom_bad {L ps ms:List Int} {p m:Int} (h:betw (-1000) p 1000=false \/ betw 0 m 10000=false):eqFrom L (p :: ps) (m :: ms)=(0,3):=by
 unfold eqFrom; simp only [worths]
 rcases h with h | h <;> simp [h]
theorem eqFrom_end {L ms:List Int}:eqFrom L [] ms=addFrom 0 L:=by
 unfold eqFrom; simp [worths]
theorem cell_grown {w w':World} {v:Value} {B:Nat} {e:TypeId} {size n:Nat} {xs:List Value} (h:w.ownsRow B e size v n xs) (hg:w.grownBy w' v.ownBlock) {a:Addr} {u:Value} (hc:w.cell? a=some u) (hB:a.block < B):w'.cell? a=some u :=
 hg.cell hc (fun he=>by have:=(h.lt _ he.symm).1; omega)
theorem one_new (w:World) (n:Int) (j:Nat) (u:Value) (h:[Value.int .i64 n][j]? = some u):(w.alloc (.cells #[.int .i64 n] 3)).cell? ((⟨w.heap.size,0,none⟩:Addr).add j)=some u:=by
 match j,h with
 |0,h =>
  rw [show ((⟨w.heap.size,0,none⟩:Addr).add 0) = ⟨w.heap.size,0,none⟩ from rfl,World.cell?_alloc_at _ _ _ _ (by simp)]
  simpa using h
 |k + 1,h=>simp at h
theorem one_cell (n:Int):∀ u ∈ [Value.int .i64 n],u.oneCell'=true:=by
 intro u hu
 simp at hu; subst hu
 rfl
theorem new_cell (w:World) (cs:Array Value) (t:TypeId) (i:Nat) (v:Value) (h:cs[i]? = some v):(w.alloc (.cells cs t)).cell? ⟨w.heap.size,i,none⟩ = some v:=by
 rw [World.cell?_alloc_at _ _ _ _ (by simp)]
 exact h
set_option maxHeartbeats 2000000 in
set_option maxRecDepth 100000 in
theorem equity_in (id bal:Int) (b off b2 off2:Nat) (n c c2:Nat) (pos marks:List Int) (w:World) (hl:pos.length=n) (hl2:marks.length=n) (hn:n<=2)
  (h:∀ i,i < pos.length->w.cell? ⟨b,off + i,none⟩ = some (.int .i64 (pos.getD i 0))) (h':∀ i,i < marks.length->w.cell? ⟨b2,off2 + i,none⟩ = some (.int .i64 (marks.getD i 0))) (he:accErr id bal pos n=0) :
  Calls Tryz.prog 65 #[accV id bal (some ⟨b,off,none⟩) n c,.slice (some ⟨b2,off2,none⟩) n c2] w fun e w'=>e=.returned (.tuple #[.int .i64 (eqFrom [bal] pos marks).1,.int .i64 (eqFrom [bal] pos marks).2]) /\ Below w.heap.size w w':=by
 obtain ⟨i0,hi,hz0,hz1,hz2⟩:=info_parts (show (Tryz.prog.info? 3).map (fun i=>(i.zero,i.size,i.bytes))=some (some (.int .i64 0),1,8) by kernel_rfl)
 have CK:=hide (fun W hW=>check_any id bal (some ⟨b,off,none⟩) n c pos n W hl (by omega) (row_below (.inr ⟨b,off,rfl,h⟩) hW))
 rw [he] at CK; clear he; generalize hT:eqFrom [bal] pos marks=T; have T0:Hid (eqFrom [bal] (pos.drop 0) (marks.drop 0)=T):=hT; have HC:=hide h; have HC2:=hide h'; have HL:=hide hl; have HL2:=hide hl2; clear h h' hT hl hl2
 go_enter Tryz.func65,Tryz.ntmps65
 go_wp2_with fail
 refine (CK.out _ (below_alloc w _)).mono ?_
 rintro e W ⟨rfl,rfl⟩
 go_wp2
 go_loopw [7,24] (fun v i wr=>∃ (k:Nat) (L:List Int),k<=n /\ i=.int .i64 k /\ Hid (wr.ownsRow (w.heap.size + 2) 3 1 v (k + 1) (L.map (Value.int .i64))) /\ Hid (Below w.heap.size w wr) /\ wr.cell? ⟨w.heap.size,2,none⟩ = some (.slice (some ⟨b,off,none⟩) n c) /\ Hid (w.heap.size + 2<=wr.heap.size) /\ Hid (eqFrom L (pos.drop k) (marks.drop k)=T)) (fun _ i _=>n - (intOf i).toNat)
 case atStart =>
  refine ⟨0,[bal],Nat.zero_le _,rfl,?_,below3 _ _ _ _,?_,?_,T0⟩
  ·have:=World.ownsRow_lit (base:=w.heap.size + 2) (e:=3) (size:=1) ((w.alloc (accO id bal (some ⟨b,off,none⟩) n c)).alloc (accO id bal (some ⟨b,off,none⟩) n c)) #[.int .i64 bal] 1 (by simp) (by decide) rfl
   exact hide (by simpa using this)
  ·exact cell_alloc (cell_alloc (new_cell w _ _ 2 _ rfl) _) _
  ·show _<=_
   simp
 case round =>
  obtain ⟨k,L,hk,rfl,OW,BW,hbox,SZ,R⟩:=hrel
  by_cases hlt:k < n
  ·have hltz:(k:Int) < (n:Int):=by omega
   have hkx:k < pos.length:=by rw [HL.out]; exact hlt
   have hky:k < marks.length:=by rw [HL2.out]; exact hlt
   have c0:=(BW.out.cell (World.block_lt_of_cell? _ _ (HC.out k hkx))).trans (HC.out k hkx); have c1:=(BW.out.cell (World.block_lt_of_cell? _ _ (HC2.out k hky))).trans (HC2.out k hky); have RR:=R.out; rw [drop_get pos k hkx,drop_get marks k hky] at RR; have R':=hide RR; clear RR R T0; generalize pos.getD k 0=x at c0 R'; generalize marks.getD k 0=m at c1 R'
   by_cases hw:betw (-1000) x 1000=true /\ betw 0 m 10000=true
   ·have WO:=hide (fun W=>worth_yes x m W hw.1 hw.2)
    have ON:=hide ((eqFrom_on hw.1 hw.2).symm.trans R'.out); clear R' hw; have NW:=hide (one_new wr (x * m))
    have SZ1:Hid (w.heap.size + 2<=(wr.alloc (.cells #[.int .i64 (x * m)] 3)).heap.size):=by
     have:=SZ.out
     show _<=_
     simp
     omega
    go_wp2_with (first | (go_at_call 60; refine (WO.out _).mono ?_; rintro e w' ⟨rfl,hw'⟩; rw [hw']; clear hw') | (at_builtin; refine wpList_append_own _ rfl (.tmp 42) (.tmp 44) 38 rfl (w.heap.size + 2) 3 i0 (.int .i64 0) 1 8 Tryz.underlying38 hi hz0 hz1 hz2 rfl (by decide) u7 (k + 1) (L.map (Value.int .i64)) rfl (OW.out.alloc _) ⟨wr.heap.size,0,none⟩ 1 1 [.int .i64 (x * m)] rfl rfl NW.out (one_cell _) (by unfold maxLen; omega) (by omega) SZ1.out ?_; intro v' w1 hown1 hgrow1 hnil1; clear hnil1))
    have B1:=((BW.out.alloc BW.out.size (.cells #[.int .i64 (x * m)] 3)).grown hgrow1 (by have:=BW.out.size; simp; omega) (fun j hj=>by have:=(OW.out.lt _ hj).1; omega))
    have hb1:=cell_grown (OW.out.alloc _) hgrow1 (cell_alloc hbox (.cells #[.int .i64 (x * m)] 3)) (by simp)
    go_roundw
    case rel =>
     refine ⟨k + 1,L ++ [x * m],by omega,by go_num,?_,B1,hb1,Nat.le_trans SZ1.out hgrow1.size,ON⟩
     show World.ownsRow _ _ _ _ _ _ _
     rw [List.map_append]; exact hown1
    case measure=>simp [intOf]; omega
   ·have hw':betw (-1000) x 1000=false \/ betw 0 m 10000=false:=by
     cases e1:betw (-1000) x 1000
     ·exact .inl rfl
     ·cases e2:betw 0 m 10000
      ·exact .inr rfl
      ·exact absurd ⟨e1,e2⟩ hw
    have WO:=hide (fun W=>worth_no x m W hw')
    have ON:=hide ((eqFrom_bad hw').symm.trans R'.out); clear R' hw hw'
    go_wp2_with (go_at_call 60; refine (WO.out _).mono ?_; rintro e w' ⟨rfl,hw'⟩; rw [hw']; clear hw')
    go_ret2
    rw [<- ON.out]; exact ⟨rfl,BW.out⟩
  ·have hkn:k=n:=by omega
   subst hkn
   have ON:Hid (addFrom 0 L=T):=by
    have:=R.out
    rw [List.drop_eq_nil_of_le (by have:=HL.out; omega),eqFrom_end] at this
    exact this
   have AD:=hide (Own.add_own _ _ _ _ L _ OW.out); clear R T0
   go_wp2_with fail
   refine AD.out.mono ?_
   rintro e w' ⟨rfl,hw'⟩
   rw [hw']; clear hw'; rw [ON.out]
   go_wp2
   go_ret2
   exact ⟨rfl,BW.out⟩
set_option maxHeartbeats 2000000 in
set_option maxRecDepth 100000 in
theorem equity_err (id bal:Int) (p p2:Option Addr) (n c n2 c2:Nat) (pos:List Int) (w:World) (hl:pos.length=n) (hn:n<=140737488351232) (h:Row w p pos) (he:¬ accErr id bal pos n2=0) :
  Calls Tryz.prog 65 #[accV id bal p n c,.slice p2 n2 c2] w fun e w'=>e=.returned (.tuple #[.int .i64 0,.int .i64 (accErr id bal pos n2)]) /\ Below w.heap.size w w':=by
 have CK:=hide (fun W hW=>check_any id bal p n c pos n2 W hl hn (row_below h hW))
 clear h; generalize accErr id bal pos n2=r at he CK ⊢
 go_enter Tryz.func65,Tryz.ntmps65
 go_wp2_with fail
 refine (CK.out _ (below_alloc w _)).mono ?_
 rintro e W ⟨rfl,rfl⟩
 go_wp2
 go_ret2
 exact ⟨rfl,below_alloc2 _ _ _⟩
theorem equity_any (id bal:Int) (p p2:Option Addr) (n c n2 c2:Nat) (pos marks:List Int) (w:World) (hl:pos.length=n) (hl2:marks.length=n2) (hn:n<=140737488351232) (h:Row w p pos) (h':Row w p2 marks) :
  Calls Tryz.prog 65 #[accV id bal p n c,.slice p2 n2 c2] w fun e w'=>e=.returned (.tuple #[.int .i64 (equityR id bal pos marks).1,.int .i64 (equityR id bal pos marks).2]) /\ Below w.heap.size w w':=by
 unfold equityR; rw [hl2]
 by_cases he:accErr id bal pos n2=0
 ·rw [if_pos he]
  obtain ⟨a1,a2,a3,a4,a5⟩:=accErr_ok he; have hb:=betw_true a2
  have:n2=n:=by omega
  subst this
  rcases h with rfl | ⟨b,off,rfl,hc⟩
  ·simp at hl; omega
  rcases h' with rfl | ⟨b2,off2,rfl,hc2⟩
  ·simp at hl2; omega
  exact equity_in id bal b off b2 off2 n2 c c2 pos marks w hl hl2 (by omega) hc hc2 he
 ·rw [if_neg he]
  exact equity_err id bal p p2 n c n2 c2 pos w hl hn h he
theorem fee_part {q p:Int} (hq:betw (-1000) q 1000=true) (hp:betw 0 p 10000=true):partR (max (q * p) (-(q * p))) 5 10000 true=feeR q p:=by
 have h1:=money_true (cost_money hq hp); unfold partR
 rw [if_pos ⟨money_mk (by omega),by decide,by decide⟩]
 have:money (divUp (max (q * p) (-(q * p)) * 5) 10000 true)=true:=by
  apply money_mk
  unfold divUp; rw [if_pos rfl]
  omega
 rw [if_pos this]; unfold feeR; rw [if_pos ⟨hq,hp⟩]
theorem fee_any (q p:Int) (w:World) :
  Calls Tryz.prog 30 #[.int .i64 q,.int .i64 p] w fun e w'=>e=.returned (.tuple #[.int .i64 (feeR q p).1,.int .i64 (feeR q p).2]) /\ ∃ k,w'=w.drewN k:=by
 by_cases h:betw (-1000) q 1000=true /\ betw 0 p 10000=true
 ·have FP:=hide (fee_part h.1 h.2)
  have WO:=hide (fun W=>worth_yes q p W h.1 h.2)
  have ⟨m1,m2⟩:=mul_bd (n:=q) (a:=p) (by have:=betw_true h.1; omega) (by have:=betw_true h.2; omega)
  clear h; generalize q * p=co at FP WO m1 m2; generalize feeR q p=T at FP ⊢
  go_enter Tryz.func30,Tryz.ntmps30
  go_wp2_with (go_at_call 60; refine (WO.out _).mono ?_; rintro e w' ⟨rfl,rfl⟩)
  refine (part_any _ _ _ _ _).mono ?_
  rintro e w2 ⟨rfl,kk,rfl⟩
  rw [FP.out]
  go_wp2
  go_ret2
  exact ⟨rfl,_,rfl⟩
 ·have hno:betw (-1000) q 1000=false \/ betw 0 p 10000=false:=by
   cases e1:betw (-1000) q 1000
   ·exact .inl rfl
   ·cases e2:betw 0 p 10000
    ·exact .inr rfl
    ·exact absurd ⟨e1,e2⟩ h
  have WO:=hide (fun W=>worth_no q p W hno)
  rw [show feeR q p=(0,3) from by unfold feeR; rw [if_neg h]]
  clear h hno
  go_enter Tryz.func30,Tryz.ntmps30
  go_wp2_with (go_at_call 60; refine (WO.out _).mono ?_; rintro e w' ⟨rfl,rfl⟩)
  go_ret2
  exact ⟨rfl,0,rfl⟩
theorem own_slice {w:World} {B:Nat} {v:Value} {n:Nat} {xs:List Int} (h:w.ownsRow B 3 1 v n (xs.map (Value.int .i64))) (h0:0 < n):∃ g cap,v=.slice (some ⟨g,0,none⟩) n cap /\ B<=g /\ g < w.heap.size:=by
 rcases h.2 with ⟨rfl,h1⟩ | ⟨g,cap,cur,rfl,hb,hg,-⟩
 ·omega
 ·exact ⟨g,cap,rfl,hb,(Array.getElem?_eq_some_iff.1 hg).1⟩
theorem own_cell {w:World} {B g cap:Nat} {n:Nat} {xs:List Int} (h:w.ownsRow B 3 1 (.slice (some ⟨g,0,none⟩) n cap) n (xs.map (Value.int .i64))) {k:Nat} (hk:k < n):w.cell? ⟨g,k,none⟩ = some (.int .i64 (xs.getD k 0)):=by
 have hl:xs.length=n:=by simpa using h.1
 rw [h.cellAt k (by omega),List.getElem?_map,List.getD_eq_getElem?_getD,List.getElem?_eq_getElem (by omega)]
 rfl
theorem own_row {w:World} {B g cap:Nat} {n:Nat} {xs:List Int} (h:w.ownsRow B 3 1 (.slice (some ⟨g,0,none⟩) n cap) n (xs.map (Value.int .i64))):Row w (some ⟨g,0,none⟩) xs:=by
 have hl:xs.length=n:=by simpa using h.1
 refine .inr ⟨g,0,rfl,fun i hi=>?_⟩
 rw [Nat.zero_add]
 exact own_cell h (by omega)
end Go.Proofs.YtpkbiafhnflmnaaGreatDoor.Ac
