/-
  slices.IndexFunc and slices.ContainsFunc of accounts and events, for the laws of chapter 7.
-/
import Derived.Test.YtpkbiafhnflmnaaGreatDoorT46
namespace Go.Proofs.YtpkbiafhnflmnaaGreatDoor.Vn
open Go.RowKit Num Fix AcP FuP Bk Rm Ac Go.Sort Go.Maps Mix RkP
/-- the place of the first one that P says yes of, counted from k. -/
def idxP {α:Type} (P:α->Bool):List α->Nat->Int
 |[],_=>-1
 |x :: l,k=>if P x=true then (k:Int) else idxP P l (k+1)
theorem idxP_at {α:Type}(P:α->Bool){xs:List α}{k:Nat}(h:k<xs.length):idxP P (xs.drop k) k=if P (xs[k]'h)=true then (k:Int) else idxP P (xs.drop (k+1)) (k+1):=by
 rw [List.drop_eq_getElem_cons h,idxP]
theorem idxP_ways {α:Type}(P:α->Bool):∀(xs:List α)(k:Nat),(idxP P xs k = -1/\∀x,x ∈ xs->P x=false)\/∃j,∃h:j<xs.length,idxP P xs k=((k+j:Nat):Int)/\P (xs[j]'h)=true/\∀i (hi:i<j),P (xs[i]'(Nat.lt_trans hi h))=false
 |[],k=>.inl ⟨rfl,by simp⟩
 |o :: l,k=>by
  unfold idxP
  by_cases he:P o=true
  ·refine .inr ⟨0,by simp,?_,by simpa using he,fun i hi=>by omega⟩
   rw [if_pos he];rfl
  ·rw [if_neg he]
   rcases idxP_ways P l (k+1) with⟨h1,h2⟩ | ⟨j,h,h1,h2,h3⟩
   ·refine .inl ⟨h1,fun x hx=>?_⟩
    rcases List.mem_cons.1 hx with rfl | hx
    ·simpa using he
    ·exact h2 x hx
   ·refine .inr ⟨j+1,by simp;omega,?_,by simpa using h2,fun i hi=>?_⟩
    ·rw [h1];congr 1;omega
    ·cases i with
     |zero=>simpa using he
     |succ i=>simpa using h3 i (by omega)
set_option maxRecDepth 100000 in
theorem accIdx_none (p:Option Addr)(c:Nat)(f:Value)(w:World) :
  Calls Tryz.prog 16 #[.slice p 0 c,f] w fun e w'=>e=.returned (.int .i64 (-1))/\w'=w:=by
 go_enter Tryz.func16,Tryz.ntmps16
 go_wp2
 refine wp_loop_rounds 1 ?_
 rw [rounds_succ]
 go_wp2
 go_ret
 exact⟨rfl,rfl⟩
theorem erow_cells {w:World}{b off:Nat}{A:List Ev}(hc:∀j u,(flatE A)[j]? = some u->w.cell? ⟨b,off+j,none⟩=some u){k:Nat}(hk:k<A.length) :
  w.cell? ⟨b,off+k * 13,none⟩=some (.int .i64 (A[k]'hk).1)/\w.cell? ⟨b,off+k * 13+1,none⟩=some (.int .i64 (A[k]'hk).2.1)/\w.cell? ⟨b,off+k * 13+2,none⟩=some (.int .i64 (A[k]'hk).2.2.1)/\w.cell? ⟨b,off+k * 13+3,none⟩=some (.int .i64 (A[k]'hk).2.2.2.1)/\w.cell? ⟨b,off+k * 13+4,none⟩=some (.int .i64 (A[k]'hk).2.2.2.2.1)/\w.cell? ⟨b,off+k * 13+5,none⟩=some (.int .i64 (A[k]'hk).2.2.2.2.2.1)/\w.cell? ⟨b,off+k * 13+6,none⟩=some (.int .i64 (A[k]'hk).2.2.2.2.2.2.1)/\w.cell? ⟨b,off+k * 13+7,none⟩=some (.int .i64 (A[k]'hk).2.2.2.2.2.2.2.1)/\w.cell? ⟨b,off+k * 13+8,none⟩=some (.int .i64 (A[k]'hk).2.2.2.2.2.2.2.2.1)/\w.cell? ⟨b,off+k * 13+9,none⟩=some (.int .i64 (A[k]'hk).2.2.2.2.2.2.2.2.2.1)/\w.cell? ⟨b,off+k * 13+10,none⟩=some (.int .i64 (A[k]'hk).2.2.2.2.2.2.2.2.2.2.1)/\w.cell? ⟨b,off+k * 13+11,none⟩=some (.int .i64 (A[k]'hk).2.2.2.2.2.2.2.2.2.2.2.1)/\w.cell? ⟨b,off+k * 13+12,none⟩=some (.int .i64 (A[k]'hk).2.2.2.2.2.2.2.2.2.2.2.2):=by
 have h0:=flat_get encE_len A k hk 0 (by omega)
 have h1:=flat_get encE_len A k hk 1 (by omega)
 have h2:=flat_get encE_len A k hk 2 (by omega)
 have h3:=flat_get encE_len A k hk 3 (by omega)
 have h4:=flat_get encE_len A k hk 4 (by omega)
 have h5:=flat_get encE_len A k hk 5 (by omega)
 have h6:=flat_get encE_len A k hk 6 (by omega)
 have h7:=flat_get encE_len A k hk 7 (by omega)
 have h8:=flat_get encE_len A k hk 8 (by omega)
 have h9:=flat_get encE_len A k hk 9 (by omega)
 have h10:=flat_get encE_len A k hk 10 (by omega)
 have h11:=flat_get encE_len A k hk 11 (by omega)
 have h12:=flat_get encE_len A k hk 12 (by omega)
 exact⟨hc (k * 13) _ h0,hc (k * 13+1) _ h1,hc (k * 13+2) _ h2,hc (k * 13+3) _ h3,hc (k * 13+4) _ h4,hc (k * 13+5) _ h5,hc (k * 13+6) _ h6,hc (k * 13+7) _ h7,hc (k * 13+8) _ h8,hc (k * 13+9) _ h9,hc (k * 13+10) _ h10,hc (k * 13+11) _ h11,hc (k * 13+12) _ h12⟩
end Go.Proofs.YtpkbiafhnflmnaaGreatDoor.Vn
