import Derived.Lib.SplitLaws
import Derived.Lib.AtoiAllCases
import Derived.Lib.ItoaMem
namespace Go.Proofs.YthdjfhnhjiageaaGreatDoor.Tx
open Go.Lib
abbrev Bs:=List UInt8
structure Cd where
 kind:Int
 ac:Int
 mkt:Int
 n:Int
 oi:Int
 oa:Int
 sd:Int
 pr:Int
 qt:Int
 how:Int
 red:Bool
abbrev noCd:Cd:=⟨0,0,0,0,0,0,0,0,0,0,false⟩
def sameC (a b:Cd):Bool:=a.kind == b.kind&&a.ac == b.ac&&a.mkt == b.mkt&&a.n == b.n&&a.oi == b.oi&&a.oa == b.oa&&a.sd == b.sd&&a.pr == b.pr&&a.qt == b.qt&&a.how == b.how&&a.red == b.red
theorem sameC_iff {a b:Cd}:sameC a b=true↔a=b:=by
 obtain⟨a1,a2,a3,a4,a5,a6,a7,a8,a9,a10,a11⟩:=a;obtain⟨b1,b2,b3,b4,b5,b6,b7,b8,b9,b10,b11⟩:=b;simp [sameC,and_assoc]
def i64 (n:Int):Prop:=-9223372036854775808<=n/\n<=9223372036854775807
structure Cd.fits (c:Cd):Prop where
 kind:i64 c.kind
 ac:i64 c.ac
 mkt:i64 c.mkt
 n:i64 c.n
 oi:i64 c.oi
 oa:i64 c.oa
 sd:i64 c.sd
 pr:i64 c.pr
 qt:i64 c.qt
 how:i64 c.how
abbrev wDeposit:Bs:=[100,101,112,111,115,105,116]
abbrev wWithdraw:Bs:=[119,105,116,104,100,114,97,119]
abbrev wPlace:Bs:=[112,108,97,99,101]
abbrev wCancel:Bs:=[99,97,110,99,101,108]
abbrev wIndex:Bs:=[105,110,100,101,120]
abbrev wFund:Bs:=[102,117,110,100]
abbrev wSweep:Bs:=[115,119,101,101,112]
abbrev wLimit:Bs:=[108,105,109,105,116]
abbrev wNow:Bs:=[110,111,119]
abbrev wWhole:Bs:=[119,104,111,108,101]
abbrev wPost:Bs:=[112,111,115,116]
abbrev wBuy:Bs:=[98,117,121]
abbrev wSell:Bs:=[115,101,108,108]
abbrev wReduce:Bs:=[114,101,100,117,99,101]
def kindsL:List Bs:=[[],wDeposit,wWithdraw,wPlace,wCancel,wIndex,wFund,wSweep]
def howsL:List Bs:=[[],wLimit,wNow,wWhole,wPost,[],[],[]]
def sidesL:List Bs:=[wSell,[],wBuy,[],[],[],[],[]]
def atW (l:List Bs) (n:Int):Bs:=if 0<=n/\n<8 then l.getD n.toNat [] else []
def idxFrom (w:Bs):Nat->List Bs->Int
 |_,[]=>-1
 |k,x::l=>if x=w then k else idxFrom w (k+1) l
def idxW (l:List Bs) (w:Bs):Int:=idxFrom w 0 l
def usedC (c:Cd):Cd :=
 if c.kind=1\/c.kind=2\/c.kind=4 then ⟨c.kind,c.ac,0,c.n,0,0,0,0,0,0,false⟩
 else if c.kind=5\/c.kind=6 then ⟨c.kind,0,c.mkt,c.n,0,0,0,0,0,0,false⟩
 else if c.kind=3 then ⟨c.kind,c.ac,c.mkt,0,0,0,c.sd,c.pr,c.qt,c.how,c.red⟩
 else ⟨c.kind,0,0,0,0,0,0,0,0,0,false⟩
def checkC (c:Cd):Int :=
 if atW kindsL c.kind=[] then 4
 else if c.kind=3/\(atW howsL c.how=[]\/atW sidesL (c.sd+1)=[]) then 4
 else if sameC c (usedC c)=true then 0 else 3
def tailW (c:Cd):List Bs:=if c.red=true then [wReduce] else []
def wordsC (c:Cd):List Bs :=
 if c.kind=1\/c.kind=2\/c.kind=4 then [atW kindsL c.kind,itoa c.ac,itoa c.n]
 else if c.kind=5\/c.kind=6 then [atW kindsL c.kind,itoa c.mkt,itoa c.n]
 else if c.kind=3 then [atW kindsL c.kind,itoa c.ac,itoa c.mkt,atW sidesL (c.sd+1),itoa c.qt,itoa c.pr,atW howsL c.how]++tailW c
 else [atW kindsL c.kind]
def joinW:List Bs->Bs
 |[]=>[]
 |w::r=>if r=[] then w else w++32::joinW r
def printC (c:Cd):Bs:=joinW (wordsC c)
def numB (l:Bs):Int:=match atoiAll l with | .ok v=>v | .syntax=>0 | .range=>atoiSat l
def guessW (ws:List Bs):Cd :=
 if idxW kindsL (ws.getD 0 [])=1\/idxW kindsL (ws.getD 0 [])=2\/idxW kindsL (ws.getD 0 [])=4 then ⟨idxW kindsL (ws.getD 0 []),numB (ws.getD 1 []),0,numB (ws.getD 2 []),0,0,0,0,0,0,false⟩
 else if idxW kindsL (ws.getD 0 [])=5\/idxW kindsL (ws.getD 0 [])=6 then ⟨idxW kindsL (ws.getD 0 []),0,numB (ws.getD 1 []),numB (ws.getD 2 []),0,0,0,0,0,0,false⟩
 else if idxW kindsL (ws.getD 0 [])=3 then ⟨idxW kindsL (ws.getD 0 []),numB (ws.getD 1 []),numB (ws.getD 2 []),0,0,0,idxW sidesL (ws.getD 3 [])-1,numB (ws.getD 5 []),numB (ws.getD 4 []),idxW howsL (ws.getD 6 []),decide (ws.getD 7 []=wReduce)⟩
 else ⟨idxW kindsL (ws.getD 0 []),0,0,0,0,0,0,0,0,0,false⟩
def splitW (s:Bs):List Bs:=Lib.split s [32]
def guessC (s:Bs):Cd:=guessW (splitW s)
def parseC (s:Bs):Cd × Int :=
 if 20000<s.length then (noCd,2)
 else if checkC (guessC s)=0/\printC (guessC s)=s then (guessC s,0) else (noCd,1)
/-! words are found again -/
theorem index_sep {w:Bs}(r:Bs)(h:(32:UInt8) ∉ w):index (w++32::r) [32]=(w.length:Nat):=by
 refine index_first (by simp) (by simp [occAt]) (fun j hj=>?_)
 cases ho:occAt (w++32::r) [32] j
 ·rfl
 ·have:=occAt_head (c:=32) (t:=[]) rfl ho;rw [List.getElem?_append_left hj,List.getElem?_eq_getElem hj] at this;exact absurd (by rw [<- Option.some.inj this];exact List.getElem_mem hj) h
theorem index_no {w:Bs}(h:(32:UInt8) ∉ w):index w [32] = -1:=by
 refine index_none (fun j hj=>?_)
 cases ho:occAt w [32] j
 ·rfl
 ·have:=occAt_head (c:=32) (t:=[]) rfl ho;exact absurd (List.mem_of_getElem? this) h
theorem split_no {w:Bs}(h:(32:UInt8) ∉ w):splitW w=[w]:=by
 unfold splitW Lib.split;rw [count_miss (index_no h)];rfl
theorem split_cons {w:Bs}(r:Bs)(h:(32:UInt8) ∉ w):splitW (w++32::r)=w::splitW r:=by
 have hi:=index_sep r h;unfold splitW Lib.split;rw [count_hit (by simp) hi];have e:(w++32::r).drop (w.length+([32]:Bs).length)=r:=by
  rw [show w.length+([32]:Bs).length=w.length+1 from rfl,<- List.drop_drop,List.drop_left];rfl
 rw [e,Nat.add_comm,splitK,hi];have hm:¬(((w.length:Nat):Int) == -1)=true:=fun e=>by have:=beq_iff_eq.1 e;omega
 rw [if_neg hm,Int.toNat_natCast,e];simp
theorem split_join:∀(ws:List Bs),ws≠[]->(∀w,w∈ws->(32:UInt8) ∉ w)->splitW (joinW ws)=ws
 |[w],_,h=>by
  rw [joinW,if_pos rfl]
  exact split_no (h w (by simp))
 |w::v::r,_,h=>by
  rw [joinW,if_neg (by simp),split_cons _ (h w (by simp)),split_join (v::r) (by simp) (fun x hx=>h x (List.mem_cons_of_mem _ hx))]
/-! numbers are read again -/
theorem dig_toNat {u:Nat}(h:u<10):(UInt8.ofNat (48+u)).toNat=48+u:=by
 rw [UInt8.toNat_ofNat'];omega
theorem decDigits_dig (u:Nat):∀c,c∈decDigits u->48<=c.toNat/\c.toNat<=57:=by
 induction u using Nat.strongRecOn with
 |_ u ih =>
  intro c hc;rw [decDigits] at hc;split at hc
  ·rename_i h;rw [List.mem_singleton.1 hc,dig_toNat h];omega
  ·rename_i h;rcases List.mem_append.1 hc with hc | hc
   ·exact ih (u / 10) (by omega) c hc
   ·rw [List.mem_singleton.1 hc,dig_toNat (by omega)];omega
theorem parse_app:∀(l:Bs)(acc:Nat)(r:Bs)(v:Nat),parseUint10 acc l=.ok v->parseUint10 acc (l++r)=parseUint10 v r
 |[],acc,r,v,h=>by
  simp only [parseUint10] at h
  injection h with h
  rw [h];rfl
 |c::l,acc,r,v,h=>by
  rw [List.cons_append];unfold parseUint10 at h
  conv=>lhs;unfold parseUint10
  split at h
  ·rename_i h1
   rw [if_pos h1]
   split at h
   ·cases h
   ·rename_i h2
    rw [if_neg h2]
    split at h
    ·cases h
    ·rename_i h3
     rw [if_neg h3];exact parse_app l _ r v h
  ·cases h
theorem parse_dec (u:Nat)(hu:u<18446744073709551616):parseUint10 0 (decDigits u)=.ok u:=by
 induction u using Nat.strongRecOn with
 |_ u ih =>
  rw [decDigits];split;focus
   rename_i h;have:=dig_toNat h
  rotate_left;focus
   rename_i h;have h1:=ih (u / 10) (by omega) (by omega);rw [parse_app _ _ _ _ h1];have:=dig_toNat (u:=u % 10) (by omega)
  all_goals
   unfold parseUint10;rw [if_pos (by omega),if_neg (by omega),if_neg (by omega),this];unfold parseUint10;congr 1;omega
theorem decDigits_ne (u:Nat):decDigits u≠[]:=by
 rw [decDigits];split<;>simp
theorem num_itoa {n:Int}(h:i64 n):numB (itoa n)=n:=by
 unfold numB;by_cases hn:n<0
 ·have e:itoa n=45::decDigits n.natAbs:=by unfold itoa;rw [if_pos hn]
  have hp:parseMag (decDigits n.natAbs)=.ok n.natAbs:=by
   unfold parseMag;rw [if_neg (decDigits_ne _),parse_dec _ (by unfold i64 at h;omega)]
  have:atoiAll (itoa n)=.ok n:=by
   rw [e];unfold atoiAll;have e45:(45:UInt8).toNat=45:=rfl;simp only [e45,or_true,if_true,hp];rw [if_neg (by simp),if_neg (by unfold i64 at h;omega)];congr 1;omega
  rw [this]
 ·have e:itoa n=decDigits n.toNat:=by unfold itoa;rw [if_neg hn]
  have hp:parseMag (decDigits n.toNat)=.ok n.toNat:=by
   unfold parseMag;rw [if_neg (decDigits_ne _),parse_dec _ (by unfold i64 at h;omega)]
  have:atoiAll (itoa n)=.ok n:=by
   rw [e]
   cases hd:decDigits n.toNat with
   |nil=>exact absurd hd (decDigits_ne _)
   |cons c r =>
    have hc:=decDigits_dig n.toNat c (by rw [hd];simp);rw [hd] at hp;rw [atoiAll_plain c r (by omega) (by omega),hp];unfold signless;unfold i64 at h;dsimp only;rw [if_neg (by omega)];congr 1;omega
  rw [this]
theorem itoa_mem (n:Int):∀c,c∈itoa n->c=45\/(48<=c.toNat/\c.toNat<=57):=by
 intro c hc;unfold itoa at hc;split at hc
 ·rcases List.mem_cons.1 hc with h | h
  ·exact .inl h
  ·exact .inr (decDigits_dig _ c h)
 ·exact .inr (decDigits_dig _ c hc)
theorem itoa_no (n:Int){x:UInt8}(h:x=32\/x=10):x ∉ itoa n:=fun hc=>by
 rcases itoa_mem n x hc with e | e
 ·rcases h with rfl | rfl<;>exact absurd e (by decide)
 ·rcases h with rfl | rfl
  ·exact absurd e (by decide)
  ·exact absurd e (by decide)
/-! a right command -/
theorem kind_ok {k:Int}(h:atW kindsL k≠[]):k=1\/k=2\/k=3\/k=4\/k=5\/k=6\/k=7:=by
 unfold atW at h;split at h
 ·rename_i hb;have:k=0\/k=1\/k=2\/k=3\/k=4\/k=5\/k=6\/k=7:=by omega
  rcases this with rfl | this
  ·exact absurd rfl h
  ·exact this
 ·exact absurd rfl h
theorem how_ok {k:Int}(h:atW howsL k≠[]):k=1\/k=2\/k=3\/k=4:=by
 unfold atW at h;split at h
 ·rename_i hb;have:k=0\/k=1\/k=2\/k=3\/k=4\/k=5\/k=6\/k=7:=by omega
  rcases this with rfl | rfl | rfl | rfl | rfl | rfl | rfl | rfl<;>first | omega | exact absurd rfl h
 ·exact absurd rfl h
theorem side_ok {k:Int}(h:atW sidesL (k+1)≠[]):k = -1\/k=1:=by
 unfold atW at h;split at h
 ·rename_i hb;have:k = -1\/k=0\/k=1\/k=2\/k=3\/k=4\/k=5\/k=6:=by omega
  rcases this with rfl | rfl | rfl | rfl | rfl | rfl | rfl | rfl<;>first | omega | exact absurd rfl h
 ·exact absurd rfl h
theorem check_ok {c:Cd}(h:checkC c=0):atW kindsL c.kind≠[]/\(c.kind=3->atW howsL c.how≠[]/\atW sidesL (c.sd+1)≠[])/\c=usedC c:=by
 unfold checkC at h;split at h
 ·cases h
 ·rename_i h1;split at h
  ·cases h
  ·rename_i h2;split at h
   ·rename_i h3;exact⟨h1,fun e=>⟨fun f=>h2 ⟨e,.inl f⟩,fun f=>h2 ⟨e,.inr f⟩⟩,sameC_iff.1 h3⟩
   ·cases h
theorem guess_words {c:Cd}(h:checkC c=0)(hf:c.fits):guessW (wordsC c)=c:=by
 obtain⟨h1,h2,h3⟩:=check_ok h;have n1:=num_itoa hf.ac;have n2:=num_itoa hf.mkt;have n3:=num_itoa hf.n;have n4:=num_itoa hf.pr;have n5:=num_itoa hf.qt;obtain⟨kind,ac,mkt,n,oi,oa,sd,pr,qt,how,red⟩:=c;dsimp only at h1 h2 h3 n1 n2 n3 n4 n5;have hu:∀x:Cd,(⟨kind,ac,mkt,n,oi,oa,sd,pr,qt,how,red⟩:Cd)=x->x = ⟨kind,ac,mkt,n,oi,oa,sd,pr,qt,how,red⟩:=fun x e=>e.symm;rcases kind_ok h1 with rfl | rfl | rfl | rfl | rfl | rfl | rfl
 ·refine Eq.trans ?_ h3.symm;show (⟨1,numB (itoa ac),0,numB (itoa n),0,0,0,0,0,0,false⟩:Cd) = ⟨1,ac,0,n,0,0,0,0,0,0,false⟩;rw [n1,n3]
 ·refine Eq.trans ?_ h3.symm;show (⟨2,numB (itoa ac),0,numB (itoa n),0,0,0,0,0,0,false⟩:Cd) = ⟨2,ac,0,n,0,0,0,0,0,0,false⟩;rw [n1,n3]
 ·obtain⟨g1,g2⟩:=h2 rfl;refine Eq.trans ?_ h3.symm
  rcases how_ok g1 with rfl | rfl | rfl | rfl<;>rcases side_ok g2 with rfl | rfl<;>cases red <;>
   (show (⟨3,numB (itoa ac),numB (itoa mkt),0,0,0,_,numB (itoa pr),numB (itoa qt),_,_⟩:Cd) = ⟨3,ac,mkt,0,0,0,_,pr,qt,_,_⟩;rw [n1,n2,n4,n5];rfl)
 ·refine Eq.trans ?_ h3.symm;show (⟨4,numB (itoa ac),0,numB (itoa n),0,0,0,0,0,0,false⟩:Cd) = ⟨4,ac,0,n,0,0,0,0,0,0,false⟩;rw [n1,n3]
 ·refine Eq.trans ?_ h3.symm;show (⟨5,0,numB (itoa mkt),numB (itoa n),0,0,0,0,0,0,false⟩:Cd) = ⟨5,0,mkt,n,0,0,0,0,0,0,false⟩;rw [n2,n3]
 ·refine Eq.trans ?_ h3.symm;show (⟨6,0,numB (itoa mkt),numB (itoa n),0,0,0,0,0,0,false⟩:Cd) = ⟨6,0,mkt,n,0,0,0,0,0,0,false⟩;rw [n2,n3]
 ·refine Eq.trans ?_ h3.symm;rfl
theorem words_no {c:Cd}(h:checkC c=0){x:UInt8}(hx:x=32\/x=10):∀w,w∈wordsC c->x ∉ w:=by
 obtain⟨h1,h2,-⟩:=check_ok h;obtain⟨kind,ac,mkt,n,oi,oa,sd,pr,qt,how,red⟩:=c;dsimp only at h1 h2;have hk:x ∉ atW kindsL kind:=by
  rcases kind_ok h1 with rfl | rfl | rfl | rfl | rfl | rfl | rfl<;>rcases hx with rfl | rfl<;>decide
 intro w hw;unfold wordsC at hw;dsimp only at hw;split at hw
 ·simp only [List.mem_cons,List.not_mem_nil,or_false] at hw;rcases hw with rfl | rfl | rfl
  ·exact hk
  ·exact itoa_no _ hx
  ·exact itoa_no _ hx
 ·split at hw
  ·simp only [List.mem_cons,List.not_mem_nil,or_false] at hw;rcases hw with rfl | rfl | rfl
   ·exact hk
   ·exact itoa_no _ hx
   ·exact itoa_no _ hx
  ·split at hw
   ·rename_i h3;obtain⟨g1,g2⟩:=h2 h3;have hh:x ∉ atW howsL how:=by rcases how_ok g1 with rfl | rfl | rfl | rfl<;>rcases hx with rfl | rfl<;>decide
    have hs:x ∉ atW sidesL (sd+1):=by rcases side_ok g2 with rfl | rfl<;>rcases hx with rfl | rfl<;>decide
    have hr:x ∉ wReduce:=by rcases hx with rfl | rfl<;>decide
    rcases List.mem_append.1 hw with hw | hw
    ·simp only [List.mem_cons,List.not_mem_nil,or_false] at hw;rcases hw with rfl | rfl | rfl | rfl | rfl | rfl | rfl
     ·exact hk
     ·exact itoa_no _ hx
     ·exact itoa_no _ hx
     ·exact hs
     ·exact itoa_no _ hx
     ·exact itoa_no _ hx
     ·exact hh
    ·unfold tailW at hw;split at hw
     ·rw [List.mem_singleton.1 hw];exact hr
     ·cases hw
   ·rw [List.mem_singleton.1 hw];exact hk
theorem words_ne (c:Cd):wordsC c≠[]:=by
 unfold wordsC;split
 ·simp
 ·split
  ·simp
  ·split<;>simp
theorem join_no {x:UInt8}(hx:x≠32):∀(ws:List Bs),(∀w,w∈ws->x ∉ w)->x ∉ joinW ws
 |[],_=>by simp [joinW]
 |w::r,h=>by
  unfold joinW;split
  ·exact h w (by simp)
  ·intro hc;rcases List.mem_append.1 hc with hc | hc
   ·exact h w (by simp) hc
   ·rcases List.mem_cons.1 hc with hc | hc
    ·exact hx hc
    ·exact join_no hx r (fun v hv=>h v (List.mem_cons_of_mem _ hv)) hc
theorem guess_print {c:Cd}(h:checkC c=0)(hf:c.fits):guessC (printC c)=c:=by
 unfold guessC printC;rw [split_join _ (words_ne c) (words_no h (.inl rfl)),guess_words h hf]
theorem print_lf {c:Cd}(h:checkC c=0):(10:UInt8) ∉ printC c:=join_no (by decide) _ (words_no h (.inr rfl))
theorem nDigits_20 {u:Nat}(h:u<100000000000000000000):nDigits u<=20:=by
 by_cases h0:u=0
 ·subst h0;rw [nDigits_small (by decide)];decide
 ·rcases Nat.lt_or_ge 20 (nDigits u) with hc | hc
  ·exfalso
   have:∀k u,1<=u->nDigits u=k+1->10 ^ k<=u:=by
    intro k;induction k with
    |zero=>intro u h1 _;simpa using h1
    |succ k ih =>
     intro u h1 h2;by_cases hs:u<10
     ·rw [nDigits_small hs] at h2;omega
     ·rw [nDigits_big hs] at h2;have:=ih (u / 10) (by omega) (by omega);rw [Nat.pow_succ];omega
   have h1:=this (nDigits u-1) u (by omega) (by omega);have h2:10 ^ 20<=10 ^ (nDigits u-1):=Nat.pow_le_pow_right (by decide) (by omega);have h3:(10:Nat) ^ 20=100000000000000000000:=by decide
   omega
  ·exact hc
theorem itoa_len {n:Int}(h:i64 n):(itoa n).length<=21:=by
 unfold i64 at h;unfold itoa;split
 ·rw [List.length_cons,decDigits_length];have:=nDigits_20 (u:=n.natAbs) (by omega);omega
 ·rw [decDigits_length];have:=nDigits_20 (u:=n.toNat) (by omega);omega
theorem join_len:∀(ws:List Bs),(∀w,w∈ws->w.length<=21)->(joinW ws).length<=ws.length*22
 |[],_=>by simp [joinW]
 |w::r,h=>by
  have h1:=h w (by simp);have h2:=join_len r (fun v hv=>h v (List.mem_cons_of_mem _ hv));unfold joinW;split
  ·simp only [List.length_cons];omega
  ·simp only [List.length_append,List.length_cons];omega
theorem atW_len (l:List Bs)(hl:∀w,w∈l->w.length<=21)(n:Int):(atW l n).length<=21:=by
 unfold atW;split
 ·rw [List.getD_eq_getElem?_getD]
  cases h:l[n.toNat]? with
  |none=>simp
  |some w=>exact hl w (List.mem_of_getElem? h)
 ·simp
theorem print_len {c:Cd}(hf:c.fits):(printC c).length<=200:=by
 have k1:=atW_len kindsL (by decide) c.kind;have k2:=atW_len howsL (by decide) c.how;have k3:=atW_len sidesL (by decide) (c.sd+1);have n1:=itoa_len hf.ac;have n2:=itoa_len hf.mkt;have n3:=itoa_len hf.n;have n4:=itoa_len hf.pr;have n5:=itoa_len hf.qt;have hw:∀w,w∈wordsC c->w.length<=21:=by
  intro w hw;unfold wordsC at hw;split at hw
  ·simp only [List.mem_cons,List.not_mem_nil,or_false] at hw;rcases hw with rfl | rfl | rfl<;>assumption
  ·split at hw
   ·simp only [List.mem_cons,List.not_mem_nil,or_false] at hw;rcases hw with rfl | rfl | rfl<;>assumption
   ·split at hw
    ·rcases List.mem_append.1 hw with hw | hw
     ·simp only [List.mem_cons,List.not_mem_nil,or_false] at hw;rcases hw with rfl | rfl | rfl | rfl | rfl | rfl | rfl<;>assumption
     ·unfold tailW at hw;split at hw
      ·rw [List.mem_singleton.1 hw];decide
      ·cases hw
    ·rw [List.mem_singleton.1 hw];assumption
 have hl:(wordsC c).length<=8:=by
  unfold wordsC;split
  ·simp
  ·split
   ·simp
   ·split
    ·unfold tailW;split<;>simp
    ·simp
 have:=join_len _ hw;unfold printC;omega
theorem parse_print {c:Cd}(h:checkC c=0)(hf:c.fits):parseC (printC c)=(c,0):=by
 have hg:=guess_print h hf;have:=print_len hf;unfold parseC;rw [if_neg (by omega),hg,if_pos ⟨h,rfl⟩]
end Go.Proofs.YthdjfhnhjiageaaGreatDoor.Tx
namespace Go.Proofs.YthdjfhnhjiageaaGreatDoor.Tx
open Go.Lib
def cutL:Bs->Option (Bs × Bs)
 |[]=>none
 |x::l=>if x=10 then some ([],l) else (cutL l).map fun p=>(x::p.1,p.2)
theorem cut_is:∀{b:Bs}{p:Bs × Bs},cutL b=some p->b=p.1++10::p.2/\(10:UInt8) ∉ p.1
 |[],_,h=>by cases h
 |x::l,p,h=>by
  unfold cutL at h;split at h
  ·rename_i hx
   cases h
   exact⟨by rw [hx];rfl,by simp⟩
  ·rename_i hx
   cases hc:cutL l with
   |none=>rw [hc] at h;cases h
   |some q =>
    rw [hc] at h;cases h;obtain⟨h1,h2⟩:=cut_is hc
    refine⟨by rw [h1];rfl,?_⟩;simp only [List.mem_cons,not_or];exact⟨fun e=>hx e.symm,h2⟩
theorem cut_line:∀{l:Bs}(r:Bs),(10:UInt8) ∉ l->cutL (l++10::r)=some (l,r)
 |[],r,_=>by simp [cutL]
 |x::l,r,h=>by
  simp only [List.mem_cons,not_or] at h;rw [List.cons_append,cutL,if_neg (fun e=>h.1 e.symm),cut_line r h.2];rfl
theorem cut_none:∀{b:Bs},cutL b=none->(10:UInt8) ∉ b
 |[],_=>by simp
 |x::l,h=>by
  unfold cutL at h;split at h
  ·cases h
  ·rename_i hx
   cases hc:cutL l with
   |some q=>rw [hc] at h;cases h
   |none =>
    simp only [List.mem_cons,not_or];exact⟨fun e=>hx e.symm,cut_none hc⟩
def readF:Nat->Nat->Bs->List Cd × Nat × Int
 |0,_,_=>([],0,0)
 |f+1,k,b =>
  if b=[] then ([],0,0) else
  match cutL b with
  |none=>([],0,13)
  |some (line,rest) =>
   if (parseC line).2≠0 then ([],0,(parseC line).2)
   else if k=60 then ([],0,2)
   else ((parseC line).1::(readF f (k+1) rest).1,line.length+1+(readF f (k+1) rest).2.1,(readF f (k+1) rest).2.2)
def readL (b:Bs):List Cd × Nat × Int:=readF b.length 0 b
theorem cut_len {b:Bs}{line rest:Bs}(h:cutL b=some (line,rest)):b.length=line.length+1+rest.length:=by
 have:=(cut_is h).1;rw [this];simp;omega
theorem read_nil (f k:Nat):readF f k []=([],0,0):=by
 cases f with
 |zero=>rfl
 |succ f=>simp [readF]
theorem read_cut {f k:Nat}{b line rest:Bs}(h:cutL b=some (line,rest)):readF (f+1) k b=if (parseC line).2≠0 then ([],0,(parseC line).2) else if k=60 then ([],0,2) else ((parseC line).1::(readF f (k+1) rest).1,line.length+1+(readF f (k+1) rest).2.1,(readF f (k+1) rest).2.2):=by
 have hb:b≠[]:=fun e=>by rw [e] at h;cases h
 rw [readF,if_neg hb,h]
theorem read_torn {f k:Nat}{b:Bs}(hb:b≠[])(h:cutL b=none):readF (f+1) k b=([],0,13):=by
 rw [readF,if_neg hb,h]
theorem read_fuel:∀(f g k:Nat)(b:Bs),b.length<=f->b.length<=g->readF f k b=readF g k b
 |0,g,k,b,h,_=>by
  obtain rfl:b=[]:=List.length_eq_zero_iff.1 (by omega)
  rw [read_nil,read_nil]
 |f+1,0,k,b,_,h=>by
  obtain rfl:b=[]:=List.length_eq_zero_iff.1 (by omega)
  rw [read_nil,read_nil]
 |f+1,g+1,k,b,hf,hg=>by
  cases hc:cutL b with
  |none =>
   by_cases hb:b=[]
   ·rw [hb,read_nil,read_nil]
   ·rw [read_torn hb hc,read_torn hb hc]
  |some q =>
   obtain⟨line,rest⟩:=q;have:=cut_len hc
   rw [read_cut hc,read_cut hc,read_fuel f g (k+1) rest (by omega) (by omega)]
theorem read_app:∀(f k:Nat)(A:Bs)(l:List Cd)(n:Nat),A.length<=f->readF f k A=(l,n,0)->n=A.length/\∀(g:Nat)(B:Bs),(A++B).length<=g->readF g k (A++B)=(l++(readF g (k+l.length) B).1,A.length+(readF g (k+l.length) B).2.1,(readF g (k+l.length) B).2.2)
 |0,k,A,l,n,hf,h=>by
  obtain rfl:A=[]:=List.length_eq_zero_iff.1 (by omega)
  rw [read_nil] at h;cases h
  exact⟨rfl,fun g B _=>by simp⟩
 |f+1,k,A,l,n,hf,h=>by
  cases hc:cutL A with
  |none =>
   by_cases hA:A=[]
   ·subst hA
    rw [read_nil] at h;cases h
    exact⟨rfl,fun g B _=>by simp⟩
   ·rw [read_torn hA hc] at h
    cases h
  |some q =>
   obtain⟨line,rest⟩:=q;have hl:=cut_len hc;rw [read_cut hc] at h
   split at h
   ·rename_i hp
    exact absurd (Prod.mk.inj (Prod.mk.inj h).2).2 hp
   ·rename_i hp
    split at h
    ·cases h
    ·rename_i hk
     obtain⟨e1,e2⟩:=Prod.mk.inj h;obtain⟨e2,e3⟩:=Prod.mk.inj e2
     obtain⟨i1,i2⟩:=read_app f (k+1) rest _ _ (by omega) (Prod.ext rfl (Prod.ext rfl e3):readF f (k+1) rest=((readF f (k+1) rest).1,(readF f (k+1) rest).2.1,0))
     refine⟨by omega,fun g B hg=>?_⟩
     obtain⟨hA,hno⟩:=cut_is hc
     have hc2:cutL (A++B)=some (line,rest++B):=by
      rw [hA,List.append_assoc,List.cons_append];exact cut_line _ hno
     simp only [List.length_append] at hg
     obtain⟨g,rfl⟩:∃g',g=g'+1:=⟨g-1,by omega⟩
     rw [read_cut hc2,if_neg hp,if_neg hk,i2 g B (by simp;omega),<- e1]
     have hx:k+1+(readF f (k+1) rest).1.length=k+((parseC line).1::(readF f (k+1) rest).1).length:=by simp;omega
     rw [hx,read_fuel g (g+1) _ B (by omega) (by omega)]
     refine Prod.ext rfl (Prod.ext ?_ rfl)
     dsimp only
     omega
end Go.Proofs.YthdjfhnhjiageaaGreatDoor.Tx
namespace Go.Proofs.YthdjfhnhjiageaaGreatDoor.Tx
open Go.Lib
end Go.Proofs.YthdjfhnhjiageaaGreatDoor.Tx
namespace Go.Proofs.YthdjfhnhjiageaaGreatDoor.Tx
open Go.Lib
structure Dk where
 safe:Bs
 wait:Bs
abbrev noDk:Dk:=⟨[],[]⟩
abbrev lineC (c:Cd):Bs:=printC c++[10]
def checkD (d:Dk):Int:=if 20000<d.safe.length+d.wait.length then 2 else (readL d.safe).2.2
def putD (d:Dk) (c:Cd):Dk × Int :=
 if checkD d≠0 then (noDk,checkD d) else if checkC c≠0 then (noDk,checkC c)
 else if 20000<d.safe.length+d.wait.length+(lineC c).length then (noDk,7) else (⟨d.safe,d.wait++lineC c⟩,0)
def syncD (d:Dk):Dk × Int :=
 if checkD d≠0 then (noDk,checkD d) else if checkD ⟨d.safe++d.wait,[]⟩≠0 then (noDk,checkD ⟨d.safe++d.wait,[]⟩) else (⟨d.safe++d.wait,[]⟩,0)
def crashD (d:Dk) (n:Int):Dk × Int :=
 if checkD d≠0 then (noDk,checkD d) else if n<0\/(d.wait.length:Int)<n then (noDk,3) else (⟨d.safe,d.wait.take n.toNat⟩,0)
def recD (d:Dk):Dk × List Cd × Int :=
 if checkD d≠0 then (noDk,[],checkD d) else (⟨(d.safe++d.wait).take (readL (d.safe++d.wait)).2.1,[]⟩,(readL (d.safe++d.wait)).1,0)
theorem read_num:∀(f k:Nat)(b:Bs),k<=60->(readF f k b).1.length+k<=60/\(readF f k b).2.1<=b.length
 |0,_,_,h=>⟨by simpa [readF] using h,by simp [readF]⟩
 |f+1,k,b,h=>by
  by_cases hb:b=[]
  ·rw [hb,read_nil];exact⟨by simpa using h,Nat.le_refl _⟩
  ·cases hc:cutL b with
   |none=>rw [read_torn hb hc];exact⟨by simpa using h,Nat.zero_le _⟩
   |some q =>
    obtain⟨line,rest⟩:=q;have hl:=cut_len hc;rw [read_cut hc];split
    ·exact⟨by simpa using h,Nat.zero_le _⟩
    ·split
     ·exact⟨by simpa using h,Nat.zero_le _⟩
     ·obtain⟨i1,i2⟩:=read_num f (k+1) rest (by omega);exact⟨by simp only [List.length_cons];omega,by dsimp only;omega⟩
theorem check_zero {d:Dk}(h:checkD d=0):d.safe.length+d.wait.length<=20000/\(readL d.safe).2.2=0:=by
 unfold checkD at h;split at h
 ·cases h
 ·exact⟨by omega,h⟩
theorem check_of {d:Dk}(h1:d.safe.length+d.wait.length<=20000)(h2:(readL d.safe).2.2=0):checkD d=0:=by
 unfold checkD;rw [if_neg (by omega)];exact h2
theorem triple {α β:Type}{x:α × β × Int}(h:x.2.2=0):x=(x.1,x.2.1,0):=Prod.ext rfl (Prod.ext rfl h)
theorem readL_app {A B:Bs}(h:(readL A).2.2=0):(readL A).2.1=A.length/\readL (A++B)=((readL A).1++(readF (A++B).length (readL A).1.length B).1,A.length+(readF (A++B).length (readL A).1.length B).2.1,(readF (A++B).length (readL A).1.length B).2.2):=by
 obtain⟨h1,h2⟩:=read_app A.length 0 A _ _ (Nat.le_refl _) (triple h);refine⟨h1,?_⟩;have:=h2 (A++B).length B (Nat.le_refl _);rw [Nat.zero_add] at this;exact this
theorem put_is {d:Dk}{c:Cd}(h1:checkD d=0)(h2:checkC c=0)(h3:d.safe.length+d.wait.length+(lineC c).length<=20000):putD d c=(⟨d.safe,d.wait++lineC c⟩,0):=by
 unfold putD;rw [if_neg (fun h=>h h1),if_neg (fun h=>h h2),if_neg (by omega)]
theorem sync_is {d:Dk}(h1:checkD d=0)(h2:(readL (d.safe++d.wait)).2.2=0):syncD d=(⟨d.safe++d.wait,[]⟩,0):=by
 have h:=(check_zero h1).1;have h3:checkD ⟨d.safe++d.wait,[]⟩=0:=check_of (by simpa using h) h2;unfold syncD;rw [if_neg (fun h=>h h1),if_neg (fun h=>h h3)]
end Go.Proofs.YthdjfhnhjiageaaGreatDoor.Tx
