import Derived.Test.YthdjfhnhjiageaaGreatDoorProg
import Derived.ProofKit
import Derived.BigQuiet
import Derived.WalkLawsBesides
set_option maxHeartbeats 8000000
set_option maxRecDepth 100000
namespace Go.Proofs.YthdjfhnhjiageaaGreatDoor.Num
def betw (lo n hi:Int):Bool:=decide (lo<=n/\n<=hi)
theorem betw_true {lo n hi:Int}(h:betw lo n hi=true):lo<=n/\n<=hi:=by simpa [betw] using h
theorem betw_mk {lo n hi:Int}(h:lo<=n/\n<=hi):betw lo n hi=true:=by simpa [betw] using h
theorem betw_false {lo n hi:Int}(h:betw lo n hi=false):n<lo\/hi<n:=by
 simp [betw] at h;omega
theorem betw_no {lo n hi:Int}(h:n<lo\/hi<n):betw lo n hi=false:=by
 simp [betw];omega
def money (n:Int):Bool:=betw (-1000000000000) n 1000000000000
theorem money_true {n:Int}(h:money n=true):-1000000000000<=n/\n<=1000000000000:=betw_true h
theorem money_mk {n:Int}(h:-1000000000000<=n/\n<=1000000000000):money n=true:=betw_mk h
theorem money_false {n:Int}(h:money n=false):n < -1000000000000\/1000000000000<n:=betw_false h
theorem money_no {n:Int}(h:n < -1000000000000\/1000000000000<n):money n=false:=betw_no h
def addFrom (s:Int):List Int->Int × Int
 |[]=>(s,0)
 |n::l=>if money n=true then (if money (s+n)=true then addFrom (s+n) l else (0,7)) else (0,3)
theorem addFrom_nil (s:Int):addFrom s []=(s,0):=rfl
theorem addFrom_range {s n:Int}{l:List Int}(h:money n=false):addFrom s (n::l)=(0,3):=by
 simp [addFrom,h]
theorem addFrom_full {s n:Int}{l:List Int}(h:money n=true)(g:money (s+n)=false):addFrom s (n::l)=(0,7):=by
 simp [addFrom,h,g]
theorem addFrom_on {s n:Int}{l:List Int}(h:money n=true)(g:money (s+n)=true):addFrom s (n::l)=addFrom (s+n) l:=by
 simp [addFrom,h,g]
def divUp (n b:Int) (up:Bool):Int:=if up=true then -((-n) / b) else n / b
def partR (n a b:Int) (up:Bool):Int × Int :=
 if money n=true/\betw (-10000) a 10000=true/\betw 1 b 10000=true then
  (if money (divUp (n*a) b up)=true then (divUp (n*a) b up,0) else (0,7))
 else (0,3)
def middleR (a b c:Int):Int:=max (min a b) (min (max a b) c)
theorem ediv_of {n b q:Int}(hb:0<b)(h1:b*q<=n)(h2:n<b*q+b):n / b=q :=
 ((Int.ediv_emod_unique (a:=n) (b:=b) (r:=n - b*q) (q:=q) hb).2 ⟨by omega,by omega,by omega⟩).1
theorem ediv_lo {n b:Int}(hb:0<b):b*(n / b)<=n/\n<b*(n / b)+b:=by
 have e:=Int.mul_ediv_add_emod n b;have l:=Int.emod_lt_of_pos n hb;have p:=Int.emod_nonneg n (b:=b) (by omega);omega
theorem tdiv_up_left {n b:Int}(hb:1<=b)(h:0<n.tmod b):n.tdiv b+1=divUp n b true:=by
 have e:=Int.mul_tdiv_add_tmod n b;have l:=Int.tmod_lt_of_pos n (b:=b) (by omega);have k:(-n) / b = -(n.tdiv b+1):=by
  have x:b*(-(n.tdiv b+1)) = -(b*n.tdiv b) - b:=by rw [Int.mul_neg,Int.mul_add];omega
  apply ediv_of (by omega)<;>rw [x]<;>omega
 simp only [divUp,if_true];omega
theorem tdiv_up_none {n b:Int}(hb:1<=b)(h:¬0<n.tmod b):n.tdiv b=divUp n b true:=by
 have e:=Int.mul_tdiv_add_tmod n b;have l:=Int.lt_tmod_of_pos n (b:=b) (by omega);have k:(-n) / b = -(n.tdiv b):=by
  have x:b*(-(n.tdiv b)) = -(b*n.tdiv b):=by rw [Int.mul_neg]
  apply ediv_of (by omega)<;>rw [x]<;>omega
 simp only [divUp,if_true];omega
theorem tdiv_down_left {n b:Int}(hb:1<=b)(h:n.tmod b<0):n.tdiv b-1=divUp n b false:=by
 have e:=Int.mul_tdiv_add_tmod n b;have l:=Int.lt_tmod_of_pos n (b:=b) (by omega);have k:n / b=n.tdiv b-1:=by
  have x:b*(n.tdiv b-1)=b*n.tdiv b - b:=by rw [Int.mul_sub];omega
  apply ediv_of (by omega)<;>rw [x]<;>omega
 simp only [divUp];exact k.symm
theorem tdiv_down_none {n b:Int}(hb:1<=b)(h:¬n.tmod b<0):n.tdiv b=divUp n b false:=by
 have e:=Int.mul_tdiv_add_tmod n b;have l:=Int.tmod_lt_of_pos n (b:=b) (by omega);have k:n / b=n.tdiv b:=by
  apply ediv_of (by omega)<;>omega
 simp only [divUp];exact k.symm
theorem mul_bd {n a:Int}(h:-1000000000000<=n/\n<=1000000000000)(g:-10000<=a/\a<=10000) :
  -10000000000000000<=n*a/\n*a<=10000000000000000:=by
 have h1:n.natAbs<=1000000000000:=by omega
 have h2:a.natAbs<=10000:=by omega
 have h3:(n*a).natAbs<=1000000000000*10000:=by rw [Int.natAbs_mul];exact Nat.mul_le_mul h1 h2
 omega
theorem tdiv_bd {n b:Int}(h:-10000000000000000<=n/\n<=10000000000000000) :
  -10000000000000000<=n.tdiv b/\n.tdiv b<=10000000000000000:=by
 have h1:n.natAbs<=10000000000000000:=by omega
 have h3:(n.tdiv b).natAbs<=n.natAbs:=by rw [Int.natAbs_tdiv];exact Nat.div_le_self _ _
 omega
end Go.Proofs.YthdjfhnhjiageaaGreatDoor.Num
namespace Go.Proofs.YthdjfhnhjiageaaGreatDoor.Fix
open Go.RowKit Num
theorem hide {p:Prop}(h:p):Hid p:=h
theorem unhide {p:Prop}(h:Hid p):p:=h
theorem within_any (n lo hi:Int)(w:World) :
  Calls Tryz.prog 45 #[.int .i64 n,.int .i64 lo,.int .i64 hi] w fun e w'=>e=.returned (.bool (betw lo n hi))/\w'=w:=by
 by_cases h1:lo<=n
 ·by_cases h2:n<=hi
  ·rw [betw_mk ⟨h1,h2⟩];go_enter Tryz.func45,Tryz.ntmps45;go_wp2;go_ret;exact⟨rfl,rfl⟩
  ·rw [betw_no (by omega)];go_enter Tryz.func45,Tryz.ntmps45;go_wp2;go_ret;exact⟨rfl,rfl⟩
 ·rw [betw_no (by omega)];go_enter Tryz.func45,Tryz.ntmps45;go_wp2;go_ret;exact⟨rfl,rfl⟩
theorem money_any (n:Int)(w:World) :
  Calls Tryz.prog 26 #[.int .i64 n] w fun e w'=>e=.returned (.bool (money n))/\w'=w:=by
 go_enter Tryz.func26,Tryz.ntmps26;go_wp2_with (go_at_call 45;refine(within_any _ _ _ _).mono ?_;rintro e w' ⟨rfl,rfl⟩);go_ret;exact⟨rfl,rfl⟩
theorem divide_any (n b:Int)(up:Bool)(w:World)(hn:-10000000000000000<=n/\n<=10000000000000000)(hb:1<=b)(hb2:b<=10000) :
  Calls Tryz.prog 201 #[.int .i64 n,.int .i64 b,.bool up] w fun e w'=>e=.returned (.int .i64 (divUp n b up))/\∃k,w'=w.drewN k:=by
 obtain⟨n1,n2⟩:=hn;have ⟨q1,q2⟩:=tdiv_bd (b:=b) ⟨n1,n2⟩;have hz:(b == 0)=false:=by simp;omega
 cases up
 focus
  by_cases h:n.tmod b<0;focus
   have H:=hide (tdiv_down_left hb h)
  rotate_left;focus
   have H:=hide (tdiv_down_none hb h)
 rotate_left 2;focus
  by_cases h:0<n.tmod b;focus
   have H:=hide (tdiv_up_left hb h)
  rotate_left;focus
   have H:=hide (tdiv_up_none hb h)
 all_goals
  go_enter Tryz.func201,Tryz.ntmps201;go_wp2;go_quiet (fail);go_wp2;go_ret;exact⟨by rw [<- unhide H];rfl,_,rfl⟩
theorem part_range (n a b:Int)(up:Bool)(w:World)(h:money n=false\/betw (-10000) a 10000=false\/betw 1 b 10000=false) :
  Calls Tryz.prog 166 #[.int .i64 n,.int .i64 a,.int .i64 b,.bool up] w fun e w'=>e=.returned (.tuple #[.int .i64 0,.int .i64 3])/\w'=w:=by
 cases hm:money n
 ·go_enter Tryz.func166,Tryz.ntmps166;go_wp2_with (go_at_call 26;refine(money_any _ _).mono ?_;rintro e w' ⟨rfl,rfl⟩);go_ret2;exact⟨rfl,rfl⟩
 ·cases ha:betw (-10000) a 10000
  rotate_left;focus
   have hb:betw 1 b 10000=false:=by rcases h with h | h | h<;>simp_all
   clear h
  all_goals
   go_enter Tryz.func166,Tryz.ntmps166;go_wp2_with (first | (go_at_call 26;refine(money_any _ _).mono ?_;rintro e w' ⟨rfl,rfl⟩) | (go_at_call 45;refine(within_any _ _ _ _).mono ?_;rintro e w' ⟨rfl,rfl⟩));go_ret2;exact⟨rfl,rfl⟩
theorem part_in (n a b:Int)(up:Bool)(w:World)(hm:money n=true)(ha:betw (-10000) a 10000=true)(hb:betw 1 b 10000=true)(q:Bool)(hq:money (divUp (n*a) b up)=q) :
  Calls Tryz.prog 166 #[.int .i64 n,.int .i64 a,.int .i64 b,.bool up] w fun e w'=>e=.returned (.tuple #[.int .i64 (if q=true then divUp (n*a) b up else 0),.int .i64 (if q=true then 0 else 7)])/\∃k,w'=w.drewN k:=by
 have HB:=hide (mul_bd (money_true hm) (betw_true ha));obtain⟨b1,b2⟩:=betw_true hb;obtain⟨p1,p2⟩:=mul_bd (money_true hm) (betw_true ha);cases q
 rotate_left;all_goals
  go_enter Tryz.func166,Tryz.ntmps166;go_wp2_with (first | (go_at_call 26;refine(money_any _ _).mono ?_;rintro e w' ⟨rfl,rfl⟩) | (go_at_call 45;refine(within_any _ _ _ _).mono ?_;rintro e w' ⟨rfl,rfl⟩) | (go_at_call 201;refine(divide_any _ _ _ _ (unhide HB) b1 b2).mono ?_;rintro e w' ⟨rfl,kk,rfl⟩));go_ret2;exact⟨rfl,_,rfl⟩
theorem part_any (n a b:Int)(up:Bool)(w:World) :
  Calls Tryz.prog 166 #[.int .i64 n,.int .i64 a,.int .i64 b,.bool up] w fun e w'=>e=.returned (.tuple #[.int .i64 (partR n a b up).1,.int .i64 (partR n a b up).2])/\∃k,w'=w.drewN k:=by
 by_cases h:money n=true/\betw (-10000) a 10000=true/\betw 1 b 10000=true
 ·refine(part_in n a b up w h.1 h.2.1 h.2.2 _ rfl).mono ?_;rintro e w' ⟨rfl,hk⟩;refine⟨?_,hk⟩;unfold partR;rw [if_pos h]
  cases money (divUp (n*a) b up)<;>rfl
 ·refine(part_range n a b up w ?_).mono ?_
  ·cases hm:money n
   ·exact .inl rfl
   ·cases ha:betw (-10000) a 10000
    ·exact .inr (.inl rfl)
    ·cases hb:betw 1 b 10000
     ·exact .inr (.inr rfl)
     ·exact absurd ⟨hm,ha,hb⟩ h
  ·rintro e w' ⟨rfl,rfl⟩;unfold partR;rw [if_neg h];exact⟨rfl,0,rfl⟩
theorem worth_no (q p:Int)(w:World)(h:betw (-1000) q 1000=false\/betw 0 p 10000=false) :
  Calls Tryz.prog 165 #[.int .i64 q,.int .i64 p] w fun e w'=>e=.returned (.tuple #[.int .i64 0,.int .i64 3])/\w'=w:=by
 cases hq:betw (-1000) q 1000
 rotate_left;focus
  have hp:betw 0 p 10000=false:=by rcases h with h | h<;>simp_all
  clear h
 all_goals
  go_enter Tryz.func165,Tryz.ntmps165;go_wp2_with (go_at_call 45;refine(within_any _ _ _ _).mono ?_;rintro e w' ⟨rfl,rfl⟩);go_ret2;exact⟨rfl,rfl⟩
theorem worth_yes (q p:Int)(w:World)(hq:betw (-1000) q 1000=true)(hp:betw 0 p 10000=true) :
  Calls Tryz.prog 165 #[.int .i64 q,.int .i64 p] w fun e w'=>e=.returned (.tuple #[.int .i64 (q*p),.int .i64 0])/\w'=w:=by
 have ⟨m1,m2⟩:=mul_bd (n:=q) (a:=p) (by have:=betw_true hq;omega) (by have:=betw_true hp;omega);go_enter Tryz.func165,Tryz.ntmps165;go_wp2_with (go_at_call 45;refine(within_any _ _ _ _).mono ?_;rintro e w' ⟨rfl,rfl⟩);go_ret2;exact⟨rfl,rfl⟩
theorem ret_int {a b:Int}(h:a=b):Ending.returned (.int .i64 a)=.returned (.int .i64 b):=by rw [h]
theorem middle_any (a b c:Int)(w:World) :
  Calls Tryz.prog 172 #[.int .i64 a,.int .i64 b,.int .i64 c] w fun e w'=>e=.returned (.int .i64 (middleR a b c))/\w'=w:=by
 go_enter Tryz.func172,Tryz.ntmps172;go_wp2;all_goals
  go_ret;refine⟨ret_int ?_,rfl⟩;unfold middleR;omega
def Row (w:World) (a:Option Addr) (xs:List Int):Prop :=
 xs=[]\/∃b off,a=some ⟨b,off,none⟩/\∀i,i<xs.length->w.cell? ⟨b,off+i,none⟩=some (.int .i64 (xs.getD i 0))
theorem drop_get (xs:List Int)(k:Nat)(h:k<xs.length):xs.drop k=xs.getD k 0::xs.drop (k+1):=by
 rw [List.drop_eq_getElem_cons h];simp [h]
theorem add_some (b off cap:Nat)(xs:List Int)(w:World)(hm:xs.length<=maxLen)
  (hc:∀i,i<xs.length->w.cell? ⟨b,off+i,none⟩=some (.int .i64 (xs.getD i 0))) :
  Calls Tryz.prog 155 #[.slice (some ⟨b,off,none⟩) xs.length cap] w fun e w'=>e=.returned (.tuple #[.int .i64 (addFrom 0 xs).1,.int .i64 (addFrom 0 xs).2])/\w'=w:=by
 unfold maxLen at hm;go_enter Tryz.func155,Tryz.ntmps155;go_wp2
 go_loop [4,9] (fun t i=>∃(k:Nat) (s:Int),k<=xs.length/\i=.int .i64 k/\t=.int .i64 s/\money s=true/\addFrom 0 xs=addFrom s (xs.drop k)) (fun _ i=>xs.length - (intOf i).toNat)
 case atStart=>exact⟨0,0,Nat.zero_le _,rfl,rfl,rfl,rfl⟩
 case round =>
  obtain⟨k,s,hk,rfl,rfl,hs,ha⟩:=hrel;have ⟨s1,s2⟩:=money_true hs;by_cases hlt:k<xs.length
  ·have hcell:=hc k hlt;rw [drop_get xs k hlt] at ha;have HA:=hide ha;clear ha hc;generalize hx:xs.getD k 0=x at *;clear hx;cases hmx:money x
   ·have HF:=hide ((unhide HA).trans (addFrom_range hmx));go_wp2_with (go_at_call 26;refine(money_any _ _).mono ?_;rintro e w' ⟨rfl,rfl⟩);go_ret2;exact⟨by rw [unhide HF];rfl,rfl⟩
   ·have ⟨x1,x2⟩:=money_true hmx
    cases hsx:money (s+x)
    ·have HF:=hide ((unhide HA).trans (addFrom_full hmx hsx));go_wp2_with (go_at_call 26;refine(money_any _ _).mono ?_;rintro e w' ⟨rfl,rfl⟩);go_ret2;exact⟨by rw [unhide HF];rfl,rfl⟩
    ·have HF:=hide ((unhide HA).trans (addFrom_on hmx hsx));go_wp2_with (go_at_call 26;refine(money_any _ _).mono ?_;rintro e w' ⟨rfl,rfl⟩);go_round
     case rel=>exact⟨k+1,s+x,by omega,by go_num,rfl,hsx,unhide HF⟩
     case measure=>simp [intOf];omega
  ·have HF:Hid (addFrom 0 xs=(s,0)):=by rw [ha,List.drop_eq_nil_of_le (by omega)];exact addFrom_nil s
   clear ha hc;go_wp2;go_ret2;exact⟨by rw [unhide HF];rfl,rfl⟩
theorem add_none (a:Option Addr)(cap:Nat)(w:World) :
  Calls Tryz.prog 155 #[.slice a 0 cap] w fun e w'=>e=.returned (.tuple #[.int .i64 0,.int .i64 0])/\w'=w:=by
 go_enter Tryz.func155,Tryz.ntmps155;go_wp2
 go_loop [4,9] (fun t i=>i=.int .i64 0/\t=.int .i64 0) (fun _ _=>0)
 case atStart=>exact⟨rfl,rfl⟩
 case round =>
  obtain⟨rfl,rfl⟩:=hrel;go_wp2;go_ret2;exact⟨rfl,rfl⟩
theorem add_any (a:Option Addr)(len cap:Nat)(xs:List Int)(w:World)(hl:xs.length=len)(hm:len<=maxLen)(hr:Row w a xs) :
  Calls Tryz.prog 155 #[.slice a len cap] w fun e w'=>e=.returned (.tuple #[.int .i64 (addFrom 0 xs).1,.int .i64 (addFrom 0 xs).2])/\w'=w:=by
 subst hl;rcases hr with rfl | ⟨b,off,rfl,hc⟩
 ·exact add_none a cap w
 ·exact add_some b off cap xs w hm hc
end Go.Proofs.YthdjfhnhjiageaaGreatDoor.Fix
namespace Go.Proofs.YthdjfhnhjiageaaGreatDoor.AcP
open Num
def pos1 (x:Int):Bool:=betw (-1000) x 1000
def accErr (id bal:Int) (pos:List Int) (m:Int):Int :=
 if betw 0 id 7=true then
  if betw 1 m 2=true/\(pos.length:Int)=m then
   if money bal=true/\pos.all pos1=true then 0 else 3
  else 4
 else 5
theorem accErr_ok {id bal:Int}{pos:List Int}{m:Int}(h:accErr id bal pos m=0) :
  betw 0 id 7=true/\betw 1 m 2=true/\(pos.length:Int)=m/\money bal=true/\pos.all pos1=true:=by
 unfold accErr at h;by_cases h1:betw 0 id 7=true
 ·rw [if_pos h1] at h;by_cases h2:betw 1 m 2=true/\(pos.length:Int)=m
  ·rw [if_pos h2] at h;by_cases h3:money bal=true/\pos.all pos1=true
   ·exact⟨h1,h2.1,h2.2,h3.1,h3.2⟩
   ·rw [if_neg h3] at h;exact absurd h (by decide)
  ·rw [if_neg h2] at h;exact absurd h (by decide)
 ·rw [if_neg h1] at h;exact absurd h (by decide)
theorem accErr_mk {id bal:Int}{pos:List Int}{m:Int}(h1:betw 0 id 7=true)(h2:betw 1 m 2=true)(h3:(pos.length:Int)=m)(h4:money bal=true)(h5:pos.all pos1=true):accErr id bal pos m=0:=by
 unfold accErr;rw [if_pos h1,if_pos ⟨h2,h3⟩,if_pos ⟨h4,h5⟩]
def tradeErr (id bal:Int) (pos:List Int) (mk q p fee:Int):Int :=
 if accErr id bal pos pos.length=0 then
  if 0<=mk/\mk<pos.length then
   if betw (-1000) q 1000=true/\betw 0 p 10000=true then
    if money (bal - q*p)=true then
     if money fee=true then
      if money (bal - q*p - fee)=true then
       if pos1 (pos.getD mk.toNat 0+q)=true then 0 else 7
      else 7
     else 3
    else 7
   else 3
  else 5
 else accErr id bal pos pos.length
theorem tradeErr_ok {id bal:Int}{pos:List Int}{mk q p fee:Int}(h:tradeErr id bal pos mk q p fee=0) :
  accErr id bal pos pos.length=0/\(0<=mk/\mk<pos.length)/\betw (-1000) q 1000=true/\betw 0 p 10000=true/\money (bal - q*p)=true/\money fee=true/\money (bal - q*p - fee)=true/\pos1 (pos.getD mk.toNat 0+q)=true:=by
 unfold tradeErr at h;split at h
 next h1 =>
  split at h
  next h2 =>
   split at h
   next h3 =>
    split at h
    next h4 =>
     split at h
     next h5 =>
      split at h
      next h6 =>
       split at h
       next h7=>exact⟨h1,h2,h3.1,h3.2,h4,h5,h6,h7⟩
       next=>exact absurd h (by decide)
      next=>exact absurd h (by decide)
     next=>exact absurd h (by decide)
    next=>exact absurd h (by decide)
   next=>exact absurd h (by decide)
  next=>exact absurd h (by decide)
 next h1=>exact absurd h h1
def worths:List Int->List Int->Option (List Int)
 |p::ps,m::ms=>if betw (-1000) p 1000=true/\betw 0 m 10000=true then (worths ps ms).map (fun l=>p*m::l) else none
 |_,_=>some []
def equityR (id bal:Int) (pos marks:List Int):Int × Int :=
 if accErr id bal pos marks.length=0 then
  match worths pos marks with
  |none=>(0,3)
  |some l=>addFrom 0 (bal::l)
 else (0,accErr id bal pos marks.length)
def feeR (q p:Int):Int × Int:=if betw (-1000) q 1000=true/\betw 0 p 10000=true then (divUp (max (q*p) (-(q*p))*5) 10000 true,0) else (0,3)
theorem all_set {pos:List Int}{k:Nat}{v:Int}(h:pos.all pos1=true)(hv:pos1 v=true):(pos.set k v).all pos1=true:=by
 rw [List.all_eq_true] at h ⊢;intro x hx;rcases List.mem_or_eq_of_mem_set hx with hx | rfl
 ·exact h x hx
 ·exact hv
theorem all_get {pos:List Int}{k:Nat}(h:pos.all pos1=true)(hk:k<pos.length):pos1 (pos.getD k 0)=true:=by
 rw [List.all_eq_true] at h;rw [List.getD_eq_getElem?_getD,List.getElem?_eq_getElem hk];exact h _ (List.getElem_mem hk)
end Go.Proofs.YthdjfhnhjiageaaGreatDoor.AcP
