import Derived.Test.YthdjfhnhjiageaaGreatDoorRows
import Derived.Lay
import Derived.Stop.Joined
import Derived.MakeChecks
import Derived.Lib.SmallJoins
import Derived.Test.YthdjfhnhjiageaaGreatDoorG40
set_option maxHeartbeats 8000000
set_option maxRecDepth 100000
namespace Go.Proofs.YthdjfhnhjiageaaGreatDoor.Rk
open Go.ChangeShapes Go.WideShapes Go.ChangeAt Go.RowKit
theorem gTiers : Tryz.prog.globalNamed "tollbooth/risk.tiers" = some 8 := by kernel_rfl
theorem tTiers:(Tryz.prog.globals[8]?).map (·.type)=some 291:=by kernel_rfl
theorem c56:Tryz.prog.cellsOf 278=3:=by kernel_rfl
theorem c70:Tryz.prog.cellsOf 291=9:=by kernel_rfl
theorem three_ints {W:World}{fuel:Nat}{spare:Nat->Bool}{held:Bool}{enc:TypeId × Value->Unit}{base:Nat}{cs:List Value}{x:DataW Unit × List MemPlace}(h:DataW.trod enc Tryz.prog W base spare held fuel 278 cs=some x) :
  ∃a b c:Int,cs=[.int .i64 a,.int .i64 b,.int .i64 c]/\x.1=.agg [.lit (.int .i64 a),.lit (.int .i64 b),.lit (.int .i64 c)]:=by
 obtain⟨y0,y1,y2,m,rfl,hl,t0,t1,t2⟩:=Go.Deep.trod_struct3 Tryz.underlying278 h;rw [c56] at hl;match cs,hl with
 |[u,v,z],_ =>
  obtain⟨a,ea,da,-⟩:=DataW.trod_int Tryz.underlying3 t0;obtain⟨b,eb,db,-⟩:=DataW.trod_int Tryz.underlying3 t1;obtain⟨c,ec,dc,-⟩:=DataW.trod_int Tryz.underlying3 t2;rw [show Tryz.prog.cellsOf 3=1 by kernel_rfl] at ea eb ec;simp at ea eb ec;subst ea eb ec;exact⟨a,b,c,rfl,by rw [da,db,dc]⟩
theorem of_head {W : World} {l : List (String × DataW Unit)} (h : laidMet Tryz.prog (("tollbooth/risk.tiers", Rows.laid_tollbooth_risk_tiers) :: l) W) : Laid W := by
 obtain⟨ps,⟨g0,t0,cs0,f0,p0,q0,hg0,ht0,hv0,hd0,_,_⟩,_,_⟩:=h;obtain rfl:=Option.some.inj (gTiers.symm.trans hg0);obtain rfl:=Option.some.inj (tTiers.symm.trans ht0);obtain⟨xs,m1,rfl,hx1,hlen,hn3,hel⟩:=DataW.trod_array Tryz.underlying291 hd0;have h0:=hel 0 (by decide);have h1:=hel 1 (by decide);have h2:=hel 2 (by decide);rw [c56] at h0 h1 h2;obtain⟨l⟩:=cs0;rw [c70] at hlen;match xs,hn3,hx1,h0,h1,h2 with
 |[x0,x1,x2],_,hx1,h0,h1,h2 =>
  obtain⟨a0,b0,c0,e0,d0⟩:=three_ints h0;obtain⟨a1,b1,c1,e1,d1⟩:=three_ints h1;obtain⟨a2,b2,c2,e2,d2⟩:=three_ints h2;simp only [Rows.laid_tollbooth_risk_tiers,Prod.mk.injEq,DataW.agg.injEq,List.map_cons,List.map_nil,d0,d1,d2,List.cons.injEq,DataW.lit.injEq,Lit.int.injEq,and_true,true_and] at hx1;obtain⟨⟨⟨ra0,rb0,rc0⟩,⟨ra1,rb1,rc1⟩,ra2,rb2,rc2⟩,-⟩:=hx1;subst ra0 rb0 rc0 ra1 rb1 rc1 ra2 rb2 rc2;have hl:l=[.int .i64 0,.int .i64 10,.int .i64 5,.int .i64 100000,.int .i64 20,.int .i64 10,.int .i64 1000000,.int .i64 50,.int .i64 25]:=by
   have s1:l=l.take 3++((l.drop 3).take 3++(l.drop 6).take 3):=by
    have r1:(l.drop 6).take 3=l.drop 6:=List.take_of_length_le (by simp at hlen ⊢;omega);rw [r1];have r2:(l.drop 3).take 3++l.drop 6=l.drop 3:=by
     have:=List.take_append_drop 3 (l.drop 3);rwa [List.drop_drop] at this
    rw [r2,List.take_append_drop]
   rw [s1];simp only [Nat.zero_mul,Nat.one_mul,List.drop_zero] at e0 e1 e2;rw [e0,e1,e2];rfl
  intro i hi;rw [World.var?_cell hg0 hv0 i,hl];match i,hi with
  |0,_=>rfl
  |1,_=>rfl
  |2,_=>rfl
  |3,_=>rfl
  |4,_=>rfl
  |5,_=>rfl
  |6,_=>rfl
  |7,_=>rfl
  |8,_=>rfl
end Go.Proofs.YthdjfhnhjiageaaGreatDoor.Rk
namespace Go.Proofs.YthdjfhnhjiageaaGreatDoor.Ac
open Go.ChangeShapes Go.WideShapes Go.ChangeAt Go.RowKit Go.Joins Fix
variable {H:Type} {enc:TypeId × Value->H} {w:World} {base:Nat} {spare:Nat->Bool} {held:Bool}
theorem cellsA:Tryz.prog.cellsOf 89=3:=by kernel_rfl
theorem row_of {w:World}{x:Addr}{len:Nat}{zs:List Int}(hl:len<=zs.length)(hc:∀i,i<zs.length->w.cell? (x.add i)=some (.int .i64 (zs.getD i 0))):Row w (some x) (zs.take len):=by
 by_cases h0:len=0
 ·subst h0;exact .inl rfl
 ·obtain⟨b,off,spot⟩:=x;have hs:spot=none:=by simpa [Addr.add] using World.cell?_spot (hc 0 (by omega))
  subst hs;refine .inr ⟨b,off,rfl,?_⟩;intro i hi;simp only [List.length_take] at hi;have hci:=hc i (by omega);rw [show (⟨b,off,none⟩:Addr).add i = ⟨b,off+i,none⟩ from by simp [Addr.add]] at hci;rw [hci];simp [show i<len by omega]
theorem ints_read {fuel:Nat}{v:Value}{x:DataW H × List MemPlace}(h:DataW.trod enc Tryz.prog w base spare held fuel 87 [v]=some x) :
  ∃p n c,∃pos:List Int,v=.slice p n c/\pos.length=n/\Row w p pos/\(x.1=.nil/\n=0\/∃es ss,x.1=.slice es ss/\es.length=n):=by
 rcases open_ints Tryz.underlying87 Tryz.underlying3 (by kernel_rfl) h with⟨hcs,hx⟩ | ⟨a,l,c,zs,hcs,_,hl,hm,hz,hx,hcell,hwz⟩
 ·simp at hcs;subst hcs hx;exact⟨none,0,0,[],rfl,rfl,.inl rfl,.inl ⟨rfl,rfl⟩⟩
 ·simp at hcs;subst hcs hx;have hlz:l<=zs.length:=by rw [hz];split<;>omega
  exact⟨some a,l,c,zs.take l,rfl,by simp;omega,row_of hlz hcell,.inr ⟨_,_,rfl,by simp [lits];omega⟩⟩
end Go.Proofs.YthdjfhnhjiageaaGreatDoor.Ac
namespace Go.Proofs.YthdjfhnhjiageaaGreatDoor.Ac
open Go.ChangeShapes Go.WideShapes Go.ChangeAt Go.RowKit Go.Joins Fix
variable {H:Type} {enc:TypeId × Value->H} {w:World} {base:Nat} {spare:Nat->Bool} {held:Bool}
theorem ints_nil {fuel:Nat}{p:Option Addr}{n c:Nat}{x:DataW H × List MemPlace}(h:DataW.trod enc Tryz.prog w base spare held fuel 87 [.slice p n c]=some x):p=none->c=0:=by
 rcases open_ints Tryz.underlying87 Tryz.underlying3 (by kernel_rfl) h with⟨hcs,hx⟩ | ⟨a,l,c',zs,hcs,_⟩
 ·simp at hcs;exact fun _=>hcs.2.2
 ·simp at hcs;intro hp;rw [hp] at hcs;exact absurd hcs.1 (by simp)
end Go.Proofs.YthdjfhnhjiageaaGreatDoor.Ac
namespace Go.Proofs.YthdjfhnhjiageaaGreatDoor.Ac
open Go.ChangeShapes Go.WideShapes Go.ChangeAt Go.RowKit Go.Joins Go.Deep Fix
variable {H:Type} {enc:TypeId × Value->H} {w:World} {base:Nat} {spare:Nat->Bool} {held:Bool}
theorem cellsI:Tryz.prog.cellsOf 3=1:=by kernel_rfl
theorem cellsL:Tryz.prog.cellsOf 87=1:=by kernel_rfl
theorem bytesA:Tryz.prog.bytesOf 89=40:=by kernel_rfl
theorem weights_in {e:TypeId}{d:DataW H}{ds:List (DataW H)}(h:d∈ds)(m:Nat)(hm:m∈d.weights Tryz.prog e):m∈DataW.weightsAll Tryz.prog e ds:=by
 induction ds with
 |nil=>cases h
 |cons x ds ih =>
  rw [DataW.weightsAll];rcases List.mem_cons.1 h with rfl | h
  ·exact List.mem_append_left _ hm
  ·exact List.mem_append_right _ (ih h)
theorem acc_cells {fuel:Nat}{cs:List Value}{x:DataW H × List MemPlace}(h:DataW.trod enc Tryz.prog w base spare held fuel 89 cs=some x)
  (hw:∀m,m∈x.1.weights Tryz.prog 89->m<=reachBytes):∃a:Am,cs=encA a/\AOk w a:=by
 obtain⟨y0,y1,y2,n,rfl,hl,t0,t1,t2⟩:=Go.Deep.trod_struct3 Tryz.underlying89 h;rw [cellsA] at hl;match cs,hl with
 |[u0,u1,u2],_ =>
  obtain⟨id,e0,-,-⟩:=DataW.trod_int Tryz.underlying3 t0;obtain⟨bal,e1,-,-⟩:=DataW.trod_int Tryz.underlying3 t1;rw [cellsI] at e0 e1;simp at e0 e1;subst e0 e1;rw [cellsL] at t2;obtain⟨p,n',c,pos,e2,hl',hr,hx⟩:=ints_read (v:=u2) (by simpa using t2);subst e2;refine⟨⟨id,bal,p,n',c,pos⟩,rfl,⟨hl',?_,ints_nil (by simpa using t2),hr⟩⟩;rcases hx with⟨_,hx⟩ | ⟨es,ss,hx,hes⟩
  ·show n' * 8<=_;omega
  ·have:=hw ((es.length+ss.length)*Tryz.prog.bytesOf 3) (by rw [hx];simp [DataW.weights,DataW.weightsEach,Tryz.underlying89,Tryz.underlying87]);rw [show Tryz.prog.bytesOf 3=8 from by kernel_rfl] at this;have h4:reachBytes=140737488351232:=by decide
   show n' * 8<=_;omega
instance:Inhabited Am:=⟨⟨0,0,none,0,0,[]⟩⟩
theorem addL (b off j:Nat):(⟨b,off,none⟩:Addr).add j = ⟨b,off+j,none⟩:=by unfold Addr.add;split<;>simp_all
theorem accs_read {fuel:Nat}{v:Value}{x:DataW H × List MemPlace}(h:DataW.trod enc Tryz.prog w base spare held fuel 48 [v]=some x)
  (hw:∀m,m∈x.1.weights Tryz.prog 48->m<=reachBytes):∃p n c,∃L:List Am,v=.slice p n c/\L.length=n/\n*40<=140737488351232/\AL w p L:=by
 rcases open_slice Tryz.underlying48 h with⟨hcs,rfl⟩ | ⟨a,len,cap,m,n,D,Pl,hcs,hb,hl,hm,hmm,rfl,hx⟩
 ·simp at hcs;subst hcs;exact⟨none,0,0,[],rfl,rfl,by omega,al_nil _ _⟩
 ·simp at hcs;subst hcs;have hlm:len<=m:=by rw [hmm];split<;>omega
  have each:∀i,i<len->∃o:Am,w.cells? base (a.add (i*3)) 3=some (encA o)/\AOk w o:=fun i hi=>by
   obtain⟨cs',h1,h2⟩:=hx i (by omega);obtain⟨o,rfl,ho⟩:=acc_cells h2 (fun k hk=>hw k (by
    simp only [DataW.weights,Tryz.underlying48];exact List.mem_cons_of_mem _ (List.mem_append_left _ (weights_in (List.mem_map.2 ⟨i,by simpa using hi,rfl⟩) k hk))))
   rw [cellsA] at h1;exact⟨o,h1,ho⟩
  obtain⟨q,hq⟩:=choose_lt each;have few:len*40<=140737488351232:=by
   have:=hw ((((List.range len).map D).length+((List.range (m - len)).map fun j=>D (len+j)).length)*Tryz.prog.bytesOf 89) (by simp only [DataW.weights,Tryz.underlying48];exact List.mem_cons_self);rw [bytesA] at this;have h4:reachBytes=140737488351232:=by decide
   simp at this;omega
  refine⟨some a,len,cap,(List.range len).map q,rfl,by simp,few,⟨?_,fun o ho=>?_⟩⟩
  ·by_cases h0:len=0
   ·subst h0;exact .inl rfl
   ·obtain⟨b,off,spot⟩:=a;have hc0:=(World.cells?_some (hq 0 (by omega)).1).2.2 0 (by decide);have hs:spot=none:=by simpa [Addr.add] using World.cell?_spot hc0
    subst hs;refine .inr ⟨b,off,rfl,fun j u hu=>?_⟩;have hjl:j<len*3:=by
     have:=(List.getElem?_eq_some_iff.1 hu).1;rw [flatA_len] at this;simpa using this
    have hj3:j / 3<len:=by omega
    have hcj:=(World.cells?_some (hq (j / 3) hj3).1).2.2 (j % 3) (by omega);have hg:=flatA_get ((List.range len).map q) (j / 3) (by simpa using hj3) (j % 3) (by omega);rw [show j / 3*3+j % 3=j by omega,hu] at hg;simp only [List.getElem_map,List.getElem_range] at hg;rw [<- hg,addL,addL,Nat.add_assoc,show j / 3*3+j % 3=j by omega] at hcj;exact hcj
  ·obtain⟨i,hi,rfl⟩:=List.mem_map.1 ho;exact(hq i (by simpa using hi)).2
end Go.Proofs.YthdjfhnhjiageaaGreatDoor.Ac
namespace Go.Proofs.YthdjfhnhjiageaaGreatDoor.Bk
open Go.RowKit Go.Sort Go.Maps Go.Deep Go.Joins
variable {H:Type} {enc':TypeId × Value->H} {w:World} {base:Nat} {spare:Nat->Bool} {held:Bool}
theorem cellsO:Tryz.prog.cellsOf 26=5:=by kernel_rfl
theorem order_cells {fuel:Nat}{cs:List Value}{x:DataW H × List MemPlace}(h:DataW.trod enc' Tryz.prog w base spare held fuel 26 cs=some x):∃o:Odr,cs=enc o:=by
 obtain⟨xs,n,_,_,hl,hxl,hf⟩:=DataW.trod_struct Tryz.underlying26 h;rw [cellsO] at hl;have c3:Tryz.prog.cellsOf 3=1:=by kernel_rfl
 rcases cs with _ | ⟨c0,_ | ⟨c1,_ | ⟨c2,_ | ⟨c3',_ | ⟨c4,_ | ⟨c5,cs⟩⟩⟩⟩⟩⟩<;>simp at hl;rcases xs with _ | ⟨z0,_ | ⟨z1,_ | ⟨z2,_ | ⟨z3,_ | ⟨z4,_ | ⟨z5,xs⟩⟩⟩⟩⟩⟩<;>simp at hxl;obtain⟨y0,g0⟩:∃y,DataW.trod enc' Tryz.prog w base spare held n 3 (([c0,c1,c2,c3',c4].drop 0).take (Tryz.prog.cellsOf 3))=some y:=⟨z0,hf 0 _ rfl⟩;rw [c3] at g0;obtain⟨k0,e0,-,-⟩:=DataW.trod_int Tryz.underlying3 g0;obtain⟨y1,g1⟩:∃y,DataW.trod enc' Tryz.prog w base spare held n 3 (([c0,c1,c2,c3',c4].drop 1).take (Tryz.prog.cellsOf 3))=some y:=⟨z1,hf 1 _ rfl⟩;rw [c3] at g1;obtain⟨k1,e1,-,-⟩:=DataW.trod_int Tryz.underlying3 g1;obtain⟨y2,g2⟩:∃y,DataW.trod enc' Tryz.prog w base spare held n 3 (([c0,c1,c2,c3',c4].drop 2).take (Tryz.prog.cellsOf 3))=some y:=⟨z2,hf 2 _ rfl⟩;rw [c3] at g2;obtain⟨k2,e2,-,-⟩:=DataW.trod_int Tryz.underlying3 g2;obtain⟨y3,g3⟩:∃y,DataW.trod enc' Tryz.prog w base spare held n 3 (([c0,c1,c2,c3',c4].drop 3).take (Tryz.prog.cellsOf 3))=some y:=⟨z3,hf 3 _ rfl⟩;rw [c3] at g3;obtain⟨k3,e3,-,-⟩:=DataW.trod_int Tryz.underlying3 g3;obtain⟨y4,g4⟩:∃y,DataW.trod enc' Tryz.prog w base spare held n 3 (([c0,c1,c2,c3',c4].drop 4).take (Tryz.prog.cellsOf 3))=some y:=⟨z4,hf 4 _ rfl⟩;rw [c3] at g4;obtain⟨k4,e4,-,-⟩:=DataW.trod_int Tryz.underlying3 g4;simp at e0 e1 e2 e3 e4;subst e0 e1 e2 e3 e4;exact⟨(k0,k1,k2,k3,k4),rfl⟩
theorem side_read {fuel:Nat}{cs:List Value}{x:DataW H × List MemPlace}(h:DataW.trod enc' Tryz.prog w base spare held fuel 92 cs=some x) :
  ∃p c,∃xs:List Odr,cs=[.slice p xs.length c]/\OV w p c xs/\(x.1=.nil/\xs=[]\/∃es ss,x.1=.slice es ss/\es.length=xs.length):=by
 rcases open_slice Tryz.underlying92 h with⟨rfl,rfl⟩ | ⟨a,len,cap,m,n,D,Pl,rfl,hb,hl,hm,hmm,rfl,hx⟩
 ·exact⟨none,0,[],rfl,ov_nil w,.inl ⟨rfl,rfl⟩⟩
 ·have hlm:len<=m:=by rw [hmm];split<;>omega
  have each:∀i,i<len->∃o:Odr,w.cells? base (a.add (i*5)) 5=some (enc o):=fun i hi=>by
   obtain⟨cs',h1,h2⟩:=hx i (by omega);obtain⟨o,rfl⟩:=order_cells h2;rw [cellsO] at h1;exact⟨o,h1⟩
  obtain⟨q,hq⟩:=choose_lt each;refine⟨some a,cap,(List.range len).map q,by simp,⟨?_,(fun h=>by cases h),by simpa using hl⟩,.inr ⟨_,_,rfl,by simp⟩⟩;by_cases h0:len=0
  ·subst h0;exact .inl rfl
  ·obtain⟨b,off,spot⟩:=a;have hc0:=(World.cells?_some (hq 0 (by omega))).2.2 0 (by decide);have hs:spot=none:=by simpa [Addr.add] using World.cell?_spot hc0
   subst hs;refine .inr ⟨b,off,rfl,fun j hj i v hv=>?_⟩;have hj':j<len:=by simpa using hj
   have hi:i<5:=by have:=(List.getElem?_eq_some_iff.1 hv).1;rw [enc_length] at this;exact this
   have hcj:=(World.cells?_some (hq j hj')).2.2 i hi;rw [getElem!_pos _ j hj] at hv;simp only [List.getElem_map,List.getElem_range] at hv;rw [hv,add_lit,add_lit] at hcj;exact hcj
end Go.Proofs.YthdjfhnhjiageaaGreatDoor.Bk
namespace Go.Proofs.YthdjfhnhjiageaaGreatDoor.Vn
open Go.ChangeShapes Go.WideShapes Go.ChangeAt Go.RowKit Go.Joins Go.Deep Fix Ac Bk Rm
variable {H:Type} {enc:TypeId × Value->H} {w:World} {base:Nat} {spare:Nat->Bool} {held:Bool}
theorem reach4:reachBytes=140737488351232:=by decide
theorem cellsMk:Tryz.prog.cellsOf 96=4:=by kernel_rfl
theorem cellsBk:Tryz.prog.cellsOf 94=2:=by kernel_rfl
theorem cellsSd:Tryz.prog.cellsOf 92=1:=by kernel_rfl
theorem cellsIn:Tryz.prog.cellsOf 3=1:=by kernel_rfl
theorem cellsVn:Tryz.prog.cellsOf 51=7:=by kernel_rfl
theorem cellsAs:Tryz.prog.cellsOf 48=1:=by kernel_rfl
theorem cellsMs:Tryz.prog.cellsOf 49=1:=by kernel_rfl
theorem bytesOr:Tryz.prog.bytesOf 26=40:=by kernel_rfl
theorem bytesMk:Tryz.prog.bytesOf 96=64:=by kernel_rfl
theorem mkt_cells {fuel:Nat}{cs:List Value}{x:DataW H × List MemPlace}(h:DataW.trod enc Tryz.prog w base spare held fuel 96 cs=some x)
  (hw:∀m,m∈x.1.weights Tryz.prog 96->m<=reachBytes):∃m:Mkt,cs=mCells m/\MOk w m/\OV w m.1.1 m.1.2.1 (mB m)/\OV w m.2.1.1 m.2.1.2.1 (mA m):=by
 obtain⟨y0,y1,y2,n,rfl,hl,t0,t1,t2⟩:=Go.Deep.trod_struct3 Tryz.underlying96 h;rw [cellsMk] at hl;match cs,hl with
 |[u0,u1,u2,u3],_ =>
  obtain⟨idx,e2,-,-⟩:=DataW.trod_int Tryz.underlying3 t1;obtain⟨last,e3,-,-⟩:=DataW.trod_int Tryz.underlying3 t2;rw [cellsIn] at e2 e3;simp at e2 e3;subst e2 e3;obtain⟨z0,z1,m,rfl,hl2,s0,s1⟩:=trod_struct2 Tryz.underlying94 t0;obtain⟨p,c,bids,eb,ob,xb⟩:=Bk.side_read s0;obtain⟨p',c',asks,ea,oa,xa⟩:=Bk.side_read s1;rw [cellsBk,cellsSd] at eb ea;simp at eb ea;subst eb ea;have h4:=reach4;have f1:bids.length<=140737488351232:=by
   rcases xb with⟨_,hx⟩ | ⟨es,ss,hx,hl⟩
   ·rw [hx];simp
   ·have:=hw ((es.length+ss.length)*Tryz.prog.bytesOf 26) (by rw [hx];simp [DataW.weights,DataW.weightsEach,Tryz.underlying96,Tryz.underlying94,Tryz.underlying92]);rw [bytesOr] at this;omega
  have f2:asks.length<=140737488351232:=by
   rcases xa with⟨_,hx⟩ | ⟨es,ss,hx,hl⟩
   ·rw [hx];simp
   ·have:=hw ((es.length+ss.length)*Tryz.prog.bytesOf 26) (by rw [hx];simp [DataW.weights,DataW.weightsEach,Tryz.underlying96,Tryz.underlying94,Tryz.underlying92]);rw [bytesOr] at this;omega
  exact⟨((p,c,bids),(p',c',asks),idx,last),rfl,⟨ob.row,oa.row,f1,f2⟩,ob,oa⟩
theorem mkts_read {fuel:Nat}{v:Value}{x:DataW H × List MemPlace}(h:DataW.trod enc Tryz.prog w base spare held fuel 49 [v]=some x)
  (hw:∀m,m∈x.1.weights Tryz.prog 49->m<=reachBytes):∃p c,∃L:List Mkt,v=.slice p L.length c/\(p=none->c=0)/\L.length<=140737488351232/\MRow w p L/\∀m,m∈L->MOk w m/\OV w m.1.1 m.1.2.1 (mB m)/\OV w m.2.1.1 m.2.1.2.1 (mA m):=by
 rcases open_slice Tryz.underlying49 h with⟨hcs,rfl⟩ | ⟨a,len,cap,m,n,D,Pl,hcs,hb,hl,hm,hmm,rfl,hx⟩
 ·simp at hcs;subst hcs;exact⟨none,0,[],rfl,fun _=>rfl,Nat.zero_le _,.inl rfl,fun _ h=>by cases h⟩
 ·simp at hcs;subst hcs;have hlm:len<=m:=by rw [hmm];split<;>omega
  have each:∀i,i<len->∃o:Mkt,w.cells? base (a.add (i*4)) 4=some (mCells o)/\MOk w o/\OV w o.1.1 o.1.2.1 (mB o)/\OV w o.2.1.1 o.2.1.2.1 (mA o):=fun i hi=>by
   obtain⟨cs',h1,h2⟩:=hx i (by omega);obtain⟨o,rfl,ho⟩:=mkt_cells h2 (fun k hk=>hw k (by
    simp only [DataW.weights,Tryz.underlying49];exact List.mem_cons_of_mem _ (List.mem_append_left _ (Ac.weights_in (List.mem_map.2 ⟨i,by simpa using hi,rfl⟩) k hk))))
   rw [cellsMk] at h1;exact⟨o,h1,ho⟩
  obtain⟨q,hq⟩:=choose_lt each;have few:len<=140737488351232:=by
   have:=hw ((((List.range len).map D).length+((List.range (m - len)).map fun j=>D (len+j)).length)*Tryz.prog.bytesOf 96) (by simp only [DataW.weights,Tryz.underlying49];exact List.mem_cons_self);rw [bytesMk] at this;have h4:=reach4;simp at this;omega
  refine⟨some a,cap,(List.range len).map q,by simp,(fun e=>by cases e),by simpa using few,?_,fun o ho=>?_⟩
  ·by_cases h0:len=0
   ·subst h0;exact .inl rfl
   ·obtain⟨b,off,spot⟩:=a;have hc0:=(World.cells?_some (hq 0 (by omega)).1).2.2 0 (by decide);have hs:spot=none:=by simpa [Addr.add] using World.cell?_spot hc0
    subst hs;refine .inr ⟨b,off,rfl,fun j u hu=>?_⟩;have hjl:j<len*4:=by
     have:=(List.getElem?_eq_some_iff.1 hu).1;rw [Vn.flat_len mCells_len] at this;simpa using this
    have hj4:j / 4<len:=by omega
    have hcj:=(World.cells?_some (hq (j / 4) hj4).1).2.2 (j % 4) (by omega);have hg:=Vn.flat_get mCells_len ((List.range len).map q) (j / 4) (by simpa using hj4) (j % 4) (by omega);rw [show j / 4*4+j % 4=j by omega,hu] at hg;simp only [List.getElem_map,List.getElem_range] at hg;rw [<- hg,Ac.addL,Ac.addL,Nat.add_assoc,show j / 4*4+j % 4=j by omega] at hcj;exact hcj
  ·obtain⟨i,hi,rfl⟩:=List.mem_map.1 ho;exact(hq i (by simpa using hi)).2
theorem accs_nil {fuel:Nat}{p:Option Addr}{n c:Nat}{x:DataW H × List MemPlace}(h:DataW.trod enc Tryz.prog w base spare held fuel 48 [.slice p n c]=some x):p=none->c=0:=by
 rcases open_slice Tryz.underlying48 h with⟨hcs,rfl⟩ | ⟨a,len,cap,m,n',D,Pl,hcs,_⟩
 ·simp at hcs;exact fun _=>hcs.2.2
 ·simp at hcs;intro hp;rw [hp] at hcs;exact absurd hcs.1 (by simp)
theorem int1 {fuel:Nat}{v:Value}{x:DataW H × List MemPlace}(h:DataW.trod enc Tryz.prog w base spare held fuel 3 [v]=some x):∃n,v=.int .i64 n:=by
 obtain⟨n,e,-,-⟩:=DataW.trod_int Tryz.underlying3 h;exact⟨n,by simpa using e⟩
theorem venue_read {r:Reach}{b0:Nat}{v:Value}{d:DataW H}{ps:List MemPlace}(hv:Value.okWide Tryz.prog w r b0 51 v)(h:DataW.Trod enc Tryz.prog w base spare held 51 v d ps)
  (hw:∀m,m∈d.weights Tryz.prog 51->m<=reachBytes):∃s:Tn,VIn w v s:=by
 obtain⟨cs,rfl,_⟩:=okWide_struct Tryz.underlying51 hv;obtain⟨fuel,hf0⟩:=h;obtain⟨xs,n,_,hx,hl,hxl,hf⟩:=DataW.trod_struct Tryz.underlying51 hf0;rw [cellsVn] at hl;have hcs:(Value.agg cs).cells.toList=cs.toList:=by simp [Value.cells]
 rw [hcs] at hl hf;obtain⟨l,hl0⟩:∃l,l=cs.toList:=⟨_,rfl⟩;rw [<- hl0] at hl hf;rcases l with _ | ⟨c0,_ | ⟨c1,_ | ⟨c2,_ | ⟨c3,_ | ⟨c4,_ | ⟨c5,_ | ⟨c6,_ | ⟨c7,l⟩⟩⟩⟩⟩⟩⟩⟩<;>simp at hl;rcases xs with _ | ⟨z0,_ | ⟨z1,_ | ⟨z2,_ | ⟨z3,_ | ⟨z4,_ | ⟨z5,_ | ⟨z6,_ | ⟨z7,xs⟩⟩⟩⟩⟩⟩⟩⟩<;>simp at hxl;have g0:DataW.trod enc Tryz.prog w base spare held n 48 (([c0,c1,c2,c3,c4,c5,c6].drop 0).take (Tryz.prog.cellsOf 48))=some z0:=hf 0 _ rfl;have g1:DataW.trod enc Tryz.prog w base spare held n 49 (([c0,c1,c2,c3,c4,c5,c6].drop 1).take (Tryz.prog.cellsOf 49))=some z1:=hf 1 _ rfl;rw [cellsAs] at g0;rw [cellsMs] at g1;obtain⟨y2,g2⟩:∃y,DataW.trod enc Tryz.prog w base spare held n 3 (([c0,c1,c2,c3,c4,c5,c6].drop 2).take (Tryz.prog.cellsOf 3))=some y:=⟨z2,hf 2 _ rfl⟩;rw [cellsIn] at g2;obtain⟨y3,g3⟩:∃y,DataW.trod enc Tryz.prog w base spare held n 3 (([c0,c1,c2,c3,c4,c5,c6].drop 3).take (Tryz.prog.cellsOf 3))=some y:=⟨z3,hf 3 _ rfl⟩;rw [cellsIn] at g3;obtain⟨y4,g4⟩:∃y,DataW.trod enc Tryz.prog w base spare held n 3 (([c0,c1,c2,c3,c4,c5,c6].drop 4).take (Tryz.prog.cellsOf 3))=some y:=⟨z4,hf 4 _ rfl⟩;rw [cellsIn] at g4;obtain⟨y5,g5⟩:∃y,DataW.trod enc Tryz.prog w base spare held n 3 (([c0,c1,c2,c3,c4,c5,c6].drop 5).take (Tryz.prog.cellsOf 3))=some y:=⟨z5,hf 5 _ rfl⟩;rw [cellsIn] at g5;obtain⟨y6,g6⟩:∃y,DataW.trod enc Tryz.prog w base spare held n 3 (([c0,c1,c2,c3,c4,c5,c6].drop 6).take (Tryz.prog.cellsOf 3))=some y:=⟨z6,hf 6 _ rfl⟩;rw [cellsIn] at g6;obtain⟨k2,e2⟩:=int1 (by simpa using g2);obtain⟨k3,e3⟩:=int1 (by simpa using g3);obtain⟨k4,e4⟩:=int1 (by simpa using g4);obtain⟨k5,e5⟩:=int1 (by simpa using g5);obtain⟨k6,e6⟩:=int1 (by simpa using g6);have hd:d=.agg [z0.1,z1.1,z2.1,z3.1,z4.1,z5.1,z6.1]:=by simpa using congrArg Prod.fst hx
 have g0':DataW.trod enc Tryz.prog w base spare held n 48 [c0]=some z0:=by simpa using g0
 have g1':DataW.trod enc Tryz.prog w base spare held n 49 [c1]=some z1:=by simpa using g1
 obtain⟨p,na,c,A,ea,hA,fA,aA⟩:=accs_read g0' (fun m hm=>hw m (by rw [hd];simp only [DataW.weights,Tryz.underlying51];simp [hm,DataW.weightsEach]));obtain⟨p',c',M,em,nM,fM,rM,oM⟩:=mkts_read g1' (fun m hm=>hw m (by rw [hd];simp only [DataW.weights,Tryz.underlying51];simp [hm,DataW.weightsEach]));subst ea;have nA:=accs_nil g0';subst hA;subst em e2 e3 e4 e5 e6;have hcs':cs = #[.slice p A.length c,.slice p' M.length c',.int .i64 k2,.int .i64 k3,.int .i64 k4,.int .i64 k5,.int .i64 k6]:=by cases cs;simp_all
 subst hcs';refine⟨⟨A.map Am.acc,M.map mpOf,k2,k3,k4,k5,k6,[]⟩,p,p',c,c',A,M,rfl,nA,nM,⟨rfl,rfl,by omega,fM,?_,rM,aA.each,fun m hm=>(oM m hm).1⟩,fun m hm=>(oM m hm).2,.inr fun x hx e=>by omega,.inr fun x hx e=>by omega,⟨fun a ha=>.inr fun x hx e=>by omega,fun m hm=>⟨.inr fun x hx e=>by omega,.inr fun x hx e=>by omega⟩⟩⟩;rcases aA.row with e | ⟨b,off,e,hc⟩
 ·exact .inl e
 ·exact .inr ⟨b,off,e,fun j u hu=>hc j u (by rw [flatA_is];exact hu)⟩
end Go.Proofs.YthdjfhnhjiageaaGreatDoor.Vn
