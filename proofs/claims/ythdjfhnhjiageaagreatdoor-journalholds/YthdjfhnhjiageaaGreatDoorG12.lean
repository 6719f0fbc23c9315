import Derived.Test.YthdjfhnhjiageaaGreatDoorG11
set_option maxHeartbeats 8000000
set_option maxRecDepth 100000
namespace Go.Proofs.YthdjfhnhjiageaaGreatDoor.Bk
open Go.RowKit Go.Sort Go.Maps Mix
theorem mcopyOf_any (p:Option Addr)(c:Nat)(xs:List Odr)(w:World)(h:OV w p c xs)(hn:xs.length*40<=140737488351232) :
  Calls Tryz.prog 195 #[.slice p xs.length c] w fun e w'=>∃v,e=.returned v/\w'.ownsRow w.heap.size 26 5 v xs.length (flat xs)/\Below w.heap.size w w':=by
 obtain⟨i0,hi,hz0,hz1,hz2⟩:=info_parts Tryz.infoO
 cases p with
 |none =>
  have hc0:=h.nil rfl;subst hc0;have hx:xs=[]:=List.eq_nil_of_length_eq_zero (Nat.le_zero.1 h.cap);subst hx;go_enter Tryz.func195,Tryz.ntmps195;go_wp2_with (at_builtin;refine wpList_append_own_none rfl _ _ 92 rfl w.heap.size 26 i0 5 Tryz.underlying92 hi _ 0 [] rfl (World.ownsRow_nil _ _ _ _) rfl ?_);go_ret;exact⟨_,rfl,World.ownsRow_nil _ _ _ _,Below.refl _ _⟩
 |some ad =>
  have hcells:Hid (∀j u,(flat xs)[j]? = some u->w.cell? (ad.add j)=some u):=by
   rcases h.row with rfl | ⟨b,off,he,hc⟩
   ·intro j u hu;simp [flat] at hu
   ·cases he;exact flat_cells hc
  have hfl:=hide (flat_length xs);have hf1:=hide (flat_one xs);generalize hfx:flat xs=fl at hcells hfl hf1 ⊢;generalize hxn:xs.length=n at hfl hn ⊢;clear h hfx hxn xs;go_enter Tryz.func195,Tryz.ntmps195;go_wp2_with (at_builtin;refine wpList_append_own _ rfl _ _ 92 rfl w.heap.size 26 i0 (odrV noOdr) 5 40 Tryz.underlying92 hi hz0 hz1 hz2 rfl (by decide) _ 0 [] rfl (World.ownsRow_nil _ _ _ _) ad n c fl rfl hfl.out hcells.out hf1.out (by unfold maxLen;omega) (by omega) (Nat.le_refl _) ?_;intro v' w1 hown1 hgrow1 hnil1);go_ret;refine⟨_,rfl,?_,?_⟩
  ·rw [Nat.zero_add,List.nil_append] at hown1;exact hown1
  ·exact(Below.refl _ _).grown hgrow1 (Nat.le_refl _) (fun k hk=>by cases hk)
theorem cross1_any (price pr:Int)(B:Nat)(w:World)(hc:w.cell? ⟨B,3,none⟩=some (.int .i64 pr)) :
  Calls Tryz.prog 228 #[.int .i64 price,.pointer (some ⟨B,0,none⟩)] w fun e w'=>e=.returned (.bool (decide (price<=pr)))/\w'=w:=by
 go_enter Tryz.func228,Tryz.ntmps228;go_wp2;go_ret;exact⟨rfl,rfl⟩
theorem cross2_any (price pr:Int)(B:Nat)(w:World)(hc:w.cell? ⟨B,3,none⟩=some (.int .i64 pr)) :
  Calls Tryz.prog 229 #[.int .i64 price,.pointer (some ⟨B,0,none⟩)] w fun e w'=>e=.returned (.bool (decide (pr<=price)))/\w'=w:=by
 go_enter Tryz.func229,Tryz.ntmps229;go_wp2;go_ret;exact⟨rfl,rfl⟩
structure XFn (o:Odr) (fid:FuncId):Prop where
 enters:∀args w,(callFunc fid args).run Tryz.prog w=.ok (.enter fid args) w
 tells:∀(price:Int) (B:Nat) (w:World),w.cell? ⟨B,3,none⟩=some (.int .i64 (opr o))->Calls Tryz.prog fid #[.int .i64 price,.pointer (some ⟨B,0,none⟩)] w fun e w'=>e=.returned (.bool (xes o price))/\w'=w
theorem crossing_any (a ac sd pr q:Int)(w:World) :
  Calls Tryz.prog 217 #[.agg #[.int .i64 a,.int .i64 ac,.int .i64 sd,.int .i64 pr,.int .i64 q]] w fun e w' =>
   ∃fid,e=.returned (.func (.func fid) #[] #[.pointer (some ⟨w.heap.size,0,none⟩)])/\XFn (a,ac,sd,pr,q) fid/\w'=w.alloc (.cells #[.int .i64 a,.int .i64 ac,.int .i64 sd,.int .i64 pr,.int .i64 q] 26):=by
 by_cases h:sd=1
 ·have X:XFn (a,ac,sd,pr,q) 228:=⟨enters_of Tryz.func228 (by kernel_rfl) rfl,fun price B w hc=>by
   have:=cross1_any price pr B w hc;unfold xes;rw [if_pos h];exact this⟩
  subst h;go_enter Tryz.func217,Tryz.ntmps217;go_wp2;go_ret;exact⟨_,rfl,X,rfl⟩
 ·have X:XFn (a,ac,sd,pr,q) 229:=⟨enters_of Tryz.func229 (by kernel_rfl) rfl,fun price B w hc=>by
   have:=cross2_any price pr B w hc;unfold xes;rw [if_neg h];exact this⟩
  have e2:(sd == 1)=false:=by simp [h]
  go_enter Tryz.func217,Tryz.ntmps217;go_wp2;go_ret;exact⟨_,rfl,X,rfl⟩
abbrev filV (f:Fil):Value:=.agg #[.int .i64 f.1,.int .i64 f.2.1,.int .i64 f.2.2.1,.int .i64 f.2.2.2.1,.int .i64 f.2.2.2.2.1,.int .i64 f.2.2.2.2.2.1,.int .i64 f.2.2.2.2.2.2]
theorem fill_any (a ac sd pr q a' ac' sd' pr' q' n:Int)(w:World) :
  Calls Tryz.prog 218 #[.agg #[.int .i64 a,.int .i64 ac,.int .i64 sd,.int .i64 pr,.int .i64 q],.agg #[.int .i64 a',.int .i64 ac',.int .i64 sd',.int .i64 pr',.int .i64 q'],.int .i64 n] w fun e w' =>
   e=.returned (filV (fillOf (a,ac,sd,pr,q) (a',ac',sd',pr',q') n))/\Below w.heap.size w w':=by
 go_enter Tryz.func218,Tryz.ntmps218;go_wp2;refine bodyPost_ret (v:=filV (fillOf (a,ac,sd,pr,q) (a',ac',sd',pr',q') n)) (by simp [results,Tryz.results218,go_sem,fillOf]) rfl ⟨rfl,?_⟩;exact(((Below.refl _ w).alloc (Nat.le_refl _) _).alloc (by simp) _).alloc (by simp;omega) _
def encF (f:Fil):List Value:=[.int .i64 f.1,.int .i64 f.2.1,.int .i64 f.2.2.1,.int .i64 f.2.2.2.1,.int .i64 f.2.2.2.2.1,.int .i64 f.2.2.2.2.2.1,.int .i64 f.2.2.2.2.2.2]
def flatF (fs:List Fil):List Value:=fs.flatMap encF
theorem flatF_append (xs ys:List Fil):flatF (xs++ys)=flatF xs++flatF ys:=by unfold flatF;rw [List.flatMap_append]
theorem flatF_one (x:Fil):flatF [x]=encF x:=by simp [flatF]
theorem encF_cell (x:Fil):∀u∈encF x,u.oneCell'=true:=by
 intro u hu;simp only [encF,List.mem_cons,List.not_mem_nil,or_false] at hu;rcases hu with rfl | rfl | rfl | rfl | rfl | rfl | rfl<;>rfl
abbrev noFil:Fil:=(0,0,0,0,0,0,0)
theorem Tryz.infoF:(Tryz.prog.info? 62).map (fun i=>(i.zero,i.size,i.bytes))=some (some (filV noFil),7,56):=by kernel_rfl
theorem two_lt {x:World}{t:Nat}(h:Two x t):t<x.heap.size:=by
 obtain⟨_,_,h⟩:=h;exact(Array.getElem?_eq_some_iff.1 h).1
def sliceLen:Value->Nat
 |.slice _ n _=>n
 |_=>0
theorem ov_two {w:World}{p:Option Addr}{c t:Nat}{xs:List Odr}(h:OV w p c xs)(hp:∀a,p=some a->a.block≠t)(v0 v1:Value):OV ((w.setCell ⟨t,0,none⟩ v0).setCell ⟨t,1,none⟩ v1) p c xs:=by
 refine⟨?_,h.nil,h.cap⟩;rcases h.row with rfl | ⟨b,off,rfl,hc⟩
 ·exact .inl rfl
 ·refine .inr ⟨b,off,rfl,fun j hj i v hv=>?_⟩;have hb:b≠t:=hp _ rfl;rw [set_other _ hb,set_other _ hb];exact hc j hj i v hv
end Go.Proofs.YthdjfhnhjiageaaGreatDoor.Bk
