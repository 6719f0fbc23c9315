import Derived.Test.YthdjfhnhjiageaaGreatDoorG21
import Derived.Lib.Overlaps
set_option maxHeartbeats 8000000
set_option maxRecDepth 100000
namespace Go.Proofs.YthdjfhnhjiageaaGreatDoor.Vn
open Go.RowKit Num Fix AcP FuP Bk Rm Ac Go.Sort Go.Maps Mix
abbrev zA:Value:=.agg #[.int .i64 0,.int .i64 0,.slice none 0 0]
def Ins (w:World) (va:Value) (n i:Nat) (xs news:List Value) (e:Ending) (w':World):Prop :=
 ∃g cap,e=.returned (.slice (some ⟨g,0,none⟩) (n+1) cap)/\w'.ownsRow 0 89 3 (.slice (some ⟨g,0,none⟩) (n+1) cap) (n+1) (xs.take (i*3)++news++xs.drop (i*3))/\(va.ownBlock=some g\/w.heap.size<=g)/\g<w'.heap.size/\But (fun b=>some b=va.ownBlock) w w'
theorem insert_end (va:Value)(n vb vc:Nat)(xs news:List Value)(w:World)(ho:w.ownsRow 0 89 3 va n xs)(hn:n<=1000000)(hnl:news.length=3)(hnews:∀j u,news[j]? = some u->w.cell? ⟨vb,j,none⟩=some u)(h1:∀u∈news,u.oneCell'=true) :
  Calls Tryz.prog 156 #[va,.int .i64 (n:Nat),.slice (some ⟨vb,0,none⟩) 1 vc] w (Ins w va n n xs news):=by
 obtain⟨i0,hi,hz0,hz1,hz2⟩:=info_parts (show (Tryz.prog.info? 89).map (fun i=>(i.zero,i.size,i.bytes))=some (some zA,3,40) by kernel_rfl);have OWN:=hide ho;have NL:=hide (show news.length=1*3 by omega);have ONE:=hide h1;have NEWS:Hid (∀j u,news[j]? = some u->w.cell? ((⟨vb,0,none⟩:Addr).add j)=some u):=fun j u hu=>by rw [Addr.add_lit,Nat.zero_add];exact hnews j u hu
 have hx:xs.length=n*3:=ho.1;have e1:xs.take (n*3)++news++xs.drop (n*3)=xs++news:=by rw [List.take_of_length_le (by omega),List.drop_eq_nil_of_le (by omega),List.append_nil]
 have E1:=hide e1;have h63:n+1<=maxLen:=by unfold maxLen;omega
 have hby:(n+1)*40<=140737488355328:=by omega
 have GR:Hid (∀w1:World,w.grownBy w1 va.ownBlock->But (fun b=>some b=va.ownBlock) w w1):=fun w1 hg=>(But.refl _ w).grown hg (fun k hk=>.inl hk.symm);rcases ho.2 with⟨rfl,e⟩ | ⟨g0,cap0,cur,rfl,hb,hg,hnc,hm,hs,ht⟩;focus
  subst e;clear ho hnews h1 e1 hx hnl
 rotate_left;focus
  clear ho hnews h1 e1 hx hnl ht hs hg hb;unfold maxLen at hm;by_cases hcn:cap0=n;focus
   subst hcn
  rotate_left;focus
   have hlt0:n<cap0:=by omega
 all_goals
  go_enter Tryz.func156,Tryz.ntmps156;go_wp2_with (at_builtin;refine wpList_append_lies _ rfl _ _ 48 rfl 0 89 i0 zA 3 40 Tryz.underlying48 hi hz0 hz1 hz2 rfl (by decide) _ _ xs rfl OWN.out ⟨vb,0,none⟩ 1 vc news rfl NL.out NEWS.out ONE.out (by decide) h63 hby (Nat.zero_le _) w.heap.size rfl ?_;intro g cap w1 hown hgrow hat hlt);go_ret;refine⟨g,cap,rfl,?_,hat.imp id (fun e=>by omega),hlt,?_⟩
  ·rw [E1.out];exact hown
  ·exact GR.out w1 hgrow
theorem step_copy_eq {P:Program}{ops:Array Oper}{o:Oper}{a:Act}{w:World}{K:Act->World->Prop}{Q:Exit->Act->World->Prop}{E:Prop}
  (hg:o.guard=none) (d x:Operand) (dT sT:TypeId) (hop:o.op=Op.call { callee:=Callee.builtin Builtin.copy,args:=#[d,x],argTypes:=#[dT,sT] })
  (v u:Value) (hd:a.eval d=v) (hx:a.eval x=u) {v':Value} {w':World} (hr:(Builtin.copy_ #[dT,sT] o.type #[v,u]).run P w=.ok v' w') (hK:K (a.put o.dst v') w') :
  if Region.wanted o (yielded ops a.tmps)=true then Oper.wp P o a w K Q else E:=by
 have hw:Region.wanted o (yielded ops a.tmps)=true:=by simp [Region.wanted,hg]
 rw [if_pos hw];unfold Oper.wp;simp [execOp,hop,resolve,invoke,builtin,hd,hx,hr,Result.andThen];exact hK
theorem insert_grow (n i vb vc g0:Nat)(cur:Array Value)(xs news:List Value)(w:World)(hi:i<n)(hn:n<=1000000)(hx:xs.length=n*3)(hcur:w.heap[g0]? = some (.cells cur 89 (0,0)))(_hcs:cur.size=n*3)(hct:cur.toList.take (n*3)=xs)(h1x:∀u∈xs,u.oneCell'=true)(hnl:news.length=3)(hvb:vb<w.heap.size)(hnews:∀j u,news[j]? = some u->w.cell? ⟨vb,j,none⟩=some u)(h1:∀u∈news,u.oneCell'=true) :
  Calls Tryz.prog 156 #[.slice (some ⟨g0,0,none⟩) n n,.int .i64 (i:Nat),.slice (some ⟨vb,0,none⟩) 1 vc] w (Ins w (.slice (some ⟨g0,0,none⟩) n n) n i xs news):=by
 have mixed:Tryz.prog.follows .mixedOrders=true:=by kernel_rfl
 obtain⟨i0,hi0,hz0,hzs,hzb⟩:=info_parts (show (Tryz.prog.info? 89).map (fun i=>(i.zero,i.size,i.bytes))=some (some zA,3,40) by kernel_rfl);have hz1:¬((i:Int)=(n:Int)):=by omega
 have hz3:(n:Int)<(n:Int)+1:=by omega
 have hkk:(n:Int)+1 - (i:Int)=((n+1 - i:Nat):Int):=by omega
 have hlt0:g0<w.heap.size:=(Array.getElem?_eq_some_iff.1 hcur).1;have cell0:∀j u,xs[j]? = some u->w.cell? ⟨g0,j,none⟩=some u:=fun j u hu=>by
  have hj:j<n*3:=by rw [<- hx];exact(List.getElem?_eq_some_iff.1 hu).1
  simp only [World.cell?,hcur];rw [<- hct,List.getElem?_take,if_pos hj] at hu;simpa using hu
 have hold:(Builtin.firstCells i0.size i (.slice (some ⟨g0,0,none⟩) i n)).run Tryz.prog w.drew=.ok (xs.take (i*3)).toArray w.drew:=by
  rw [hzs];exact run_firstCells_some w.drew 3 i ⟨g0,0,none⟩ i n (xs.take (i*3)) (by rw [List.length_take];omega) (fun j v hj=>by
   rw [Addr.add_lit,Nat.zero_add];rw [List.getElem?_take] at hj;split at hj
   ·exact cell0 j v hj
   ·cases hj)
 have hik:i+(n+1 - i)=n+1:=by omega
 have hrz:∀ty,(Builtin.append_ #[48,3] ty #[.slice (some ⟨g0,0,none⟩) i n,.int .i64 ((n+1 - i:Nat):Int)]).run Tryz.prog w=_:=fun ty =>
  Lib.run_append_grow_zeros w 48 3 ty 89 i0 _ .i64 .i64 Tryz.underlying48 Tryz.underlying3 hi0 hz0 (some ⟨g0,0,none⟩) i n (xs.take (i*3)) hold (n+1 - i) (by omega) (by omega) (by omega) (by omega) (by rw [hzb];omega) (by rw [hzb,hik];exact growslice_fits (by omega) (by omega))
 simp only [hik] at hrz;obtain⟨G,hG⟩:∃G,G=grownCap w (n+1) n 89:=⟨_,rfl⟩;have hGn:n+1<=G:=by rw [hG];exact grownCap_ge w _ _ _
 have hGm:G<=maxLen:=by rw [hG];exact grownCap_le_maxLen w (n+1) n 89 (by unfold maxLen;omega)
 rw [<- hG] at hrz;obtain⟨ROW,hROW⟩:∃ROW:Array Value,ROW=(xs.take (i*3)).toArray++Builtin.zeroCells zA.cells (n+1 - i)++Builtin.zeroCells zA.cells (G - (n+1)):=⟨_,rfl⟩;rw [<- hROW] at hrz;have hRs:ROW.size=G*3:=by
  rw [hROW];simp [Builtin.zeroCells,Value.cells];omega
 obtain⟨Z,hZ⟩:∃Z:List Value,ROW.toList=xs.take (i*3)++Z:=⟨(Builtin.zeroCells zA.cells (n+1 - i)).toList++(Builtin.zeroCells zA.cells (G - (n+1))).toList,by rw [hROW];simp⟩;have hZl:Z.length=(G - i)*3:=by
  have:=congrArg List.length hZ;simp only [Array.length_toList,List.length_append,List.length_take] at this;omega
 clear hROW hG hold;-- the first copy
 obtain⟨W1,hW1⟩:∃W1,W1=w.drew.alloc (.cells ROW 89):=⟨_,rfl⟩;have g1:W1.heap[w.heap.size]? = some (.cells ROW 89 (0,0)):=by rw [hW1];exact heap_alloc_new w.drew _
 have old1:∀b j v,b<w.heap.size->w.cell? ⟨b,j,none⟩=some v->W1.cell? ⟨b,j,none⟩=some v:=fun b j v _ hv=>by rw [hW1];exact cell_old (w:=w.drew) hv _
 have hs3:(Tryz.prog.info? 89).map (·.size)=some 3:=by rw [hi0];simp [hzs]
 have cp1:∀ty,(Builtin.copy_ #[48,48] ty #[.slice (some ⟨w.heap.size,i*3,none⟩) (n+1 - i) (G - i),.slice (some ⟨vb,0,none⟩) 1 vc]).run Tryz.prog W1=_:=fun ty =>
  CopyK.run_copy_rowK Tryz.prog W1 48 48 ty 89 3 w.heap.size (i*3) (n+1 - i) (G - i) ⟨vb,0,none⟩ 1 vc ROW _ news Tryz.underlying48 hs3 g1 (by rw [hnl,show Nat.min 1 (n+1 - i)=1 from Nat.min_eq_left (by omega)]) (fun j v hv=>by rw [Addr.add_lit,Nat.zero_add];exact old1 vb j v hvb (hnews j v hv)) (by omega) h1
 obtain⟨R2,hR2⟩:∃R2:Array Value,R2=(ROW.toList.take (i*3)++news++ROW.toList.drop (i*3+news.length)).toArray:=⟨_,rfl⟩;rw [<- hR2] at cp1;have hR2l:R2.toList=xs.take (i*3)++news++Z.drop 3:=by
  rw [hR2,hnl,hZ];have l1:(xs.take (i*3)).length=i*3:=by rw [List.length_take];omega
  rw [List.take_append_of_le_length (by omega),List.take_of_length_le (by omega),List.drop_append,List.drop_eq_nil_of_le (by omega),l1];simp
 have hR2s:R2.size=G*3:=by
  have:=congrArg List.length hR2l;simp only [Array.length_toList,List.length_append,List.length_take,List.length_drop] at this;omega
 obtain⟨W2,hW2⟩:∃W2,W2=W1.setRow w.heap.size R2:=⟨_,rfl⟩;rw [<- hW2] at cp1;have g2:W2.heap[w.heap.size]? = some (.cells R2 89 (0,0)):=by rw [hW2];exact setRow_heap W1 _ _ _ _ _ g1
 have oth2:∀b,b<w.heap.size->W2.heap[b]? = w.heap[b]?:=fun b hb=>by
  rw [hW2,setRow_other W1 _ b _ (by omega),hW1,Below.heap_alloc _ _ _ (by exact hb)];rfl
 have cp2:∀ty,(Builtin.copy_ #[48,48] ty #[.slice (some ⟨w.heap.size,(i+1)*3,none⟩) (n+1 - (i+1)) (G - (i+1)),.slice (some ⟨g0,i*3,none⟩) (n - i) (n - i)]).run Tryz.prog W2.drew=_:=fun ty =>
  CopyK.run_copy_rowK Tryz.prog W2.drew 48 48 ty 89 3 w.heap.size ((i+1)*3) (n+1 - (i+1)) (G - (i+1)) ⟨g0,i*3,none⟩ (n - i) (n - i) R2 _ (xs.drop (i*3)) Tryz.underlying48 hs3 g2 (by rw [List.length_drop,hx,show Nat.min (n - i) (n+1 - (i+1))=n - i by simp only [Nat.min_def];split<;>omega];omega) (fun j v hv=>by
   rw [Addr.add_lit];rw [List.getElem?_drop] at hv;have:=cell0 _ v hv;simp only [World.cell?] at this ⊢;rw [show W2.drew.heap[g0]? = w.heap[g0]? from oth2 g0 hlt0];exact this) (by rw [List.length_drop];omega) (fun v hv=>h1x v (List.mem_of_mem_drop hv))
 obtain⟨R3,hR3⟩:∃R3:Array Value,R3=(R2.toList.take ((i+1)*3)++xs.drop (i*3)++R2.toList.drop ((i+1)*3+(xs.drop (i*3)).length)).toArray:=⟨_,rfl⟩;rw [<- hR3] at cp2;have hR3t:R3.toList.take ((n+1)*3)=xs.take (i*3)++news++xs.drop (i*3):=by
  have l1:(xs.take (i*3)).length=i*3:=by rw [List.length_take];omega
  have t1:R2.toList.take ((i+1)*3)=xs.take (i*3)++news:=by
   rw [hR2l,List.take_append_of_le_length (by rw [List.length_append];omega),List.take_of_length_le (by rw [List.length_append];omega)]
  rw [hR3,t1];rw [List.take_append_of_le_length (by simp only [List.length_append,List.length_drop];omega),List.take_of_length_le (by simp only [List.length_append,List.length_drop];omega)]
 have hR3s:R3.size=G*3:=by
  rw [hR3];simp only [List.size_toArray,List.length_append,List.length_take,List.length_drop,Array.length_toList];omega
 have FIN:Hid (Ins w (.slice (some ⟨g0,0,none⟩) n n) n i xs news (.returned (.slice (some ⟨w.heap.size,0,none⟩) (n+1) G)) (W2.drew.setRow w.heap.size R3)):=by
  have g3:=setRow_heap W2.drew w.heap.size R2 R3 89 (0,0) g2;refine⟨_,G,rfl,⟨by simp only [List.length_append,List.length_take,List.length_drop];omega,.inr ⟨_,G,R3,rfl,Nat.zero_le _,g3,hGn,hGm,hR3s,hR3t⟩⟩,.inr (Nat.le_refl _),(Array.getElem?_eq_some_iff.1 g3).1,?_⟩;have b1:Below w.heap.size w W1:=by rw [hW1];exact((Below.refl _ w).drew).alloc (Nat.le_refl _) _
  have b2:Below w.heap.size w W2:=by rw [hW2];exact below_setRow b1 (Nat.le_refl _) _
  exact .of_below (below_setRow b2.drew (Nat.le_refl _) _)
 have HW1:=hide hW1;have ew1:(i:Int)+1=((i+1:Nat):Int):=by omega
 clear hW1 hW2 hR3 hR2 g1 g2 oth2 old1 cell0 hZ hZl hR2l hR2s hR3t hR3s hcur hct _hcs hnews h1 h1x;go_enter Tryz.func156,Tryz.ntmps156;go_wp2_with (first | (at_builtin;refine Lib.wpList_append_run _ rfl _ _ _ _ rfl _ _ rfl rfl _ _ (hrz _) ?_;rw [<- HW1.out]) | (at_builtin;refine wpList_copy_eq rfl _ _ 48 48 rfl _ _ rfl rfl (cp1 _) ?_));have hGi:¬(G=i+1):=by omega
 have hni:¬(n=i):=by omega
 have hw1:IntKind.i64.wrap ((i:Int)+1)=(i:Int)+1:=by rw [IntKind.wrap_i64];omega
 have htn:((i:Int)+1).toNat=i+1:=by omega
 have hb1:(0:Int)<=(i:Int)+1:=by omega
 have hb2:(i:Int)+1<=(n:Int)+1:=by omega
 have hb3:(i:Int)<=(n:Int):=by omega
 clear ew1;go_region_law (refine step_copy_eq rfl (.tmp 50) (.tmp 53) 48 48 rfl (.slice (some ⟨w.heap.size,(i+1)*3,none⟩) (n+1 - (i+1)) (G - (i+1))) (.slice (some ⟨g0,i*3,none⟩) (n - i) (n - i)) (by simp [Act.eval,Act.put]) (by simp [Act.eval,Act.put]) (cp2 _) ?_);go_wp2;go_ret;exact FIN.out
theorem insert_shift (n i cap vb g0:Nat)(cur:Array Value)(xs news:List Value)(w:World)(hi:i<n)(hn:n<=1000000)(hnc:n+1<=cap)(hcm:cap<=maxLen)(hx:xs.length=n*3)(hcur:w.heap[g0]? = some (.cells cur 89 (0,0)))(hcs:cur.size=cap*3)(hct:cur.toList.take (n*3)=xs)(h1x:∀u∈xs,u.oneCell'=true)(hnl:news.length=3)(hne:¬vb=g0)(hvb:w.heap[vb]? = some (.cells news.toArray 89 (0,0)))(h1:∀u∈news,u.oneCell'=true) :
  Calls Tryz.prog 156 #[.slice (some ⟨g0,0,none⟩) n cap,.int .i64 (i:Nat),.slice (some ⟨vb,0,none⟩) 1 1] w (Ins w (.slice (some ⟨g0,0,none⟩) n cap) n i xs news):=by
 have mixed:Tryz.prog.follows .mixedOrders=true:=by kernel_rfl
 obtain⟨i0,hi0,hz0,hzs,hzb⟩:=info_parts (show (Tryz.prog.info? 89).map (fun i=>(i.zero,i.size,i.bytes))=some (some zA,3,40) by kernel_rfl);have hz1:¬((i:Int)=(n:Int)):=by omega
 have hz3:(n:Int)+1<=(cap:Int):=by omega
 have hz4:¬(cap:Int)<(n:Int)+1:=by omega
 have hcm':cap<=9223372036854775807:=by unfold maxLen at hcm;omega
 have hlt0:g0<w.heap.size:=(Array.getElem?_eq_some_iff.1 hcur).1;have hsa:w.shape? vb=some (89,3):=by simp [World.shape?,hvb,hnl]
 have hsb:w.shape? g0=some (89,cap*3):=by simp [World.shape?,hcur,hcs]
 have hov:∀lb cb,(callFunc 192 #[.slice (some ⟨vb,0,none⟩) 1 1,.slice (some ⟨g0,(i+1)*3,none⟩) lb cb]).run Tryz.prog w=.ok (.value (.bool false)) w:=fun lb cb=>by
  rw [run_callFunc_extern Tryz.func192 (by kernel_rfl) (by kernel_rfl) (by kernel_rfl) (e:=Extern.SlicesOverlaps.overlaps #[48,48] #[4]) (by kernel_rfl),
   Lib.run_overlaps_apart w 48 4 89 Tryz.underlying48 3 Tryz.sizeOf89 ⟨vb,0,none⟩ ⟨g0,(i+1)*3,none⟩ 1 1 lb cb hne 89 89 3 (cap*3) hsa hsb (by omega) (by simp [World.frozen?,hvb]) (by simp [World.frozen?,hvb])]
  rfl
 have hs3:(Tryz.prog.info? 89).map (·.size)=some 3:=by rw [hi0];simp [hzs]
 obtain⟨Z,hZ⟩:∃Z:List Value,cur.toList=xs++Z:=⟨cur.toList.drop (n*3),by rw [<- hct,List.take_append_drop]⟩;have hZl:Z.length=(cap - n)*3:=by
  have:=congrArg List.length hZ;simp only [Array.length_toList,List.length_append] at this;omega
 have cell0:∀j u,xs[j]? = some u->w.cell? ⟨g0,j,none⟩=some u:=fun j u hu=>by
  have hj:j<n*3:=by rw [<- hx];exact(List.getElem?_eq_some_iff.1 hu).1
  simp only [World.cell?,hcur];rw [<- hct,List.getElem?_take,if_pos hj] at hu;simpa using hu
 have cp1:∀ty,(Builtin.copy_ #[48,48] ty #[.slice (some ⟨g0,(i+1)*3,none⟩) (n+1 - (i+1)) (cap - (i+1)),.slice (some ⟨g0,i*3,none⟩) (n+1 - i) (cap - i)]).run Tryz.prog w.drew=_:=fun ty =>
  CopyK.run_copy_rowK Tryz.prog w.drew 48 48 ty 89 3 g0 ((i+1)*3) (n+1 - (i+1)) (cap - (i+1)) ⟨g0,i*3,none⟩ (n+1 - i) (cap - i) cur _ (xs.drop (i*3)) Tryz.underlying48 hs3 hcur (by rw [List.length_drop,hx,show Nat.min (n+1 - i) (n+1 - (i+1))=n - i by simp only [Nat.min_def];split<;>omega];omega) (fun j v hv=>by
   rw [Addr.add_lit];rw [List.getElem?_drop] at hv;exact cell0 _ v hv) (by rw [List.length_drop];omega) (fun v hv=>h1x v (List.mem_of_mem_drop hv))
 obtain⟨R2,hR2⟩:∃R2:Array Value,R2=(cur.toList.take ((i+1)*3)++xs.drop (i*3)++cur.toList.drop ((i+1)*3+(xs.drop (i*3)).length)).toArray:=⟨_,rfl⟩;rw [<- hR2] at cp1;have hR2s:R2.size=cap*3:=by
  rw [hR2];simp only [List.size_toArray,List.length_append,List.length_take,List.length_drop,Array.length_toList];omega
 obtain⟨W2,hW2⟩:∃W2,W2=w.drew.setRow g0 R2:=⟨_,rfl⟩;rw [<- hW2] at cp1;have g2:W2.heap[g0]? = some (.cells R2 89 (0,0)):=by rw [hW2];exact setRow_heap w.drew _ _ _ _ _ hcur
 have v2:W2.heap[vb]? = some (.cells news.toArray 89 (0,0)):=by rw [hW2,setRow_other w.drew g0 vb _ hne];exact hvb
 have cp2:∀ty,(Builtin.copy_ #[48,48] ty #[.slice (some ⟨g0,i*3,none⟩) (n+1 - i) (cap - i),.slice (some ⟨vb,0,none⟩) 1 1]).run Tryz.prog W2=_:=fun ty =>
  CopyK.run_copy_rowK Tryz.prog W2 48 48 ty 89 3 g0 (i*3) (n+1 - i) (cap - i) ⟨vb,0,none⟩ 1 1 R2 _ news Tryz.underlying48 hs3 g2 (by rw [hnl,show Nat.min 1 (n+1 - i)=1 from Nat.min_eq_left (by omega)]) (fun j v hv=>by
   rw [Addr.add_lit,Nat.zero_add];simp only [World.cell?,v2];simpa using hv) (by omega) h1
 obtain⟨R3,hR3⟩:∃R3:Array Value,R3=(R2.toList.take (i*3)++news++R2.toList.drop (i*3+news.length)).toArray:=⟨_,rfl⟩;rw [<- hR3] at cp2;have hR3t:R3.toList.take ((n+1)*3)=xs.take (i*3)++news++xs.drop (i*3):=by
  have l1:(xs.take (i*3)).length=i*3:=by rw [List.length_take];omega
  have l2:(xs.drop (i*3)).length=(n - i)*3:=by rw [List.length_drop];omega
  have t0:cur.toList.take ((i+1)*3)=xs.take ((i+1)*3):=by rw [hZ,List.take_append_of_le_length (by omega)]
  have l3:(xs.take ((i+1)*3)).length=(i+1)*3:=by rw [List.length_take];omega
  have e2:R2.toList=xs.take ((i+1)*3)++(xs.drop (i*3)++cur.toList.drop ((i+1)*3+(xs.drop (i*3)).length)):=by rw [hR2,t0];simp
  have t1:R2.toList.take (i*3)=xs.take (i*3):=by
   rw [e2,List.take_append_of_le_length (by omega),List.take_take,Nat.min_eq_left (by omega)]
  have t2:R2.toList.drop (i*3+news.length)=xs.drop (i*3)++cur.toList.drop ((i+1)*3+(xs.drop (i*3)).length):=by
   rw [e2,hnl,List.drop_append,l3,List.drop_eq_nil_of_le (by omega),show i*3+3 - (i+1)*3=0 by omega];simp
  rw [hR3,t1,t2];simp only [<- List.append_assoc];rw [List.take_append_of_le_length (by simp only [List.length_append];omega),List.take_of_length_le (by simp only [List.length_append];omega)]
 have hR3s:R3.size=cap*3:=by
  rw [hR3];simp only [List.size_toArray,List.length_append,List.length_take,List.length_drop,Array.length_toList];omega
 have FIN:Hid (Ins w (.slice (some ⟨g0,0,none⟩) n cap) n i xs news (.returned (.slice (some ⟨g0,0,none⟩) (n+1) cap)) (W2.setRow g0 R3)):=by
  have g3:=setRow_heap W2 g0 R2 R3 89 (0,0) g2;refine⟨g0,cap,rfl,⟨by simp only [List.length_append,List.length_take,List.length_drop];omega,.inr ⟨_,cap,R3,rfl,Nat.zero_le _,g3,hnc,hcm,hR3s,hR3t⟩⟩,.inl rfl,(Array.getElem?_eq_some_iff.1 g3).1,?_⟩;refine⟨?_,?_,?_,?_,fun k hk hF=>?_⟩
  ·rw [hW2];rfl
  ·rw [hW2];rfl
  ·rw [hW2];rfl
  ·rw [hW2];simp [World.setRow]
  ·have hkg:k≠g0:=fun e=>hF (by rw [e];rfl);rw [setRow_other W2 g0 k _ hkg,hW2,setRow_other w.drew g0 k _ hkg];rfl
 have hw1:IntKind.i64.wrap ((i:Int)+1)=(i:Int)+1:=by rw [IntKind.wrap_i64];omega
 have htn:((i:Int)+1).toNat=i+1:=by omega
 have hb1:(0:Int)<=(i:Int)+1:=by omega
 have hb2:(i:Int)+1<=(n:Int)+1:=by omega
 have hb3:(i:Int)<=(n:Int)+1:=by omega
 have hci:¬(cap=i+1):=by omega
 have hci2:¬(cap=i):=by omega
 clear hW2 hR3 hR2 g2 v2 cell0 hZ hZl hR2s hR3t hR3s hcur hct hcs h1 h1x hsa hsb hvb hcm;go_enter Tryz.func156,Tryz.ntmps156;go_wp2_with (simp only [hov]);go_region_law (refine step_copy_eq rfl (.tmp 73) (.tmp 76) 48 48 rfl (.slice (some ⟨g0,(i+1)*3,none⟩) (n+1 - (i+1)) (cap - (i+1))) (.slice (some ⟨g0,i*3,none⟩) (n+1 - i) (cap - i)) (by simp [Act.eval,Act.put]) (by simp [Act.eval,Act.put]) (cp1 _) ?_);go_wp2_with (at_builtin;refine wpList_copy_eq rfl _ _ 48 48 rfl _ _ rfl rfl (cp2 _) ?_);go_ret;exact FIN.out
theorem insert_any (va:Value)(n i vb:Nat)(xs news:List Value)(w:World)(ho:w.ownsRow 0 89 3 va n xs)(hi:i<=n)(hn:n<=1000000)(h1x:∀u∈xs,u.oneCell'=true)(hnl:news.length=3)(hne:¬va.ownBlock=some vb)(hvb:w.heap[vb]? = some (.cells news.toArray 89 (0,0)))(h1:∀u∈news,u.oneCell'=true) :
  Calls Tryz.prog 156 #[va,.int .i64 (i:Nat),.slice (some ⟨vb,0,none⟩) 1 1] w (Ins w va n i xs news):=by
 have hnews:∀j u,news[j]? = some u->w.cell? ⟨vb,j,none⟩=some u:=fun j u hu=>by
  simp only [World.cell?,hvb];simpa using hu
 by_cases hin:i=n
 ·subst hin;exact insert_end va i vb 1 xs news w ho hn hnl hnews h1
 ·rcases ho.2 with⟨rfl,e⟩ | ⟨g0,cap,cur,rfl,hb,hg,hnc,hm,hs,ht⟩
  ·omega
  ·by_cases hc:cap=n
   ·subst hc;exact insert_grow cap i vb 1 g0 cur xs news w (by omega) hn ho.1 hg hs ht h1x hnl (Array.getElem?_eq_some_iff.1 hvb).1 hnews h1
   ·exact insert_shift n i cap vb g0 cur xs news w (by omega) hn (by omega) hm ho.1 hg hs ht h1x hnl (fun e=>hne (by rw [e];rfl)) hvb h1
end Go.Proofs.YthdjfhnhjiageaaGreatDoor.Vn
