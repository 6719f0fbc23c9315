import Derived.Test.YthdjfhnhjiageaaGreatDoorG47
set_option maxHeartbeats 8000000
set_option maxRecDepth 100000
namespace Go.Proofs.YthdjfhnhjiageaaGreatDoor.Tx
open Go.RowKit Go.Lib Go.Sort
structure Bt (w:World) (p:Option Addr) (n c:Nat) (bs:Bs):Prop where
 len:bs.length=n
 cap:n<=c
 nil:p=none->c=0
 row:0<n->∃b o,p=some ⟨b,o,none⟩/\∀i,i<n->w.cell? ⟨b,o+i,none⟩=some (.int .u8 (bs.getD i 0).toNat)
theorem Bt.below {w w':World}{p:Option Addr}{n c:Nat}{bs:Bs}(h:Bt w p n c bs)(hb:Below w.heap.size w w'):Bt w' p n c bs :=
 ⟨h.len,h.cap,h.nil,fun hn=>by
  obtain⟨b,o,e,hc⟩:=h.row hn;exact⟨b,o,e,fun i hi=>(hb.cell (World.block_lt_of_cell? _ _ (hc i hi))).trans (hc i hi)⟩⟩
theorem bt_none (w:World):Bt w none 0 0 []:=⟨rfl,Nat.le_refl _,fun _=>rfl,fun h=>by omega⟩
theorem Bt.take {w:World}{p:Option Addr}{n c:Nat}{bs:Bs}(h:Bt w p n c bs){k:Nat}(hk:k<=n):Bt w p k c (bs.take k) :=
 ⟨by rw [List.length_take,h.len];omega,by have:=h.cap;omega,h.nil,fun hn=>by
  obtain⟨b,o,e,hc⟩:=h.row (by omega);refine⟨b,o,e,fun i hi=>?_⟩;rw [hc i (by omega),List.getD_eq_getElem?_getD,List.getD_eq_getElem?_getD,List.getElem?_take,if_pos hi]⟩
theorem Bt.drop {w:World}{b o n c:Nat}{bs:Bs}(h:Bt w (some ⟨b,o,none⟩) n c bs){k:Nat}(hk:k<=n):Bt w (some ⟨b,o+k,none⟩) (n - k) (c - k) (bs.drop k) :=
 ⟨by rw [List.length_drop,h.len],by have:=h.cap;omega,(fun e=>nomatch e),fun hn=>by
  obtain⟨b',o',e,hc⟩:=h.row (by omega)
  cases e
  refine⟨b,o+k,rfl,fun i hi=>?_⟩;rw [Nat.add_assoc,hc (k+i) (by omega),List.getD_eq_getElem?_getD,List.getD_eq_getElem?_getD,List.getElem?_drop]⟩
def nums (bs:Bs):List Int:=bs.map fun x=>(x.toNat:Int)
theorem nums_len (bs:Bs):(nums bs).length=bs.length:=by simp [nums]
theorem nums_get (bs:Bs)(i:Nat):(nums bs).getD i 0=((bs.getD i 0).toNat:Int):=by
 unfold nums;rw [List.getD_eq_getElem?_getD,List.getElem?_map,List.getD_eq_getElem?_getD]
 cases bs[i]? with
 |none=>rfl
 |some x=>rfl
theorem nums_str (bs:Bs):strOfNums (nums bs)=sB bs:=by
 unfold strOfNums nums;rw [List.map_map];have:((fun n:Int=>UInt8.ofNat n.toNat) ∘ fun x:UInt8=>(x.toNat:Int))=id:=funext fun x=>by simp
 rw [this,List.map_id]
theorem Bt.ints {w:World}{b o n c:Nat}{bs:Bs}(h:Bt w (some ⟨b,o,none⟩) n c bs):∀i,i<n->w.cell? ⟨b,o+i,none⟩=some (.int .u8 ((nums bs).getD i 0)):=fun i hi=>by
 obtain⟨b',o',e,hc⟩:=h.row (by omega)
 cases e;rw [nums_get];exact hc i hi
theorem Bt.str {w:World}{p:Option Addr}{n c:Nat}{bs:Bs}(h:Bt w p n c bs):(convert 22 9 (.slice p n c)).run Tryz.prog w=.ok (sV bs) w:=by
 by_cases hn:0<n
 ·obtain⟨b,o,rfl,hc⟩:=h.row hn;have:=run_convert_bytes_arg (P:=Tryz.prog) w 22 5 Tryz.underlying22 Tryz.underlying5 b o n c (nums bs) (by rw [nums_len];exact h.len) h.ints 9 Tryz.underlying9;rw [nums_str] at this;exact this
 ·obtain rfl:n=0:=by omega
  obtain rfl:bs=[]:=List.length_eq_zero_iff.1 h.len;have hl:∀(x:Addr),(loadCells x 0).run Tryz.prog w=.ok #[] w:=fun x=>by simpa using run_loadCells_list (P:=Tryz.prog) w x [] (by simp)
  have e1:=run_underlying Tryz.underlying22;have e2:=run_underlying Tryz.underlying5;have e3:=run_underlying Tryz.underlying9
  cases p with
  |none=>simp [convert,e1,e2,e3,Conv.bytesToString,Result.andThen];rfl
  |some a=>simp [convert,e1,e2,e3,Conv.bytesToString,hl,Result.andThen];rfl
theorem conv_bt (t:Bs)(w:World):∃c W,(convert 9 22 (.string (sB t))).run Tryz.prog w=.ok (.slice (some ⟨w.heap.size,0,none⟩) t.length c) W/\Bt W (some ⟨w.heap.size,0,none⟩) t.length c t/\Below w.heap.size w W/\W.heap.size=w.heap.size+1:=by
 have:=Go.Lib.run_convert_string_bytes (P:=Tryz.prog) w 9 22 5 (sB t) Tryz.underlying9 Tryz.underlying22 Tryz.underlying5;rw [sB_size] at this;refine⟨_,_,this,⟨rfl,?_,(fun e=>nomatch e),fun _=>⟨_,_,rfl,fun i hi=>?_⟩⟩,bytesWorld_below w _ _,bytesWorld_size w _ _⟩
 ·exact grownCap_ge _ _ _ _
 ·rw [Nat.zero_add];have:=bytesWorld_cell w 5 (sB t) i (by rw [sB_size];exact hi);simpa using this
def Nw (B:Nat) (p:Option Addr):Prop:=∀a,p=some a->B<=a.block
theorem Nw.mono {B B':Nat}{p:Option Addr}(h:Nw B p)(hB:B'<=B):Nw B' p:=fun a ha=>Nat.le_trans hB (h a ha)
theorem nw_none (B:Nat):Nw B none:=fun _ h=>nomatch h
theorem Bt.set {w:World}{p:Option Addr}{n c:Nat}{bs:Bs}(h:Bt w p n c bs){r:Nat}(hr:Nw (r+1) p)(o:Nat)(v:Value):Bt (w.setCell ⟨r,o,none⟩ v) p n c bs :=
 ⟨h.len,h.cap,h.nil,fun hn=>by
  obtain⟨b,ob,e,hc⟩:=h.row hn;refine⟨b,ob,e,fun i hi=>?_⟩;have hb:r+1<=b:=hr _ e;rw [<- hc i hi];exact World.cell?_of_block (Below.heap_setCell w ⟨r,o,none⟩ v b (by simp;omega))⟩
abbrev dkV (p:Option Addr) (n c:Nat) (p':Option Addr) (n' c':Nat):Value:=.agg #[.slice p n c,.slice p' n' c']
abbrev dk0:Value:=dkV none 0 0 none 0 0
def Dv (B:Nat) (w:World) (v:Value) (d:Dk):Prop:=∃p n c p' n' c',v=dkV p n c p' n' c'/\Bt w p n c d.safe/\Bt w p' n' c' d.wait/\Nw B p/\Nw B p'
theorem dv_none (B:Nat)(w:World):Dv B w dk0 noDk:=⟨_,_,_,_,_,_,rfl,bt_none w,bt_none w,nw_none B,nw_none B⟩
theorem usedD_any (p:Option Addr)(n c:Nat)(p':Option Addr)(n' c':Nat)(hn:n<=4611686018427387903)(hn':n'<=4611686018427387903)(w:World):Calls Tryz.prog 28 #[dkV p n c p' n' c'] w fun e w'=>e=.returned (.int .i64 ((n+n':Nat):Int))/\Below w.heap.size w w':=by
 go_enter Tryz.func28,Tryz.ntmps28;go_wp2;go_ret;exact⟨by go_num,below_alloc w _⟩
theorem equalB_none (p p':Option Addr)(c c':Nat)(w:World):Calls Tryz.prog 33 #[.slice p 0 c,.slice p' 0 c'] w fun e w'=>e=.returned (.bool true)/\Below w.heap.size w w':=by
 go_enter Tryz.func33,Tryz.ntmps33;go_wp2;refine wp_loop_rounds 1 ?_;rw [rounds_succ];go_wp2;go_ret;exact⟨rfl,Below.refl _ _⟩
theorem equalB_same (p:Option Addr)(n c:Nat)(p':Option Addr)(c':Nat)(bs:Bs)(w:World)(h:Bt w p n c bs)(h':Bt w p' n c' bs)(hz:n<=100000) :
  Calls Tryz.prog 33 #[.slice p n c,.slice p' n c'] w fun e w'=>e=.returned (.bool true)/\Below w.heap.size w w':=by
 by_cases h0:n=0
 ·subst h0;exact equalB_none p p' c c' w
 have mixed:Tryz.prog.follows .mixedOrders=true:=by kernel_rfl
 obtain⟨b1,o1,rfl,hc1⟩:=h.row (by omega);obtain⟨b2,o2,rfl,hc2⟩:=h'.row (by omega);have HC1:=hide hc1;have HC2:=hide hc2;clear hc1 hc2 h h' h0;go_enter Tryz.func33,Tryz.ntmps33;go_wp2
 go_loopg [13] n (fun g s13 wr=>∃k q:Nat,k<=n/\n - k<=g/\s13=.int .i64 k/\wr=w.drewN q)
 case atStart=>exact⟨0,0,Nat.zero_le _,by omega,rfl,rfl⟩
 case round =>
  obtain⟨k,q,hk,hg,rfl,rfl⟩:=hrel;by_cases hlt:k<n
  ·have g1:=HC1.out k hlt;have g2:=HC2.out k hlt;generalize (bs.getD k 0).toNat=x at g1 g2;clear HC1 HC2;go_wp2_with fail;go_region_o;go_wp2;go_roundg (n - (k+1))
   case measure=>omega
   case rel=>exact⟨k+1,q+1,by omega,by omega,by go_num,rfl⟩
  ·have:k=n:=by omega
   subst this;clear HC1 HC2;go_wp2;go_ret;exact⟨rfl,(Below.refl _ w).trans ⟨rfl,rfl,rfl,Nat.le_refl _,fun _ _=>rfl⟩⟩
theorem own_bt {w:World}{B n:Nat}{v:Value}{bs:Bs}(h:w.ownsRow B 5 1 v n ((nums bs).map (Value.int .u8))):∃p c,v=.slice p n c/\Bt w p n c bs/\Nw B p:=by
 have hl:bs.length=n:=by have:=h.1;rw [List.length_map,nums_len] at this;omega
 rcases h.2 with⟨rfl,rfl⟩ | ⟨g,cap,cur,rfl,hb,hg,hnc,hm,hs,ht⟩
 ·obtain rfl:bs=[]:=List.length_eq_zero_iff.1 hl;exact⟨none,0,rfl,bt_none w,nw_none B⟩
 ·refine⟨_,_,rfl,⟨hl,hnc,(fun e=>nomatch e),fun _=>⟨_,_,rfl,fun i hi=>?_⟩⟩,fun a ha=>by cases ha;exact hb⟩;have hx:(cur.toList.take (n*1))[i]? = some (.int .u8 (bs.getD i 0).toNat):=by
   rw [ht,List.getElem?_map,nums,List.getElem?_map,List.getElem?_eq_getElem (by omega),List.getD_eq_getElem?_getD,List.getElem?_eq_getElem (by omega)];rfl
  rw [Nat.mul_one,List.getElem?_take,if_pos hi] at hx;rw [Nat.zero_add];simp only [World.cell?,hg];simpa using hx
theorem cloneB_any (p:Option Addr)(n c:Nat)(bs:Bs)(w:World)(h:Bt w p n c bs)(hz:n<=100000):Calls Tryz.prog 29 #[.slice p n c] w fun e w'=>(∃q m,e=.returned (.slice q n m)/\Bt w' q n m bs/\Nw w.heap.size q)/\Below w.heap.size w w':=by
 cases p with
 |none =>
  have hc:=h.nil rfl;have hn:n=0:=by have:=h.cap;omega
  subst hn;refine(Tryz.bytes_Clone_nil 0 c w).mono fun e w' ⟨he,hw⟩=>?_;subst hw;obtain rfl:bs=[]:=List.length_eq_zero_iff.1 h.len;exact⟨⟨none,0,he,bt_none _,nw_none _⟩,Below.refl _ _⟩
 |some a =>
  refine(Tryz.bytes_Clone_at a n c (nums bs) w (by rw [nums_len];exact h.len) (by omega) (fun i hi=>?_)).mono fun e w' ⟨v,he,ho,_,hb⟩=>?_
  ·obtain⟨b,o,e,hc⟩:=h.row (by omega)
   cases e;rw [Addr.add_lit,nums_get];exact hc i hi
  ·obtain⟨q,m,rfl,hbt,hnw⟩:=own_bt ho;exact⟨⟨q,m,he,hbt,hnw⟩,hb⟩
theorem makeB (k:Nat)(hk:k<=100000)(W:World):∃cs:List Value,cs.length=k/\(Instr.makeSlice 22 (.int .i64 (k:Int)) (.int .i64 (k:Int))).run Tryz.prog W=.ok (.slice (some ⟨W.heap.size,0,none⟩) k k) (W.alloc (.cells cs.toArray 5)):=by
 obtain⟨i0,hi,hz0,hz1,hz2⟩:=info_parts (show (Tryz.prog.info? 5).map (fun i=>(i.zero,i.size,i.bytes))=some (some (.int .u8 0),1,1) by kernel_rfl);have:=run_makeSlice W 22 5 i0 (.int .u8 0) Tryz.underlying22 hi hz0 .i64 .i64 k k (by omega) (Int.le_refl _) (by rw [hz1];simp;omega) (by rw [hz2];omega) (by omega);rw [hz1] at this;refine⟨(madeCells (Value.int .u8 0).cells (k*1)).toList,by rw [Array.length_toList,size_madeCells];omega,?_⟩;simpa only [Int.toNat_natCast] using this
theorem copyB {W:World}{g o m:Nat}{cur:List Value}{t:TypeId}{p:Option Addr}{n c dc:Nat}{bs:Bs}(hg:W.heap[g]? = some (.cells cur.toArray t (0,0)))(h:Bt W p n c bs)(hm:n<=m)(hfit:o+n<=cur.length)(ty:TypeId)(h0:0<n) :
  (Builtin.copy_ #[22,22] ty #[.slice (some ⟨g,o,none⟩) m dc,.slice p n c]).run Tryz.prog W=.ok (goInt n) (W.setRow g (cur.take o++(nums bs).map (Value.int .u8)++cur.drop (o+n)).toArray):=by
 obtain⟨b,ob,rfl,hc⟩:=h.row h0;have hs:(Tryz.prog.info? 5).map (·.size)=some 1:=by kernel_rfl
 have hl:((nums bs).map (Value.int .u8)).length=n:=by rw [List.length_map,nums_len];exact h.len
 have:=CopyK.run_copy_rowK Tryz.prog W 22 22 ty 5 1 g o m dc ⟨b,ob,none⟩ n c cur.toArray t ((nums bs).map (Value.int .u8)) Tryz.underlying22 hs hg (by rw [hl,Nat.mul_one];exact(Nat.min_eq_left hm).symm) (fun j v hv=>?_) (by rw [hl];simpa using hfit) (fun v hv=>?_)
 ·rw [hl,show Nat.min n m=n from Nat.min_eq_left hm] at this;exact this
 ·have hj:j<n:=by have:=(List.getElem?_eq_some_iff.1 hv).1;omega
  rw [List.getElem?_map,nums,List.getElem?_map,List.getElem?_eq_getElem (by rw [h.len];exact hj)] at hv;rw [Addr.add_lit,hc j hj,List.getD_eq_getElem?_getD,List.getElem?_eq_getElem (by rw [h.len];exact hj)];exact hv
 ·obtain⟨x,-,rfl⟩:=List.mem_map.1 hv;rfl
theorem row_bt {W:World}{g:Nat}{t:TypeId}{bs:Bs}(hg:W.heap[g]? = some (.cells ((nums bs).map (Value.int .u8)).toArray t (0,0))):Bt W (some ⟨g,0,none⟩) bs.length bs.length bs :=
 ⟨rfl,Nat.le_refl _,(fun e=>nomatch e),fun _=>⟨_,_,rfl,fun i hi=>by
  rw [Nat.zero_add];simp only [World.cell?,hg];simp [nums,hi]⟩⟩
theorem copyB_any {W:World}{g o m:Nat}{cur:List Value}{t:TypeId}{p:Option Addr}{n c dc:Nat}{bs:Bs}(hg:W.heap[g]? = some (.cells cur.toArray t (0,0)))(h:Bt W p n c bs)(hm:n<=m)(hfit:o+n<=cur.length)(ty:TypeId) :
  ∃W',(Builtin.copy_ #[22,22] ty #[.slice (some ⟨g,o,none⟩) m dc,.slice p n c]).run Tryz.prog W=.ok (goInt n) W'/\W'.heap[g]? = some (.cells (cur.take o++(nums bs).map (Value.int .u8)++cur.drop (o+n)).toArray t (0,0))/\∀(B:Nat) (a:World),Below B a W->B<=g->Below B a W':=by
 by_cases h0:0<n
 ·refine⟨_,copyB hg h hm hfit ty h0,?_,fun B a hb hB=>below_setRow hb hB _⟩;rw [setRow_heap W g _ _ _ _ hg]
 ·obtain rfl:n=0:=by omega
  obtain rfl:bs=[]:=List.length_eq_zero_iff.1 h.len;have hs:(Tryz.prog.info? 5).map (·.size)=some 1:=by kernel_rfl
  refine⟨W,CopyK.run_copy_noneK Tryz.prog W 22 22 ty 5 1 (some ⟨g,o,none⟩) p m dc 0 c Tryz.underlying22 hs (by simp),?_,fun _ _ h _=>h⟩;rw [hg];simp [nums]
theorem joined_some (p:Option Addr)(n c:Nat)(p':Option Addr)(n' c':Nat)(xs bs:Bs)(w:World)(h:Bt w p n c xs)(h':Bt w p' n' c' bs)(hz:n+n'<=100000)(h0:0<n') :
  Calls Tryz.prog 30 #[.slice p n c,.slice p' n' c'] w fun e w'=>(∃q m,e=.returned (.slice q (n+n') m)/\Bt w' q (n+n') m (xs++bs)/\Nw w.heap.size q)/\Below w.heap.size w w':=by
 obtain⟨cs,hcs,MK⟩:=makeB (n+n') hz w;rw [Int.natCast_add] at MK;obtain⟨W,hW⟩:∃W,W=w.alloc (.cells cs.toArray 5):=⟨_,rfl⟩;have hg:W.heap[w.heap.size]? = some (.cells cs.toArray 5 (0,0)):=by rw [hW];exact heap_alloc_new w _
 have bW:Below w.heap.size w W:=by rw [hW];exact below_alloc w _
 rw [<- hW] at MK;obtain⟨W1,c1,g1,k1⟩:=copyB_any (m:=n+n') (dc:=n+n') (o:=0) hg (h.below bW) (by omega) (by omega) 3;have bW1:=k1 _ _ bW (Nat.le_refl _);have l1:((nums xs).map (Value.int .u8)).length=n:=by rw [List.length_map,nums_len];exact h.len
 rw [List.take_zero,List.nil_append,Nat.zero_add] at g1;obtain⟨W2,c2,g2,k2⟩:=copyB_any (m:=n') (dc:=n') (o:=n) g1 (h'.below bW1) (Nat.le_refl _) (by rw [List.length_append,l1,List.length_drop];omega) 3;have bW2:=k2 _ _ bW1 (Nat.le_refl _);have e2:((nums xs).map (Value.int .u8)++cs.drop n).take n++(nums bs).map (Value.int .u8)++((nums xs).map (Value.int .u8)++cs.drop n).drop (n+n')=(nums (xs++bs)).map (Value.int .u8):=by
  rw [List.take_left' l1,List.drop_eq_nil_of_le (by rw [List.length_append,l1,List.length_drop];omega),List.append_nil];simp [nums]
 rw [e2] at g2;have BT:=hide (row_bt g2);rw [List.length_append,h.len,h'.len] at BT;have B2:=hide bW2;have hlt:(n:Int)<(n:Int)+(n':Int):=by omega
 clear hW hg bW h h' k1 k2 g1 g2 e2 l1 hcs bW1 bW2;go_enter Tryz.func30,Tryz.ntmps30;go_wp2_with (at_builtin;refine wpList_copy_eq rfl (.tmp 12) (.tmp 13) 22 22 rfl _ _ rfl rfl c1 ?_);go_wp2_with (at_builtin;refine wpList_copy_eq rfl (.tmp 18) (.tmp 19) 22 22 rfl _ _ rfl rfl c2 ?_);go_ret;exact⟨⟨_,_,rfl,BT.out,fun a ha=>by cases ha;exact Nat.le_refl _⟩,B2.out⟩
theorem joined_none (p:Option Addr)(n c:Nat)(p':Option Addr)(c':Nat)(xs:Bs)(w:World)(h:Bt w p n c xs)(hz:n<=100000) :
  Calls Tryz.prog 30 #[.slice p n c,.slice p' 0 c'] w fun e w'=>(∃q m,e=.returned (.slice q n m)/\Bt w' q n m xs/\Nw w.heap.size q)/\Below w.heap.size w w':=by
 obtain⟨cs,hcs,MK⟩:=makeB n hz w;obtain⟨W,hW⟩:∃W,W=w.alloc (.cells cs.toArray 5):=⟨_,rfl⟩;have hg:W.heap[w.heap.size]? = some (.cells cs.toArray 5 (0,0)):=by rw [hW];exact heap_alloc_new w _
 have bW:Below w.heap.size w W:=by rw [hW];exact below_alloc w _
 rw [<- hW] at MK;obtain⟨W1,c1,g1,k1⟩:=copyB_any (m:=n) (dc:=n) (o:=0) hg (h.below bW) (by omega) (by omega) 3;have bW1:=k1 _ _ bW (Nat.le_refl _);have l1:((nums xs).map (Value.int .u8)).length=n:=by rw [List.length_map,nums_len];exact h.len
 rw [List.take_zero,List.nil_append,Nat.zero_add,List.drop_eq_nil_of_le (by omega),List.append_nil] at g1;have hs:(Tryz.prog.info? 5).map (·.size)=some 1:=by kernel_rfl
 have c2:=fun (a:Option Addr)=>CopyK.run_copy_noneK Tryz.prog W1 22 22 3 5 1 a p' 0 0 0 c' Tryz.underlying22 hs (by simp);have BT:=hide (row_bt g1);rw [h.len] at BT;have B1:=hide bW1;clear hW hg bW h k1 g1 l1 hcs bW1 hs;go_enter Tryz.func30,Tryz.ntmps30;go_wp2_with (at_builtin;refine wpList_copy_eq rfl (.tmp 12) (.tmp 13) 22 22 rfl _ _ rfl rfl c1 ?_);go_wp2_with (at_builtin;refine wpList_copy_eq rfl (.tmp 18) (.tmp 19) 22 22 rfl _ _ rfl rfl (c2 _) ?_);go_ret;exact⟨⟨_,_,rfl,BT.out,fun a ha=>by cases ha;exact Nat.le_refl _⟩,B1.out⟩
theorem joined_any (p:Option Addr)(n c:Nat)(p':Option Addr)(n' c':Nat)(xs bs:Bs)(w:World)(h:Bt w p n c xs)(h':Bt w p' n' c' bs)(hz:n+n'<=100000) :
  Calls Tryz.prog 30 #[.slice p n c,.slice p' n' c'] w fun e w'=>(∃q m,e=.returned (.slice q (n+n') m)/\Bt w' q (n+n') m (xs++bs)/\Nw w.heap.size q)/\Below w.heap.size w w':=by
 by_cases h0:0<n'
 ·exact joined_some p n c p' n' c' xs bs w h h' hz h0
 ·obtain rfl:n'=0:=by omega
  obtain rfl:bs=[]:=List.length_eq_zero_iff.1 h'.len;rw [List.append_nil];exact joined_none p n c p' c' xs w h hz
theorem nums_bytes (bs:Bs):Lib.bytesOf (nums bs)=bs:=by
 unfold Lib.bytesOf nums;rw [List.map_map];have:((fun n:Int=>UInt8.ofNat n.toNat) ∘ fun x:UInt8=>(x.toNat:Int))=id:=funext fun x=>by simp
 rw [this,List.map_id]
theorem idx_none:∀{b:Bs},(10:UInt8) ∉ b->Lib.indexByte b 10 = -1
 |[],_=>rfl
 |x::l,h=>by
  simp only [List.mem_cons,not_or] at h;rw [Lib.indexByte,if_neg (by simpa using fun e=>h.1 e.symm),idx_none h.2];rfl
theorem idx_some:∀{l:Bs}(r:Bs),(10:UInt8) ∉ l->Lib.indexByte (l++10::r) 10=(l.length:Int)
 |[],r,_=>rfl
 |x::l,r,h=>by
  simp only [List.mem_cons,not_or] at h;rw [List.cons_append,Lib.indexByte,if_neg (by simpa using fun e=>h.1 e.symm),idx_some r h.2,if_neg (by simp)];simp
theorem idx_cut_none {b:Bs}(h:cutL b=none):Lib.indexByte b 10 = -1:=idx_none (cut_none h)
theorem idx_cut_some {b l r:Bs}(h:cutL b=some (l,r)):Lib.indexByte b 10=(l.length:Int):=by
 obtain⟨e,hn⟩:=cut_is h;rw [e];exact idx_some r hn
theorem index_lf1 (b o n c g:Nat)(bs:Bs)(w:World)(h:Bt w (some ⟨b,o,none⟩) n c bs)(hg:w.cell? ⟨g,0,none⟩=some (.int .u8 10)) :
  Calls Tryz.prog 72 #[.slice (some ⟨b,o,none⟩) n c,.slice (some ⟨g,0,none⟩) 1 1] w fun e w'=>e=.returned (.int .i64 (Lib.indexByte bs 10))/\w'=w:=by
 refine(Tryz.bytes_Index_one b o n c g 0 1 (nums bs) 10 w (by rw [nums_len];exact h.len) h.ints hg).mono fun e w' ⟨he,hw⟩=>⟨?_,hw⟩;rw [he,nums_bytes];rfl
theorem cut_torn (b o n c g:Nat)(bs:Bs)(w:World)(h:Bt w (some ⟨b,o,none⟩) n c bs)(hg:w.cell? ⟨g,0,none⟩=some (.int .u8 10))(hc:cutL bs=none) :
  Calls Tryz.prog 51 #[.slice (some ⟨b,o,none⟩) n c,.slice (some ⟨g,0,none⟩) 1 1] w fun e w'=>e=.returned (.tuple #[.slice (some ⟨b,o,none⟩) n c,.slice none 0 0,.bool false])/\Below w.heap.size w w':=by
 have IX:=hide (index_lf1 b o n c g bs w h hg);rw [idx_cut_none hc] at IX;clear hc h hg;go_enter Tryz.func51,Tryz.ntmps51;go_wp2_with fail;refine IX.out.mono ?_;rintro e w' ⟨rfl,hw'⟩;subst hw';clear IX;go_wp2;go_ret3;exact⟨rfl,Below.refl _ _⟩
theorem cut_whole (b o n c g:Nat)(bs line rest:Bs)(w:World)(h:Bt w (some ⟨b,o,none⟩) n c bs)(hz:n<=100000)(hg:w.cell? ⟨g,0,none⟩=some (.int .u8 10))(hc:cutL bs=some (line,rest)) :
  Calls Tryz.prog 51 #[.slice (some ⟨b,o,none⟩) n c,.slice (some ⟨g,0,none⟩) 1 1] w fun e w'=>(∃p' n' c',e=.returned (.tuple #[.slice (some ⟨b,o,none⟩) line.length c,.slice p' n' c',.bool true]))/\Below w.heap.size w w':=by
 have mixed:Tryz.prog.follows .mixedOrders=true:=by kernel_rfl
 have IX:=hide (index_lf1 b o n c g bs w h hg);rw [idx_cut_some hc] at IX;have hl:line.length+1<=n:=by have:=cut_len hc;have:=h.len;omega
 have hcap:=h.cap;generalize line.length=j at *;clear hc h hg;go_enter Tryz.func51,Tryz.ntmps51;go_wp2_with fail;refine IX.out.mono ?_;rintro e w' ⟨rfl,hw'⟩;subst hw';clear IX;go_wp2_with fail;go_region_o;all_goals go_wp2
 all_goals go_ret3
 all_goals exact⟨⟨_,_,_,rfl⟩,Below.drew (Below.refl _ _)⟩
abbrev encD (c:Cd):List Value:=[.int .i64 c.kind,.int .i64 c.ac,.int .i64 c.mkt,.int .i64 c.n,.int .i64 c.oi,.int .i64 c.oa,.int .i64 c.sd,.int .i64 c.pr,.int .i64 c.qt,.int .i64 c.how,.bool c.red]
theorem encD_cell (c:Cd):∀v∈encD c,v.oneCell'=true:=by
 intro v hv;simp only [encD,List.mem_cons,List.not_mem_nil,or_false] at hv;rcases hv with rfl | rfl | rfl | rfl | rfl | rfl | rfl | rfl | rfl | rfl | rfl<;>rfl
abbrev OwnC (B:Nat) (w:World) (v:Value) (L:List Cd):Prop:=w.ownsRow B 28 11 v L.length (L.flatMap encD)
theorem ownC_slice {B:Nat}{w:World}{v:Value}{L:List Cd}(h:OwnC B w v L):∃p c,v=.slice p L.length c:=by
 rcases h.2 with⟨rfl,e⟩ | ⟨g,cap,cur,rfl,-⟩
 ·exact⟨none,0,by rw [e]⟩
 ·exact⟨_,_,rfl⟩
theorem own_on {B S:Nat}{w w':World}{e:TypeId}{s:Nat}{v:Value}{n:Nat}{xs:List Value}(h:w.ownsRow B e s v n xs)(hb:Below S w w')(hS:w.heap.size<=S):w'.ownsRow B e s v n xs:=by
 refine⟨h.1,?_⟩;rcases h.2 with h | ⟨g,cap,cur,e1,e2,e3,e4⟩
 ·exact .inl h
 ·exact .inr ⟨g,cap,cur,e1,e2,(hb.block g (Nat.lt_of_lt_of_le (Array.getElem?_eq_some_iff.1 e3).1 hS)).trans e3,e4⟩
structure RdInv (w:World) (bs:Bs) (k:Nat) (L:List Cd) (lv:Value) (wr:World):Prop where
 own:OwnC w.heap.size wr lv L
 below:Below w.heap.size w wr
 eq:readL bs=(L++(readF bs.length L.length (bs.drop k)).1,k+(readF bs.length L.length (bs.drop k)).2.1,(readF bs.length L.length (bs.drop k)).2.2)
 few:L.length<=60
theorem rd_cut {w:World}{bs:Bs}{k:Nat}{L:List Cd}{lv:Value}{wr:World}(I:RdInv w bs k L lv wr){line rest:Bs}(h:cutL (bs.drop k)=some (line,rest)) :
  (¬(parseC line).2=0->readL bs=(L,k,(parseC line).2))/\((parseC line).2=0->L.length=60->readL bs=(L,k,2)) /\
  ((parseC line).2=0->¬L.length=60->readL bs=((L++[(parseC line).1])++(readF bs.length (L++[(parseC line).1]).length (bs.drop (k+(line.length+1)))).1,(k+(line.length+1))+(readF bs.length (L++[(parseC line).1]).length (bs.drop (k+(line.length+1)))).2.1,(readF bs.length (L++[(parseC line).1]).length (bs.drop (k+(line.length+1)))).2.2)):=by
 have hl:=cut_len h;rw [List.length_drop] at hl;obtain⟨f,hf⟩:∃f,bs.length=f+1:=⟨bs.length-1,by omega⟩;have e:=I.eq;rw [hf,read_cut h] at e;refine⟨fun hp=>?_,fun hp hk=>?_,fun hp hk=>?_⟩
 ·rw [if_pos hp] at e;simpa using e
 ·rw [if_neg (fun x=>x hp),if_pos hk] at e;simpa using e
 ·rw [if_neg (fun x=>x hp),if_neg hk] at e;have hr:bs.drop (k+(line.length+1))=rest:=by
   rw [<- List.drop_drop,(cut_is h).1,List.append_cons,List.drop_left' (by simp)]
  rw [hr,e,hf,read_fuel (f+1) f _ rest (by omega) (by omega),List.length_append];simp only [List.append_assoc,List.cons_append,List.nil_append,List.length_cons,List.length_nil,Nat.zero_add];refine Prod.ext rfl (Prod.ext ?_ rfl);dsimp only;omega
theorem rd_torn {w:World}{bs:Bs}{k:Nat}{L:List Cd}{lv:Value}{wr:World}(I:RdInv w bs k L lv wr)(hk:k<bs.length)(h:cutL (bs.drop k)=none):readL bs=(L,k,13):=by
 obtain⟨f,hf⟩:∃f,bs.length=f+1:=⟨bs.length-1,by omega⟩;have e:=I.eq;rw [hf,read_torn (fun h0=>by have:=congrArg List.length h0;rw [List.length_drop] at this;simp at this;omega) h] at e;simpa using e
theorem rd_end {w:World}{bs:Bs}{L:List Cd}{lv:Value}{wr:World}(I:RdInv w bs bs.length L lv wr):readL bs=(L,bs.length,0):=by
 have e:=I.eq;rw [List.drop_length,read_nil] at e;simpa using e
abbrev ReadPost (bs:Bs) (w:World) (e:Ending) (w':World):Prop:=(∃lv,e=.returned (.tuple #[lv,.int .i64 ((readL bs).2.1:Nat),.int .i64 (readL bs).2.2])/\OwnC w.heap.size w' lv (readL bs).1)/\Below w.heap.size w w'
theorem read_any (p:Option Addr)(n c:Nat)(bs:Bs)(w:World)(h:Bt w p n c bs)(hz:n<=100000)(E:Env w):Calls Tryz.prog 31 #[.slice p n c] w (ReadPost bs w):=by
 obtain⟨i0,hi,hz0,hz1,hz2⟩:=info_parts (show (Tryz.prog.info? 28).map (fun i=>(i.zero,i.size,i.bytes))=some (some (cdV noCd),11,88) by kernel_rfl);have HB:=hide h;have HE:=hide E;have R0:Hid (RdInv w bs 0 [] (.slice none 0 0) w):=⟨World.ownsRow_nil _ _ _ _,Below.refl _ _,by rw [List.drop_zero];simp [readL],Nat.zero_le _⟩;clear h E;go_enter Tryz.func31,Tryz.ntmps31;go_wp2
 go_loopw [2,3] (fun lv i wr=>∃(k:Nat) (L:List Cd),k<=n/\i=.int .i64 k/\Hid (RdInv w bs k L lv wr)) (fun _ i _=>n - (RowKit.intOf i).toNat)
 case atStart=>exact⟨0,[],Nat.zero_le _,rfl,R0⟩
 case round =>
  clear R0;obtain⟨k,L,hk,rfl,I⟩:=hrel;obtain⟨pl,cl,rfl⟩:=ownC_slice I.out.own;by_cases hlt:k<n
  ·have hltz:(k:Int)<(n:Int):=by omega
   obtain⟨b,o,rfl,-⟩:=HB.out.row (by omega);have hcap:=HB.out.cap;have CV:=Lib.run_convert_bytes_const (P:=Tryz.prog) wr 22 5 #[.int .u8 10] 1 1 Tryz.underlying22 Tryz.underlying5;obtain⟨W,hW⟩:∃W,W=wr.alloc (.cells #[.int .u8 10] 5 ((#[Value.int .u8 10]:Array Value).size,(#[Value.int .u8 10]:Array Value).size+1)):=⟨_,rfl⟩;have bW:Below wr.heap.size wr W:=by rw [hW];exact below_alloc wr _
   rw [<- hW] at CV;have hg:W.cell? ⟨wr.heap.size,0,none⟩=some (.int .u8 10):=by rw [hW];exact World.cell?_alloc_mark wr #[.int .u8 10] _ _ 0
   have HBW:=hide (((HB.out.below I.out.below).below bW).drop hk);have HLN:=hide HB.out.len;have IL:=I.out.few
   cases hcut:cutL (bs.drop k) with
   |none =>
    have CT:=hide (cut_torn b (o+k) (n - k) (c - k) wr.heap.size (bs.drop k) W HBW.out hg hcut);have HR:=hide (rd_torn I.out (by rw [HLN.out];exact hlt) hcut);clear hg hcut hW;go_wp2_with fail;refine CT.out.mono ?_;rintro e X ⟨rfl,bX⟩;have BX:=hide (I.out.below.trans ((bW.trans (bX.mono bW.size)).mono I.out.below.size));have OX:=hide (own_on (own_on I.out.own bW (Nat.le_refl _)) bX (Nat.le_refl _));clear CT I bX bW HBW CV;go_wp2;go_ret3;refine⟨⟨.slice pl L.length cl,?_,?_⟩,BX.out⟩
    ·rw [HR.out];rfl
    ·rw [HR.out];exact OX.out
   |some q =>
    obtain⟨line,rest⟩:=q;have CT:=hide (cut_whole b (o+k) (n - k) (c - k) wr.heap.size (bs.drop k) line rest W HBW.out (by omega) hg hcut);have HR:=hide (rd_cut I.out hcut);have hln:Hid (line.length<=n - k/\line=(bs.drop k).take line.length/\k+(line.length+1)<=n):=by
     have h1:=cut_len hcut;have h2:=(cut_is hcut).1;rw [List.length_drop,HLN.out] at h1;exact⟨by omega,by rw [h2,List.take_left' rfl],by omega⟩
    clear hg hcut hW;go_wp2_with fail;refine CT.out.mono ?_;rintro e X ⟨⟨p',n',c',rfl⟩,bX⟩;have bRX:=bW.trans (bX.mono bW.size);have BX:=hide (I.out.below.trans (bRX.mono I.out.below.size));have OX:=hide (own_on I.out.own bRX (Nat.le_refl _));have ST:=((HBW.out.below bX).take hln.out.1).str;rw [<- hln.out.2.1] at ST;have PA:=hide (parse_any line X (HE.out.below BX.out));have LL:=hln.out.2.2;have IE:=hide I.out.eq;generalize line.length=j at *;generalize parseC line=pc at *;obtain⟨cm,pe⟩:=pc;dsimp only at PA HR;clear CT I bX bW HBW bRX hln CV;go_wp2_with fail;refine PA.out.mono ?_;rintro e Y ⟨rfl,bY⟩;have BY:=hide (onward BX.out bY);have OY:=hide (own_on OX.out bY (Nat.le_refl _));clear PA bY BX OX ST;obtain⟨kind,ac,mkt,nn,oi,oa,sd,pr,qt,how,red⟩:=cm;by_cases hpe:pe=0
    ·subst hpe;by_cases h60:L.length=60
     ·have HR1:=hide (HR.out.2.1 rfl h60);have h60z:(L.length:Int)=60:=by omega
      clear HR;go_wp2;go_ret3;refine⟨⟨.slice pl 60 cl,?_,?_⟩,(BY.out.alloc BY.out.size _)⟩
      ·rw [HR1.out];rfl
      ·rw [HR1.out];refine Eq.mp (congrArg (fun m=>OwnC w.heap.size _ (Value.slice pl m cl) L) h60) ?_;exact OY.out.alloc _
     ·have HR1:=hide (HR.out.2.2 rfl h60);have h60z:((L.length:Int) == 60)=false:=beq_false_of_ne (by omega);have LF:Hid (L.length+1<=60):=by show L.length+1<=60;omega
      obtain⟨Z,hZ⟩:∃Z,Z=(Y.alloc (cdO ⟨kind,ac,mkt,nn,oi,oa,sd,pr,qt,how,red⟩)).alloc (.cells (encD ⟨kind,ac,mkt,nn,oi,oa,sd,pr,qt,how,red⟩).toArray 28):=⟨_,rfl⟩;have OZ:Hid (OwnC w.heap.size Z (.slice pl L.length cl) L):=by show OwnC _ _ _ _;rw [hZ];exact(OY.out.alloc _).alloc _
      have BZ:Below w.heap.size w Z:=by rw [hZ];exact(BY.out.alloc BY.out.size _).alloc (by have:=BY.out.size;simp;omega) _
      have NW:Hid (∀jj u,(encD ⟨kind,ac,mkt,nn,oi,oa,sd,pr,qt,how,red⟩)[jj]? = some u->Z.cell? ((⟨Y.heap.size+1,0,none⟩:Addr).add jj)=some u):=fun jj u hu=>by
       rw [Addr.add_lit,Nat.zero_add,hZ];have hx:(Y.alloc (cdO ⟨kind,ac,mkt,nn,oi,oa,sd,pr,qt,how,red⟩)).heap.size=Y.heap.size+1:=by simp
       have:=new_cell (Y.alloc (cdO ⟨kind,ac,mkt,nn,oi,oa,sd,pr,qt,how,red⟩)) (encD ⟨kind,ac,mkt,nn,oi,oa,sd,pr,qt,how,red⟩).toArray 28 jj u (by simpa using hu);rw [hx] at this;exact this
      have hbs:w.heap.size<=Z.heap.size:=BZ.size;have BZH:=hide BZ;have OWB:Hid (∀q,(Value.slice pl L.length cl).ownBlock=some q->w.heap.size<=q):=fun q hq=>by
       rcases OZ.out.2 with⟨e,-⟩ | ⟨g,cap,cur,e,hb,-⟩
       ·rw [e] at hq;cases hq
       ·rw [e] at hq;cases hq;exact hb
      have HZ:=hide hZ;clear HR hZ BZ OY h60;go_wp2_with (at_builtin;rw [<- HZ.out];refine wpList_append_own _ rfl _ _ 34 rfl w.heap.size 28 i0 (cdV noCd) 11 88 Tryz.underlying34 hi hz0 hz1 hz2 rfl (by decide) _ L.length (L.flatMap encD) rfl OZ.out ⟨Y.heap.size+1,0,none⟩ 1 1 (encD ⟨kind,ac,mkt,nn,oi,oa,sd,pr,qt,how,red⟩) rfl rfl NW.out (encD_cell _) (by unfold maxLen;omega) (by omega) hbs ?_;intro v' w1 hown1 hgrow1 hnil1);have RN:Hid (RdInv w bs (k+(j+1)) (L++[⟨kind,ac,mkt,nn,oi,oa,sd,pr,qt,how,red⟩]) v' w1):=by
       refine⟨?_,BZH.out.grown hgrow1 hbs OWB.out,HR1.out,?_⟩
       ·show w1.ownsRow _ _ _ _ _ _;rw [List.length_append,List.flatMap_append];simpa using hown1
       ·rw [List.length_append];exact LF.out
      clear hown1 hgrow1 hnil1 OZ NW hbs BZH OWB HR1;go_wp2;go_roundw
      case rel=>exact⟨k+(j+1),_,LL,by go_num,RN⟩
      case measure=>simp [RowKit.intOf];omega
    ·have HR1:=hide (HR.out.1 hpe);clear HR;go_wp2;go_ret3;refine⟨⟨.slice pl L.length cl,?_,?_⟩,(BY.out.alloc BY.out.size _)⟩
     ·rw [HR1.out];rfl
     ·rw [HR1.out];exact OY.out.alloc _
  ·obtain rfl:k=n:=by omega
   have HR:=I.out.eq;have HLN:=HB.out.len;subst HLN;have HR:=hide (rd_end I.out);have OX:=hide I.out.own;have BX:=hide I.out.below;clear I;go_wp2;go_ret3;refine⟨⟨.slice pl L.length cl,?_,?_⟩,BX.out⟩
   ·rw [HR.out];rfl
   ·rw [HR.out];exact OX.out
end Go.Proofs.YthdjfhnhjiageaaGreatDoor.Tx
