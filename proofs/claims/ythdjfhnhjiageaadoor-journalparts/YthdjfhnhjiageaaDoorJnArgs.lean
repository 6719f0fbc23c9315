/-
  Disks as arguments: how they read.
-/
import Derived.Test.YthdjfhnhjiageaaDoorJnM
import Derived.Test.YthdjfhnhjiageaaDoorTxArgs
import Derived.ChangeSlices
namespace Go.Proofs.YthdjfhnhjiageaaDoor.Tx
open Go.ChangeShapes Go.WideShapes Go.ChangeAt Go.RowKit Go.Joins Go.Lib Go.Deep

variable {H : Type} {enc : TypeId × Value → H} {w : World} {base : Nat} {spare : Nat → Bool} {held : Bool}

theorem cellsDk : Tryd.prog.cellsOf 37 = 2 := by kernel_rfl
theorem wf8 {n : Int} (h : (Lit.int .u8 n).wf = true) : 0 ≤ n ∧ n ≤ 255 := by
  simpa [Lit.wf, IntKind.min, IntKind.max, IntKind.signed, IntKind.bits] using h
/-- a slice of bytes, read. -/
theorem bytes_read {fuel : Nat} {v : Value} {x : DataW H × List MemPlace} (h : DataW.trod enc Tryd.prog w base spare held fuel 35 [v] = some x) :
    ∃ p n c, ∃ bs : Bs, v = .slice p n c ∧ Bt w p n c bs ∧ (x.1 = .nil ∧ n = 0 ∨ ∃ es ss, x.1 = .slice es ss ∧ es.length = n) := by
  rcases open_ints Tryd.underlying35 Tryd.underlying5 (by kernel_rfl) h with ⟨hcs, hx⟩ | ⟨a, l, c, zs, hcs, _, hl, hm, hz, hx, hcell, hwz⟩
  · simp at hcs
    subst hcs hx
    exact ⟨none, 0, 0, [], rfl, bt_none w, .inl ⟨rfl, rfl⟩⟩
  · simp at hcs
    subst hcs hx
    have hlz : l ≤ zs.length := by rw [hz]; split <;> omega
    refine ⟨some a, l, c, (zs.take l).map (fun n => UInt8.ofNat n.toNat), rfl, ⟨by simp; omega, hl, (fun e => nomatch e), fun h0 => ?_⟩, .inr ⟨_, _, rfl, by simp [lits]; omega⟩⟩
    obtain ⟨b, off, spot⟩ := a
    have hs : spot = none := by simpa [Addr.add] using World.cell?_spot (hcell 0 (by omega))
    subst hs
    refine ⟨b, off, rfl, fun i hi => ?_⟩
    have hci := hcell i (by omega)
    rw [show (⟨b, off, none⟩ : Addr).add i = ⟨b, off + i, none⟩ from by simp [Addr.add]] at hci
    rw [hci]
    have hiz : i < zs.length := by omega
    have hw := wf8 (hwz (zs[i]) (List.getElem_mem hiz))
    have e1 : zs.getD i 0 = zs[i] := by rw [List.getD_eq_getElem?_getD, List.getElem?_eq_getElem hiz]; rfl
    have e2 : ((zs.take l).map (fun n => UInt8.ofNat n.toNat)).getD i 0 = UInt8.ofNat zs[i].toNat := by
      rw [List.getD_eq_getElem?_getD, List.getElem?_map, List.getElem?_take, if_pos hi, List.getElem?_eq_getElem hiz]
      rfl
    rw [e1, e2, UInt8.toNat_ofNat']
    congr 2
    omega
set_option maxRecDepth 100000 in
/-- a disk, read. -/
theorem disk_read {r : Reach} {b0 : Nat} {v : Value} {d : DataW H} {ps : List MemPlace} (hv : Value.okWide Tryd.prog w r b0 37 v) (h : DataW.Trod enc Tryd.prog w base spare held 37 v d ps)
    (hw : ∀ m, m ∈ d.weights Tryd.prog 37 → m ≤ reachBytes) :
    ∃ p n c p' n' c', ∃ dk : Dk, v = dkV p n c p' n' c' ∧ Bt w p n c dk.safe ∧ Bt w p' n' c' dk.wait ∧ n ≤ 140737488351232 ∧ n' ≤ 140737488351232 := by
  obtain ⟨v0, v1, y0, y1, m, rfl, rfl, rfl, t0, t1⟩ := open_agg2 Tryd.underlying37 (by kernel_rfl) cellsDk hv h
  obtain ⟨p, n, c, bs, rfl, hb, hx⟩ := bytes_read t0
  obtain ⟨p', n', c', bs', rfl, hb', hx'⟩ := bytes_read t1
  have h4 : reachBytes = 140737488351232 := by decide
  refine ⟨p, n, c, p', n', c', ⟨bs, bs'⟩, rfl, hb, hb', ?_, ?_⟩
  · rcases hx with ⟨_, hx⟩ | ⟨es, ss, hx, hes⟩
    · omega
    · have := hw ((es.length + ss.length) * Tryd.prog.bytesOf 5) (by rw [hx]; simp [DataW.weights, DataW.weightsEach, Tryd.underlying37, Tryd.underlying35])
      rw [show Tryd.prog.bytesOf 5 = 1 from by kernel_rfl] at this
      omega
  · rcases hx' with ⟨_, hx⟩ | ⟨es, ss, hx, hes⟩
    · omega
    · have := hw ((es.length + ss.length) * Tryd.prog.bytesOf 5) (by rw [hx]; simp [DataW.weights, DataW.weightsEach, Tryd.underlying37, Tryd.underlying35])
      rw [show Tryd.prog.bytesOf 5 = 1 from by kernel_rfl] at this
      omega
end Go.Proofs.YthdjfhnhjiageaaDoor.Tx
