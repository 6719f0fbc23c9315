/-
  A row of orders of one side, sorted by the library with the reference's closures.
-/
import Derived.Test.YtbphljnncbiddaaRefJ
namespace Go.Proofs.Ytbphljnncbiddaa.Rk
open Go.Shelf Go.RowKit Go.Lib Go.Sort Go.Maps Go.Proofs.Ytbphljnncbiddaa.Bk
open Go.Proofs.Ytbphljnncbiddaa.St hiding hide

theorem grow_grown (w : World) (os : Array Obj) (row : Option Nat) : w.grownBy (grow w os) row :=
  ⟨rfl, rfl, rfl, by rw [size_grow]; omega, fun k hk _ => by
    show (w.heap ++ os)[k]? = _
    rw [Array.getElem?_append_left hk]⟩

set_option maxRecDepth 100000 in
theorem sort_bids (s : Int) (w : World) (B Bb n : Nat) (v : Value) (xs T : List Odr) (hown : w.ownsRow B 44 5 v n (flat xs)) (hl : xs.length = n) (hs : ∀ x, x ∈ xs → osd x = s) (hn : n ≤ 40) (hB : w.cell? ⟨Bb, 0, none⟩ = some v) (hne : Bb < B) (sT : Side s T) (nT : (T.map oid).Nodup) (hp : xs.Perm T) :
    Calls Try.prog 107 #[.iface 40 v, .func (.func 108) #[] #[.pointer (some ⟨Bb, 0, none⟩)]] w fun e w' => e = .returned (.tuple #[]) ∧ w.grownBy w' v.ownBlock ∧ ∃ p c, v = .slice p n c ∧ ORow w' p T := by
  rcases hown.2 with ⟨rfl, hn0⟩ | ⟨g, cap, cur, rfl, hgB, hg, -⟩
  · subst hn0
    obtain rfl : xs = [] := List.eq_nil_of_length_eq_zero hl
    obtain rfl : T = [] := hp.symm.eq_nil
    refine (sliceStable_tiny 0 0 none (by decide) _ _ _ w).mono ?_
    rintro e w' ⟨rfl, os, rfl⟩
    exact ⟨rfl, grow_grown w os _, none, 0, rfl, .inl rfl⟩
  · have hblk : g < w.heap.size := (Array.getElem?_eq_some_iff.1 hg).1
    have hH := hold_own hown hl hs
    have hd : (xs.map to4).toArray.size = n := by simpa using hl
    have hL : LessG 108 #[.pointer (some ⟨Bb, 0, none⟩)] (enc4 s) 5 (lt4 s) g 0 n w := fun dk W hW hsz i j hi hj =>
      less_bids s g 0 n cap Bb dk W (swk_cell hW hB (by show Bb ≠ g; omega)) (hW.holds hblk hH (by rw [hsz, hd])) hsz i j hi hj
    refine (sliceStable_any s 108 _ (enters_of Try.func108 (by kernel_rfl) rfl) g 0 n cap _ w hL hH hblk hd hn).mono ?_
    rintro e w' ⟨rfl, d', hp', hso, hw⟩
    have hT := sorted_list sT nT hd (by rw [List.toList_toArray, map_to hs]; exact hp) hp' hso
    exact ⟨rfl, swk_grown hw, some ⟨g, 0, none⟩, cap, rfl, orow_holds (hw.holds hblk hH hp'.1) hT⟩
set_option maxRecDepth 100000 in
theorem sort_asks (s : Int) (w : World) (B Bb n : Nat) (v : Value) (xs T : List Odr) (hown : w.ownsRow B 44 5 v n (flat xs)) (hl : xs.length = n) (hs : ∀ x, x ∈ xs → osd x = s) (hn : n ≤ 40) (hB : w.cell? ⟨Bb, 1, none⟩ = some v) (hne : Bb < B) (sT : Side s T) (nT : (T.map oid).Nodup) (hp : xs.Perm T) :
    Calls Try.prog 107 #[.iface 40 v, .func (.func 109) #[] #[.pointer (some ⟨Bb, 0, none⟩)]] w fun e w' => e = .returned (.tuple #[]) ∧ w.grownBy w' v.ownBlock ∧ ∃ p c, v = .slice p n c ∧ ORow w' p T := by
  rcases hown.2 with ⟨rfl, hn0⟩ | ⟨g, cap, cur, rfl, hgB, hg, -⟩
  · subst hn0
    obtain rfl : xs = [] := List.eq_nil_of_length_eq_zero hl
    obtain rfl : T = [] := hp.symm.eq_nil
    refine (sliceStable_tiny 0 0 none (by decide) _ _ _ w).mono ?_
    rintro e w' ⟨rfl, os, rfl⟩
    exact ⟨rfl, grow_grown w os _, none, 0, rfl, .inl rfl⟩
  · have hblk : g < w.heap.size := (Array.getElem?_eq_some_iff.1 hg).1
    have hH := hold_own hown hl hs
    have hd : (xs.map to4).toArray.size = n := by simpa using hl
    have hL : LessG 109 #[.pointer (some ⟨Bb, 0, none⟩)] (enc4 s) 5 (lt4 s) g 0 n w := fun dk W hW hsz i j hi hj =>
      less_asks s g 0 n cap Bb dk W (swk_cell hW hB (by show Bb ≠ g; omega)) (hW.holds hblk hH (by rw [hsz, hd])) hsz i j hi hj
    refine (sliceStable_any s 109 _ (enters_of Try.func109 (by kernel_rfl) rfl) g 0 n cap _ w hL hH hblk hd hn).mono ?_
    rintro e w' ⟨rfl, d', hp', hso, hw⟩
    have hT := sorted_list sT nT hd (by rw [List.toList_toArray, map_to hs]; exact hp) hp' hso
    exact ⟨rfl, swk_grown hw, some ⟨g, 0, none⟩, cap, rfl, orow_holds (hw.holds hblk hH hp'.1) hT⟩
end Go.Proofs.Ytbphljnncbiddaa.Rk
