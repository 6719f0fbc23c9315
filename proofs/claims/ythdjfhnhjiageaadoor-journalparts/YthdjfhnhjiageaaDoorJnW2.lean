/-
  Package journal by contracts: a text up to its first line feed.
-/
import Derived.Test.YthdjfhnhjiageaaDoorJnW1
namespace Go.Proofs.YthdjfhnhjiageaaDoor.Tx
open Go.RowKit Go.Lib Go.Sort

theorem nums_bytes (bs : Bs) : Lib.bytesOf (nums bs) = bs := by
  unfold Lib.bytesOf nums
  rw [List.map_map]
  have : ((fun n : Int => UInt8.ofNat n.toNat) ∘ fun x : UInt8 => (x.toNat : Int)) = id := funext fun x => by simp
  rw [this, List.map_id]
theorem idx_none : ∀ {b : Bs}, (10 : UInt8) ∉ b → Lib.indexByte b 10 = -1
  | [], _ => rfl
  | x :: l, h => by
    simp only [List.mem_cons, not_or] at h
    rw [Lib.indexByte, if_neg (by simpa using fun e => h.1 e.symm), idx_none h.2]
    rfl
theorem idx_some : ∀ {l : Bs} (r : Bs), (10 : UInt8) ∉ l → Lib.indexByte (l ++ 10 :: r) 10 = (l.length : Int)
  | [], r, _ => rfl
  | x :: l, r, h => by
    simp only [List.mem_cons, not_or] at h
    rw [List.cons_append, Lib.indexByte, if_neg (by simpa using fun e => h.1 e.symm), idx_some r h.2, if_neg (by simp)]
    simp
theorem idx_cut_none {b : Bs} (h : cutL b = none) : Lib.indexByte b 10 = -1 := idx_none (cut_none h)
theorem idx_cut_some {b l r : Bs} (h : cutL b = some (l, r)) : Lib.indexByte b 10 = (l.length : Int) := by
  obtain ⟨e, hn⟩ := cut_is h
  rw [e]
  exact idx_some r hn
theorem index_lf1 (b o n c g : Nat) (bs : Bs) (w : World) (h : Bt w (some ⟨b, o, none⟩) n c bs) (hg : w.cell? ⟨g, 0, none⟩ = some (.int .u8 10)) :
    Calls Tryd.prog 64 #[.slice (some ⟨b, o, none⟩) n c, .slice (some ⟨g, 0, none⟩) 1 1] w fun e w' => e = .returned (.int .i64 (Lib.indexByte bs 10)) ∧ w' = w := by
  refine (Tryd.bytes_Index_one b o n c g 0 1 (nums bs) 10 w (by rw [nums_len]; exact h.len) h.ints hg).mono fun e w' ⟨he, hw⟩ => ⟨?_, hw⟩
  rw [he, nums_bytes]
  rfl
set_option maxHeartbeats 2000000 in
theorem cut_torn (b o n c g : Nat) (bs : Bs) (w : World) (h : Bt w (some ⟨b, o, none⟩) n c bs) (hg : w.cell? ⟨g, 0, none⟩ = some (.int .u8 10)) (hc : cutL bs = none) :
    Calls Tryd.prog 49 #[.slice (some ⟨b, o, none⟩) n c, .slice (some ⟨g, 0, none⟩) 1 1] w fun e w' => e = .returned (.tuple #[.slice (some ⟨b, o, none⟩) n c, .slice none 0 0, .bool false]) ∧ Below w.heap.size w w' := by
  have IX := hide (index_lf1 b o n c g bs w h hg)
  rw [idx_cut_none hc] at IX
  clear hc h hg
  go_enter Tryd.func49, Tryd.ntmps49
  go_wp2_with fail
  refine IX.out.mono ?_
  rintro e w' ⟨rfl, hw'⟩
  subst hw'
  clear IX
  go_wp2
  go_ret3
  exact ⟨rfl, Below.refl _ _⟩
set_option maxHeartbeats 2000000 in
theorem cut_whole (b o n c g : Nat) (bs line rest : Bs) (w : World) (h : Bt w (some ⟨b, o, none⟩) n c bs) (hz : n ≤ 100000) (hg : w.cell? ⟨g, 0, none⟩ = some (.int .u8 10)) (hc : cutL bs = some (line, rest)) :
    Calls Tryd.prog 49 #[.slice (some ⟨b, o, none⟩) n c, .slice (some ⟨g, 0, none⟩) 1 1] w fun e w' => (∃ p' n' c', e = .returned (.tuple #[.slice (some ⟨b, o, none⟩) line.length c, .slice p' n' c', .bool true])) ∧ Below w.heap.size w w' := by
  have mixed : Tryd.prog.follows .mixedOrders = true := by kernel_rfl
  have IX := hide (index_lf1 b o n c g bs w h hg)
  rw [idx_cut_some hc] at IX
  have hl : line.length + 1 ≤ n := by have := cut_len hc; have := h.len; omega
  have hcap := h.cap
  generalize line.length = j at *
  clear hc h hg
  go_enter Tryd.func49, Tryd.ntmps49
  go_wp2_with fail
  refine IX.out.mono ?_
  rintro e w' ⟨rfl, hw'⟩
  subst hw'
  clear IX
  go_wp2_with fail
  go_region_o
  all_goals go_wp2
  all_goals go_ret3
  all_goals exact ⟨⟨_, _, _, rfl⟩, Below.drew (Below.refl _ _)⟩
end Go.Proofs.YthdjfhnhjiageaaDoor.Tx
