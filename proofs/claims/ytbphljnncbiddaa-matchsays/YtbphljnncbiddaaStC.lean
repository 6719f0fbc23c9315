/-
  sort.SliceStable at up to 40 orders of one side, by a contract.
-/
import Derived.Test.YtbphljnncbiddaaStB
namespace Go.Proofs.Ytbphljnncbiddaa.St
open Go.Shelf Go.RowKit Go.Lib Go.Sort Go.Maps Go.Proofs.Ytbphljnncbiddaa.Bk

theorem merged_same {s : Int} {blk off n : Nat} {d : Array O4} {w : World} (hn : n ≤ 1) (hH : HoldsK (enc4 s) 5 w blk off d) (os : Array Obj) : Merged (enc4 s) 5 (lt4 s) blk off 0 n d w (grow w os) :=
  ⟨d, permIn_refl d 0 n, fun i j _ h1 h2 => by omega, by
    have := swk_grow (SWK.start hH) 0 os
    exact this⟩

set_option maxRecDepth 100000 in
theorem sliceStable_tiny (n c : Nat) (p : Option Addr) (hn : n ≤ 1) (lf : Fn) (la lb : Array Value) (w : World) :
    Calls Try.prog 107 #[.iface 40 (.slice p n c), .func lf la lb] w fun e w' => e = .returned (.tuple #[]) ∧ ∃ os, w' = grow w os := by
  obtain ⟨i, hi, hd⟩ := Option.map_eq_some_iff.1 (show (Try.prog.info? 40).map (fun i => i.desc) = some (.slice 44) by kernel_rfl)
  obtain ⟨ie, hie, -⟩ := Option.map_eq_some_iff.1 (show (Try.prog.info? 44).map (fun i => i.size) = some 5 by kernel_rfl)
  by_cases h0 : n = 0
  · subst h0
    exact Any.sort_SliceStable_tiny Try.laysS8 40 44 i ie hi hd (by kernel_rfl) hie 25 (fun _ => by kernel_rfl) p 0 c (by omega) 132 (by rw [show swapperK 0 ie 25 = 1 from by simp [swapperK]]; kernel_rfl) lf la lb w
  · obtain rfl : n = 1 := by omega
    exact Any.sort_SliceStable_tiny Try.laysS8 40 44 i ie hi hd (by kernel_rfl) hie 25 (fun _ => by kernel_rfl) p 1 c (by omega) 133 (by rw [show swapperK 1 ie 25 = 2 from by simp [swapperK]]; kernel_rfl) lf la lb w

set_option maxHeartbeats 1000000 in
set_option maxRecDepth 100000 in
theorem sliceStable_any (s : Int) (g : Nat) (lb : Array Value) (eg : ∀ args w, (callFunc g args).run Try.prog w = .ok (.enter g args) w) (blk off n c : Nat) (d : Array O4) (w : World) (hless : LessG g lb (enc4 s) 5 (lt4 s) blk off n w)
    (hH : HoldsK (enc4 s) 5 w blk off d) (hblk : blk < w.heap.size) (hs : d.size = n) (hn : n ≤ 40) :
    Calls Try.prog 107 #[.iface 40 (.slice (some ⟨blk, off, none⟩) n c), .func (.func g) #[] lb] w fun e w' => e = .returned (.tuple #[]) ∧ Merged (enc4 s) 5 (lt4 s) blk off 0 n d w w' := by
  by_cases h2 : n ≤ 1
  · refine (sliceStable_tiny n c _ h2 _ _ _ w).mono ?_
    rintro e w' ⟨rfl, os, rfl⟩
    exact ⟨rfl, merged_same h2 hH os⟩
  · obtain ⟨i, hi, hd⟩ := Option.map_eq_some_iff.1 (show (Try.prog.info? 40).map (fun i => i.desc) = some (.slice 44) by kernel_rfl)
    obtain ⟨ie, hie, hie2⟩ := Option.map_eq_some_iff.1 (show (Try.prog.info? 44).map (fun i => (i.hasPointers, i.bytes, i.size)) = some (false, 40, 5) by kernel_rfl)
    obtain ⟨i1, i2, i3⟩ : ie.hasPointers = false ∧ ie.bytes = 40 ∧ ie.size = 5 := by simpa using hie2
    have hK : swapperK n ie 25 = 9 := by
      have c0 : (n == 0) = false := by simp; omega
      have c1 : (n == 1) = false := by simp; omega
      simp [swapperK, i1, i2, c0, c1]
    refine Any.sort_SliceStable_of_stable Try.laysS8 40 44 i ie hi hd (by kernel_rfl) hie 25 (fun _ => by kernel_rfl) _ n c (by omega) 140 (by rw [hK]; kernel_rfl) (.func g) #[] lb w _ ?_
    have hB : sliceBound Try.prog 44 ie 25 (some ⟨blk, off, none⟩) n c = #[.slice (some ⟨blk, off, none⟩) n c, typeHandle Try.prog 44] := by
      unfold sliceBound
      rw [if_neg (by rw [hK]; decide)]
    rw [hB]
    have hSW0 : SWK (enc4 s) 5 w blk off d (stableWorld Try.prog Try.laysS8_ren 40 (some ⟨blk, off, none⟩) n c w) := ((SWK.start hH).alloc _).alloc _
    subst hs
    refine (stable_any (len4 s) (lt4 s) (swo4 s) g lb 140 _ blk off d.size d _ eg (hless.on hSW0 hblk rfl) ?_ (hSW0.holds hblk hH rfl) (hSW0.lt hblk) rfl hn).mono ?_
    · exact swapSwapsK_of_literal false 140 (fun args W => run_callFunc_extern Try.func140 (by kernel_rfl) (by kernel_rfl) (by kernel_rfl) (e := Extern.ReflectliteSwapper.swap false) (by kernel_rfl) args W) 44 ie hie (enc4 s) 5 (len4 s) i3 (fun _ => by kernel_rfl)
        (fun x v hv => by simp [enc4, Bk.enc] at hv; rcases hv with rfl | rfl | rfl | rfl | rfl <;> rfl) blk off d.size c
    · rintro e w' ⟨rfl, d', hp, hso, hw⟩
      exact ⟨rfl, d', hp, hso, swk_trans hSW0 hblk hw hp.1⟩
end Go.Proofs.Ytbphljnncbiddaa.St
