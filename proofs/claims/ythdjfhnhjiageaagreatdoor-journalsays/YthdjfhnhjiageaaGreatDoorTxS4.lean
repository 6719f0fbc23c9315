/-
  The reference's chapter 8: its two lists of words.
-/
import Derived.Test.YthdjfhnhjiageaaGreatDoorTxW3
namespace Go.Proofs.YthdjfhnhjiageaaGreatDoor.Tx
open Go.RowKit Go.Lib

/-- what the library's tables hold, blanks among them. -/
structure EnvS (w : World) : Prop where
  env : Env w
  spc : Lib.TabIs Tryz.prog w "strings.asciiSpace" .u8 Lib.asciiSpaceTab
theorem EnvS.below {w w' : World} (h : EnvS w) (hb : Below w.heap.size w w') : EnvS w' := ⟨h.env.below hb, var_below h.spc hb⟩
abbrev verbsB : Bs := [45, 32, 100, 101, 112, 111, 115, 105, 116, 32, 119, 105, 116, 104, 100, 114, 97, 119, 32, 112, 108, 97, 99, 101, 32, 99, 97, 110, 99, 101, 108, 32, 105, 110, 100, 101, 120, 32, 102, 117, 110, 100, 32, 115, 119, 101, 101, 112]
abbrev sortsB : Bs := [45, 32, 108, 105, 109, 105, 116, 32, 110, 111, 119, 32, 119, 104, 111, 108, 101, 32, 112, 111, 115, 116]
theorem fields_verbs : Lib.fields verbsB = [[45], wDeposit, wWithdraw, wPlace, wCancel, wIndex, wFund, wSweep] := by decide +kernel
theorem fields_sorts : Lib.fields sortsB = [[45], wLimit, wNow, wWhole, wPost] := by decide +kernel
theorem all_ascii {l : Bs} (h : l.all (fun b => decide (b.toNat < 128)) = true) : ∀ (j : Nat) b, l[j]? = some b → b.toNat < 128 := fun _ _ hb => by
  have := List.all_eq_true.1 h _ (List.mem_of_getElem? hb)
  simpa using this
theorem verbs_any (w : World) (E : EnvS w) : Calls Tryz.prog 35 #[sV verbsB] w fun e w' => e = .returned (.slice (some ⟨w.heap.size, 0, none⟩) 8 8) ∧ w' = w.alloc (.cells #[sV [45], sV wDeposit, sV wWithdraw, sV wPlace, sV wCancel, sV wIndex, sV wFund, sV wSweep] 9) := by
  have h := Tryz.strings_Fields (sB verbsB) w (by decide) (all_ascii (by decide)) E.spc
  have e : Lib.fields (sB verbsB).data.toList = [[45], wDeposit, wWithdraw, wPlace, wCancel, wIndex, wFund, wSweep] := fields_verbs
  rw [e] at h
  exact h
theorem sorts_any (w : World) (E : EnvS w) : Calls Tryz.prog 35 #[sV sortsB] w fun e w' => e = .returned (.slice (some ⟨w.heap.size, 0, none⟩) 5 5) ∧ w' = w.alloc (.cells #[sV [45], sV wLimit, sV wNow, sV wWhole, sV wPost] 9) := by
  have h := Tryz.strings_Fields (sB sortsB) w (by decide) (all_ascii (by decide)) E.spc
  have e : Lib.fields (sB sortsB).data.toList = [[45], wLimit, wNow, wWhole, wPost] := fields_sorts
  rw [e] at h
  exact h
end Go.Proofs.YthdjfhnhjiageaaGreatDoor.Tx
