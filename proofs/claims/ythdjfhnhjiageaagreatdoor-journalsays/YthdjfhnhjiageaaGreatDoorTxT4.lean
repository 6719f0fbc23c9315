/-
  The reference's chapter 8: a right command's text is what Print answers.
-/
import Derived.Test.YthdjfhnhjiageaaGreatDoorTxT3
namespace Go.Proofs.YthdjfhnhjiageaaGreatDoor.Tx
open Go.RowKit Go.Lib

theorem text_is {c : Cd} {s : Bs} {w : World} (e : printC c = s) (h : Calls Tryz.prog 14 #[cdV c] w fun e w' => e = .returned (sV s) ∧ Below w.heap.size w w') : Calls Tryz.prog 14 #[cdV c] w fun e w' => e = .returned (sV (printC c)) ∧ Below w.heap.size w w' := by
  rw [e]
  exact h
theorem join3 (a b c : Bs) : joinW [a, b, c] = a ++ 32 :: (b ++ 32 :: c) := by simp [joinW]
theorem join7 (a b c d e f g : Bs) : joinW [a, b, c, d, e, f, g] = a ++ 32 :: (b ++ 32 :: (c ++ 32 :: (d ++ 32 :: (e ++ 32 :: (f ++ 32 :: g))))) := by simp [joinW]
theorem join8 (a b c d e f g h : Bs) : joinW [a, b, c, d, e, f, g, h] = a ++ 32 :: (b ++ 32 :: (c ++ 32 :: (d ++ 32 :: (e ++ 32 :: (f ++ 32 :: (g ++ 32 :: h)))))) := by simp [joinW]
set_option maxRecDepth 100000 in
theorem text_any (c : Cd) (h : checkC c = 0) (hf : c.fits) (w : World) (E : EnvS w) : Calls Tryz.prog 14 #[cdV c] w fun e w' => e = .returned (sV (printC c)) ∧ Below w.heap.size w w' := by
  obtain ⟨h1, h2, -⟩ := check_ok h
  have f1 := hf.ac
  have f2 := hf.mkt
  have f3 := hf.n
  have f4 := hf.pr
  have f5 := hf.qt
  obtain ⟨kind, ac, mkt, n, oi, oa, sd, pr, qt, how, red⟩ := c
  dsimp only at h1 h2 f1 f2 f3 f4 f5
  rcases kind_ok h1 with rfl | rfl | rfl | rfl | rfl | rfl | rfl
  · exact text_is (join3 wDeposit _ _) (ct_a 1 wDeposit ac mkt n oi oa sd pr qt how red (by decide) rfl (by decide) f1 f3 w E)
  · exact text_is (join3 wWithdraw _ _) (ct_a 2 wWithdraw ac mkt n oi oa sd pr qt how red (by decide) rfl (by decide) f1 f3 w E)
  · obtain ⟨g1, g2⟩ := h2 rfl
    have key : ∀ (hn : Nat) (hw sw : Bs), how = hn → hn < 5 → atW howsL how = hw → #[sV [45], sV wLimit, sV wNow, sV wWhole, sV wPost][hn]? = some (sV hw) → hw.length ≤ 5 → ((sd = 1 ∧ sw = wBuyS) ∨ (sd = -1 ∧ sw = wSellS)) → (∀ x : Bs, 32 :: (atW sidesL (sd + 1) ++ 32 :: x) = sw ++ x) → Calls Tryz.prog 14 #[cdV ⟨3, ac, mkt, n, oi, oa, sd, pr, qt, how, red⟩] w fun e w' => e = .returned (sV (printC ⟨3, ac, mkt, n, oi, oa, sd, pr, qt, how, red⟩)) ∧ Below w.heap.size w w' := by
      intro hn hw sw e1 e2 e3 e4 e5 e6 e7
      cases red
      · refine text_is ?_ (by rw [e1]; exact ct_3 wPlace sw hw ac mkt n oi oa sd pr qt hn false rfl e6 e2 e4 e5 [] (.inr ⟨rfl, rfl⟩) f1 f2 f5 f4 w E)
        show joinW [wPlace, itoa ac, itoa mkt, atW sidesL (sd + 1), itoa qt, itoa pr, atW howsL how] = _
        rw [join7, e7, e3, List.append_nil]
      · refine text_is ?_ (by rw [e1]; exact ct_3 wPlace sw hw ac mkt n oi oa sd pr qt hn true rfl e6 e2 e4 e5 (32 :: wReduce) (.inl ⟨rfl, rfl⟩) f1 f2 f5 f4 w E)
        show joinW [wPlace, itoa ac, itoa mkt, atW sidesL (sd + 1), itoa qt, itoa pr, atW howsL how, wReduce] = _
        rw [join8, e7, e3]
    have hs : ∃ sw : Bs, ((sd = 1 ∧ sw = wBuyS) ∨ (sd = -1 ∧ sw = wSellS)) ∧ ∀ x : Bs, 32 :: (atW sidesL (sd + 1) ++ 32 :: x) = sw ++ x := by
      rcases side_ok g2 with rfl | rfl
      · exact ⟨wSellS, .inr ⟨rfl, rfl⟩, fun x => rfl⟩
      · exact ⟨wBuyS, .inl ⟨rfl, rfl⟩, fun x => rfl⟩
    obtain ⟨sw, s1, s2⟩ := hs
    rcases how_ok g1 with rfl | rfl | rfl | rfl
    · exact key 1 wLimit sw rfl (by decide) rfl rfl (by decide) s1 s2
    · exact key 2 wNow sw rfl (by decide) rfl rfl (by decide) s1 s2
    · exact key 3 wWhole sw rfl (by decide) rfl rfl (by decide) s1 s2
    · exact key 4 wPost sw rfl (by decide) rfl rfl (by decide) s1 s2
  · exact text_is (join3 wCancel _ _) (ct_a 4 wCancel ac mkt n oi oa sd pr qt how red (by decide) rfl (by decide) f1 f3 w E)
  · exact text_is (join3 wIndex _ _) (ct_b 5 wIndex ac mkt n oi oa sd pr qt how red (by decide) rfl (by decide) f2 f3 w E)
  · exact text_is (join3 wFund _ _) (ct_b 6 wFund ac mkt n oi oa sd pr qt how red (by decide) rfl (by decide) f2 f3 w E)
  · exact text_is rfl (ct_7 7 wSweep ac mkt n oi oa sd pr qt how red rfl rfl w E)
end Go.Proofs.YthdjfhnhjiageaaGreatDoor.Tx
