/-
  Package book's Rest, Find, Remove, Best by one contract each, for every book.
-/
import Derived.Test.YtbphljnncbiddaaRefP
import Derived.Test.YtbphljnncbiddaaBkRem
import Derived.Test.YtbphljnncbiddaaBkShelf
namespace Go.Proofs.Ytbphljnncbiddaa.Rk
open Go.RowKit Go.Sort Go.Maps Go.Proofs.Ytbphljnncbiddaa.Mix Go.Proofs.Ytbphljnncbiddaa.Bk

theorem rest_all (p p' : Option Addr) (c c' : Nat) (bids asks : List Odr) (a ac sd pr q : Int) (w : World) (h : OV w p c bids) (h' : OV w p' c' asks) (hn : bids.length ≤ 140737488351232) (hn' : asks.length ≤ 140737488351232) :
    Calls Try.prog 30 #[.agg #[.slice p bids.length c, .slice p' asks.length c'], .agg #[.int .i64 a, .int .i64 ac, .int .i64 sd, .int .i64 pr, .int .i64 q]] w fun e w' =>
      ∃ v, e = .returned (.tuple #[v, .int .i64 (mayRest bids asks (a, ac, sd, pr, q))]) ∧ BookOut w (restedB bids asks (a, ac, sd, pr, q)) (restedA bids asks (a, ac, sd, pr, q)) v w' ∧ Below w.heap.size w w' := by
  unfold restedB restedA
  by_cases hm : mayRest bids asks (a, ac, sd, pr, q) = 0
  · rw [hm, if_pos rfl, if_pos rfl]
    refine (rest_any p p' c c' bids asks (a, ac, sd, pr, q) w h h' hm).mono ?_
    rintro e w' ⟨p1, c1, p2, c2, rfl, o1, o2, hb, z1, z2⟩
    exact ⟨_, rfl, ⟨p1, c1, p2, c2, rfl, o1, o2, z1, z2⟩, hb⟩
  · rw [if_neg hm, if_neg hm]
    refine (rest_bad p p' c c' bids asks a ac sd pr q w h.row h'.row hn hn' hm).mono ?_
    rintro e w' ⟨rfl, hb⟩
    exact ⟨_, rfl, out_none _ _, hb⟩
def remB (bids asks : List Odr) (id : Int) : List Odr := if findE bids asks id = 0 then without id bids else []
def remA (bids asks : List Odr) (id : Int) : List Odr := if findE bids asks id = 0 then without id asks else []
theorem findE_zero {bids asks : List Odr} {id : Int} : findE bids asks id = 0 ↔ Right bids asks ∧ ∃ o, findIn id bids asks = some o := by
  unfold findE
  split
  · rename_i h
    cases hf : findIn id bids asks with
    | none => simp
    | some o => simpa using bookErr_zero.1 h
  · rename_i h
    exact ⟨fun e => absurd e h, fun e => absurd (bookErr_zero.2 e.1) h⟩
theorem remove_all (p p' : Option Addr) (c c' : Nat) (bids asks : List Odr) (id : Int) (w : World) (h : OV w p c bids) (h' : OV w p' c' asks) (hn : bids.length ≤ 140737488351232) (hn' : asks.length ≤ 140737488351232) :
    Calls Try.prog 32 #[.agg #[.slice p bids.length c, .slice p' asks.length c'], .int .i64 id] w fun e w' =>
      ∃ v, e = .returned (.tuple #[v, odrV (findO bids asks id), .int .i64 (findE bids asks id)]) ∧ BookOut w (remB bids asks id) (remA bids asks id) v w' ∧ Below w.heap.size w w' := by
  unfold remB remA
  by_cases hm : findE bids asks id = 0
  · obtain ⟨hR, o, ho⟩ := findE_zero.1 hm
    rw [hm, if_pos rfl, if_pos rfl]
    refine (remove_ok p p' c c' bids asks id w h h' hR o ho).mono ?_
    rintro e w' ⟨p1, c1, p2, c2, rfl, o1, o2, hb, z1, z2⟩
    refine ⟨_, ?_, ⟨p1, c1, p2, c2, rfl, o1, o2, z1, z2⟩, hb⟩
    unfold findO
    rw [if_pos (bookErr_zero.2 hR), ho]; rfl
  · rw [if_neg hm, if_neg hm]
    refine (remove_bad p p' c c' bids asks id w h.row h'.row hn hn' hm).mono ?_
    rintro e w' ⟨rfl, hb⟩
    refine ⟨_, ?_, out_none _ _, hb⟩
    have : findO bids asks id = noOdr := by
      unfold findO
      split
      · rename_i h0
        cases hf : findIn id bids asks with
        | none => rfl
        | some o => exact absurd (findE_zero.2 ⟨bookErr_zero.1 h0, o, hf⟩) hm
      · rfl
    rw [this]
def bestB (bids asks : List Odr) : Int := if bookErr bids asks = 0 then firstPrice bids else 0
def bestA (bids asks : List Odr) : Int := if bookErr bids asks = 0 then firstPrice asks else 0
set_option maxHeartbeats 1000000 in
theorem best_all (p p' : Option Addr) (c c' : Nat) (bids asks : List Odr) (w : World) (h : ORow w p bids) (h' : ORow w p' asks) (hn : bids.length ≤ 140737488351232) (hn' : asks.length ≤ 140737488351232) :
    Calls Try.prog 33 #[.agg #[.slice p bids.length c, .slice p' asks.length c']] w fun e w' => e = .returned (.tuple #[.int .i64 (bestB bids asks), .int .i64 (bestA bids asks), .int .i64 (bookErr bids asks)]) ∧ Below w.heap.size w w' := by
  unfold bestB bestA
  by_cases hb : bookErr bids asks = 0
  · rw [hb, if_pos rfl, if_pos rfl]
    exact best_ok p p' c c' bids asks w h h' (bookErr_zero.1 hb)
  · rw [if_neg hb, if_neg hb]
    have CK := hide (fun W hW => check_any p p' c c' bids asks W (orow_below h hW) (orow_below h' hW) hn hn')
    generalize bookErr bids asks = eb at hb CK ⊢
    generalize bids.length = nb at CK ⊢
    generalize asks.length = na at CK ⊢
    go_enter Try.func33, Try.ntmps33
    go_wp2_with fail
    refine (CK.out _ ((Below.refl _ w).alloc (Nat.le_refl _) _)).mono ?_
    rintro e W ⟨rfl, hw⟩
    have BX := hide (((Below.refl _ w).alloc (Nat.le_refl _) _).trans (hw.mono (by simp)))
    clear hw
    go_wp2
    go_ret3
    exact ⟨rfl, BX.out⟩
end Go.Proofs.Ytbphljnncbiddaa.Rk
