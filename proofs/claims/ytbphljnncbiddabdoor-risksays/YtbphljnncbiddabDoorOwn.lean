/-
  Slices of ints that the call itself made: added, copied, turned round.
-/
import Derived.Test.YtbphljnncbiddabDoorFix
import Derived.Test.YtbphljnncbiddabDoorShelf
import Derived.Laws.OwnMore
import Derived.Laws.AppendOwnNone
namespace Go.Proofs.YtbphljnncbiddabDoor.Own
open Go.RowKit Go.Proofs.YtbphljnncbiddabDoor.Num Go.Proofs.YtbphljnncbiddabDoor.Fix

theorem row_below {w w' : World} {a : Option Addr} {xs : List Int} (h : Row w a xs) (hb : Below w.heap.size w w') : Row w' a xs := by
  rcases h with rfl | ⟨b, off, rfl, hc⟩
  · exact .inl rfl
  · refine .inr ⟨b, off, rfl, fun i hi => ?_⟩
    have := hc i hi
    rw [hb.cell (World.block_lt_of_cell? w _ this)]
    exact this
theorem row_draws {w : World} {a : Option Addr} {xs : List Int} (h : Row w a xs) (n : Nat) : Row (w.drewN n) a xs := h
theorem row_take {w : World} {a : Option Addr} {xs : List Int} (h : Row w a xs) (k : Nat) : Row w a (xs.take k) := by
  rcases h with rfl | ⟨b, off, rfl, hc⟩
  · exact .inl (by simp)
  · refine .inr ⟨b, off, rfl, fun i hi => ?_⟩
    simp only [List.length_take] at hi
    rw [hc i (by omega)]
    simp [show i < k by omega]

theorem row_news {w : World} {ad : Addr} {xs : List Int} (h : Row w (some ad) xs) (k : Nat) (o : Obj) :
    ∀ j u, ((xs.drop k).map (Value.int .i64))[j]? = some u → (w.alloc o).cell? ((ad.add k).add j) = some u := by
  intro j u hu
  rcases h with rfl | ⟨b, off, he, hc⟩
  · simp at hu
  · cases he
    simp only [List.getElem?_map, List.getElem?_drop, Option.map_eq_some_iff] at hu
    obtain ⟨z, hz, rfl⟩ := hu
    obtain ⟨hlt, hz'⟩ := List.getElem?_eq_some_iff.1 hz
    have hci := hc (k + j) hlt
    rw [show ((⟨b, off, none⟩ : Addr).add k).add j = ⟨b, off + (k + j), none⟩ from by rw [Addr.add_lit, Addr.add_lit, Nat.add_assoc]]
    rw [World.cell?_alloc_lt _ _ _ (World.block_lt_of_cell? w _ hci), hci]
    simp [hlt, hz']

/-- what is owned, as it is read. -/
theorem row_own {w : World} {B : Nat} {t : TypeId} {v : Value} {n : Nat} {xs : List Int} (h : w.ownsRow B t 1 v n (xs.map (Value.int .i64))) :
    xs.length = n ∧ ∃ a cap, v = .slice a n cap ∧ n ≤ maxLen ∧ Row w a xs := by
  have hl : xs.length = n := by simpa using h.1
  refine ⟨hl, ?_⟩
  rcases h.2 with ⟨rfl, rfl⟩ | ⟨g, cap, cur, rfl, hb, hg, hn, hm, hs, ht⟩
  · exact ⟨none, 0, rfl, Nat.zero_le _, .inl (List.eq_nil_of_length_eq_zero hl)⟩
  · refine ⟨some ⟨g, 0, none⟩, cap, rfl, by omega, .inr ⟨g, 0, rfl, fun i hi => ?_⟩⟩
    have := h.cellAt i (by omega)
    rw [Nat.zero_add, this]
    simp [hi]

theorem add_own (B : Nat) (t : TypeId) (v : Value) (n : Nat) (xs : List Int) (w : World) (h : w.ownsRow B t 1 v n (xs.map (Value.int .i64))) :
    Calls Tryd.prog 41 #[v] w fun e w' => e = .returned (.tuple #[.int .i64 (addFrom 0 xs).1, .int .i64 (addFrom 0 xs).2]) ∧ w' = w := by
  obtain ⟨hl, a, cap, rfl, hm, hr⟩ := row_own h
  exact add_any a n cap xs w hl hm hr

theorem clone_any (a : Option Addr) (len cap : Nat) (xs : List Int) (w : World) (hl : xs.length = len) (hm : len * 8 ≤ 140737488355328) (hr : Row w a xs) :
    Calls Tryd.prog 21 #[.slice a len cap] w fun e w' => ∃ v, e = .returned v ∧ w'.ownsRow w.heap.size 3 1 v len (xs.map (Value.int .i64)) ∧ Below w.heap.size w w' := by
  subst hl
  rcases hr with rfl | ⟨b, off, rfl, hc⟩
  · cases a with
    | none =>
      refine (Tryd.slices_Clone_int_nil _ _ _).mono ?_
      rintro e w' ⟨rfl, rfl⟩
      exact ⟨_, rfl, World.ownsRow_nil _ _ _ _, Below.refl _ _⟩
    | some a =>
      refine (Tryd.slices_Clone_int_zero a cap w).mono ?_
      rintro e w' ⟨v, rfl, ho, -, hb⟩
      exact ⟨_, rfl, ho, hb⟩
  · refine (Tryd.slices_Clone_int b off _ cap xs w (Nat.le_refl _) hm hc).mono ?_
    rintro e w' ⟨v, rfl, ho, -, hb⟩
    rw [List.take_length] at ho
    exact ⟨_, rfl, ho, hb⟩

theorem at_bd (k n : Int) (hn : 1 ≤ n) : 0 ≤ k % n ∧ k % n < n := ⟨Int.emod_nonneg _ (by omega), Int.emod_lt_of_pos _ (by omega)⟩
theorem at_way {k n : Int} (hn : 1 ≤ n) : (k.tmod n < 0 → k.tmod n + n = k % n) ∧ (¬ k.tmod n < 0 → k.tmod n = k % n) := by
  have e := Int.mul_tdiv_add_tmod k n
  have l := Int.tmod_lt_of_pos k (b := n) (by omega)
  have g := Int.lt_tmod_of_pos k (b := n) (by omega)
  constructor
  · intro m
    have := ((Int.ediv_emod_unique (a := k) (b := n) (r := k.tmod n + n) (q := k.tdiv n - 1) (by omega)).2 ⟨by rw [Int.mul_sub]; omega, by omega, by omega⟩).2
    exact this.symm
  · intro m
    have := ((Int.ediv_emod_unique (a := k) (b := n) (r := k.tmod n) (q := k.tdiv n) (by omega)).2 ⟨by omega, by omega, by omega⟩).2
    exact this.symm
theorem at_any (k n : Int) (w : World) (hn : 1 ≤ n) (hn2 : n ≤ 1000000000000000) :
    Calls Tryd.prog 25 #[.int .i64 k, .int .i64 n] w fun e w' => e = .returned (.int .i64 (k % n)) ∧ w' = w := by
  have H1 := hide (at_way (k := k) hn).1
  have H2 := hide (at_way (k := k) hn).2
  have l := Int.tmod_lt_of_pos k (b := n) (by omega)
  have g := Int.lt_tmod_of_pos k (b := n) (by omega)
  have hz : (n == 0) = false := by simp; omega
  by_cases h : k.tmod n < 0
  · have H := hide (unhide H1 h)
    clear H1 H2
    go_enter Tryd.func25, Tryd.ntmps25
    go_wp2
    go_ret
    exact ⟨by rw [← unhide H]; rfl, rfl⟩
  · have H := hide (unhide H2 h)
    clear H1 H2
    go_enter Tryd.func25, Tryd.ntmps25
    go_wp2
    go_ret
    exact ⟨by rw [← unhide H]; rfl, rfl⟩
end Go.Proofs.YtbphljnncbiddabDoor.Own
