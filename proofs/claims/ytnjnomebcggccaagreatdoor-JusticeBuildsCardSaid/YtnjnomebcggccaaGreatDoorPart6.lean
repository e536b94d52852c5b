/- What Part comes to. -/
import Derived.Test.YtnjnomebcggccaaGreatDoorOwner
import Derived.Test.YtnjnomebcggccaaGreatDoorThousand
import Derived.Deep.QuietTactic
import Derived.BigQuiet
namespace Go.Proofs.YtnjnomebcggccaaGreatDoor
open Go.RowKit

theorem quo_1000 {m : Int} (h0 : 0 ≤ m) (h1 : m ≤ 1125899906842624000) : wrap64 ((wrap64 m).tdiv 1000) = m / 1000 := by
  have e : wrap64 m = m := by unfold wrap64; omega
  rw [e, Int.tdiv_eq_ediv_of_nonneg h0]
  unfold wrap64
  omega
set_option linter.unusedSimpArgs false in
set_option maxRecDepth 100000 in
set_option maxHeartbeats 1600000 in
theorem part_any (W : World) (n k : Int) (hk : Fits k) : Calls Tryz.prog 23 #[.int .i64 n, .int .i64 k] W fun e w' => e = .returned (.int .i64 (thouOf n k)) ∧ Below W.heap.size W w' := by
  obtain ⟨k1, k2⟩ := hk
  obtain ⟨V, hV⟩ : ∃ V, V = thouOf n k := ⟨_, rfl⟩
  rw [← hV]
  obtain ⟨B, hB⟩ : ∃ B, okAmount n = B := ⟨_, rfl⟩
  have hB2 : B = true → 0 ≤ n ∧ n ≤ 1125899906842624 := fun e => of_decide_eq_true (hB.trans e)
  have hri : ∀ (W : World), Calls Tryz.prog 21 #[.int .i64 n] W fun e w' => e = .returned (.bool B) ∧ W = w' := fun W => by rw [← hB]; exact right_any n W
  have HRI := Lib.hid hri
  have cases : (B = false ∧ V = 0) ∨ (B = true ∧ ¬ 0 ≤ k ∧ V = 0) ∨ (B = true ∧ 0 ≤ k ∧ k < 1000 ∧ IntKind.i64.wrap (n * k) = n * k ∧ V = n * k / 1000 ∧ 0 ≤ n * k ∧ n * k ≤ 1125899906842624000) ∨ (B = true ∧ 0 ≤ k ∧ ¬ k < 1000 ∧ V = n * 1000 / 1000 ∧ 0 ≤ n ∧ n ≤ 1125899906842624) := by
    have hv := hV
    unfold thouOf at hv
    rw [hB] at hv
    cases B with
    | false => exact .inl ⟨rfl, by rw [hv]; simp⟩
    | true =>
      obtain ⟨g0, g1⟩ := hB2 rfl
      by_cases h2 : 0 ≤ k
      · rw [if_pos ⟨rfl, h2⟩] at hv
        by_cases h3 : k < 1000
        · rw [if_pos h3] at hv
          have m1 : n * k ≤ 1125899906842624 * 1000 := Int.mul_le_mul g1 (by omega) h2 (by omega)
          have m0 : 0 ≤ n * k := Int.mul_nonneg g0 h2
          exact .inr (.inr (.inl ⟨rfl, h2, h3, IntWalk.i64_in _ (by omega), hv, m0, by omega⟩))
        · rw [if_neg h3] at hv
          exact .inr (.inr (.inr ⟨rfl, h2, h3, hv, g0, g1⟩))
      · rw [if_neg (by simp [h2])] at hv
        exact .inr (.inl ⟨rfl, h2, hv⟩)
  clear hri hB hB2 hV
  rcases cases with ⟨rfl, rfl⟩ | ⟨rfl, d1, rfl⟩ | ⟨rfl, d1, d2, iw, rfl, m0, m1⟩ | ⟨rfl, d1, d2, rfl, m0, m1⟩
  · go_enter Tryz.func23, Tryz.ntmps23
    go_wp2_with (go_at_call 21; (with_reducible refine (HRI.out _).mono ?_); rintro e w' ⟨rfl, rfl⟩)
    go_ret
    exact ⟨rfl, Below.refl _ _⟩
  · have d1' : k < 0 := by omega
    go_enter Tryz.func23, Tryz.ntmps23
    go_wp2_with (go_at_call 21; (with_reducible refine (HRI.out _).mono ?_); rintro e w' ⟨rfl, rfl⟩)
    go_ret
    exact ⟨rfl, Below.refl _ _⟩
  · have d1' : ¬ k < 0 := by omega
    have hm : min k 1000 = k := by omega
    go_enter Tryz.func23, Tryz.ntmps23
    go_wp2_with (go_at_call 21; (with_reducible refine (HRI.out _).mono ?_); rintro e w' ⟨rfl, rfl⟩)
    go_ret
    refine ⟨?_, Below.refl _ _⟩
    rfl
  · have d1' : ¬ k < 0 := by omega
    have hm : min k 1000 = 1000 := by omega
    go_enter Tryz.func23, Tryz.ntmps23
    go_wp2_with (go_at_call 21; (with_reducible refine (HRI.out _).mono ?_); rintro e w' ⟨rfl, rfl⟩)
    all_goals
      go_ret
      refine ⟨?_, Below.refl _ _⟩
      first
      | exact congrArg (fun z => Ending.returned (.int .i64 z)) (by omega)
      | (rw [quo_1000 (by omega) (by omega)]; exact congrArg (fun z => Ending.returned (.int .i64 z)) (by omega))
      | (obtain rfl : k = 1000 := by omega
         rw [quo_1000 (by omega) (by omega)]; exact congrArg (fun z => Ending.returned (.int .i64 z)) (by omega))
end Go.Proofs.YtnjnomebcggccaaGreatDoor
