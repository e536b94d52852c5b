/- Which receipts may be: the code's upto and Right, the law's right. -/
import Derived.Test.YtcmdpmialehjgaaGreatDoorRecMem
namespace Go.Proofs.YtcmdpmialehjgaaGreatDoor
open Go.RowKit

theorem recupto_any (w : World) (z m : Int) : Calls Tryz.prog 18 #[.int .i64 z, .int .i64 m] w fun e w' => e = .returned (.bool (decide (0 ≤ z) && decide (z ≤ m))) ∧ w' = w := by
  obtain ⟨t1, h1⟩ : ∃ r, decide (0 ≤ z) = r := ⟨_, rfl⟩
  obtain ⟨t2, h2⟩ : ∃ r, decide (z ≤ m) = r := ⟨_, rfl⟩
  go_enter Tryz.func18, Tryz.ntmps18
  rw [h1, h2]
  cases t1
  · go_wp2
    go_ret
    exact ⟨rfl, rfl⟩
  · cases t2
    · go_wp2
      go_ret
      exact ⟨rfl, rfl⟩
    · go_wp2
      go_ret
      exact ⟨rfl, rfl⟩
set_option linter.unusedSimpArgs false in
set_option maxRecDepth 100000 in
set_option maxHeartbeats 6400000 in
theorem recright_any (w : World) (x : PRec) : Calls Tryz.prog 8 #[.agg x.cells.toArray] w fun e w' => e = .returned (.bool (recOk x)) ∧ Below w.heap.size w w' := by
  obtain ⟨u1, h1, k1⟩ : ∃ u, (decide (0 ≤ x.tower) && decide (x.tower ≤ 15)) = u ∧ ∀ W : World, Calls Tryz.prog 18 #[.int .i64 x.tower, .int .i64 15] W fun e w' => e = .returned (.bool u) ∧ w' = W := ⟨_, rfl, fun W => recupto_any W _ _⟩
  obtain ⟨u2, h2, k2⟩ : ∃ u, (decide (0 ≤ x.channel) && decide (x.channel ≤ 1048576)) = u ∧ ∀ W : World, Calls Tryz.prog 18 #[.int .i64 x.channel, .int .i64 1048576] W fun e w' => e = .returned (.bool u) ∧ w' = W := ⟨_, rfl, fun W => recupto_any W _ _⟩
  obtain ⟨u3, h3, k3⟩ : ∃ u, (decide (0 ≤ x.state) && decide (x.state ≤ 1048576)) = u ∧ ∀ W : World, Calls Tryz.prog 18 #[.int .i64 x.state, .int .i64 1048576] W fun e w' => e = .returned (.bool u) ∧ w' = W := ⟨_, rfl, fun W => recupto_any W _ _⟩
  have HR : Hid (recOk x = (u1 && (u2 && u3))) := Lib.hid (by rw [← h1, ← h2, ← h3]; simp [recOk, Bool.and_assoc])
  have H1 := Lib.hid k1
  have H2 := Lib.hid k2
  have H3 := Lib.hid k3
  clear h1 h2 h3 k1 k2 k3
  go_enter Tryz.func8, Tryz.ntmps8
  go_upto_region 1 with (fail)
  have b1 : Below w.heap.size w (w.alloc (.cells x.cells.toArray 25)) := (Below.refl _ _).alloc (Nat.le_refl _) _
  have hrg := range_nil (range_of (heap_alloc_new w (.cells x.cells.toArray 25)))
  revert b1 hrg
  generalize (w.alloc (.cells x.cells.toArray 25)) = w1
  obtain ⟨g, hg⟩ : ∃ g, g = w.heap.size := ⟨_, rfl⟩
  rw [← hg]
  intro b1 hrg
  rw [hg] at b1
  have HB := Lib.hid b1
  have c0 := rec_tower hrg
  have c1 := rec_channel hrg
  have c2 := rec_state hrg
  rw [Nat.zero_add] at c1 c2
  clear hrg hg b1
  cases u1
  · go_wp2_with (first | (go_at_call 18; (first | (with_reducible refine (H1.out _).mono ?_) | (with_reducible refine (H2.out _).mono ?_) | (with_reducible refine (H3.out _).mono ?_)); rintro e w2 ⟨rfl, rfl⟩) | fail)
    go_ret
    exact ⟨by rw [HR.out]; simp, HB.out⟩
  · cases u2
    · go_wp2_with (first | (go_at_call 18; (first | (with_reducible refine (H1.out _).mono ?_) | (with_reducible refine (H2.out _).mono ?_) | (with_reducible refine (H3.out _).mono ?_)); rintro e w2 ⟨rfl, rfl⟩) | fail)
      go_ret
      exact ⟨by rw [HR.out]; simp, HB.out⟩
    · cases u3
      · go_wp2_with (first | (go_at_call 18; (first | (with_reducible refine (H1.out _).mono ?_) | (with_reducible refine (H2.out _).mono ?_) | (with_reducible refine (H3.out _).mono ?_)); rintro e w2 ⟨rfl, rfl⟩) | fail)
        go_ret
        exact ⟨by rw [HR.out]; simp, HB.out⟩
      · go_wp2_with (first | (go_at_call 18; (first | (with_reducible refine (H1.out _).mono ?_) | (with_reducible refine (H2.out _).mono ?_) | (with_reducible refine (H3.out _).mono ?_)); rintro e w2 ⟨rfl, rfl⟩) | fail)
        go_ret
        exact ⟨by rw [HR.out]; simp, HB.out⟩
end Go.Proofs.YtcmdpmialehjgaaGreatDoor
