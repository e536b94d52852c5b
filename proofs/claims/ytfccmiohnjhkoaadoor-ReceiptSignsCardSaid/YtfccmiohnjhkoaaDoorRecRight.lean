/- Which receipts may be: the code's upto and Right, the law's right. -/
import Derived.Test.YtfccmiohnjhkoaaDoorRecMem
namespace Go.Proofs.YtfccmiohnjhkoaaDoor
open Go.RowKit

theorem recupto_any (w : World) (z m : Int) : Calls Tryd.prog 33 #[.int .i64 z, .int .i64 m] w fun e w' => e = .returned (.bool (decide (0 ≤ z) && decide (z ≤ m))) ∧ w' = w := by
  obtain ⟨t1, h1⟩ : ∃ r, decide (0 ≤ z) = r := ⟨_, rfl⟩
  obtain ⟨t2, h2⟩ : ∃ r, decide (z ≤ m) = r := ⟨_, rfl⟩
  go_enter Tryd.func33, Tryd.ntmps33
  rw [h1, h2]
  cases t1
  · go_wp2
    go_ret
    exact ⟨rfl, rfl⟩
  · cases t2
    · go_wp2
      go_ret
      exact ⟨rfl, rfl⟩
    · go_wp2
      go_ret
      exact ⟨rfl, rfl⟩
set_option linter.unusedSimpArgs false in
set_option maxRecDepth 100000 in
set_option maxHeartbeats 6400000 in
theorem recright_any (w : World) (x : PRec) : Calls Tryd.prog 16 #[.agg x.cells.toArray] w fun e w' => e = .returned (.bool (recOk x)) ∧ Below w.heap.size w w' := by
  obtain ⟨u1, h1, k1⟩ : ∃ u, (decide (0 ≤ x.tower) && decide (x.tower ≤ 15)) = u ∧ ∀ W : World, Calls Tryd.prog 33 #[.int .i64 x.tower, .int .i64 15] W fun e w' => e = .returned (.bool u) ∧ w' = W := ⟨_, rfl, fun W => recupto_any W _ _⟩
  obtain ⟨u2, h2, k2⟩ : ∃ u, (decide (0 ≤ x.channel) && decide (x.channel ≤ 1048576)) = u ∧ ∀ W : World, Calls Tryd.prog 33 #[.int .i64 x.channel, .int .i64 1048576] W fun e w' => e = .returned (.bool u) ∧ w' = W := ⟨_, rfl, fun W => recupto_any W _ _⟩
  obtain ⟨u3, h3, k3⟩ : ∃ u, (decide (0 ≤ x.state) && decide (x.state ≤ 1048576)) = u ∧ ∀ W : World, Calls Tryd.prog 33 #[.int .i64 x.state, .int .i64 1048576] W fun e w' => e = .returned (.bool u) ∧ w' = W := ⟨_, rfl, fun W => recupto_any W _ _⟩
  have HR : Hid (recOk x = (u1 && (u2 && u3))) := Lib.hid (by rw [← h1, ← h2, ← h3]; simp [recOk, Bool.and_assoc])
  have H1 := Lib.hid k1
  have H2 := Lib.hid k2
  have H3 := Lib.hid k3
  clear h1 h2 h3 k1 k2 k3
  go_enter Tryd.func16, Tryd.ntmps16
  go_upto_region 1 with (fail)
  have b1 : Below w.heap.size w (w.alloc (.cells x.cells.toArray 26)) := (Below.refl _ _).alloc (Nat.le_refl _) _
  have hrg := range_nil (range_of (heap_alloc_new w (.cells x.cells.toArray 26)))
  revert b1 hrg
  generalize (w.alloc (.cells x.cells.toArray 26)) = w1
  obtain ⟨g, hg⟩ : ∃ g, g = w.heap.size := ⟨_, rfl⟩
  rw [← hg]
  intro b1 hrg
  rw [hg] at b1
  have HB := Lib.hid b1
  have c0 := rec_tower hrg
  have c1 := rec_channel hrg
  have c2 := rec_state hrg
  rw [Nat.zero_add] at c1 c2
  clear hrg hg b1
  cases u1
  · go_wp2_with (first | (go_at_call 33; (first | (with_reducible refine (H1.out _).mono ?_) | (with_reducible refine (H2.out _).mono ?_) | (with_reducible refine (H3.out _).mono ?_)); rintro e w2 ⟨rfl, rfl⟩) | fail)
    go_ret
    exact ⟨by rw [HR.out]; simp, HB.out⟩
  · cases u2
    · go_wp2_with (first | (go_at_call 33; (first | (with_reducible refine (H1.out _).mono ?_) | (with_reducible refine (H2.out _).mono ?_) | (with_reducible refine (H3.out _).mono ?_)); rintro e w2 ⟨rfl, rfl⟩) | fail)
      go_ret
      exact ⟨by rw [HR.out]; simp, HB.out⟩
    · cases u3
      · go_wp2_with (first | (go_at_call 33; (first | (with_reducible refine (H1.out _).mono ?_) | (with_reducible refine (H2.out _).mono ?_) | (with_reducible refine (H3.out _).mono ?_)); rintro e w2 ⟨rfl, rfl⟩) | fail)
        go_ret
        exact ⟨by rw [HR.out]; simp, HB.out⟩
      · go_wp2_with (first | (go_at_call 33; (first | (with_reducible refine (H1.out _).mono ?_) | (with_reducible refine (H2.out _).mono ?_) | (with_reducible refine (H3.out _).mono ?_)); rintro e w2 ⟨rfl, rfl⟩) | fail)
        go_ret
        exact ⟨by rw [HR.out]; simp, HB.out⟩
set_option linter.unusedSimpArgs false in
set_option maxRecDepth 100000 in
set_option maxHeartbeats 6400000 in
theorem recright_law (w : World) (x : PRec) : Calls Tryd.prog 7 #[.agg x.cells.toArray] w fun e w' => e = .returned (.bool (recOk x)) ∧ Below w.heap.size w w' := by
  obtain ⟨t1, ht1⟩ : ∃ r, decide (0 ≤ x.tower) = r := ⟨_, rfl⟩
  have ft1 := ht1
  obtain ⟨t2, ht2⟩ : ∃ r, decide (x.tower < 16) = r := ⟨_, rfl⟩
  have ft2 := ht2
  obtain ⟨t3, ht3⟩ : ∃ r, decide (0 ≤ x.channel) = r := ⟨_, rfl⟩
  have ft3 := ht3
  obtain ⟨t4, ht4⟩ : ∃ r, decide (x.channel ≤ 1048576) = r := ⟨_, rfl⟩
  have ft4 := ht4
  obtain ⟨t5, ht5⟩ : ∃ r, decide (0 ≤ x.state) = r := ⟨_, rfl⟩
  have ft5 := ht5
  obtain ⟨t6, ht6⟩ : ∃ r, decide (x.state ≤ 1048576) = r := ⟨_, rfl⟩
  have ft6 := ht6
  have HR : Hid (recOk x = (t1 && (t2 && (t3 && (t4 && (t5 && t6)))))) := Lib.hid (by rw [← ht1, ← ht2, ← ht3, ← ht4, ← ht5, ← ht6, show decide (x.tower < 16) = decide (x.tower ≤ 15) by rw [decide_eq_decide]; omega]; rfl)
  clear ht1 ht2 ht3 ht4 ht5 ht6
  go_enter Tryd.func7, Tryd.ntmps7
  go_upto_region 1 with (fail)
  have b1 : Below w.heap.size w (w.alloc (.cells x.cells.toArray 26)) := (Below.refl _ _).alloc (Nat.le_refl _) _
  have hrg := range_nil (range_of (heap_alloc_new w (.cells x.cells.toArray 26)))
  revert b1 hrg
  generalize (w.alloc (.cells x.cells.toArray 26)) = w1
  obtain ⟨g, hg⟩ : ∃ g, g = w.heap.size := ⟨_, rfl⟩
  rw [← hg]
  intro b1 hrg
  rw [hg] at b1
  have HB := Lib.hid b1
  have c0 := rec_tower hrg
  have c1 := rec_channel hrg
  have c2 := rec_state hrg
  rw [Nat.zero_add] at c1 c2
  clear hrg hg b1
  cases t1
  · go_wp2_with fail
    go_ret
    exact ⟨by rw [HR.out]; simp, HB.out⟩
  · cases t2
    · go_wp2_with fail
      go_ret
      exact ⟨by rw [HR.out]; simp, HB.out⟩
    · cases t3
      · go_wp2_with fail
        go_ret
        exact ⟨by rw [HR.out]; simp, HB.out⟩
      · cases t4
        · go_wp2_with fail
          go_ret
          exact ⟨by rw [HR.out]; simp, HB.out⟩
        · cases t5
          · go_wp2_with fail
            go_ret
            exact ⟨by rw [HR.out]; simp, HB.out⟩
          · cases t6
            · go_wp2_with fail
              go_ret
              exact ⟨by rw [HR.out]; simp, HB.out⟩
            · go_wp2_with fail
              go_ret
              exact ⟨by rw [HR.out]; simp, HB.out⟩
end Go.Proofs.YtfccmiohnjhkoaaDoor
