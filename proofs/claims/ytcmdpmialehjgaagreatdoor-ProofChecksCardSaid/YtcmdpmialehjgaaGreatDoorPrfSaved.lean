/- Whether a height is at most so many above another one, as the landed code has it; and what Saved comes to. -/
import Derived.Test.YtcmdpmialehjgaaGreatDoorWhyPlain
import Derived.Test.YtcmdpmialehjgaaGreatDoorSteps
namespace Go.Proofs.YtcmdpmialehjgaaGreatDoor
open Go.RowKit

set_option linter.unusedSimpArgs false in
set_option maxRecDepth 100000 in
set_option maxHeartbeats 6400000 in
theorem within17 {w : World} {h a k : Int} (ha : (-1099511627776 ≤ a ∧ a ≤ 1099511627776)) (hk : (-1099511627776 ≤ k ∧ k ≤ 1099511627776)) :
    Calls Tryz.prog 29 #[.int .i64 h, .int .i64 a, .int .i64 k] w fun e w' => e = .returned (.bool (decide (h ≤ a + k))) ∧ Below w.heap.size w w' := by
  obtain ⟨a1, a2⟩ := ha
  obtain ⟨k1, k2⟩ := hk
  have hw : IntKind.i64.wrap (a + k) = a + k := IntWalk.i64_in _ (by omega)
  have hw2 : wrap64 (a + k) = a + k := IntWalk.wrap64_in _ (by omega)
  have HB := Lib.hid (Below.refl w.heap.size w)
  go_enter Tryz.func29, Tryz.ntmps29
  by_cases e1 : 0 ≤ k
  · have e2 : ¬ a + k < a := by omega
    go_wp2_with fail
    go_ret
    exact ⟨rfl, HB.out⟩
  · have e1b : k < 0 := by omega
    have e2 : ¬ a < a + k := by omega
    go_wp2_with fail
    go_ret
    exact ⟨rfl, HB.out⟩
theorem within_wrap17 {h a k : Int} (hh : (-1099511627776 ≤ h ∧ h ≤ 1099511627776)) (ha : (-1099511627776 ≤ a ∧ a ≤ 1099511627776)) : decide (h ≤ a + k) = decide (wrap64 (h - a) ≤ k) := by
  rw [IntWalk.wrap64_in (h - a) (by omega)]
  exact decide_eq_decide.mpr (by omega)
set_option linter.unusedSimpArgs false in
set_option maxRecDepth 100000 in
set_option maxHeartbeats 6400000 in
theorem saved_any {w : World} {f : PFacts} {c : PChan} (ht : f.t.op.root.length = 32) (hc : c.ftx.length = 32) (ha : (-1099511627776 ≤ f.at' ∧ f.at' ≤ 1099511627776)) (hk : (-1099511627776 ≤ c.window ∧ c.window ≤ 1099511627776)) (hn : (-1099511627776 ≤ f.when ∧ f.when ≤ 1099511627776)) :
    Calls Tryz.prog 16 #[.agg f.cells.toArray, .agg c.cells.toArray] w fun e w' => e = .returned (.bool (savedB f c)) ∧ Below w.heap.size w w' := by
  obtain ⟨sv, hsv⟩ : ∃ s, savedB f c = s := ⟨_, rfl⟩
  rw [hsv]
  have HW : Hid (∀ W : World, Calls Tryz.prog 29 #[.int .i64 f.when, .int .i64 f.at', .int .i64 c.window] W fun e w' => e = .returned (.bool (decide (wrap64 (f.when - f.at') ≤ c.window))) ∧ Below W.heap.size W w') := Lib.hid fun W => by
    rw [← within_wrap17 hn ha]
    exact within17 ha hk
  have HSV := Lib.hid hsv
  have HT := Lib.hid ht
  have HC := Lib.hid hc
  clear hsv ht hc ha hk hn
  go_enter Tryz.func16, Tryz.ntmps16
  go_upto_region 1 with (fail)
  have b1 : Below w.heap.size w ((w.alloc (.cells f.cells.toArray 58)).alloc (.cells c.cells.toArray 49)) := ((Below.refl _ _).alloc (Nat.le_refl _) _).alloc (by simp) _
  have h1 : ((w.alloc (.cells f.cells.toArray 58)).alloc (.cells c.cells.toArray 49)).heap[w.heap.size]? = some (.cells f.cells.toArray 58 (0, 0)) := by
    rw [heap_alloc_old _ _ (by simp), heap_alloc_new]
  have h2 : ((w.alloc (.cells f.cells.toArray 58)).alloc (.cells c.cells.toArray 49)).heap[w.heap.size + 1]? = some (.cells c.cells.toArray 49 (0, 0)) := heap_alloc_at _ _ _ (by simp)
  revert b1 h1 h2
  generalize ((w.alloc (.cells f.cells.toArray 58)).alloc (.cells c.cells.toArray 49)) = w1
  obtain ⟨g, hg⟩ : ∃ g, g = w.heap.size := ⟨_, rfl⟩
  obtain ⟨g1, hg1⟩ : ∃ g1, g1 = g + 1 := ⟨_, rfl⟩
  rw [← hg, ← hg1]
  intro b1 h1 h2
  rw [hg] at b1
  have HB1 := Lib.hid b1
  have m0 : w1.cell? ⟨g, 40, none⟩ = some (.int .i64 f.at') := facts_at HT.out (range_of h1)
  have m1 : w1.cell? ⟨g, 42, none⟩ = some (.int .i64 f.when) := facts_when HT.out (range_of h1)
  have m2 : w1.cell? ⟨g1, 38, none⟩ = some (.int .i64 c.window) := chan_window17 HC.out (range_of h2)
  have m3 : w1.cell? ⟨g, 41, none⟩ = some (.bool f.taken) := facts_taken HT.out (range_of h1)
  clear b1 h1 h2 hg hg1
  cases ht : f.taken
  · rw [ht] at m3
    have hq : Hid (sv = false) := Lib.hid (by rw [← HSV.out]; unfold savedB; rw [ht]; rfl)
    go_wp2_with fail
    go_ret
    exact ⟨by rw [hq.out] <;> rfl, HB1.out⟩
  · rw [ht] at m3
    have hq : Hid (decide (wrap64 (f.when - f.at') ≤ c.window) = sv) := Lib.hid (by rw [← HSV.out]; unfold savedB; rw [ht]; rfl)
    rw [hq.out] at HW
    go_wp2_with (first | (go_at_call 29; (with_reducible refine (HW.out _).mono ?_); rintro e w2 ⟨rfl, hb⟩; have HB2 := Lib.hid (bthen HB1.out hb); clear hb) | fail)
    go_ret
    exact ⟨rfl, HB2.out⟩
end Go.Proofs.YtcmdpmialehjgaaGreatDoor
