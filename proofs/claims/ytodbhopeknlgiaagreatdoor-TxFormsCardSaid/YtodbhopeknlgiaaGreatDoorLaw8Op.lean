/- Law 8's rightOp: which ops may be. -/
import Derived.Test.YtodbhopeknlgiaaGreatDoorTxOk
import Derived.Test.YtodbhopeknlgiaaGreatDoorLock
namespace Go.Proofs.YtodbhopeknlgiaaGreatDoor
open Go.RowKit

set_option linter.unusedSimpArgs false in
set_option maxRecDepth 100000 in
set_option maxHeartbeats 12800000 in
theorem rightOp_law {w : World} {x : POp} (h : OpIn w x) : Calls Tryz.prog 10 #[.agg x.cells.toArray] w fun e w' => e = .returned (.bool (opOk x)) ∧ Below w.heap.size w w' := by
  have hn63 : (x.n : Int) ≤ 9223372036854775807 := by have h1 := h.data.2.1; have h2 := h.data.2.2.1; unfold maxLen at h2; omega
  have hn0 : (0 : Int) ≤ (x.n : Int) := by omega
  have b1 : Below w.heap.size w (w.alloc (.cells x.cells.toArray 28)) := (Below.refl _ _).alloc (Nat.le_refl _) _
  have hrg := range_of (heap_alloc_new w (.cells x.cells.toArray 28))
  have SR := Lib.hid (sumLen h.root)
  have HX := Lib.hid h
  clear h
  go_enter Tryz.func10, Tryz.ntmps10
  go_upto_region 1 with (fail)
  revert b1 hrg
  generalize (w.alloc (.cells x.cells.toArray 28)) = w1
  obtain ⟨g, hg⟩ : ∃ g, g = w.heap.size := ⟨_, rfl⟩
  rw [← hg]
  intro b1 hrg
  rw [hg] at b1
  have HB := Lib.hid b1
  have c0 := op_kind hrg
  have c1 := op_tower hrg
  have c2 := op_channel hrg
  have c3 := op_amount hrg
  have c5 := op_data HX.out.root hrg
  have hrr := op_root hrg
  rw [Nat.zero_add] at c1 c2 c3 c5 hrr
  have RR := Lib.hid hrr
  clear hrg hrr hg b1
  by_cases hk : x.kind = 0
  · have hkb : (x.kind == 0) = true := by simp [hk]
    obtain ⟨t1, ht1⟩ : ∃ r, decide (x.tower = 0) = r := ⟨_, rfl⟩
    have ft1 : (x.tower == 0) = t1 := by rw [← ht1, Bool.eq_iff_iff]; simp
    obtain ⟨t2, ht2⟩ : ∃ r, decide (x.channel = 0) = r := ⟨_, rfl⟩
    have ft2 : (x.channel == 0) = t2 := by rw [← ht2, Bool.eq_iff_iff]; simp
    obtain ⟨t3, ht3⟩ : ∃ r, decide (x.amount = 0) = r := ⟨_, rfl⟩
    have ft3 : (x.amount == 0) = t3 := by rw [← ht3, Bool.eq_iff_iff]; simp
    obtain ⟨t4, ht4⟩ : ∃ r, decide (x.root = zero32) = r := ⟨_, rfl⟩
    have qt4 : ∀ W : World, (Op.equalIn 10000 25 (.agg (cellsOf x.root).toArray) (.agg (cellsOf zero32).toArray)).run Tryz.prog W = .ok t4 W := fun W => by rw [← ht4]; exact run_eqSums _ _ HX.out.root zero32_len W
    rw [zero32_is] at qt4
    obtain ⟨t5, ht5⟩ : ∃ r, decide (x.n = 0) = r := ⟨_, rfl⟩
    have ft5 : ((x.n : Int) == 0) = t5 := by rw [← ht5, Bool.eq_iff_iff]; simp
    have HR : Hid (opOk x = (t1 && (t2 && (t3 && (t4 && t5))))) := Lib.hid (by rw [opOk_none hk, ht1, ht2, ht3, ht4, ht5])
    clear hk ht1 ht2 ht3 ht4 ht5
    cases t1
    · go_wp2_with (first | (refine wpList_mid_wanted (by rfl) 25 _ rfl g 4 rfl (cellsOf x.root) _ RR.out Tryz.underlying25 rfl SR.out ?_) | fail)
      go_ret
      exact ⟨by rw [HR.out]; simp, HB.out⟩
    · cases t2
      · go_wp2_with (first | (refine wpList_mid_wanted (by rfl) 25 _ rfl g 4 rfl (cellsOf x.root) _ RR.out Tryz.underlying25 rfl SR.out ?_) | fail)
        go_ret
        exact ⟨by rw [HR.out]; simp, HB.out⟩
      · cases t3
        · go_wp2_with (first | (refine wpList_mid_wanted (by rfl) 25 _ rfl g 4 rfl (cellsOf x.root) _ RR.out Tryz.underlying25 rfl SR.out ?_) | fail)
          go_ret
          exact ⟨by rw [HR.out]; simp, HB.out⟩
        · cases t4
          · go_wp2_with (first | (refine wpList_mid_wanted (by rfl) 25 _ rfl g 4 rfl (cellsOf x.root) _ RR.out Tryz.underlying25 rfl SR.out ?_) | fail)
            go_ret
            exact ⟨by rw [HR.out]; simp, HB.out⟩
          · cases t5
            · go_wp2_with (first | (refine wpList_mid_wanted (by rfl) 25 _ rfl g 4 rfl (cellsOf x.root) _ RR.out Tryz.underlying25 rfl SR.out ?_) | fail)
              go_ret
              exact ⟨by rw [HR.out]; simp, HB.out⟩
            · go_wp2_with (first | (refine wpList_mid_wanted (by rfl) 25 _ rfl g 4 rfl (cellsOf x.root) _ RR.out Tryz.underlying25 rfl SR.out ?_) | fail)
              go_ret
              exact ⟨by rw [HR.out]; rfl, HB.out⟩
  · have hkb : (x.kind == 0) = false := by simp [hk]
    obtain ⟨u1, hu1⟩ : ∃ r, decide (0 < x.kind) = r := ⟨_, rfl⟩
    have fu1 : decide (0 < x.kind) = u1 := by rw [← hu1]
    obtain ⟨u2, hu2⟩ : ∃ r, decide (x.kind < 8) = r := ⟨_, rfl⟩
    have fu2 : decide (x.kind < 8) = u2 := by rw [← hu2]
    obtain ⟨u3, hu3⟩ : ∃ r, decide (0 ≤ x.tower) = r := ⟨_, rfl⟩
    have fu3 : decide (0 ≤ x.tower) = u3 := by rw [← hu3]
    obtain ⟨u4, hu4⟩ : ∃ r, decide (x.tower < 16) = r := ⟨_, rfl⟩
    have fu4 : decide (x.tower < 16) = u4 := by rw [← hu4]
    obtain ⟨u5, hu5⟩ : ∃ r, decide (0 ≤ x.channel) = r := ⟨_, rfl⟩
    have fu5 : decide (0 ≤ x.channel) = u5 := by rw [← hu5]
    obtain ⟨u6, hu6⟩ : ∃ r, decide (x.channel ≤ 1048576) = r := ⟨_, rfl⟩
    have fu6 : decide (x.channel ≤ 1048576) = u6 := by rw [← hu6]
    obtain ⟨u7, hu7⟩ : ∃ r, decide (0 ≤ x.amount) = r := ⟨_, rfl⟩
    have fu7 : decide (0 ≤ x.amount) = u7 := by rw [← hu7]
    obtain ⟨u8, hu8⟩ : ∃ r, decide (x.amount ≤ 1125899906842624) = r := ⟨_, rfl⟩
    have fu8 : decide (x.amount ≤ 1125899906842624) = u8 := by rw [← hu8]
    obtain ⟨u9, hu9⟩ : ∃ r, decide (x.n ≤ 65536) = r := ⟨_, rfl⟩
    have fu9 : decide ((x.n : Int) ≤ 65536) = u9 := by rw [← hu9]; rw [Bool.eq_iff_iff]; simp; omega
    have HR : Hid (opOk x = (u1 && (u2 && (u3 && (u4 && (u5 && (u6 && (u7 && (u8 && u9))))))))) := Lib.hid (by rw [opOk_some hk, hu1, hu2, hu3, hu4, hu5, hu6, hu7, hu8, hu9])
    clear hk hu1 hu2 hu3 hu4 hu5 hu6 hu7 hu8 hu9
    cases u1
    · go_wp2_with (first | (refine wpList_mid_wanted (by rfl) 25 _ rfl g 4 rfl (cellsOf x.root) _ RR.out Tryz.underlying25 rfl SR.out ?_) | fail)
      go_ret
      exact ⟨by rw [HR.out]; simp, HB.out⟩
    · cases u2
      · go_wp2_with (first | (refine wpList_mid_wanted (by rfl) 25 _ rfl g 4 rfl (cellsOf x.root) _ RR.out Tryz.underlying25 rfl SR.out ?_) | fail)
        go_ret
        exact ⟨by rw [HR.out]; simp, HB.out⟩
      · cases u3
        · go_wp2_with (first | (refine wpList_mid_wanted (by rfl) 25 _ rfl g 4 rfl (cellsOf x.root) _ RR.out Tryz.underlying25 rfl SR.out ?_) | fail)
          go_ret
          exact ⟨by rw [HR.out]; simp, HB.out⟩
        · cases u4
          · go_wp2_with (first | (refine wpList_mid_wanted (by rfl) 25 _ rfl g 4 rfl (cellsOf x.root) _ RR.out Tryz.underlying25 rfl SR.out ?_) | fail)
            go_ret
            exact ⟨by rw [HR.out]; simp, HB.out⟩
          · cases u5
            · go_wp2_with (first | (refine wpList_mid_wanted (by rfl) 25 _ rfl g 4 rfl (cellsOf x.root) _ RR.out Tryz.underlying25 rfl SR.out ?_) | fail)
              go_ret
              exact ⟨by rw [HR.out]; simp, HB.out⟩
            · cases u6
              · go_wp2_with (first | (refine wpList_mid_wanted (by rfl) 25 _ rfl g 4 rfl (cellsOf x.root) _ RR.out Tryz.underlying25 rfl SR.out ?_) | fail)
                go_ret
                exact ⟨by rw [HR.out]; simp, HB.out⟩
              · cases u7
                · go_wp2_with (first | (refine wpList_mid_wanted (by rfl) 25 _ rfl g 4 rfl (cellsOf x.root) _ RR.out Tryz.underlying25 rfl SR.out ?_) | fail)
                  go_ret
                  exact ⟨by rw [HR.out]; simp, HB.out⟩
                · cases u8
                  · go_wp2_with (first | (refine wpList_mid_wanted (by rfl) 25 _ rfl g 4 rfl (cellsOf x.root) _ RR.out Tryz.underlying25 rfl SR.out ?_) | fail)
                    go_ret
                    exact ⟨by rw [HR.out]; simp, HB.out⟩
                  · cases u9
                    · go_wp2_with (first | (refine wpList_mid_wanted (by rfl) 25 _ rfl g 4 rfl (cellsOf x.root) _ RR.out Tryz.underlying25 rfl SR.out ?_) | fail)
                      go_ret
                      exact ⟨by rw [HR.out]; simp, HB.out⟩
                    · go_wp2_with (first | (refine wpList_mid_wanted (by rfl) 25 _ rfl g 4 rfl (cellsOf x.root) _ RR.out Tryz.underlying25 rfl SR.out ?_) | fail)
                      go_ret
                      exact ⟨by rw [HR.out]; rfl, HB.out⟩
end Go.Proofs.YtodbhopeknlgiaaGreatDoor
