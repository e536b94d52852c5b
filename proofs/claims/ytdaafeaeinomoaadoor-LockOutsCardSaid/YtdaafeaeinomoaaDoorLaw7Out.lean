/- Law 7's rightOut. -/
import Derived.Test.YtdaafeaeinomoaaDoorLaw7Right
namespace Go.Proofs.YtdaafeaeinomoaaDoor
open Go.RowKit

set_option linter.unusedSimpArgs false in
set_option maxRecDepth 100000 in
set_option maxHeartbeats 3200000 in
theorem rightOut_law {w : World} {m : Int} {a : Option Addr} {n c : Nat} {xs : List PWay} (h : Ways w a n c xs) : Calls Tryd.prog 16 #[.agg #[.int .i64 m, .slice a n c]] w fun e w' => e = .returned (.bool (outOk m xs)) ∧ Below w.heap.size w w' := by
  unfold outOk
  rw [h.1]
  have hn63 : (n : Int) ≤ 9223372036854775807 := by have h1 := h.2.1; have h2 := h.2.2.1; unfold maxLen at h2; omega
  have b1 : Below w.heap.size w (w.alloc (.cells #[.int .i64 m, .slice a n c] 38)) := (Below.refl _ _).alloc (Nat.le_refl _) _
  have h1 := heap_alloc_new w (.cells #[.int .i64 m, .slice a n c] 38)
  have HW1 := Lib.hid (h.below b1)
  obtain ⟨R, hR⟩ : ∃ R, R = xs.all wayOk := ⟨_, rfl⟩
  rw [← hR]
  have HR := Lib.hid hR
  clear h hR
  by_cases g1 : 0 ≤ m
  · by_cases g2 : m ≤ 1125899906842624
    · rw [decide_eq_true (⟨g1, g2⟩ : 0 ≤ m ∧ m ≤ 1125899906842624), Bool.true_and]
      by_cases g3 : 1 ≤ n
      · have f3 : ¬ ((n : Int) < 1) := by omega
        by_cases g4 : n ≤ 16
        · have f4 : ¬ (16 < (n : Int)) := by omega
          rw [decide_eq_true (⟨g3, g4⟩ : 1 ≤ n ∧ n ≤ 16), Bool.true_and]
          go_enter Tryd.func16, Tryd.ntmps16
          go_upto_region 1 with (fail)
          revert HW1 b1 h1
          generalize (w.alloc (.cells #[.int .i64 m, .slice a n c] 38)) = w1
          obtain ⟨g, hg⟩ : ∃ g, g = w.heap.size := ⟨_, rfl⟩
          rw [← hg]
          intro b1 h1 HW1
          rw [hg] at b1
          have HB1 := Lib.hid b1
          have c0 : w1.cell? ⟨g, 0, none⟩ = some (.int .i64 m) := by rw [cell_of_row _ _ _ _ _ _ h1]; rfl
          have c1 : w1.cell? ⟨g, 1, none⟩ = some (.slice a n c) := by rw [cell_of_row _ _ _ _ _ _ h1]; rfl
          have hltg := lt_of_block h1
          clear h1 hg b1
          go_wp2_with fail
          have C1 := Lib.hid c1
          clear c0 c1
          go_loopw [3] (fun i wr => ∃ j : Nat, j ≤ n ∧ i = .int .i64 j ∧ Below w1.heap.size w1 wr ∧ R = (xs.drop j).all wayOk) (fun i _ => n - (intOf i).toNat)
          case atStart => exact ⟨0, Nat.zero_le _, rfl, Below.refl _ _, HR.out⟩
          case round =>
            obtain ⟨j, hj, rfl, hb, hRj⟩ := hrel
            have HB := Lib.hid hb
            have HRJ := Lib.hid hRj
            have c1 := (hb.cell (p := ⟨g, 1, none⟩) hltg).trans C1.out
            clear hRj HR
            by_cases hjn : j < n
            · have f1 : (j : Int) < (n : Int) := by omega
              have f0 : (0 : Int) ≤ (j : Int) := by omega
              have ft : ((j : Int)).toNat = j := by omega
              have hw := HW1.out.below hb
              obtain ⟨b1, o1, e1, hlt1, hc1⟩ := hw.2.2.2.2.2 (by omega)
              have hx := hw.way hjn
              have hrx := hc1 j hjn
              have hRj := HRJ.out
              rw [ways_drop (xs := xs) (by rw [HW1.out.1]; exact hjn)] at hRj
              revert hx hrx hRj
              generalize xs.getD j noWay = x
              intro hx hrx hRj
              replace hRj : R = (wayOk x && (xs.drop (j + 1)).all wayOk) := hRj
              subst e1
              have HRJ := Lib.hid hRj
              have RX := Lib.hid hrx
              have SX := Lib.hid (way_size hx.sum)
              have HC := Lib.hid (right_law hx)
              clear hc1 hrx hRj hx hw hb
              generalize wayOk x = r at *
              cases r
              · have hRf : R = false := HRJ.out
                subst hRf
                go_wp2_with (first | (refine wpList_load_mid rfl 26 _ rfl b1 (o1 + j * 35) rfl x.cells _ RX.out Tryd.underlying26 rfl SX.out ?_) | (go_at_call 8; (with_reducible refine HC.out.mono ?_); rintro e w7 ⟨rfl, hb7⟩; have HB7 := Lib.hid hb7; clear hb7) | fail)
                go_ret
                exact ⟨rfl, HB1.out.trans ((HB.out.trans (HB7.out.mono HB.out.size)).mono HB1.out.size)⟩
              · have hRt : R = (xs.drop (j + 1)).all wayOk := HRJ.out
                have HRN := Lib.hid hRt
                clear hRt HRJ
                go_wp2_with (first | (refine wpList_load_mid rfl 26 _ rfl b1 (o1 + j * 35) rfl x.cells _ RX.out Tryd.underlying26 rfl SX.out ?_) | (go_at_call 8; (with_reducible refine HC.out.mono ?_); rintro e w7 ⟨rfl, hb7⟩; have HB7 := Lib.hid hb7; clear hb7) | fail)
                go_roundw
                case rel => exact ⟨j + 1, by omega, by go_num, HB.out.trans (HB7.out.mono HB.out.size), HRN.out⟩
                case measure => simp [intOf]; omega
            · have f1 : ¬ ((j : Int) < (n : Int)) := by omega
              have e1 : xs.drop j = [] := List.drop_of_length_le (by rw [HW1.out.1]; omega)
              have hRt : R = true := by rw [HRJ.out, e1]; rfl
              subst hRt
              clear e1 HRJ hb
              go_wp2
              go_ret
              exact ⟨rfl, HB1.out.trans (HB.out.mono HB1.out.size)⟩
        · have f4 : 16 < (n : Int) := by omega
          rw [decide_eq_false (show ¬ (1 ≤ n ∧ n ≤ 16) by omega), Bool.false_and]
          clear HW1 h1 HR
          go_enter Tryd.func16, Tryd.ntmps16
          go_wp2
          go_ret
          exact ⟨rfl, b1⟩
      · have f3 : (n : Int) < 1 := by omega
        rw [decide_eq_false (show ¬ (1 ≤ n ∧ n ≤ 16) by omega), Bool.false_and]
        clear HW1 h1 HR
        go_enter Tryd.func16, Tryd.ntmps16
        go_wp2
        go_ret
        exact ⟨rfl, b1⟩
    · rw [decide_eq_false (show ¬ (0 ≤ m ∧ m ≤ 1125899906842624) by omega), Bool.false_and]
      clear HW1 h1 HR
      go_enter Tryd.func16, Tryd.ntmps16
      go_wp2
      go_ret
      exact ⟨rfl, b1⟩
  · rw [decide_eq_false (show ¬ (0 ≤ m ∧ m ≤ 1125899906842624) by omega), Bool.false_and]
    clear HW1 h1 HR
    go_enter Tryd.func16, Tryd.ntmps16
    go_wp2
    go_ret
    exact ⟨rfl, b1⟩
end Go.Proofs.YtdaafeaeinomoaaDoor
