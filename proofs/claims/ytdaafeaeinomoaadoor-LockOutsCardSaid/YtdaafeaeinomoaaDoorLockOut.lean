/- Outs: what RightOut, Same, To and Sole come to. -/
import Derived.Test.YtdaafeaeinomoaaDoorWayLay
namespace Go.Proofs.YtdaafeaeinomoaaDoor
open Go.RowKit

theorem rightOut1_any {w : World} {x : PWay} (h : WayIn w x) : Calls Tryd.prog 39 #[.agg x.cells.toArray] w fun e w' => e = .returned (.bool (!wayOk x)) ∧ Below w.heap.size w w' := by
  have b1 : Below w.heap.size w (w.alloc (.cells x.cells.toArray 26)) := (Below.refl _ _).alloc (Nat.le_refl _) _
  have HC := Lib.hid (lockRight_any (h.below b1))
  have HB := Lib.hid b1
  have H2 := Lib.hid (heap_alloc_new w (.cells x.cells.toArray 26))
  have AX := Lib.hid (way_sizeA h.sum)
  generalize wayOk x = r at *
  clear h b1
  go_enter Tryd.func39, Tryd.ntmps39
  go_wp2_with (first | (refine wpList_load_row rfl 26 _ rfl w.heap.size rfl 26 x.cells.toArray (0, 0) _ H2.out Tryd.underlying26 rfl AX.out ?_) | (go_at_call 7; (with_reducible refine HC.out.mono ?_); rintro e w7 ⟨rfl, hb7⟩; have HB7 := Lib.hid hb7; clear hb7) | fail)
  go_ret
  exact ⟨rfl, HB.out.trans (HB7.out.mono HB.out.size)⟩
set_option linter.unusedSimpArgs false in
set_option maxRecDepth 100000 in
set_option maxHeartbeats 3200000 in
theorem indexWay_any {w : World} {a : Option Addr} {n c : Nat} {xs : List PWay} (h : Ways w a n c xs) :
    Calls Tryd.prog 52 #[.slice a n c, .func (.func 39) #[] #[]] w fun e w' => (∃ z : Int, e = .returned (.int .i64 z) ∧ -1 ≤ z ∧ decide (0 ≤ z) = !xs.all wayOk) ∧ Below w.heap.size w w' := by
  have hn63 : (n : Int) ≤ 9223372036854775807 := by have h1 := h.2.1; have h2 := h.2.2.1; unfold maxLen at h2; omega
  obtain ⟨R, hR⟩ : ∃ R, R = xs.all wayOk := ⟨_, rfl⟩
  rw [← hR]
  have H := Lib.hid h
  have HR := Lib.hid hR
  clear h hR
  go_enter Tryd.func52, Tryd.ntmps52
  go_upto_region 2 with (fail)
  go_loopw [8] (fun x wr => ∃ j : Nat, j ≤ n ∧ x = .int .i64 j ∧ Below w.heap.size w wr ∧ R = (xs.drop j).all wayOk) (fun x _ => n - (intOf x).toNat)
  case atStart => exact ⟨0, Nat.zero_le _, rfl, Below.refl _ _, HR.out⟩
  case round =>
    obtain ⟨j, hj, rfl, hb, hRj⟩ := hrel
    have HB := Lib.hid hb
    have HRJ := Lib.hid hRj
    clear hb hRj HR
    by_cases hjn : j < n
    · have f1 : (j : Int) < (n : Int) := by omega
      have f0 : (0 : Int) ≤ (j : Int) := by omega
      have ft : ((j : Int)).toNat = j := by omega
      obtain ⟨b1, o1, e1, hlt1, hc1⟩ := (H.out.below HB.out).2.2.2.2.2 (by omega)
      have hx := (H.out.below HB.out).way hjn
      have hrx := hc1 j hjn
      have hRj := HRJ.out
      rw [ways_drop (xs := xs) (by rw [H.out.1]; exact hjn)] at hRj
      revert hx hrx hRj
      generalize xs.getD j noWay = x
      intro hx hrx hRj
      replace hRj : R = (wayOk x && (xs.drop (j + 1)).all wayOk) := hRj
      subst e1
      have HRJ := Lib.hid hRj
      have RX := Lib.hid hrx
      have SX := Lib.hid (way_size hx.sum)
      have HC := Lib.hid (rightOut1_any hx)
      clear hc1 hrx hRj hx H
      generalize wayOk x = r at *
      cases r
      · have hRf : R = false := HRJ.out
        subst hRf
        go_wp2_with (first | (refine wpList_load_mid rfl 26 _ rfl b1 (o1 + j * 35) rfl x.cells _ RX.out Tryd.underlying26 rfl SX.out ?_) | (go_at_call 39; (with_reducible refine HC.out.mono ?_); rintro e w7 ⟨rfl, hb7⟩; have HB7 := Lib.hid hb7; clear hb7) | fail)
        go_ret
        exact ⟨⟨j, rfl, by omega, by simp⟩, HB.out.trans (HB7.out.mono HB.out.size)⟩
      · have hRt : R = (xs.drop (j + 1)).all wayOk := HRJ.out
        have HRN := Lib.hid hRt
        clear hRt HRJ
        go_wp2_with (first | (refine wpList_load_mid rfl 26 _ rfl b1 (o1 + j * 35) rfl x.cells _ RX.out Tryd.underlying26 rfl SX.out ?_) | (go_at_call 39; (with_reducible refine HC.out.mono ?_); rintro e w7 ⟨rfl, hb7⟩; have HB7 := Lib.hid hb7; clear hb7) | fail)
        go_roundw
        case rel => exact ⟨j + 1, by omega, by go_num, HB.out.trans (HB7.out.mono HB.out.size), HRN.out⟩
        case measure => simp [intOf]; omega
    · have f1 : ¬ ((j : Int) < (n : Int)) := by omega
      have e1 : xs.drop j = [] := List.drop_of_length_le (by rw [H.out.1]; omega)
      have hRt : R = true := by rw [HRJ.out, e1]; rfl
      subst hRt
      clear e1 HRJ
      go_wp2
      go_ret
      exact ⟨⟨-1, rfl, by omega, by decide⟩, HB.out⟩
theorem containsWay_any {w : World} {a : Option Addr} {n c : Nat} {xs : List PWay} (h : Ways w a n c xs) :
    Calls Tryd.prog 38 #[.slice a n c, .func (.func 39) #[] #[]] w fun e w' => e = .returned (.bool (!xs.all wayOk)) ∧ Below w.heap.size w w' := by
  have HC := Lib.hid (indexWay_any h)
  generalize (!xs.all wayOk) = r at *
  clear h
  go_enter Tryd.func38, Tryd.ntmps38
  go_wp2_with fail
  refine HC.out.mono ?_
  rintro e w7 ⟨⟨z, rfl, hz, hzr⟩, hb7⟩
  have HB7 := Lib.hid hb7
  subst hzr
  clear hb7
  go_wp2_with fail
  go_ret
  exact ⟨rfl, HB7.out⟩
/-- An out may be. -/
def outOk (m : Int) (xs : List PWay) : Bool := decide (0 ≤ m ∧ m ≤ 1125899906842624) && (decide (1 ≤ xs.length ∧ xs.length ≤ 16) && xs.all wayOk)
set_option linter.unusedSimpArgs false in
set_option maxRecDepth 100000 in
set_option maxHeartbeats 1600000 in
theorem lockRightOut_any {w : World} {m : Int} {a : Option Addr} {n c : Nat} {xs : List PWay} (h : Ways w a n c xs) :
    Calls Tryd.prog 15 #[.agg #[.int .i64 m, .slice a n c]] w fun e w' => e = .returned (.bool (outOk m xs)) ∧ Below w.heap.size w w' := by
  unfold outOk
  rw [h.1]
  have hn63 : (n : Int) ≤ 9223372036854775807 := by have h1 := h.2.1; have h2 := h.2.2.1; unfold maxLen at h2; omega
  have b1 : Below w.heap.size w (w.alloc (.cells #[.int .i64 m, .slice a n c] 38)) := (Below.refl _ _).alloc (Nat.le_refl _) _
  have HC := Lib.hid (containsWay_any (h.below b1))
  have HB := Lib.hid b1
  generalize xs.all wayOk = r at *
  clear h b1
  by_cases h1 : 0 ≤ m
  · by_cases h2 : m ≤ 1125899906842624
    · rw [decide_eq_true (⟨h1, h2⟩ : 0 ≤ m ∧ m ≤ 1125899906842624), Bool.true_and]
      by_cases h3 : 1 ≤ n
      · have f3 : ¬ ((n : Int) < 1) := by omega
        by_cases h4 : n ≤ 16
        · have f4 : ¬ (16 < (n : Int)) := by omega
          rw [decide_eq_true (⟨h3, h4⟩ : 1 ≤ n ∧ n ≤ 16), Bool.true_and]
          go_enter Tryd.func15, Tryd.ntmps15
          go_wp2_with (first | (go_at_call 38; (with_reducible refine HC.out.mono ?_); rintro e w7 ⟨rfl, hb7⟩; have HB7 := Lib.hid hb7; clear hb7) | fail)
          go_ret
          exact ⟨by simp, HB.out.trans (HB7.out.mono HB.out.size)⟩
        · have f4 : 16 < (n : Int) := by omega
          rw [decide_eq_false (show ¬ (1 ≤ n ∧ n ≤ 16) by omega), Bool.false_and]
          go_enter Tryd.func15, Tryd.ntmps15
          go_wp2
          go_ret
          exact ⟨rfl, HB.out⟩
      · have f3 : (n : Int) < 1 := by omega
        rw [decide_eq_false (show ¬ (1 ≤ n ∧ n ≤ 16) by omega), Bool.false_and]
        go_enter Tryd.func15, Tryd.ntmps15
        go_wp2
        go_ret
        exact ⟨rfl, HB.out⟩
    · rw [decide_eq_false (show ¬ (0 ≤ m ∧ m ≤ 1125899906842624) by omega), Bool.false_and]
      go_enter Tryd.func15, Tryd.ntmps15
      go_wp2
      go_ret
      exact ⟨rfl, HB.out⟩
  · rw [decide_eq_false (show ¬ (0 ≤ m ∧ m ≤ 1125899906842624) by omega), Bool.false_and]
    go_enter Tryd.func15, Tryd.ntmps15
    go_wp2
    go_ret
    exact ⟨rfl, HB.out⟩
theorem lockSame_any {w : World} {m m' : Int} {a b : Option Addr} {n c k d : Nat} {xs ys : List PWay} (h : Ways w a n c xs) (h' : Ways w b k d ys) :
    Calls Tryd.prog 17 #[.agg #[.int .i64 m, .slice a n c], .agg #[.int .i64 m', .slice b k d]] w fun e w' => e = .returned (.bool (decide (m = m') && alikeWs xs ys)) ∧ Below w.heap.size w w' := by
  have b1 : Below w.heap.size w ((w.alloc (.cells #[.int .i64 m, .slice a n c] 38)).alloc (.cells #[.int .i64 m', .slice b k d] 38)) := ((Below.refl _ _).alloc (Nat.le_refl _) _).alloc (by simp) _
  have HC := Lib.hid (equalFunc_any (h.below b1) (h'.below b1))
  have HB := Lib.hid b1
  generalize alikeWs xs ys = r at *
  clear h h' b1
  by_cases hm : m = m'
  · subst hm
    rw [decide_eq_true rfl, Bool.true_and]
    go_enter Tryd.func17, Tryd.ntmps17
    go_wp2_with (first | (go_at_call 40; (with_reducible refine HC.out.mono ?_); rintro e w7 ⟨rfl, hb7⟩; have HB7 := Lib.hid hb7; clear hb7) | fail)
    go_ret
    exact ⟨rfl, HB.out.trans (HB7.out.mono HB.out.size)⟩
  · rw [decide_eq_false hm, Bool.false_and]
    have hm' : (m == m') = false := by simpa using hm
    go_enter Tryd.func17, Tryd.ntmps17
    go_wp2
    go_ret
    exact ⟨rfl, HB.out⟩
theorem to_any (key m : Int) (w : World) (hk : Fits key) : Calls Tryd.prog 28 #[.int .i64 key, .int .i64 m] w fun e w' => ∃ (a b : Option Addr), e = .returned (.agg #[.int .i64 m, .slice a 1 1]) ∧ Ways w' a 1 1 [⟨b, 1, 1, [key], zero32, 0, 0⟩] ∧ Below w.heap.size w w' := by
  go_enter Tryd.func28, Tryd.ntmps28
  go_wp2
  refine bodyPost_ret (results_cell_row rfl _ _ w.heap.size 38 #[.int .i64 m, .slice (some ⟨w.heap.size + 1 + 1, 0, none⟩) 1 1] (0, 0) _ rfl (by rw [heap_alloc_old _ _ (by simp; omega), heap_alloc_old _ _ (by simp)]; exact heap_alloc_new _ _) Tryd.underlying38 rfl (by kernel_rfl)) rfl ?_
  refine ⟨some ⟨w.heap.size + 1 + 1, 0, none⟩, some ⟨w.heap.size + 1, 0, none⟩, rfl, ways_one (x := ⟨some ⟨w.heap.size + 1, 0, none⟩, 1, 1, [key], zero32, 0, 0⟩) (t := 26) (fr := (0, 0)) ?_ ⟨numbers_one (t := 3) (fr := (0, 0)) ?_ hk, zero32_len, ?_, ?_⟩, ?_⟩
  · exact heap_alloc_at _ _ _ (by simp)
  · rw [heap_alloc_old _ _ (by simp)]
    exact heap_alloc_at _ _ _ (by simp)
  · show Fits 0
    constructor <;> decide
  · show Fits 0
    constructor <;> decide
  · exact (((Below.refl _ _).alloc (Nat.le_refl _) _).alloc (by simp) _).alloc (by simp; omega) _
end Go.Proofs.YtdaafeaeinomoaaDoor
