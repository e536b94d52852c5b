/- Law 15's JusticeShares, and its example, by what the code's Shares and Key come to. -/
import Derived.Test.YtnjnomebcggccaaThousand
import Derived.Test.YtnjnomebcggccaaSteps
import Derived.Test.YtnjnomebcggccaaMemory
namespace Go.Proofs.Ytnjnomebcggccaa
open Go.RowKit

def feeP (n f : Int) : Int := if n < f then n else f
def rewP (n r f : Int) : Int := (n - feeP n f) * r / 1000
def sharesOk (n r f : Int) : Bool := decide (0 ≤ n ∧ n ≤ 1125899906842624 ∧ 0 ≤ f ∧ f ≤ 1125899906842624 ∧ 0 ≤ r ∧ r ≤ 1000)
/-- What Shares tells. -/
def sharesV (n r f : Int) : Value := if sharesOk n r f then .tuple #[.int .i64 (n - feeP n f - rewP n r f), .int .i64 (rewP n r f), .int .i64 (feeP n f), .int .i64 0] else .tuple #[.int .i64 0, .int .i64 0, .int .i64 0, .int .i64 1]
/-- What the code's Shares comes to. -/
def SharesC : Prop := ∀ (W : World) (n r f : Int), Fits n → Fits r → Fits f → Calls Try.prog 4 #[.int .i64 n, .agg #[.int .i64 r, .int .i64 f]] W fun e w' => e = .returned (sharesV n r f) ∧ Below W.heap.size W w'
/-- What the code's Key comes to. -/
def KeyC : Prop := ∀ (W : World) (z : Int), 0 ≤ z → z ≤ 15 → Calls Try.prog 9 #[.int .i64 z] W fun e w' => e = .returned (.int .i64 (100 + z)) ∧ Below W.heap.size W w'
theorem sharesV_bad {n r f : Int} (h : n < 0 ∨ 1125899906842624 < n ∨ f < 0 ∨ 1125899906842624 < f ∨ r < 0 ∨ 1000 < r) : sharesV n r f = .tuple #[.int .i64 0, .int .i64 0, .int .i64 0, .int .i64 1] := by
  unfold sharesV sharesOk
  rw [decide_eq_false (by omega)]
  rfl
theorem sharesV_good {n r f : Int} (h : 0 ≤ n ∧ n ≤ 1125899906842624 ∧ 0 ≤ f ∧ f ≤ 1125899906842624 ∧ 0 ≤ r ∧ r ≤ 1000) : sharesV n r f = .tuple #[.int .i64 (n - feeP n f - rewP n r f), .int .i64 (rewP n r f), .int .i64 (feeP n f), .int .i64 0] := by
  unfold sharesV sharesOk
  rw [decide_eq_true h]
  rfl
/-- All together is the part. -/
theorem share_bounds {n r f : Int} (h : 0 ≤ n ∧ n ≤ 1125899906842624 ∧ 0 ≤ f ∧ f ≤ 1125899906842624 ∧ 0 ≤ r ∧ r ≤ 1000) : 0 ≤ feeP n f ∧ feeP n f ≤ n ∧ 0 ≤ (n - feeP n f) * r ∧ (n - feeP n f) * r ≤ 1125899906842624000 ∧ 0 ≤ rewP n r f ∧ rewP n r f ≤ n - feeP n f := by
  have h1 : 0 ≤ feeP n f ∧ feeP n f ≤ n := by unfold feeP; split <;> omega
  have m0 : 0 ≤ (n - feeP n f) * r := Int.mul_nonneg (by omega) h.2.2.2.2.1
  have m1 : (n - feeP n f) * r ≤ 1125899906842624 * 1000 := Int.mul_le_mul (by omega) h.2.2.2.2.2 h.2.2.2.2.1 (by omega)
  have m2 : (n - feeP n f) * r ≤ (n - feeP n f) * 1000 := Int.mul_le_mul_of_nonneg_left h.2.2.2.2.2 (by omega)
  refine ⟨h1.1, h1.2, m0, by omega, ?_, ?_⟩
  · unfold rewP
    omega
  · unfold rewP
    omega
set_option linter.unusedSimpArgs false in
set_option maxRecDepth 100000 in
set_option maxHeartbeats 6400000 in
theorem awake15_of (hs : SharesC) (hk : KeyC) (w : World) : Calls Try.prog 5 #[] w fun e w' => e = .returned (.bool true) ∧ Below w.heap.size w w' := by
  have HS : Hid (∀ W : World, Calls Try.prog 4 #[.int .i64 100, .agg #[.int .i64 100, .int .i64 10]] W fun e w' => e = .returned (.tuple #[.int .i64 81, .int .i64 9, .int .i64 10, .int .i64 0]) ∧ Below W.heap.size W w') := Lib.hid (fun W => hs W 100 100 10 (by constructor <;> decide) (by constructor <;> decide) (by constructor <;> decide))
  have HK : Hid (∀ W : World, Calls Try.prog 9 #[.int .i64 3] W fun e w' => e = .returned (.int .i64 103) ∧ Below W.heap.size W w') := Lib.hid (fun W => hk W 3 (by decide) (by decide))
  clear hs hk
  go_enter Try.func5, Try.ntmps5
  go_wp2_with (first | (go_at_call 4; (with_reducible refine (HS.out _).mono ?_); rintro e w2 ⟨rfl, hb⟩; have HB2 := Lib.hid hb; clear hb) | (go_at_call 9; (with_reducible refine (HK.out _).mono ?_); rintro e w3 ⟨rfl, hb⟩; have HB3 := Lib.hid (bthen HB2.out hb); clear hb) | fail)
  go_ret
  exact ⟨rfl, HB3.out⟩
set_option linter.unusedSimpArgs false in
set_option maxRecDepth 100000 in
set_option maxHeartbeats 6400000 in
theorem shares15_walk (hs : SharesC) (hk : KeyC) {w : World} {n r f : Int} (h1 : Fits n) (h2 : Fits r) (h3 : Fits f) : Calls Try.prog 3 #[.int .i64 n, .agg #[.int .i64 r, .int .i64 f]] w fun e w' => e = .returned (.bool true) ∧ Below w.heap.size w w' := by
  have HAW := Lib.hid (fun (W : World) => awake15_of hs hk W)
  have HS := Lib.hid (fun (W : World) => hs W n r f h1 h2 h3)
  clear hs hk h1 h2 h3
  go_enter Try.func3, Try.ntmps3
  go_upto_region 1 with (fail)
  have b1 : Below w.heap.size w (w.alloc (.cells #[.int .i64 r, .int .i64 f] 23)) := (Below.refl _ _).alloc (Nat.le_refl _) _
  have h1 := heap_alloc_new w (.cells #[.int .i64 r, .int .i64 f] 23)
  revert b1 h1
  generalize (w.alloc (.cells #[.int .i64 r, .int .i64 f] 23)) = w1
  obtain ⟨g, hg⟩ : ∃ g, g = w.heap.size := ⟨_, rfl⟩
  rw [← hg]
  intro b1 h1
  rw [hg] at b1
  have HB := Lib.hid b1
  have H1 := Lib.hid h1
  clear b1 h1 hg
  by_cases a1 : n < 0
  · have ea1 : decide (n < 0) = true := decide_eq_true a1
    rw [sharesV_bad (by omega)] at HS
    go_wp2_with (first | (refine wpList_load_row rfl 23 _ rfl g rfl 23 #[.int .i64 r, .int .i64 f] (0, 0) _ H1.out Try.underlying23 rfl (by kernel_rfl) ?_) | (go_at_call 4; (with_reducible refine (HS.out _).mono ?_); rintro e w2 ⟨rfl, hb⟩; have HB2 := Lib.hid (bthen HB.out hb); have d0 : w2.cell? ⟨g, 0, none⟩ = some (.int .i64 r) := (cell_of_row w2 g 0 _ _ _ (keep hb H1.out)).trans rfl; have d1 : w2.cell? ⟨g, 1, none⟩ = some (.int .i64 f) := (cell_of_row w2 g 1 _ _ _ (keep hb H1.out)).trans rfl; clear hb) | (go_at_call 5; (with_reducible refine (HAW.out _).mono ?_); rintro e w9 ⟨rfl, hb⟩; have HFIN := Lib.hid (bthen HB2.out hb); clear hb) | fail)
    go_ret
    exact ⟨rfl, HFIN.out⟩
  · have ea1 : decide (n < 0) = false := decide_eq_false a1
    by_cases a2 : 1125899906842624 < n
    · have ea2 : decide (1125899906842624 < n) = true := decide_eq_true a2
      rw [sharesV_bad (by omega)] at HS
      go_wp2_with (first | (refine wpList_load_row rfl 23 _ rfl g rfl 23 #[.int .i64 r, .int .i64 f] (0, 0) _ H1.out Try.underlying23 rfl (by kernel_rfl) ?_) | (go_at_call 4; (with_reducible refine (HS.out _).mono ?_); rintro e w2 ⟨rfl, hb⟩; have HB2 := Lib.hid (bthen HB.out hb); have d0 : w2.cell? ⟨g, 0, none⟩ = some (.int .i64 r) := (cell_of_row w2 g 0 _ _ _ (keep hb H1.out)).trans rfl; have d1 : w2.cell? ⟨g, 1, none⟩ = some (.int .i64 f) := (cell_of_row w2 g 1 _ _ _ (keep hb H1.out)).trans rfl; clear hb) | (go_at_call 5; (with_reducible refine (HAW.out _).mono ?_); rintro e w9 ⟨rfl, hb⟩; have HFIN := Lib.hid (bthen HB2.out hb); clear hb) | fail)
      go_ret
      exact ⟨rfl, HFIN.out⟩
    · have ea2 : decide (1125899906842624 < n) = false := decide_eq_false a2
      by_cases a3 : f < 0
      · have ea3 : decide (f < 0) = true := decide_eq_true a3
        rw [sharesV_bad (by omega)] at HS
        go_wp2_with (first | (refine wpList_load_row rfl 23 _ rfl g rfl 23 #[.int .i64 r, .int .i64 f] (0, 0) _ H1.out Try.underlying23 rfl (by kernel_rfl) ?_) | (go_at_call 4; (with_reducible refine (HS.out _).mono ?_); rintro e w2 ⟨rfl, hb⟩; have HB2 := Lib.hid (bthen HB.out hb); have d0 : w2.cell? ⟨g, 0, none⟩ = some (.int .i64 r) := (cell_of_row w2 g 0 _ _ _ (keep hb H1.out)).trans rfl; have d1 : w2.cell? ⟨g, 1, none⟩ = some (.int .i64 f) := (cell_of_row w2 g 1 _ _ _ (keep hb H1.out)).trans rfl; clear hb) | (go_at_call 5; (with_reducible refine (HAW.out _).mono ?_); rintro e w9 ⟨rfl, hb⟩; have HFIN := Lib.hid (bthen HB2.out hb); clear hb) | fail)
        go_ret
        exact ⟨rfl, HFIN.out⟩
      · have ea3 : decide (f < 0) = false := decide_eq_false a3
        by_cases a4 : 1125899906842624 < f
        · have ea4 : decide (1125899906842624 < f) = true := decide_eq_true a4
          rw [sharesV_bad (by omega)] at HS
          go_wp2_with (first | (refine wpList_load_row rfl 23 _ rfl g rfl 23 #[.int .i64 r, .int .i64 f] (0, 0) _ H1.out Try.underlying23 rfl (by kernel_rfl) ?_) | (go_at_call 4; (with_reducible refine (HS.out _).mono ?_); rintro e w2 ⟨rfl, hb⟩; have HB2 := Lib.hid (bthen HB.out hb); have d0 : w2.cell? ⟨g, 0, none⟩ = some (.int .i64 r) := (cell_of_row w2 g 0 _ _ _ (keep hb H1.out)).trans rfl; have d1 : w2.cell? ⟨g, 1, none⟩ = some (.int .i64 f) := (cell_of_row w2 g 1 _ _ _ (keep hb H1.out)).trans rfl; clear hb) | (go_at_call 5; (with_reducible refine (HAW.out _).mono ?_); rintro e w9 ⟨rfl, hb⟩; have HFIN := Lib.hid (bthen HB2.out hb); clear hb) | fail)
          go_ret
          exact ⟨rfl, HFIN.out⟩
        · have ea4 : decide (1125899906842624 < f) = false := decide_eq_false a4
          by_cases a5 : r < 0
          · have ea5 : decide (r < 0) = true := decide_eq_true a5
            rw [sharesV_bad (by omega)] at HS
            go_wp2_with (first | (refine wpList_load_row rfl 23 _ rfl g rfl 23 #[.int .i64 r, .int .i64 f] (0, 0) _ H1.out Try.underlying23 rfl (by kernel_rfl) ?_) | (go_at_call 4; (with_reducible refine (HS.out _).mono ?_); rintro e w2 ⟨rfl, hb⟩; have HB2 := Lib.hid (bthen HB.out hb); have d0 : w2.cell? ⟨g, 0, none⟩ = some (.int .i64 r) := (cell_of_row w2 g 0 _ _ _ (keep hb H1.out)).trans rfl; have d1 : w2.cell? ⟨g, 1, none⟩ = some (.int .i64 f) := (cell_of_row w2 g 1 _ _ _ (keep hb H1.out)).trans rfl; clear hb) | (go_at_call 5; (with_reducible refine (HAW.out _).mono ?_); rintro e w9 ⟨rfl, hb⟩; have HFIN := Lib.hid (bthen HB2.out hb); clear hb) | fail)
            go_ret
            exact ⟨rfl, HFIN.out⟩
          · have ea5 : decide (r < 0) = false := decide_eq_false a5
            by_cases a6 : 1000 < r
            · have ea6 : decide (1000 < r) = true := decide_eq_true a6
              rw [sharesV_bad (by omega)] at HS
              go_wp2_with (first | (refine wpList_load_row rfl 23 _ rfl g rfl 23 #[.int .i64 r, .int .i64 f] (0, 0) _ H1.out Try.underlying23 rfl (by kernel_rfl) ?_) | (go_at_call 4; (with_reducible refine (HS.out _).mono ?_); rintro e w2 ⟨rfl, hb⟩; have HB2 := Lib.hid (bthen HB.out hb); have d0 : w2.cell? ⟨g, 0, none⟩ = some (.int .i64 r) := (cell_of_row w2 g 0 _ _ _ (keep hb H1.out)).trans rfl; have d1 : w2.cell? ⟨g, 1, none⟩ = some (.int .i64 f) := (cell_of_row w2 g 1 _ _ _ (keep hb H1.out)).trans rfl; clear hb) | (go_at_call 5; (with_reducible refine (HAW.out _).mono ?_); rintro e w9 ⟨rfl, hb⟩; have HFIN := Lib.hid (bthen HB2.out hb); clear hb) | fail)
              go_ret
              exact ⟨rfl, HFIN.out⟩
            · have ea6 : decide (1000 < r) = false := decide_eq_false a6
              by_cases a7 : n < f
              · have ea7 : decide (n < f) = true := decide_eq_true a7
                have hb9 := share_bounds (n := n) (r := r) (f := f) (by omega)
                rw [sharesV_good (by omega)] at HS
                have hfe : feeP n f = n := by unfold feeP; split <;> omega
                have hrw : (n - n) * r / 1000 = rewP n r f := by unfold rewP; rw [hfe]
                rw [hfe] at hb9 HS
                obtain ⟨T, hT⟩ : ∃ T, rewP n r f = T := ⟨_, rfl⟩
                rw [hT] at hb9 HS hrw
                obtain ⟨M, hM⟩ : ∃ M, (n - n) * r = M := ⟨_, rfl⟩
                rw [hM] at hb9 hrw
                obtain ⟨b1, b2, b3, b4, b5, b6⟩ := hb9
                have iw0 : IntKind.i64.wrap (n - n) = n - n := IntWalk.i64_in _ ⟨by omega, by omega⟩
                have iw1 : IntKind.i64.wrap M = M := IntWalk.i64_in _ ⟨by omega, by omega⟩
                have iw2 : M.tdiv 1000 = T := by rw [Int.tdiv_eq_ediv_of_nonneg b3]; exact hrw
                have iw3 : IntKind.i64.wrap T = T := IntWalk.i64_in _ ⟨by omega, by omega⟩
                have iw4 : IntKind.i64.wrap (n - n - T) = n - n - T := IntWalk.i64_in _ ⟨by omega, by omega⟩
                clear hfe hT
                go_wp2_with (first | (refine wpList_load_row rfl 23 _ rfl g rfl 23 #[.int .i64 r, .int .i64 f] (0, 0) _ H1.out Try.underlying23 rfl (by kernel_rfl) ?_) | (go_at_call 4; (with_reducible refine (HS.out _).mono ?_); rintro e w2 ⟨rfl, hb⟩; have HB2 := Lib.hid (bthen HB.out hb); have d0 : w2.cell? ⟨g, 0, none⟩ = some (.int .i64 r) := (cell_of_row w2 g 0 _ _ _ (keep hb H1.out)).trans rfl; have d1 : w2.cell? ⟨g, 1, none⟩ = some (.int .i64 f) := (cell_of_row w2 g 1 _ _ _ (keep hb H1.out)).trans rfl; clear hb) | (go_at_call 5; (with_reducible refine (HAW.out _).mono ?_); rintro e w9 ⟨rfl, hb⟩; have HFIN := Lib.hid (bthen HB2.out hb); clear hb) | fail)
                go_ret
                exact ⟨rfl, HFIN.out⟩
              · have ea7 : decide (n < f) = false := decide_eq_false a7
                have hb9 := share_bounds (n := n) (r := r) (f := f) (by omega)
                rw [sharesV_good (by omega)] at HS
                have hfe : feeP n f = f := by unfold feeP; split <;> omega
                have hrw : (n - f) * r / 1000 = rewP n r f := by unfold rewP; rw [hfe]
                rw [hfe] at hb9 HS
                obtain ⟨T, hT⟩ : ∃ T, rewP n r f = T := ⟨_, rfl⟩
                rw [hT] at hb9 HS hrw
                obtain ⟨M, hM⟩ : ∃ M, (n - f) * r = M := ⟨_, rfl⟩
                rw [hM] at hb9 hrw
                obtain ⟨b1, b2, b3, b4, b5, b6⟩ := hb9
                have iw0 : IntKind.i64.wrap (n - f) = n - f := IntWalk.i64_in _ ⟨by omega, by omega⟩
                have iw1 : IntKind.i64.wrap M = M := IntWalk.i64_in _ ⟨by omega, by omega⟩
                have iw2 : M.tdiv 1000 = T := by rw [Int.tdiv_eq_ediv_of_nonneg b3]; exact hrw
                have iw3 : IntKind.i64.wrap T = T := IntWalk.i64_in _ ⟨by omega, by omega⟩
                have iw4 : IntKind.i64.wrap (n - f - T) = n - f - T := IntWalk.i64_in _ ⟨by omega, by omega⟩
                clear hfe hT
                go_wp2_with (first | (refine wpList_load_row rfl 23 _ rfl g rfl 23 #[.int .i64 r, .int .i64 f] (0, 0) _ H1.out Try.underlying23 rfl (by kernel_rfl) ?_) | (go_at_call 4; (with_reducible refine (HS.out _).mono ?_); rintro e w2 ⟨rfl, hb⟩; have HB2 := Lib.hid (bthen HB.out hb); have d0 : w2.cell? ⟨g, 0, none⟩ = some (.int .i64 r) := (cell_of_row w2 g 0 _ _ _ (keep hb H1.out)).trans rfl; have d1 : w2.cell? ⟨g, 1, none⟩ = some (.int .i64 f) := (cell_of_row w2 g 1 _ _ _ (keep hb H1.out)).trans rfl; clear hb) | (go_at_call 5; (with_reducible refine (HAW.out _).mono ?_); rintro e w9 ⟨rfl, hb⟩; have HFIN := Lib.hid (bthen HB2.out hb); clear hb) | fail)
                go_ret
                exact ⟨rfl, HFIN.out⟩
end Go.Proofs.Ytnjnomebcggccaa
