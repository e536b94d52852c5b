/- Law 15's JusticeShares, and its example, by what the code's Shares and Key come to. -/
import Derived.Test.YtnjnomebcggccaaGreatDoorThousand
import Derived.Test.YtnjnomebcggccaaGreatDoorSteps
import Derived.Test.YtnjnomebcggccaaGreatDoorMemory
namespace Go.Proofs.YtnjnomebcggccaaGreatDoor
open Go.RowKit

def feeP (n f : Int) : Int := if n < f then n else f
def rewP (n r f : Int) : Int := (n - feeP n f) * r / 1000
def sharesOk (n r f : Int) : Bool := decide (0 ≤ n ∧ n ≤ 1125899906842624 ∧ 0 ≤ f ∧ f ≤ 1125899906842624 ∧ 0 ≤ r ∧ r ≤ 1000)
/-- What Shares tells. -/
def sharesV (n r f : Int) : Value := if sharesOk n r f then .tuple #[.int .i64 (n - feeP n f - rewP n r f), .int .i64 (rewP n r f), .int .i64 (feeP n f), .int .i64 0] else .tuple #[.int .i64 0, .int .i64 0, .int .i64 0, .int .i64 1]
/-- What the code's Shares comes to. -/
def SharesC : Prop := ∀ (W : World) (n r f : Int), Fits n → Fits r → Fits f → Calls Tryz.prog 9 #[.int .i64 n, .agg #[.int .i64 r, .int .i64 f]] W fun e w' => e = .returned (sharesV n r f) ∧ Below W.heap.size W w'
/-- What the code's Key comes to. -/
def KeyC : Prop := ∀ (W : World) (z : Int), 0 ≤ z → z ≤ 15 → Calls Tryz.prog 15 #[.int .i64 z] W fun e w' => e = .returned (.int .i64 (100 + z)) ∧ Below W.heap.size W w'
theorem sharesV_bad {n r f : Int} (h : n < 0 ∨ 1125899906842624 < n ∨ f < 0 ∨ 1125899906842624 < f ∨ r < 0 ∨ 1000 < r) : sharesV n r f = .tuple #[.int .i64 0, .int .i64 0, .int .i64 0, .int .i64 1] := by
  unfold sharesV sharesOk
  rw [decide_eq_false (by omega)]
  rfl
theorem sharesV_good {n r f : Int} (h : 0 ≤ n ∧ n ≤ 1125899906842624 ∧ 0 ≤ f ∧ f ≤ 1125899906842624 ∧ 0 ≤ r ∧ r ≤ 1000) : sharesV n r f = .tuple #[.int .i64 (n - feeP n f - rewP n r f), .int .i64 (rewP n r f), .int .i64 (feeP n f), .int .i64 0] := by
  unfold sharesV sharesOk
  rw [decide_eq_true h]
  rfl
/-- All together is the part. -/
theorem share_bounds {n r f : Int} (h : 0 ≤ n ∧ n ≤ 1125899906842624 ∧ 0 ≤ f ∧ f ≤ 1125899906842624 ∧ 0 ≤ r ∧ r ≤ 1000) : 0 ≤ feeP n f ∧ feeP n f ≤ n ∧ 0 ≤ (n - feeP n f) * r ∧ (n - feeP n f) * r ≤ 1125899906842624000 ∧ 0 ≤ rewP n r f ∧ rewP n r f ≤ n - feeP n f := by
  have h1 : 0 ≤ feeP n f ∧ feeP n f ≤ n := by unfold feeP; split <;> omega
  have m0 : 0 ≤ (n - feeP n f) * r := Int.mul_nonneg (by omega) h.2.2.2.2.1
  have m1 : (n - feeP n f) * r ≤ 1125899906842624 * 1000 := Int.mul_le_mul (by omega) h.2.2.2.2.2 h.2.2.2.2.1 (by omega)
  have m2 : (n - feeP n f) * r ≤ (n - feeP n f) * 1000 := Int.mul_le_mul_of_nonneg_left h.2.2.2.2.2 (by omega)
  refine ⟨h1.1, h1.2, m0, by omega, ?_, ?_⟩
  · unfold rewP
    omega
  · unfold rewP
    omega
set_option linter.unusedSimpArgs false in
set_option maxRecDepth 100000 in
set_option maxHeartbeats 6400000 in
theorem awake15_of (hs : SharesC) (hk : KeyC) (w : World) : Calls Tryz.prog 5 #[] w fun e w' => e = .returned (.bool true) ∧ Below w.heap.size w w' := by
  have HS : Hid (∀ W : World, Calls Tryz.prog 9 #[.int .i64 100, .agg #[.int .i64 100, .int .i64 10]] W fun e w' => e = .returned (.tuple #[.int .i64 81, .int .i64 9, .int .i64 10, .int .i64 0]) ∧ Below W.heap.size W w') := Lib.hid (fun W => hs W 100 100 10 (by constructor <;> decide) (by constructor <;> decide) (by constructor <;> decide))
  have HK : Hid (∀ W : World, Calls Tryz.prog 15 #[.int .i64 3] W fun e w' => e = .returned (.int .i64 103) ∧ Below W.heap.size W w') := Lib.hid (fun W => hk W 3 (by decide) (by decide))
  clear hs hk
  go_enter Tryz.func5, Tryz.ntmps5
  go_wp2_with (first | (go_at_call 9; (with_reducible refine (HS.out _).mono ?_); rintro e w2 ⟨rfl, hb⟩; have HB2 := Lib.hid hb; clear hb) | (go_at_call 15; (with_reducible refine (HK.out _).mono ?_); rintro e w3 ⟨rfl, hb⟩; have HB3 := Lib.hid (bthen HB2.out hb); clear hb) | fail)
  go_ret
  exact ⟨rfl, HB3.out⟩
end Go.Proofs.YtnjnomebcggccaaGreatDoor
