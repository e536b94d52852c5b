/- Law 10's example. -/
import Derived.Test.YtijanllppbambaaCodeAny
import Derived.Deep.Cut
namespace Go.Proofs.Ytijanllppbambaa
open Go.RowKit Go.Maps

def sumOne : List UInt8 := [1, 0, 0, 0, 0, 0, 0, 0, 0, 0, 0, 0, 0, 0, 0, 0, 0, 0, 0, 0, 0, 0, 0, 0, 0, 0, 0, 0, 0, 0, 0, 0]
def chanOf (k : Int) : PChan := ⟨0, 0, 0, zero32, 0, k, 0, 0⟩
theorem chanOf_in {k : Int} (h : Fits k) : ChanIn (chanOf k) := (fun h0 => ⟨h0, h0, h0, rfl, h0, h, h0, h0⟩ : Fits 0 → ChanIn (chanOf k)) (by constructor <;> decide)
theorem run_sumOne (w : World) : (Instr.build 31 [(0, (.int .u8 1 : Value))].toArray).run Try.prog w = .ok (.agg (cellsOf sumOne).toArray) w := by kernel_rfl
theorem run_chan (k : Int) (w : World) : (Instr.build 35 [(4, (.int .i64 k : Value))].toArray).run Try.prog w = .ok (.agg (chanOf k).cells.toArray) w := by kernel_rfl
theorem agg_is (k : Int) : (Value.agg #[.int .i64 0, .int .i64 0, .int .i64 0, .int .u8 0, .int .u8 0, .int .u8 0, .int .u8 0, .int .u8 0, .int .u8 0, .int .u8 0, .int .u8 0, .int .u8 0, .int .u8 0, .int .u8 0, .int .u8 0, .int .u8 0, .int .u8 0, .int .u8 0, .int .u8 0, .int .u8 0, .int .u8 0, .int .u8 0, .int .u8 0, .int .u8 0, .int .u8 0, .int .u8 0, .int .u8 0, .int .u8 0, .int .u8 0, .int .u8 0, .int .u8 0, .int .u8 0, .int .u8 0, .int .u8 0, .int .u8 0, .int .i64 0, .int .i64 k, .int .i64 0, .int .i64 0]) = .agg (chanOf k).cells.toArray := by kernel_rfl
def oneTower : List PTE := [⟨1, ⟨sumOne, 5, 0, 0⟩⟩]
def oneHold : List PHE := [⟨1, ⟨chanOf 5, 5, false, 0, zero32⟩⟩]
theorem lock_one : lockB 1 5 sumOne [] = (0, oneTower) := by kernel_rfl
theorem hold_six : holdB 1 (chanOf 6) oneTower [] = (20, []) := by kernel_rfl
theorem hold_five : holdB 1 (chanOf 5) oneTower [] = (0, oneHold) := by kernel_rfl
theorem free_all : freeB 1 oneTower oneHold = 0 := by kernel_rfl
set_option linter.unusedSimpArgs false in
set_option maxRecDepth 100000 in
set_option maxHeartbeats 25600000 in
theorem awake10_any (w : World) : Calls Try.prog 9 #[] w fun e w' => e = .returned (.bool true) ∧ Below w.heap.size w w' := by
  have HNEW := Lib.hid (new_any w)
  go_enter Try.func9, Try.ntmps9
  go_wp2_with (first
    | (go_at_call 6; refine HNEW.out.mono ?_; rintro e w1 ⟨vb, tb, hb, rfl, hv1, hb1⟩; have HV1 := Lib.hid hv1; have HB1 := Lib.hid hb1; clear hv1 hb1 HNEW)
    | (refine wpList_build10 rfl rfl rfl run_sumOne ?_)
    | (go_at_call 12; refine (lock_code (s := sumOne) HV1.out (by decide) (by constructor <;> decide) (by constructor <;> decide) rfl).mono ?_; rw [lock_one]; rintro e w2 ⟨rfl, hv2, _, hb2⟩; have HV2 := Lib.hid hv2; have HB2 := Lib.hid (HB1.out.trans hb2); clear hv2 hb2)
    | (rw [agg_is 6]; go_at_call 16; refine (hold_code (c := chanOf 6) HV2.out (by decide) (by constructor <;> decide) (chanOf_in (by constructor <;> decide))).mono ?_; rw [hold_six]; rintro e w3 ⟨rfl, hv3, _, hb3⟩; have HV3 := Lib.hid hv3; have HB3 := Lib.hid (HB2.out.trans hb3); clear hv3 hb3)
    | (rw [agg_is 5]; go_at_call 16; refine (hold_code (c := chanOf 5) HV3.out (by decide) (by constructor <;> decide) (chanOf_in (by constructor <;> decide))).mono ?_; rw [hold_five]; rintro e w4 ⟨rfl, hv4, _, hb4⟩; have HV4 := Lib.hid hv4; have HB4 := Lib.hid (HB3.out.trans hb4); clear hv4 hb4)
    | (go_at_call 20; refine (freeIs HV4.out (by constructor <;> decide) w4 (Below.refl _ _)).mono ?_; rw [free_all]; rintro e w5 ⟨rfl, hb5⟩; have HB5 := Lib.hid (HB4.out.trans (hb5.mono HB4.out.size)); clear hb5)
    | fail)
  go_ret
  exact ⟨rfl, HB5.out⟩
end Go.Proofs.Ytijanllppbambaa
