/- The statement's own example (law 7). -/
import Derived.Test.YtdaafeaeinomoaaDoorLockOpens
namespace Go.Proofs.YtdaafeaeinomoaaDoor
open Go.RowKit

def waitOne : PWay := ⟨none, 0, 0, [], zero32, 0, 1⟩
theorem waitOne_is : waitOne.cells.toArray = #[.slice none 0 0, .int .u8 0, .int .u8 0, .int .u8 0, .int .u8 0, .int .u8 0, .int .u8 0, .int .u8 0, .int .u8 0, .int .u8 0, .int .u8 0, .int .u8 0, .int .u8 0, .int .u8 0, .int .u8 0, .int .u8 0, .int .u8 0, .int .u8 0, .int .u8 0, .int .u8 0, .int .u8 0, .int .u8 0, .int .u8 0, .int .u8 0, .int .u8 0, .int .u8 0, .int .u8 0, .int .u8 0, .int .u8 0, .int .u8 0, .int .u8 0, .int .u8 0, .int .u8 0, .int .i64 0, .int .i64 1] := rfl
theorem waitOne_in (w : World) : WayIn w waitOne := ⟨Numbers.nil w, zero32_len, by constructor <;> decide, by constructor <;> decide⟩
set_option linter.unusedSimpArgs false in
set_option maxRecDepth 100000 in
set_option maxHeartbeats 3200000 in
theorem awake_any {w : World} (hk : KsAt w) : Calls Tryd.prog 9 #[] w fun e w' => e = .returned (.bool true) ∧ Below w.heap.size w w' := by
  have HK := Lib.hid hk
  have HO1 := Lib.hid (fun (W : World) (hW : KsAt W) => opens_any (H := 0) (A := 0) (WayIn.none W) (Numbers.nil W) (Row.nil W) hW (by omega) (by omega))
  have HO2 := Lib.hid (fun (W : World) (hW : KsAt W) => opens_any (H := 0) (A := 0) (waitOne_in W) (Numbers.nil W) (Row.nil W) hW (by omega) (by omega))
  have e1 : opensW noWay [] [] 0 0 = true := by simp [opensW, noWay]
  have e2 : opensW waitOne [] [] 0 0 = false := by simp [opensW, waitOne]
  rw [e1] at HO1
  rw [e2] at HO2
  rw [noWay_is] at HO1
  rw [waitOne_is] at HO2
  have F5 : Fits 5 := by constructor <;> decide
  have F6 : Fits 6 := by constructor <;> decide
  have HF5 := Lib.hid F5
  have HF6 := Lib.hid F6
  clear hk e1 e2 F5 F6
  go_enter Tryd.func9, Tryd.ntmps9
  go_wp2_with fail
  refine (HO1.out _ HK.out).mono ?_
  rintro e w1 ⟨rfl, hb1⟩
  have HB1 := Lib.hid hb1
  clear hb1
  go_wp2_with fail
  refine (HO2.out _ (HK.out.below HB1.out)).mono ?_
  rintro e w2 ⟨rfl, hb2⟩
  have HB2 := Lib.hid (HB1.out.trans (hb2.mono HB1.out.size))
  clear hb2 HB1 HO1 HO2
  go_wp2_with fail
  refine (to_any 5 9 _ HF5.out).mono ?_
  rintro e w3 ⟨a3, b3, rfl, hw3, hb3⟩
  have HW3 := Lib.hid hw3
  have HB3 := Lib.hid (HB2.out.trans (hb3.mono HB2.out.size))
  clear hb3 hw3 HB2
  go_wp2_with fail
  refine (lockSole_any (key := 5) HW3.out HF5.out).mono ?_
  rintro e w4 ⟨he, hb4⟩
  have he : e = .returned (.bool true) := by rw [he]; simp [soleW]
  subst he
  have HB4 := Lib.hid (HB3.out.trans (hb4.mono HB3.out.size))
  clear hb4 HW3 HB3
  go_wp2_with fail
  refine (to_any 5 9 _ HF5.out).mono ?_
  rintro e w5 ⟨a5, b5, rfl, hw5, hb5⟩
  have HW5 := Lib.hid hw5
  have HB5 := Lib.hid (HB4.out.trans (hb5.mono HB4.out.size))
  clear hb5 hw5 HB4
  go_wp2_with fail
  refine (lockSole_any (key := 6) HW5.out HF6.out).mono ?_
  rintro e w6 ⟨he, hb6⟩
  have he : e = .returned (.bool false) := by rw [he]; simp [soleW]
  subst he
  have HB6 := Lib.hid (HB5.out.trans (hb6.mono HB5.out.size))
  clear hb6 HW5 HB5
  go_wp2_with fail
  refine (to_any 5 9 _ HF5.out).mono ?_
  rintro e w7 ⟨a7, b7, rfl, hw7, hb7⟩
  have HW7 := Lib.hid hw7
  have HB7 := Lib.hid (HB6.out.trans (hb7.mono HB6.out.size))
  clear hb7 hw7 HB6
  go_wp2_with fail
  refine (lockRightOut_any HW7.out).mono ?_
  rintro e w8 ⟨he, hb8⟩
  have he : e = .returned (.bool true) := by rw [he]; simp [outOk, wayOk, rises, okHeight]
  subst he
  have HB8 := Lib.hid (HB7.out.trans (hb8.mono HB7.out.size))
  clear hb8 HW7 HB7
  go_wp2_with fail
  go_ret
  exact ⟨rfl, HB8.out⟩
end Go.Proofs.YtdaafeaeinomoaaDoor
