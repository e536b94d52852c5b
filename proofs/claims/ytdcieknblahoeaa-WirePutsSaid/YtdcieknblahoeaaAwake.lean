/- The law's own example, which each statement asks for at its end (function 18): true, and nothing that was there is written. -/
import Derived.Test.YtdcieknblahoeaaPen
import Derived.Test.YtdcieknblahoeaaEye
namespace Go.Proofs.Ytdcieknblahoeaa
open Go.RowKit

theorem numB_300 : numB 300 = [172, 2] := by decide
theorem numOf_300 : numOf [172, 2] = (300, 2, 0) := by decide

set_option maxHeartbeats 800000 in
theorem awake_true (w : World) : Calls Try.prog 18 #[] w fun r w' => r = .returned (.bool true) ∧ Below w.heap.size w w' := by
  have hp0 : PenAt (w.alloc (.cells #[.pointer none, .int .i64 0] 29)) w.heap.size w.heap.size [] := .inl ⟨heap_alloc_new w _, rfl⟩
  have hb0 : Below w.heap.size w (w.alloc (.cells #[.pointer none, .int .i64 0] 29)) := (Below.refl _ _).alloc (Nat.le_refl _) _
  have HP0 := Lib.hid hp0
  have HB0 := Lib.hid hb0
  clear hp0 hb0
  go_enter Try.func18, Try.ntmps18
  go_wp2_with fail
  refine (pnum_at 300 HP0.out (by simp) (by simp) (by omega)).mono ?_
  rintro r w1 ⟨rfl, hp1, hb1⟩
  rw [numB_300] at hp1
  have hb1' := HB0.out.trans (hb1.below (Nat.le_refl _))
  have hz1 : w.heap.size ≤ w1.heap.size := hb1'.size
  have HP1 := Lib.hid hp1
  have HB1 := Lib.hid hb1'
  clear hp1 hb1 hb1'
  go_wp2_with fail
  refine (bytes_any HP1.out (by simp)).mono ?_
  rintro r w2 ⟨a, n, c, rfl, hrow, _, hb2⟩
  obtain rfl : n = 2 := by have := hrow.1; simpa using this.symm
  have hb2' := HB1.out.trans (hb2.mono hz1)
  have HROW := Lib.hid hrow
  have HB2 := Lib.hid hb2'
  clear hrow hb2 hb2'
  go_wp2_with fail
  refine (look_any HROW.out (by omega)).mono ?_
  rintro r w3 ⟨yb, rfl, hyb, hy, hb3⟩
  have hrow3 := HROW.out.below hb3
  have hz2 := HB2.out.size
  have hb3' := HB2.out.trans (hb3.mono hz2)
  have HY := Lib.hid hy
  have HB3 := Lib.hid hb3'
  have hz3 : w.heap.size ≤ w3.heap.size := hb3'.size
  obtain ⟨b, off, rfl, _, hc⟩ := hrow3.2.2.2.2 (by omega)
  have c0 : w3.cell? ⟨b, off, none⟩ = some (.int .u8 172) := hc 0 (by omega)
  have c1 : w3.cell? ⟨b, off + 1, none⟩ = some (.int .u8 2) := hc 1 (by omega)
  clear hc hrow3 hb3 hb3' hy HROW
  go_wp2_with fail
  refine (num_is HY.out numOf_300).mono ?_
  rintro r w4 ⟨rfl, hy4, hb4⟩
  have hy4' : EyeAt w4 yb [] 0 := hy4
  have hb4' := HB3.out.trans ((hb4.mono hz3).below (by omega))
  have HY4 := Lib.hid hy4'
  have HB4 := Lib.hid hb4'
  clear hy4 hy4' hb4 hb4'
  go_wp2_with fail
  refine (done_all HY4.out).mono ?_
  rintro r w5 ⟨rfl, rfl⟩
  go_wp2_with fail
  go_ret
  exact ⟨rfl, HB4.out⟩
end Go.Proofs.Ytdcieknblahoeaa
