/- What same comes to; the walk of ShaSums. -/
import Derived.Test.YtfjedbfghcdbdaaDoorRefOf
import Derived.Test.YtfjedbfghcdbdaaDoorAwake
import Derived.Deep.RegionHeld
namespace Go.Proofs.YtfjedbfghcdbdaaDoor
open Go.RowKit

set_option maxRecDepth 100000 in
theorem same_any {w : World} {a : Option Addr} {c : Nat} {s : List UInt8} (hs : s.length = 32) (h : Row w a 32 c s) : Calls Tryd.prog 7 #[.agg (cellsOf s).toArray, .slice a 32 c] w fun e w' => e = .returned (.bool true) ∧ Below w.heap.size w w' := by
  obtain ⟨S, hS⟩ : ∃ S : ByteArray, S = ⟨s.toArray⟩ := ⟨_, rfl⟩
  have b1 : Below w.heap.size w (w.alloc (.cells (cellsOf s).toArray 26)) := (Below.refl _ _).alloc (Nat.le_refl _) _
  have r1 : Row (w.alloc (.cells (cellsOf s).toArray 26)).drew (some ⟨w.heap.size, 0, none⟩) 32 32 s := row_all (w := (w.alloc (.cells (cellsOf s).toArray 26)).drew) (heap_alloc_new _ _) 32 hs.symm (by omega)
  have r2 : Row (w.alloc (.cells (cellsOf s).toArray 26)).drew a 32 c s := h.below (below_drewN b1 1)
  have k1 := conv_row r1
  have k2 := conv_row r2
  rw [← hS] at k1 k2
  have HB := Lib.hid b1
  clear hS b1 r1 r2 h hs
  go_enter Tryd.func7, Tryd.ntmps7
  go_wp2_with fail
  go_region_held (fun w' => (convert 22 9 (.slice (some ⟨w.heap.size, 0, none⟩) 32 32)).run Tryd.prog w' = .ok (.string S) w' ∧ (convert 22 9 (.slice a 32 c)).run Tryd.prog w' = .ok (.string S) w')
    (exact ⟨k1, k2⟩)
    (fail)
  all_goals
    go_wp2
    go_ret
    exact ⟨by first | rfl | simp, below_drewN HB.out 1⟩
theorem sums_walk {w : World} {a : Option Addr} {n c : Nat} {l : List UInt8} (h : Row w a n c l) (hk : KsAt w) : Calls Tryd.prog 3 #[.slice a n c] w fun e w' => e = .returned (.bool true) ∧ Below w.heap.size w w' := by
  have H := Lib.hid h
  have HK := Lib.hid hk
  clear h hk
  go_enter Tryd.func3, Tryd.ntmps3
  go_wp2_with fail
  refine (cut_any H.out).mono ?_
  rintro e w1 ⟨rfl, hr, rfl⟩
  obtain ⟨N, hN⟩ : ∃ N, N = min n 200 := ⟨_, rfl⟩
  obtain ⟨q, hq⟩ : ∃ q, q = l.take 200 := ⟨_, rfl⟩
  rw [← hN, ← hq] at hr
  rw [← hN]
  have hN200 : N ≤ 200 := by omega
  have HR := Lib.hid hr
  clear hr hN hq
  go_wp2_with fail
  refine (of_any HR.out HK.out (by omega)).mono ?_
  rintro e w2 ⟨rfl, hb2⟩
  have HB2 := Lib.hid hb2
  clear hb2
  go_wp2_with fail
  refine (refOf_any (HR.out.below HB2.out) (by omega)).mono ?_
  rintro e w3 ⟨af, cf, rfl, hr3, hb3⟩
  have HR3 := Lib.hid hr3
  have HB3 := Lib.hid (HB2.out.trans (hb3.mono HB2.out.size))
  clear hr3 hb3
  go_wp2_with fail
  refine (same_any (sumOf_len q) HR3.out).mono ?_
  rintro e w4 ⟨rfl, hb4⟩
  have HB4 := Lib.hid (HB3.out.trans (hb4.mono HB3.out.size))
  clear hb4
  go_wp2_with (go_at_call 10; refine (awake_any (HK.out.below HB4.out)).mono ?_; rintro e w5 ⟨rfl, hb5⟩; have HB5 := Lib.hid (HB4.out.trans (hb5.mono HB4.out.size)); clear hb5)
  go_ret
  exact ⟨rfl, HB5.out⟩
end Go.Proofs.YtfjedbfghcdbdaaDoor
