/- The walk of ManyNobody. -/
import Derived.Test.YtacagnoilpfjkaaDoorAwake5
import Derived.Test.YtacagnoilpfjkaaDoorCut
namespace Go.Proofs.YtacagnoilpfjkaaDoor
open Go.RowKit

set_option linter.unusedSimpArgs false in
set_option maxRecDepth 100000 in
set_option maxHeartbeats 3200000 in
theorem nobody5_walk {w : World} {a : Option Addr} {m c : Nat} {l : List UInt8} (z : Int) (h : Row w a m c l) (hk : KsAt w) : Calls Tryd.prog 5 #[.slice a m c, .int .i64 z] w fun e w' => e = .returned (.bool true) ∧ Below w.heap.size w w' := by
  have q1 : ∀ W : World, (Op.equalIn 10000 23 (.agg (cellsOf zero32).toArray) (.agg (cellsOf zero32).toArray)).run Tryd.prog W = .ok true W := fun W => by
    have := run_eqSums zero32 zero32 rfl rfl W
    rw [show decide (zero32 = zero32) = true from decide_eq_true rfl] at this
    exact this
  have haw : ∀ (W : World), KsAt W → Calls Tryd.prog 6 #[] W fun e w' => e = .returned (.bool true) ∧ Below W.heap.size W w' := fun W hW => awake5_any hW
  have HK := Lib.hid hk
  have HT := Lib.hid h
  have HAW := Lib.hid haw
  clear hk h haw
  rw [zero32_is] at q1
  go_enter Tryd.func5, Tryd.ntmps5
  go_wp2_with (first | (go_at_call 14; (with_reducible refine (cut_any HT.out).mono ?_); rintro e w' ⟨rfl, _, rfl⟩) | (go_at_call 15; (with_reducible refine (sign5_nil _).mono ?_); rintro e w' ⟨rfl, rfl⟩) | fail)
  refine (keyroot_nil _).mono ?_
  rintro e w1 ⟨rfl, hb1⟩
  have HB1 := Lib.hid hb1
  clear hb1
  rw [zero32_is]
  go_wp2_with (first | (go_at_call 11; (with_reducible refine (left_nil _).mono ?_); rintro e w' ⟨rfl, rfl⟩) | (go_at_call 12; (with_reducible refine (next_nil _).mono ?_); rintro e w' ⟨rfl, rfl⟩) | (go_at_call 13; (with_reducible refine (skip_nil _ _).mono ?_); rintro e w' ⟨rfl, rfl⟩) | fail)
  refine (HAW.out _ (HK.out.below HB1.out)).mono ?_
  rintro e w2 ⟨rfl, hb2⟩
  have HB2 := Lib.hid (HB1.out.trans (hb2.mono HB1.out.size))
  clear hb2
  go_wp2_with fail
  go_ret
  exact ⟨rfl, HB2.out⟩
end Go.Proofs.YtacagnoilpfjkaaDoor
