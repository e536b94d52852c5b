/- ProofChecks, walked over the contracts of what it calls. -/
import Derived.Test.YtcmdpmialehjgaaGreatDoorWhyPlain
import Derived.Test.YtcmdpmialehjgaaGreatDoorLaw8Small
import Derived.Test.YtcmdpmialehjgaaGreatDoorSteps
import Derived.Deep.CutRange
namespace Go.Proofs.YtcmdpmialehjgaaGreatDoor
open Go.RowKit

set_option linter.unusedSimpArgs false in
set_option maxRecDepth 100000 in
set_option maxHeartbeats 25600000 in
theorem checks17_b {w : World} {p : PPrf} {tower height : Int} {c : PChan} {root : List UInt8} {f : PFacts} (hA : ¬ (1099511627776 < height) ∧ ¬ (height < -1099511627776) ∧ ¬ (1099511627776 < f.at') ∧ ¬ (f.at' < -1099511627776) ∧ ¬ (1099511627776 < f.when)) (hno : (f.when < -1099511627776) ∨ (1099511627776 < c.window) ∨ (c.window < -1099511627776) ∨ (6000 < (p.sn : Int)) ∨ (1000 < (p.bn : Int))) (hp : PrfIn w p) (hc : ChanIn c) (hr : root.length = 32) (hf : FactsIn w f)
    (haw : ∀ W : World, Below w.heap.size w W → Calls Tryz.prog 6 #[] W fun e w' => e = .returned (.bool true) ∧ Below W.heap.size W w') :
    Calls Tryz.prog 5 #[.agg p.cells.toArray, .int .i64 tower, .agg c.cells.toArray, .agg (cellsOf root).toArray, .agg f.cells.toArray, .int .i64 height] w fun e w' => e = .returned (.bool true) ∧ Below w.heap.size w w' := by
  have HSM : Hid (∀ W : World, Below w.heap.size w W → Calls Tryz.prog 14 #[.agg f.t.cells.toArray] W fun e w' => e = .returned (.int .i64 (if smallT f.t = true then 0 else 1)) ∧ Below W.heap.size W w') := Lib.hid fun W hW => small8_law (hf.t.below hW)
  have SZP := Lib.hid (prf_sizeA hp)
  have SZCA := Lib.hid (chan_sizeA hc.ftx)
  have SZR := Lib.hid (size_of hr)
  have SZT := Lib.hid (tx_size hf.t.op.root)
  have SZF := Lib.hid (facts_sizeA hf)
  have HRI := Lib.hid hp.r
  have HCF := Lib.hid hc.ftx
  have HTR := Lib.hid hf.t.op.root
  have n63 : (p.sn : Int) ≤ 9223372036854775807 := by have h1 := hp.sig.2.1; have h2 := hp.sig.2.2.1; unfold maxLen at h2; omega
  have b63 : (p.bn : Int) ≤ 9223372036854775807 := by have h1 := hp.blob.2.1; have h2 := hp.blob.2.2.1; unfold maxLen at h2; omega
  have HAW := Lib.hid haw
  clear hp hc hr hf haw
  go_enter Tryz.func5, Tryz.ntmps5
  go_upto_region 1 with (fail)
  obtain ⟨w1, g1, g2, g3, hw1, hg1, hg2, hg3, hb1, h1, h2, h3, h4⟩ := four_boxes17 w p.cells.toArray c.cells.toArray (cellsOf root).toArray f.cells.toArray 28 49 23 58
  rw [← hw1, ← hg3, ← hg2, ← hg1]
  obtain ⟨g, hg⟩ : ∃ g, g = w.heap.size := ⟨_, rfl⟩
  rw [← hg] at h1 ⊢
  have HB1 := Lib.hid hb1
  have HP1 := Lib.hid h1
  have HC1 := Lib.hid h2
  have HR1 := Lib.hid h3
  have HF1 := Lib.hid h4
  clear hw1 hg1 hg2 hg3 hb1 h1 h2 h3 h4 hg
  obtain ⟨l1, l2, l3, l4, l5⟩ := hA
  have m0 : w1.cell? ⟨g3, 40, none⟩ = some (.int .i64 f.at') := facts_at HTR.out (range_of HF1.out)
  have m1 : w1.cell? ⟨g3, 42, none⟩ = some (.int .i64 f.when) := facts_when HTR.out (range_of HF1.out)
  have m2 : w1.cell? ⟨g1, 38, none⟩ = some (.int .i64 c.window) := chan_window17 HCF.out (range_of HC1.out)
  have m3 : w1.cell? ⟨g, 67, none⟩ = some (.slice p.sa p.sn p.sc) := prf_sig HRI.out (range_of HP1.out)
  have m4 : w1.cell? ⟨g, 68, none⟩ = some (.slice p.ba p.bn p.bc) := prf_blob HRI.out (range_of HP1.out)
  have rf1 := Lib.hid (facts_tx (range_of HF1.out))
  have a1 : ¬ 1099511627776 < height := by omega
  have a2 : ¬ height < -1099511627776 := by omega
  have a3 : ¬ 1099511627776 < f.at' := by omega
  have a4 : ¬ f.at' < -1099511627776 := by omega
  have a5 : ¬ 1099511627776 < f.when := by omega
  by_cases a6 : f.when < -1099511627776
  · go_wp2_with (first | (go_at_call 6; (with_reducible refine (HAW.out _ HB1.out).mono ?_); rintro e w9 ⟨rfl, hb⟩; have HB9 := Lib.hid (bthen HB1.out hb); clear hb) | fail)
    go_ret
    exact ⟨rfl, HB9.out⟩
  by_cases a7 : 1099511627776 < c.window
  · go_wp2_with (first | (go_at_call 6; (with_reducible refine (HAW.out _ HB1.out).mono ?_); rintro e w9 ⟨rfl, hb⟩; have HB9 := Lib.hid (bthen HB1.out hb); clear hb) | fail)
    go_ret
    exact ⟨rfl, HB9.out⟩
  by_cases a8 : c.window < -1099511627776
  · go_wp2_with (first | (go_at_call 6; (with_reducible refine (HAW.out _ HB1.out).mono ?_); rintro e w9 ⟨rfl, hb⟩; have HB9 := Lib.hid (bthen HB1.out hb); clear hb) | fail)
    go_ret
    exact ⟨rfl, HB9.out⟩
  by_cases a9 : 6000 < (p.sn : Int)
  · go_wp2_with (first | (go_at_call 6; (with_reducible refine (HAW.out _ HB1.out).mono ?_); rintro e w9 ⟨rfl, hb⟩; have HB9 := Lib.hid (bthen HB1.out hb); clear hb) | fail)
    go_ret
    exact ⟨rfl, HB9.out⟩
  by_cases a10 : 1000 < (p.bn : Int)
  · go_wp2_with (first | (go_at_call 6; (with_reducible refine (HAW.out _ HB1.out).mono ?_); rintro e w9 ⟨rfl, hb⟩; have HB9 := Lib.hid (bthen HB1.out hb); clear hb) | fail)
    go_ret
    exact ⟨rfl, HB9.out⟩
  exfalso
  omega
end Go.Proofs.YtcmdpmialehjgaaGreatDoor
