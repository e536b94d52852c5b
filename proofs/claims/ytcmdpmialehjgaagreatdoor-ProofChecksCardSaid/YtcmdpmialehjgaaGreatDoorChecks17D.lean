/- ProofChecks, walked over the contracts of what it calls. -/
import Derived.Test.YtcmdpmialehjgaaGreatDoorWhyPlain
import Derived.Test.YtcmdpmialehjgaaGreatDoorLaw8Small
import Derived.Test.YtcmdpmialehjgaaGreatDoorSteps
import Derived.Deep.CutRange
namespace Go.Proofs.YtcmdpmialehjgaaGreatDoor
open Go.RowKit

/-- What ProofChecks looks at. -/
def looks17 (p : PPrf) (c : PChan) (f : PFacts) (height : Int) : Prop :=
  (-1099511627776 ≤ height ∧ height ≤ 1099511627776) ∧ (-1099511627776 ≤ f.at' ∧ f.at' ≤ 1099511627776) ∧ (-1099511627776 ≤ f.when ∧ f.when ≤ 1099511627776) ∧ (-1099511627776 ≤ c.window ∧ c.window ≤ 1099511627776) ∧ p.sn ≤ 6000 ∧ p.bn ≤ 1000 ∧ smallT f.t = true ∧ (0 ≤ c.client ∧ c.client ≤ 255) ∧ 0 ≤ c.peer ∧ c.peer ≤ 255
set_option linter.unusedSimpArgs false in
set_option maxRecDepth 100000 in
set_option maxHeartbeats 25600000 in
theorem checks17_d {w : World} {p : PPrf} {tower height R : Int} {c : PChan} {root : List UInt8} {f : PFacts} (hlook : looks17 p c f height) (hp : PrfIn w p) (hc : ChanIn c) (hr : root.length = 32) (hf : FactsIn w f)
    (haw : ∀ W : World, Below w.heap.size w W → Calls Tryz.prog 6 #[] W fun e w' => e = .returned (.bool true) ∧ Below W.heap.size W w')
    (hsv : ∀ W : World, Below w.heap.size w W → Calls Tryz.prog 16 #[.agg f.cells.toArray, .agg c.cells.toArray] W fun e w' => e = .returned (.bool (savedB f c)) ∧ Below W.heap.size W w')
    (hck : looks17 p c f height → ∀ W : World, Below w.heap.size w W → Calls Tryz.prog 15 #[.agg p.cells.toArray, .int .i64 tower, .agg c.cells.toArray, .agg (cellsOf root).toArray, .agg f.cells.toArray, .int .i64 height] W fun e w' => e = .returned (.int .i64 R) ∧ Below W.heap.size W w')
    (hwy : looks17 p c f height → ∀ W : World, Below w.heap.size w W → Calls Tryz.prog 17 #[.agg p.cells.toArray, .int .i64 tower, .agg c.cells.toArray, .agg (cellsOf root).toArray, .agg f.cells.toArray, .int .i64 height] W fun e w' => e = .returned (.int .i64 R) ∧ Below W.heap.size W w') :
    Calls Tryz.prog 5 #[.agg p.cells.toArray, .int .i64 tower, .agg c.cells.toArray, .agg (cellsOf root).toArray, .agg f.cells.toArray, .int .i64 height] w fun e w' => e = .returned (.bool true) ∧ Below w.heap.size w w' := by
  have HSM : Hid (∀ W : World, Below w.heap.size w W → Calls Tryz.prog 14 #[.agg f.t.cells.toArray] W fun e w' => e = .returned (.int .i64 (if smallT f.t = true then 0 else 1)) ∧ Below W.heap.size W w') := Lib.hid fun W hW => small8_law (hf.t.below hW)
  have SZP := Lib.hid (prf_sizeA hp)
  have SZCA := Lib.hid (chan_sizeA hc.ftx)
  have SZR := Lib.hid (size_of hr)
  have SZT := Lib.hid (tx_size hf.t.op.root)
  have SZF := Lib.hid (facts_sizeA hf)
  have HRI := Lib.hid hp.r
  have HCF := Lib.hid hc.ftx
  have HTR := Lib.hid hf.t.op.root
  have n63 : (p.sn : Int) ≤ 9223372036854775807 := by have h1 := hp.sig.2.1; have h2 := hp.sig.2.2.1; unfold maxLen at h2; omega
  have b63 : (p.bn : Int) ≤ 9223372036854775807 := by have h1 := hp.blob.2.1; have h2 := hp.blob.2.2.1; unfold maxLen at h2; omega
  have HAW := Lib.hid haw
  have HSV := Lib.hid hsv
  have HCK := Lib.hid hck
  have HWY := Lib.hid hwy
  clear hp hc hr hf haw hsv hck hwy
  go_enter Tryz.func5, Tryz.ntmps5
  go_upto_region 1 with (fail)
  obtain ⟨w1, g1, g2, g3, hw1, hg1, hg2, hg3, hb1, h1, h2, h3, h4⟩ := four_boxes17 w p.cells.toArray c.cells.toArray (cellsOf root).toArray f.cells.toArray 28 49 23 58
  rw [← hw1, ← hg3, ← hg2, ← hg1]
  obtain ⟨g, hg⟩ : ∃ g, g = w.heap.size := ⟨_, rfl⟩
  rw [← hg] at h1 ⊢
  have HB1 := Lib.hid hb1
  have HP1 := Lib.hid h1
  have HC1 := Lib.hid h2
  have HR1 := Lib.hid h3
  have HF1 := Lib.hid h4
  clear hw1 hg1 hg2 hg3 hb1 h1 h2 h3 h4 hg
  have hl9 := hlook
  obtain ⟨⟨l1, l2⟩, ⟨l3, l4⟩, ⟨l5, l6⟩, ⟨l7, l8⟩, l9, l10, hsm, ⟨l11, l12⟩, l13, l14⟩ := hl9
  have m0 : w1.cell? ⟨g3, 40, none⟩ = some (.int .i64 f.at') := facts_at HTR.out (range_of HF1.out)
  have m1 : w1.cell? ⟨g3, 42, none⟩ = some (.int .i64 f.when) := facts_when HTR.out (range_of HF1.out)
  have m2 : w1.cell? ⟨g1, 38, none⟩ = some (.int .i64 c.window) := chan_window17 HCF.out (range_of HC1.out)
  have m3 : w1.cell? ⟨g, 67, none⟩ = some (.slice p.sa p.sn p.sc) := prf_sig HRI.out (range_of HP1.out)
  have m4 : w1.cell? ⟨g, 68, none⟩ = some (.slice p.ba p.bn p.bc) := prf_blob HRI.out (range_of HP1.out)
  have rf1 := Lib.hid (facts_tx (range_of HF1.out))
  have a1 : ¬ 1099511627776 < height := by omega
  have a2 : ¬ height < -1099511627776 := by omega
  have a3 : ¬ 1099511627776 < f.at' := by omega
  have a4 : ¬ f.at' < -1099511627776 := by omega
  have a5 : ¬ 1099511627776 < f.when := by omega
  have a6 : ¬ f.when < -1099511627776 := by omega
  have a7 : ¬ 1099511627776 < c.window := by omega
  have a8 : ¬ c.window < -1099511627776 := by omega
  have a9 : ¬ 6000 < (p.sn : Int) := by omega
  have a10 : ¬ 1000 < (p.bn : Int) := by omega
  rw [show (if smallT f.t = true then (0 : Int) else 1) = 0 from if_pos hsm] at HSM
  have a12 : ¬ 255 < c.client := by omega
  have a13 : ¬ c.client < 0 := by omega
  have a14 : ¬ 255 < c.peer := by omega
  have a15 : ¬ c.peer < 0 := by omega
  have HC := Lib.hid (HCK.out hlook)
  have HW := Lib.hid (HWY.out hlook)
  clear HCK HWY hlook hsm
  go_upto_region 4 with (first | (refine wpList_mid_wanted (by rfl) 56 _ rfl g3 0 rfl f.t.cells _ rf1.out Tryz.underlying56 rfl SZT.out ?_) | (go_at_call 14; (with_reducible refine (HSM.out _ HB1.out).mono ?_); rintro e w2 ⟨rfl, hb⟩; have HB2 := Lib.hid (bthen HB1.out hb); have HP2 := Lib.hid (keep hb HP1.out); have HC2 := Lib.hid (keep hb HC1.out); have HR2 := Lib.hid (keep hb HR1.out); have HF2 := Lib.hid (keep hb HF1.out); have q5 : w2.cell? ⟨g1, 1, none⟩ = some (.int .i64 c.client) := chan_client17 (range_of HC2.out); have q6 : w2.cell? ⟨g1, 2, none⟩ = some (.int .i64 c.peer) := chan_peer17 (range_of HC2.out); clear hb) | fail)
  clear m0 m1 m2 m3 m4 rf1 l1 l2 l3 l4 l5 l6 l7 l8 l9 l10 l11 l12 l13 l14 a1 a2 a3 a4 a5 a6 a7 a8 a9 a10 a12 a13 a14 a15 q5 q6 HB1 HP1 HC1 HR1 HF1 HSM n63 b63
  go_upto_region 5 with (first | (refine wpList_load_row rfl 28 _ rfl g rfl 28 p.cells.toArray (0, 0) _ HP2.out Tryz.underlying28 rfl SZP.out ?_) | (refine wpList_load_row rfl 49 _ rfl g1 rfl 49 c.cells.toArray (0, 0) _ HC2.out Tryz.underlying49 rfl SZCA.out ?_) | (refine wpList_load_row rfl 23 _ rfl g2 rfl 23 (cellsOf root).toArray (0, 0) _ HR2.out Tryz.underlying23 rfl SZR.out ?_) | (refine wpList_load_row rfl 58 _ rfl g3 rfl 58 f.cells.toArray (0, 0) _ HF2.out Tryz.underlying58 rfl SZF.out ?_) | (go_at_call 15; (with_reducible refine (HC.out _ HB2.out).mono ?_); rintro e w3 ⟨rfl, hb⟩; have HB3 := Lib.hid (bthen HB2.out hb); have HP3 := Lib.hid (keep hb HP2.out); have HC3 := Lib.hid (keep hb HC2.out); have HR3 := Lib.hid (keep hb HR2.out); have HF3 := Lib.hid (keep hb HF2.out); clear hb) | fail)
  clear HB2 HP2 HC2 HR2 HF2 HC
  obtain ⟨sv, hsv⟩ : ∃ s, savedB f c = s := ⟨_, rfl⟩
  rw [hsv] at HSV
  have HSVE := Lib.hid hsv
  clear hsv
  have m0 : w3.cell? ⟨g3, 40, none⟩ = some (.int .i64 f.at') := facts_at HTR.out (range_of HF3.out)
  have m1 : w3.cell? ⟨g3, 42, none⟩ = some (.int .i64 f.when) := facts_when HTR.out (range_of HF3.out)
  have m2 : w3.cell? ⟨g1, 38, none⟩ = some (.int .i64 c.window) := chan_window17 HCF.out (range_of HC3.out)
  have m3 : w3.cell? ⟨g3, 41, none⟩ = some (.bool f.taken) := facts_taken HTR.out (range_of HF3.out)
  go_cut [15] from 110 to 121 (fun u w' => u = .bool sv ∧ w3 = w')
  case first =>
    cases ht : f.taken
    · rw [ht] at m3
      have hq : sv = false := by rw [← HSVE.out]; unfold savedB; rw [ht]; rfl
      go_wp2_with fail
      go_meet
      exact ⟨by rw [hq] <;> rfl, rfl⟩
    · rw [ht] at m3
      by_cases e10 : wrap64 (f.when - f.at') ≤ c.window
      · have hq : sv = true := by rw [← HSVE.out]; unfold savedB; rw [ht, decide_eq_true e10]; rfl
        go_wp2_with fail
        go_meet
        exact ⟨by rw [hq] <;> rfl, rfl⟩
      · have e10b : c.window < wrap64 (f.when - f.at') := by omega
        have hq : sv = false := by rw [← HSVE.out]; unfold savedB; rw [ht, decide_eq_false e10]; rfl
        go_wp2_with fail
        go_meet
        exact ⟨by rw [hq] <;> rfl, rfl⟩
  case rest =>
    obtain ⟨rfl, rfl⟩ := hcut
    clear m0 m1 m2 m3 HSVE
    go_upto_region 6 with (fail)
    have HS2 := Lib.hid HSV.out
    cases sv
    · go_wp2_with (first | (first | (refine wpList_load_row rfl 58 _ rfl g3 rfl 58 f.cells.toArray (0, 0) _ HF4.out Tryz.underlying58 rfl SZF.out ?_) | (refine wpList_load_row rfl 58 _ rfl g3 rfl 58 f.cells.toArray (0, 0) _ HF3.out Tryz.underlying58 rfl SZF.out ?_)) | (first | (refine wpList_load_row rfl 49 _ rfl g1 rfl 49 c.cells.toArray (0, 0) _ HC4.out Tryz.underlying49 rfl SZCA.out ?_) | (refine wpList_load_row rfl 49 _ rfl g1 rfl 49 c.cells.toArray (0, 0) _ HC3.out Tryz.underlying49 rfl SZCA.out ?_)) | (refine wpList_load_row rfl 28 _ rfl g rfl 28 p.cells.toArray (0, 0) _ HP4.out Tryz.underlying28 rfl SZP.out ?_) | (refine wpList_load_row rfl 23 _ rfl g2 rfl 23 (cellsOf root).toArray (0, 0) _ HR4.out Tryz.underlying23 rfl SZR.out ?_) | (go_at_call 16; (with_reducible refine (HSV.out _ HB3.out).mono ?_); rintro e w4 ⟨rfl, hb⟩; have HB4 := Lib.hid (bthen HB3.out hb); have HP4 := Lib.hid (keep hb HP3.out); have HC4 := Lib.hid (keep hb HC3.out); have HR4 := Lib.hid (keep hb HR3.out); have HF4 := Lib.hid (keep hb HF3.out); clear hb) | (go_at_call 17; (with_reducible refine (HW.out _ HB4.out).mono ?_); rintro e w5 ⟨rfl, hb⟩; have HB5 := Lib.hid (bthen HB4.out hb); clear hb) | (go_at_call 6; (with_reducible refine (HAW.out _ HB5.out).mono ?_); rintro e w9 ⟨rfl, hb⟩; have HB9 := Lib.hid (bthen HB5.out hb); clear hb) | fail)
      go_ret
      exact ⟨rfl, HB9.out⟩
    · go_wp2_with (first | (first | (refine wpList_load_row rfl 58 _ rfl g3 rfl 58 f.cells.toArray (0, 0) _ HF4.out Tryz.underlying58 rfl SZF.out ?_) | (refine wpList_load_row rfl 58 _ rfl g3 rfl 58 f.cells.toArray (0, 0) _ HF3.out Tryz.underlying58 rfl SZF.out ?_)) | (first | (refine wpList_load_row rfl 49 _ rfl g1 rfl 49 c.cells.toArray (0, 0) _ HC4.out Tryz.underlying49 rfl SZCA.out ?_) | (refine wpList_load_row rfl 49 _ rfl g1 rfl 49 c.cells.toArray (0, 0) _ HC3.out Tryz.underlying49 rfl SZCA.out ?_)) | (refine wpList_load_row rfl 28 _ rfl g rfl 28 p.cells.toArray (0, 0) _ HP4.out Tryz.underlying28 rfl SZP.out ?_) | (refine wpList_load_row rfl 23 _ rfl g2 rfl 23 (cellsOf root).toArray (0, 0) _ HR4.out Tryz.underlying23 rfl SZR.out ?_) | (go_at_call 16; (with_reducible refine (HSV.out _ HB3.out).mono ?_); rintro e w4 ⟨rfl, hb⟩; have HB4 := Lib.hid (bthen HB3.out hb); have HP4 := Lib.hid (keep hb HP3.out); have HC4 := Lib.hid (keep hb HC3.out); have HR4 := Lib.hid (keep hb HR3.out); have HF4 := Lib.hid (keep hb HF3.out); clear hb) | (go_at_call 17; (with_reducible refine (HW.out _ HB4.out).mono ?_); rintro e w5 ⟨rfl, hb⟩; have HB5 := Lib.hid (bthen HB4.out hb); clear hb) | (go_at_call 6; (with_reducible refine (HAW.out _ HB5.out).mono ?_); rintro e w9 ⟨rfl, hb⟩; have HB9 := Lib.hid (bthen HB5.out hb); clear hb) | fail)
      go_ret
      exact ⟨rfl, HB9.out⟩
end Go.Proofs.YtcmdpmialehjgaaGreatDoor
