/- What package proof's Check comes to, over what it calls. -/
import Derived.Test.YtcmdpmialehjgaaGreatDoorWhyPlain
import Derived.Test.YtcmdpmialehjgaaGreatDoorSteps
namespace Go.Proofs.YtcmdpmialehjgaaGreatDoor
open Go.RowKit

set_option linter.unusedSimpArgs false in
set_option maxRecDepth 100000 in
set_option maxHeartbeats 6400000 in
theorem check_parts17 {w : World} {p : PPrf} {tower height E1 E2 : Int} {c : PChan} {root : List UInt8} {f : PFacts} {S L : Bool} (hp : PrfIn w p) (hc : ChanIn c) (hr : root.length = 32) (hf : FactsIn w f)
    (hcr : ∀ W : World, Below w.heap.size w W → Calls Tryz.prog 27 #[.agg p.cells.toArray, .int .i64 tower, .agg c.cells.toArray, .agg (cellsOf root).toArray] W fun e w' => e = .returned (.int .i64 E1) ∧ Below W.heap.size W w')
    (hca : ∀ W : World, Below w.heap.size w W → Calls Tryz.prog 28 #[.agg p.cells.toArray, .agg c.cells.toArray, .agg f.cells.toArray] W fun e w' => e = .returned (.int .i64 E2) ∧ Below W.heap.size W w')
    (hsv : ∀ W : World, Below w.heap.size w W → Calls Tryz.prog 16 #[.agg f.cells.toArray, .agg c.cells.toArray] W fun e w' => e = .returned (.bool S) ∧ Below W.heap.size W w')
    (hwi : ∀ W : World, Below w.heap.size w W → Calls Tryz.prog 29 #[.int .i64 height, .int .i64 f.at', .int .i64 c.window] W fun e w' => e = .returned (.bool L) ∧ Below W.heap.size W w') :
    Calls Tryz.prog 15 #[.agg p.cells.toArray, .int .i64 tower, .agg c.cells.toArray, .agg (cellsOf root).toArray, .agg f.cells.toArray, .int .i64 height] w fun e w' => e = .returned (.int .i64 (if E1 = 0 then if E2 = 0 then if S = true then 18 else if L = true then 17 else 0 else E2 else E1)) ∧ Below w.heap.size w w' := by
  obtain ⟨R, hR⟩ : ∃ R, (if E1 = 0 then if E2 = 0 then if S = true then 18 else if L = true then 17 else 0 else E2 else E1) = R := ⟨_, rfl⟩
  rw [hR]
  have KA := Lib.hid hR.symm
  have SZP := Lib.hid (prf_sizeA hp)
  have SZCA := Lib.hid (chan_sizeA hc.ftx)
  have SZR := Lib.hid (size_of hr)
  have SZF := Lib.hid (facts_sizeA hf)
  have HCF := Lib.hid hc.ftx
  have HTR := Lib.hid hf.t.op.root
  have HCR := Lib.hid hcr
  have HCA := Lib.hid hca
  have HSV := Lib.hid hsv
  have HWI := Lib.hid hwi
  clear hp hc hr hf hcr hca hsv hwi hR
  go_enter Tryz.func15, Tryz.ntmps15
  go_upto_region 1 with (fail)
  obtain ⟨w1, g1, g2, g3, hw1, hg1, hg2, hg3, hb1, h1, h2, h3, h4⟩ := four_boxes17 w p.cells.toArray c.cells.toArray (cellsOf root).toArray f.cells.toArray 28 49 23 58
  rw [← hw1, ← hg3, ← hg2, ← hg1]
  obtain ⟨g, hg⟩ : ∃ g, g = w.heap.size := ⟨_, rfl⟩
  rw [← hg] at h1 ⊢
  have HB1 := Lib.hid hb1
  have HP1 := Lib.hid h1
  have HC1 := Lib.hid h2
  have HR1 := Lib.hid h3
  have HF1 := Lib.hid h4
  clear hw1 hg1 hg2 hg3 hb1 h1 h2 h3 h4 hg
  go_upto_region 2 with (first | (refine wpList_load_row rfl 28 _ rfl g rfl 28 p.cells.toArray (0, 0) _ HP1.out Tryz.underlying28 rfl SZP.out ?_) | (refine wpList_load_row rfl 49 _ rfl g1 rfl 49 c.cells.toArray (0, 0) _ HC1.out Tryz.underlying49 rfl SZCA.out ?_) | (refine wpList_load_row rfl 23 _ rfl g2 rfl 23 (cellsOf root).toArray (0, 0) _ HR1.out Tryz.underlying23 rfl SZR.out ?_) | (refine wpList_load_row rfl 58 _ rfl g3 rfl 58 f.cells.toArray (0, 0) _ HF1.out Tryz.underlying58 rfl SZF.out ?_) | (go_at_call 27; (with_reducible refine (HCR.out _ HB1.out).mono ?_); rintro e w2 ⟨rfl, hb⟩; have HB2 := Lib.hid (bthen HB1.out hb); have HP2 := Lib.hid (keep hb HP1.out); have HC2 := Lib.hid (keep hb HC1.out); have HR2 := Lib.hid (keep hb HR1.out); have HF2 := Lib.hid (keep hb HF1.out); clear hb) | fail)
  clear HB1 HP1 HC1 HR1 HF1 HCR
  by_cases e1 : E1 = 0
  rotate_left
  · have hb : (E1 != 0) = true := by simpa using e1
    go_wp2_with fail
    go_ret
    exact ⟨by rw [KA.out, if_neg e1] <;> rfl, HB2.out⟩
  have KB := Lib.hid KA.out
  rw [if_pos e1] at KB
  subst e1
  have hb : ((0 : Int) != 0) = false := by decide
  clear KA
  go_upto_region 5 with (first | (refine wpList_load_row rfl 28 _ rfl g rfl 28 p.cells.toArray (0, 0) _ HP2.out Tryz.underlying28 rfl SZP.out ?_) | (refine wpList_load_row rfl 49 _ rfl g1 rfl 49 c.cells.toArray (0, 0) _ HC2.out Tryz.underlying49 rfl SZCA.out ?_) | (refine wpList_load_row rfl 23 _ rfl g2 rfl 23 (cellsOf root).toArray (0, 0) _ HR2.out Tryz.underlying23 rfl SZR.out ?_) | (refine wpList_load_row rfl 58 _ rfl g3 rfl 58 f.cells.toArray (0, 0) _ HF2.out Tryz.underlying58 rfl SZF.out ?_) | (go_at_call 28; (with_reducible refine (HCA.out _ HB2.out).mono ?_); rintro e w3 ⟨rfl, hb⟩; have HB3 := Lib.hid (bthen HB2.out hb); have HP3 := Lib.hid (keep hb HP2.out); have HC3 := Lib.hid (keep hb HC2.out); have HR3 := Lib.hid (keep hb HR2.out); have HF3 := Lib.hid (keep hb HF2.out); clear hb) | fail)
  clear HB2 HP2 HC2 HR2 HF2 HCA
  by_cases e2 : E2 = 0
  rotate_left
  · have hb2 : (E2 != 0) = true := by simpa using e2
    go_wp2_with fail
    go_ret
    exact ⟨by rw [KB.out, if_neg e2] <;> rfl, HB3.out⟩
  have KC := Lib.hid KB.out
  rw [if_pos e2] at KC
  subst e2
  clear KB
  cases S
  · go_upto_region 9 with (first | (refine wpList_load_row rfl 28 _ rfl g rfl 28 p.cells.toArray (0, 0) _ HP3.out Tryz.underlying28 rfl SZP.out ?_) | (refine wpList_load_row rfl 49 _ rfl g1 rfl 49 c.cells.toArray (0, 0) _ HC3.out Tryz.underlying49 rfl SZCA.out ?_) | (refine wpList_load_row rfl 23 _ rfl g2 rfl 23 (cellsOf root).toArray (0, 0) _ HR3.out Tryz.underlying23 rfl SZR.out ?_) | (refine wpList_load_row rfl 58 _ rfl g3 rfl 58 f.cells.toArray (0, 0) _ HF3.out Tryz.underlying58 rfl SZF.out ?_) | (go_at_call 16; (with_reducible refine (HSV.out _ HB3.out).mono ?_); rintro e w4 ⟨rfl, hb⟩; have HB4 := Lib.hid (bthen HB3.out hb); have HP4 := Lib.hid (keep hb HP3.out); have HC4 := Lib.hid (keep hb HC3.out); have HR4 := Lib.hid (keep hb HR3.out); have HF4 := Lib.hid (keep hb HF3.out); clear hb) | fail)
    have n2 : w4.cell? ⟨g3, 40, none⟩ = some (.int .i64 f.at') := facts_at HTR.out (range_of HF4.out)
    have n3 : w4.cell? ⟨g1, 38, none⟩ = some (.int .i64 c.window) := chan_window17 HCF.out (range_of HC4.out)
    clear HB3 HP3 HC3 HR3 HF3 HSV
    cases L
    · have KZ : Hid (R = 0) := Lib.hid KC.out
      clear KC
      go_wp2_with (first | (go_at_call 29; (with_reducible refine (HWI.out _ HB4.out).mono ?_); rintro e w5 ⟨rfl, hb⟩; have HB5 := Lib.hid (bthen HB4.out hb); have HP5 := Lib.hid (keep hb HP4.out); have HC5 := Lib.hid (keep hb HC4.out); have HR5 := Lib.hid (keep hb HR4.out); have HF5 := Lib.hid (keep hb HF4.out); clear hb) | fail)
      go_ret
      exact ⟨by rw [KZ.out] <;> rfl, HB5.out⟩
    · have KZ : Hid (R = 17) := Lib.hid KC.out
      clear KC
      go_wp2_with (first | (go_at_call 29; (with_reducible refine (HWI.out _ HB4.out).mono ?_); rintro e w5 ⟨rfl, hb⟩; have HB5 := Lib.hid (bthen HB4.out hb); have HP5 := Lib.hid (keep hb HP4.out); have HC5 := Lib.hid (keep hb HC4.out); have HR5 := Lib.hid (keep hb HR4.out); have HF5 := Lib.hid (keep hb HF4.out); clear hb) | fail)
      go_ret
      exact ⟨by rw [KZ.out] <;> rfl, HB5.out⟩
  · have KZ : Hid (R = 18) := Lib.hid KC.out
    clear KC
    go_wp2_with (first | (refine wpList_load_row rfl 28 _ rfl g rfl 28 p.cells.toArray (0, 0) _ HP3.out Tryz.underlying28 rfl SZP.out ?_) | (refine wpList_load_row rfl 49 _ rfl g1 rfl 49 c.cells.toArray (0, 0) _ HC3.out Tryz.underlying49 rfl SZCA.out ?_) | (refine wpList_load_row rfl 23 _ rfl g2 rfl 23 (cellsOf root).toArray (0, 0) _ HR3.out Tryz.underlying23 rfl SZR.out ?_) | (refine wpList_load_row rfl 58 _ rfl g3 rfl 58 f.cells.toArray (0, 0) _ HF3.out Tryz.underlying58 rfl SZF.out ?_) | (go_at_call 16; (with_reducible refine (HSV.out _ HB3.out).mono ?_); rintro e w4 ⟨rfl, hb⟩; have HB4 := Lib.hid (bthen HB3.out hb); have HP4 := Lib.hid (keep hb HP3.out); have HC4 := Lib.hid (keep hb HC3.out); have HR4 := Lib.hid (keep hb HR3.out); have HF4 := Lib.hid (keep hb HF3.out); clear hb) | fail)
    go_ret
    exact ⟨by rw [KZ.out] <;> rfl, HB4.out⟩
end Go.Proofs.YtcmdpmialehjgaaGreatDoor
