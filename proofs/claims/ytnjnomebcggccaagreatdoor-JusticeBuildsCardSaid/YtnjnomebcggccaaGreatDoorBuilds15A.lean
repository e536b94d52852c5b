/- JusticeBuilds, walked: what is not small, no commitment, no tower, another secret, shares that may not be. -/
import Derived.Test.YtnjnomebcggccaaGreatDoorBuilds15K
namespace Go.Proofs.YtnjnomebcggccaaGreatDoor
open Go.RowKit

set_option linter.unusedSimpArgs false in
set_option maxRecDepth 100000 in
set_option maxHeartbeats 6400000 in
theorem builds15_small {w : World} {c : PChan} {t : PTx} {pre : List UInt8} {z r f : Int} (hc : ChanIn c) (ht : TxIn w t) (hpl : pre.length = 32) (hrf : Fits r) (hff : Fits f) (hk : KsAt w) (hst : smallT t = false) :
    Calls Tryz.prog 3 #[.agg c.cells.toArray, .agg t.cells.toArray, .agg (cellsOf pre).toArray, .int .i64 z, .agg #[.int .i64 r, .int .i64 f]] w fun e w' => e = .returned (.bool true) ∧ Below w.heap.size w w' := by
  have SZCl := Lib.hid (chan_size hc.ftx)
  have HAW := Lib.hid (fun (W : World) => awake15_of shares_code key_code W)
  have HC := Lib.hid hc
  have HT := Lib.hid ht
  have SZC := Lib.hid (chan_sizeA hc.ftx)
  have SZT := Lib.hid (tx_sizeA ht.op.root)
  have SZTl := Lib.hid (tx_size ht.op.root)
  have SZPA := Lib.hid (size_of hpl)
  have HPL := Lib.hid hpl
  have HK := Lib.hid hk
  have HRF := Lib.hid hrf
  have HFF := Lib.hid hff
  have HSM : Hid (∀ W : World, Below w.heap.size w W → Calls Tryz.prog 4 #[.agg t.cells.toArray] W fun e w' => e = .returned (.int .i64 1) ∧ Below W.heap.size W w') := Lib.hid (fun W hW => by have h9 := small8_law (HT.out.below hW); rw [hst] at h9; exact h9)
  clear hc ht hk hpl hrf hff hst
  go_enter Tryz.func3, Tryz.ntmps3
  go_upto_region 1 with (fail)
  obtain ⟨w1, g1, g2, g3, hw1, hg1, hg2, hg3, hb1, h1, h2, h3, h4⟩ := four_boxes15 w c.cells.toArray t.cells.toArray (cellsOf pre).toArray #[.int .i64 r, .int .i64 f] 27 35 23 37
  rw [← hw1, ← hg3, ← hg2, ← hg1]
  have hn3 : w.heap.size ≤ g3 := by omega
  obtain ⟨g, hg⟩ : ∃ g, g = w.heap.size := ⟨_, rfl⟩
  rw [← hg] at h1 ⊢
  have HB1 := Lib.hid hb1
  have H1 := Lib.hid h1
  have H2 := Lib.hid h2
  have H3 := Lib.hid h3
  have H4 : Hid (w1.heap[g3]? = some (.cells (([.int .i64 r, .int .i64 f] : List Value)).toArray 37 (0, 0))) := Lib.hid h4
  have HN3 := Lib.hid hn3
  have HST := Lib.hid (fun (W : World) (hW : Below w1.heap.size w1 W) => HSM.out W (bthen HB1.out hW))
  clear hw1 hg1 hg2 hg3 hb1 h1 h2 h3 h4 hg hn3 HSM
  go_wp2_with (first | (refine wpList_load_row rfl 35 _ rfl g1 rfl 35 t.cells.toArray (0, 0) _ H2.out Tryz.underlying35 rfl SZT.out ?_) | (go_at_call 4; (with_reducible refine (HST.out _ (Below.refl _ _)).mono ?_); rintro e w2 ⟨rfl, hb⟩; have X2 := Lib.hid hb; have c1 := (chan_at HC.out.ftx (range_of (keep X2.out H1.out))).client; have c2 := (chan_at HC.out.ftx (range_of (keep X2.out H1.out))).peer; rw [Nat.zero_add] at c1 c2; clear hb) | (go_at_call 5; (with_reducible refine (HAW.out _).mono ?_); rintro e w99 ⟨rfl, hb⟩; have XF := Lib.hid (bthen X2.out hb); clear hb) | fail)
  go_ret
  exact ⟨rfl, bthen HB1.out XF.out⟩
set_option linter.unusedSimpArgs false in
set_option maxRecDepth 100000 in
set_option maxHeartbeats 6400000 in
theorem builds15_chan {w : World} {c : PChan} {t : PTx} {pre : List UInt8} {z r f : Int} (hc : ChanIn c) (ht : TxIn w t) (hpl : pre.length = 32) (hrf : Fits r) (hff : Fits f) (hk : KsAt w) (hst : smallT t = true) (hcl : c.client < 0 ∨ 255 < c.client ∨ c.peer < 0 ∨ 255 < c.peer) :
    Calls Tryz.prog 3 #[.agg c.cells.toArray, .agg t.cells.toArray, .agg (cellsOf pre).toArray, .int .i64 z, .agg #[.int .i64 r, .int .i64 f]] w fun e w' => e = .returned (.bool true) ∧ Below w.heap.size w w' := by
  have SZCl := Lib.hid (chan_size hc.ftx)
  have HAW := Lib.hid (fun (W : World) => awake15_of shares_code key_code W)
  have HC := Lib.hid hc
  have HT := Lib.hid ht
  have SZC := Lib.hid (chan_sizeA hc.ftx)
  have SZT := Lib.hid (tx_sizeA ht.op.root)
  have SZTl := Lib.hid (tx_size ht.op.root)
  have SZPA := Lib.hid (size_of hpl)
  have HPL := Lib.hid hpl
  have HK := Lib.hid hk
  have HRF := Lib.hid hrf
  have HFF := Lib.hid hff
  have HSM : Hid (∀ W : World, Below w.heap.size w W → Calls Tryz.prog 4 #[.agg t.cells.toArray] W fun e w' => e = .returned (.int .i64 0) ∧ Below W.heap.size W w') := Lib.hid (fun W hW => by have h9 := small8_law (HT.out.below hW); rw [hst] at h9; exact h9)
  clear hc ht hk hpl hrf hff hst
  go_enter Tryz.func3, Tryz.ntmps3
  go_upto_region 1 with (fail)
  obtain ⟨w1, g1, g2, g3, hw1, hg1, hg2, hg3, hb1, h1, h2, h3, h4⟩ := four_boxes15 w c.cells.toArray t.cells.toArray (cellsOf pre).toArray #[.int .i64 r, .int .i64 f] 27 35 23 37
  rw [← hw1, ← hg3, ← hg2, ← hg1]
  have hn3 : w.heap.size ≤ g3 := by omega
  obtain ⟨g, hg⟩ : ∃ g, g = w.heap.size := ⟨_, rfl⟩
  rw [← hg] at h1 ⊢
  have HB1 := Lib.hid hb1
  have H1 := Lib.hid h1
  have H2 := Lib.hid h2
  have H3 := Lib.hid h3
  have H4 : Hid (w1.heap[g3]? = some (.cells (([.int .i64 r, .int .i64 f] : List Value)).toArray 37 (0, 0))) := Lib.hid h4
  have HN3 := Lib.hid hn3
  have HST := Lib.hid (fun (W : World) (hW : Below w1.heap.size w1 W) => HSM.out W (bthen HB1.out hW))
  clear hw1 hg1 hg2 hg3 hb1 h1 h2 h3 h4 hg hn3 HSM
  by_cases a1 : 255 < c.client
  · have ea1 : decide (255 < c.client) = true := decide_eq_true a1
    clear hcl
    go_wp2_with (first | (refine wpList_load_row rfl 35 _ rfl g1 rfl 35 t.cells.toArray (0, 0) _ H2.out Tryz.underlying35 rfl SZT.out ?_) | (go_at_call 4; (with_reducible refine (HST.out _ (Below.refl _ _)).mono ?_); rintro e w2 ⟨rfl, hb⟩; have X2 := Lib.hid hb; have c1 := (chan_at HC.out.ftx (range_of (keep X2.out H1.out))).client; have c2 := (chan_at HC.out.ftx (range_of (keep X2.out H1.out))).peer; rw [Nat.zero_add] at c1 c2; clear hb) | (go_at_call 5; (with_reducible refine (HAW.out _).mono ?_); rintro e w99 ⟨rfl, hb⟩; have XF := Lib.hid (bthen X2.out hb); clear hb) | fail)
    go_ret
    exact ⟨rfl, bthen HB1.out XF.out⟩
  · have ea1 : decide (255 < c.client) = false := decide_eq_false a1
    by_cases a2 : c.client < 0
    · have ea2 : decide (c.client < 0) = true := decide_eq_true a2
      clear hcl
      go_wp2_with (first | (refine wpList_load_row rfl 35 _ rfl g1 rfl 35 t.cells.toArray (0, 0) _ H2.out Tryz.underlying35 rfl SZT.out ?_) | (go_at_call 4; (with_reducible refine (HST.out _ (Below.refl _ _)).mono ?_); rintro e w2 ⟨rfl, hb⟩; have X2 := Lib.hid hb; have c1 := (chan_at HC.out.ftx (range_of (keep X2.out H1.out))).client; have c2 := (chan_at HC.out.ftx (range_of (keep X2.out H1.out))).peer; rw [Nat.zero_add] at c1 c2; clear hb) | (go_at_call 5; (with_reducible refine (HAW.out _).mono ?_); rintro e w99 ⟨rfl, hb⟩; have XF := Lib.hid (bthen X2.out hb); clear hb) | fail)
      go_ret
      exact ⟨rfl, bthen HB1.out XF.out⟩
    · have ea2 : decide (c.client < 0) = false := decide_eq_false a2
      by_cases a3 : 255 < c.peer
      · have ea3 : decide (255 < c.peer) = true := decide_eq_true a3
        clear hcl
        go_wp2_with (first | (refine wpList_load_row rfl 35 _ rfl g1 rfl 35 t.cells.toArray (0, 0) _ H2.out Tryz.underlying35 rfl SZT.out ?_) | (go_at_call 4; (with_reducible refine (HST.out _ (Below.refl _ _)).mono ?_); rintro e w2 ⟨rfl, hb⟩; have X2 := Lib.hid hb; have c1 := (chan_at HC.out.ftx (range_of (keep X2.out H1.out))).client; have c2 := (chan_at HC.out.ftx (range_of (keep X2.out H1.out))).peer; rw [Nat.zero_add] at c1 c2; clear hb) | (go_at_call 5; (with_reducible refine (HAW.out _).mono ?_); rintro e w99 ⟨rfl, hb⟩; have XF := Lib.hid (bthen X2.out hb); clear hb) | fail)
        go_ret
        exact ⟨rfl, bthen HB1.out XF.out⟩
      · have ea3 : decide (255 < c.peer) = false := decide_eq_false a3
        by_cases a4 : c.peer < 0
        · have ea4 : decide (c.peer < 0) = true := decide_eq_true a4
          clear hcl
          go_wp2_with (first | (refine wpList_load_row rfl 35 _ rfl g1 rfl 35 t.cells.toArray (0, 0) _ H2.out Tryz.underlying35 rfl SZT.out ?_) | (go_at_call 4; (with_reducible refine (HST.out _ (Below.refl _ _)).mono ?_); rintro e w2 ⟨rfl, hb⟩; have X2 := Lib.hid hb; have c1 := (chan_at HC.out.ftx (range_of (keep X2.out H1.out))).client; have c2 := (chan_at HC.out.ftx (range_of (keep X2.out H1.out))).peer; rw [Nat.zero_add] at c1 c2; clear hb) | (go_at_call 5; (with_reducible refine (HAW.out _).mono ?_); rintro e w99 ⟨rfl, hb⟩; have XF := Lib.hid (bthen X2.out hb); clear hb) | fail)
          go_ret
          exact ⟨rfl, bthen HB1.out XF.out⟩
        · have ea4 : decide (c.peer < 0) = false := decide_eq_false a4
          exfalso
          omega
set_option linter.unusedSimpArgs false in
set_option maxRecDepth 100000 in
set_option maxHeartbeats 6400000 in
theorem builds15_none {w : World} {c : PChan} {t : PTx} {pre : List UInt8} {z r f : Int} (hc : ChanIn c) (ht : TxIn w t) (hpl : pre.length = 32) (hrf : Fits r) (hff : Fits f) (hk : KsAt w) (hst : smallT t = true) (hcl : 0 ≤ c.client ∧ c.client ≤ 255 ∧ 0 ≤ c.peer ∧ c.peer ≤ 255) (hO : ownerP c t = -1) :
    Calls Tryz.prog 3 #[.agg c.cells.toArray, .agg t.cells.toArray, .agg (cellsOf pre).toArray, .int .i64 z, .agg #[.int .i64 r, .int .i64 f]] w fun e w' => e = .returned (.bool true) ∧ Below w.heap.size w w' := by
  have SZCl := Lib.hid (chan_size hc.ftx)
  have HAW := Lib.hid (fun (W : World) => awake15_of shares_code key_code W)
  have HC := Lib.hid hc
  have HT := Lib.hid ht
  have SZC := Lib.hid (chan_sizeA hc.ftx)
  have SZT := Lib.hid (tx_sizeA ht.op.root)
  have SZTl := Lib.hid (tx_size ht.op.root)
  have SZPA := Lib.hid (size_of hpl)
  have HPL := Lib.hid hpl
  have HK := Lib.hid hk
  have HRF := Lib.hid hrf
  have HFF := Lib.hid hff
  have HFT := Lib.hid (small_front15 ht hst).1
  have ea1 : decide (255 < c.client) = false := decide_eq_false (by omega)
  have ea2 : decide (c.client < 0) = false := decide_eq_false (by omega)
  have ea3 : decide (255 < c.peer) = false := decide_eq_false (by omega)
  have ea4 : decide (c.peer < 0) = false := decide_eq_false (by omega)
  have HSM : Hid (∀ W : World, Below w.heap.size w W → Calls Tryz.prog 4 #[.agg t.cells.toArray] W fun e w' => e = .returned (.int .i64 0) ∧ Below W.heap.size W w') := Lib.hid (fun W hW => by have h9 := small8_law (HT.out.below hW); rw [hst] at h9; exact h9)
  clear hc ht hk hpl hrf hff hst hcl
  go_enter Tryz.func3, Tryz.ntmps3
  go_upto_region 1 with (fail)
  obtain ⟨w1, g1, g2, g3, hw1, hg1, hg2, hg3, hb1, h1, h2, h3, h4⟩ := four_boxes15 w c.cells.toArray t.cells.toArray (cellsOf pre).toArray #[.int .i64 r, .int .i64 f] 27 35 23 37
  rw [← hw1, ← hg3, ← hg2, ← hg1]
  have hn3 : w.heap.size ≤ g3 := by omega
  obtain ⟨g, hg⟩ : ∃ g, g = w.heap.size := ⟨_, rfl⟩
  rw [← hg] at h1 ⊢
  have HB1 := Lib.hid hb1
  have H1 := Lib.hid h1
  have H2 := Lib.hid h2
  have H3 := Lib.hid h3
  have H4 : Hid (w1.heap[g3]? = some (.cells (([.int .i64 r, .int .i64 f] : List Value)).toArray 37 (0, 0))) := Lib.hid h4
  have HN3 := Lib.hid hn3
  have HST := Lib.hid (fun (W : World) (hW : Below w1.heap.size w1 W) => HSM.out W (bthen HB1.out hW))
  clear hw1 hg1 hg2 hg3 hb1 h1 h2 h3 h4 hg hn3 HSM
  have HBD : Hid (∀ W : World, Below w1.heap.size w1 W → Calls Tryz.prog 6 #[.agg c.cells.toArray, .agg t.cells.toArray, .agg (cellsOf pre).toArray, .int .i64 z, .agg #[.int .i64 r, .int .i64 f]] W fun e w' => e = .returned (.tuple #[.agg noTx.cells.toArray, .int .i64 1]) ∧ Below W.heap.size W w') := Lib.hid fun W hW => build15_none HC.out (HT.out.below (bthen HB1.out hW)) hO
  obtain ⟨O, hOv⟩ : ∃ O, ownerP c t = O := ⟨_, rfl⟩
  have HOW : Hid (∀ W : World, Below w1.heap.size w1 W → Calls Tryz.prog 7 #[.agg c.cells.toArray, .agg t.cells.toArray] W fun e w' => e = .returned (.int .i64 O) ∧ Below W.heap.size W w') := Lib.hid fun W hW => by rw [← hOv]; exact owner_any HC.out (HT.out.below (bthen HB1.out hW))
  obtain rfl : O = -1 := hOv.symm.trans hO
  clear hOv hO
  go_upto_region 3 with (first | (refine wpList_load_row rfl 35 _ rfl g1 rfl 35 t.cells.toArray (0, 0) _ H2.out Tryz.underlying35 rfl SZT.out ?_) | (go_at_call 4; (with_reducible refine (HST.out _ (Below.refl _ _)).mono ?_); rintro e w2 ⟨rfl, hb⟩; have X2 := Lib.hid hb; have c1 := (chan_at HC.out.ftx (range_of (keep X2.out H1.out))).client; have c2 := (chan_at HC.out.ftx (range_of (keep X2.out H1.out))).peer; rw [Nat.zero_add] at c1 c2; clear hb) | fail)
  clear c1 c2 ea1 ea2 ea3 ea4
  go_upto_region 4 with (first | (refine wpList_load_row rfl 27 _ rfl g rfl 27 c.cells.toArray (0, 0) _ (keep X2.out H1.out) Tryz.underlying27 rfl SZC.out ?_) | (refine wpList_load_row rfl 35 _ rfl g1 rfl 35 t.cells.toArray (0, 0) _ (keep X2.out H2.out) Tryz.underlying35 rfl SZT.out ?_) | (refine wpList_load_row rfl 23 _ rfl g2 rfl 23 (cellsOf pre).toArray (0, 0) _ (keep X2.out H3.out) Tryz.underlying23 rfl SZPA.out ?_) | (refine wpList_load_row rfl 37 _ rfl g3 rfl 37 ([.int .i64 r, .int .i64 f] : List Value).toArray (0, 0) _ (keep X2.out H4.out) Tryz.underlying37 rfl (by kernel_rfl) ?_) | (go_at_call 6; (with_reducible refine (HBD.out _ X2.out).mono ?_); rintro e w3 ⟨rfl, hb⟩; have X3 := Lib.hid (bthen X2.out hb); clear hb) | (refine wpList_var rfl rfl 35 rfl _ _ rfl noTx.cells.toArray Tryz.zeroTx14 rfl noTx.cells (fun _ => rfl) (fun _ => rfl) rfl (PTx.one _) ?_; intro vj w4 hq hh hb; go_frame; have HVJ := Lib.hid hh; have X4 := Lib.hid (bthen X3.out hb); clear hq hh hb) | fail)
  go_wp2_with (first | (refine wpList_load_row rfl 27 _ rfl g rfl 27 c.cells.toArray (0, 0) _ (keep X4.out H1.out) Tryz.underlying27 rfl SZC.out ?_) | (refine wpList_load_row rfl 35 _ rfl g1 rfl 35 t.cells.toArray (0, 0) _ (keep X4.out H2.out) Tryz.underlying35 rfl SZT.out ?_) | (go_at_call 7; (with_reducible refine (HOW.out _ X4.out).mono ?_); rintro e w5 ⟨rfl, hb⟩; have X5 := Lib.hid (bthen X4.out hb); have HVJ5 := Lib.hid (keep hb HVJ.out); have cj : w5.cell? ⟨vj, 0, none⟩ = some (.slice none 0 0) := (range_cons (range_of (keep hb HVJ.out))).1; clear hb) | (go_at_call 5; (with_reducible refine (HAW.out _).mono ?_); rintro e w99 ⟨rfl, hb⟩; have XF := Lib.hid (bthen X5.out hb); clear hb) | fail)
  go_ret
  exact ⟨rfl, bthen HB1.out XF.out⟩
set_option linter.unusedSimpArgs false in
set_option maxRecDepth 100000 in
set_option maxHeartbeats 6400000 in
theorem builds15_tower {w : World} {c : PChan} {t : PTx} {pre : List UInt8} {z r f : Int} (hc : ChanIn c) (ht : TxIn w t) (hpl : pre.length = 32) (hrf : Fits r) (hff : Fits f) (hk : KsAt w) (hst : smallT t = true) (hcl : 0 ≤ c.client ∧ c.client ≤ 255 ∧ 0 ≤ c.peer ∧ c.peer ≤ 255) (hO : ownerP c t ≠ -1) (hz : z < -1 ∨ 15 < z) :
    Calls Tryz.prog 3 #[.agg c.cells.toArray, .agg t.cells.toArray, .agg (cellsOf pre).toArray, .int .i64 z, .agg #[.int .i64 r, .int .i64 f]] w fun e w' => e = .returned (.bool true) ∧ Below w.heap.size w w' := by
  have SZCl := Lib.hid (chan_size hc.ftx)
  have HAW := Lib.hid (fun (W : World) => awake15_of shares_code key_code W)
  have HC := Lib.hid hc
  have HT := Lib.hid ht
  have SZC := Lib.hid (chan_sizeA hc.ftx)
  have SZT := Lib.hid (tx_sizeA ht.op.root)
  have SZTl := Lib.hid (tx_size ht.op.root)
  have SZPA := Lib.hid (size_of hpl)
  have HPL := Lib.hid hpl
  have HK := Lib.hid hk
  have HRF := Lib.hid hrf
  have HFF := Lib.hid hff
  have HFT := Lib.hid (small_front15 ht hst).1
  have ea1 : decide (255 < c.client) = false := decide_eq_false (by omega)
  have ea2 : decide (c.client < 0) = false := decide_eq_false (by omega)
  have ea3 : decide (255 < c.peer) = false := decide_eq_false (by omega)
  have ea4 : decide (c.peer < 0) = false := decide_eq_false (by omega)
  have HSM : Hid (∀ W : World, Below w.heap.size w W → Calls Tryz.prog 4 #[.agg t.cells.toArray] W fun e w' => e = .returned (.int .i64 0) ∧ Below W.heap.size W w') := Lib.hid (fun W hW => by have h9 := small8_law (HT.out.below hW); rw [hst] at h9; exact h9)
  clear hc ht hk hpl hrf hff hst hcl
  go_enter Tryz.func3, Tryz.ntmps3
  go_upto_region 1 with (fail)
  obtain ⟨w1, g1, g2, g3, hw1, hg1, hg2, hg3, hb1, h1, h2, h3, h4⟩ := four_boxes15 w c.cells.toArray t.cells.toArray (cellsOf pre).toArray #[.int .i64 r, .int .i64 f] 27 35 23 37
  rw [← hw1, ← hg3, ← hg2, ← hg1]
  have hn3 : w.heap.size ≤ g3 := by omega
  obtain ⟨g, hg⟩ : ∃ g, g = w.heap.size := ⟨_, rfl⟩
  rw [← hg] at h1 ⊢
  have HB1 := Lib.hid hb1
  have H1 := Lib.hid h1
  have H2 := Lib.hid h2
  have H3 := Lib.hid h3
  have H4 : Hid (w1.heap[g3]? = some (.cells (([.int .i64 r, .int .i64 f] : List Value)).toArray 37 (0, 0))) := Lib.hid h4
  have HN3 := Lib.hid hn3
  have HST := Lib.hid (fun (W : World) (hW : Below w1.heap.size w1 W) => HSM.out W (bthen HB1.out hW))
  clear hw1 hg1 hg2 hg3 hb1 h1 h2 h3 h4 hg hn3 HSM
  have HBD : Hid (∀ W : World, Below w1.heap.size w1 W → Calls Tryz.prog 6 #[.agg c.cells.toArray, .agg t.cells.toArray, .agg (cellsOf pre).toArray, .int .i64 z, .agg #[.int .i64 r, .int .i64 f]] W fun e w' => e = .returned (.tuple #[.agg noTx.cells.toArray, .int .i64 1]) ∧ Below W.heap.size W w') := Lib.hid fun W hW => build15_tower HC.out (HT.out.below (bthen HB1.out hW)) hO hz
  obtain ⟨O, hOv⟩ : ∃ O, ownerP c t = O := ⟨_, rfl⟩
  have HOW : Hid (∀ W : World, Below w1.heap.size w1 W → Calls Tryz.prog 7 #[.agg c.cells.toArray, .agg t.cells.toArray] W fun e w' => e = .returned (.int .i64 O) ∧ Below W.heap.size W w') := Lib.hid fun W hW => by rw [← hOv]; exact owner_any HC.out (HT.out.below (bthen HB1.out hW))
  have eO : decide (O < 0) = false := by rcases ownerP_cases c t with e | ⟨k, _, e, _⟩; exact absurd e hO; exact decide_eq_false (by omega)
  clear hOv hO
  go_upto_region 3 with (first | (refine wpList_load_row rfl 35 _ rfl g1 rfl 35 t.cells.toArray (0, 0) _ H2.out Tryz.underlying35 rfl SZT.out ?_) | (go_at_call 4; (with_reducible refine (HST.out _ (Below.refl _ _)).mono ?_); rintro e w2 ⟨rfl, hb⟩; have X2 := Lib.hid hb; have c1 := (chan_at HC.out.ftx (range_of (keep X2.out H1.out))).client; have c2 := (chan_at HC.out.ftx (range_of (keep X2.out H1.out))).peer; rw [Nat.zero_add] at c1 c2; clear hb) | fail)
  clear c1 c2 ea1 ea2 ea3 ea4
  go_upto_region 4 with (first | (refine wpList_load_row rfl 27 _ rfl g rfl 27 c.cells.toArray (0, 0) _ (keep X2.out H1.out) Tryz.underlying27 rfl SZC.out ?_) | (refine wpList_load_row rfl 35 _ rfl g1 rfl 35 t.cells.toArray (0, 0) _ (keep X2.out H2.out) Tryz.underlying35 rfl SZT.out ?_) | (refine wpList_load_row rfl 23 _ rfl g2 rfl 23 (cellsOf pre).toArray (0, 0) _ (keep X2.out H3.out) Tryz.underlying23 rfl SZPA.out ?_) | (refine wpList_load_row rfl 37 _ rfl g3 rfl 37 ([.int .i64 r, .int .i64 f] : List Value).toArray (0, 0) _ (keep X2.out H4.out) Tryz.underlying37 rfl (by kernel_rfl) ?_) | (go_at_call 6; (with_reducible refine (HBD.out _ X2.out).mono ?_); rintro e w3 ⟨rfl, hb⟩; have X3 := Lib.hid (bthen X2.out hb); clear hb) | (refine wpList_var rfl rfl 35 rfl _ _ rfl noTx.cells.toArray Tryz.zeroTx14 rfl noTx.cells (fun _ => rfl) (fun _ => rfl) rfl (PTx.one _) ?_; intro vj w4 hq hh hb; go_frame; have HVJ := Lib.hid hh; have X4 := Lib.hid (bthen X3.out hb); clear hq hh hb) | fail)
  by_cases q0 : z < -1
  · have e0 : decide (z < -1) = true := decide_eq_true q0
    go_wp2_with (first | (refine wpList_load_row rfl 27 _ rfl g rfl 27 c.cells.toArray (0, 0) _ (keep X4.out H1.out) Tryz.underlying27 rfl SZC.out ?_) | (refine wpList_load_row rfl 35 _ rfl g1 rfl 35 t.cells.toArray (0, 0) _ (keep X4.out H2.out) Tryz.underlying35 rfl SZT.out ?_) | (go_at_call 7; (with_reducible refine (HOW.out _ X4.out).mono ?_); rintro e w5 ⟨rfl, hb⟩; have X5 := Lib.hid (bthen X4.out hb); have HVJ5 := Lib.hid (keep hb HVJ.out); have cj : w5.cell? ⟨vj, 0, none⟩ = some (.slice none 0 0) := (range_cons (range_of (keep hb HVJ.out))).1; clear hb) | (go_at_call 5; (with_reducible refine (HAW.out _).mono ?_); rintro e w99 ⟨rfl, hb⟩; have XF := Lib.hid (bthen X5.out hb); clear hb) | fail)
    go_ret
    exact ⟨rfl, bthen HB1.out XF.out⟩
  · have e0 : decide (z < -1) = false := decide_eq_false q0
    have e1 : decide (15 < z) = true := decide_eq_true (by omega)
    go_wp2_with (first | (refine wpList_load_row rfl 27 _ rfl g rfl 27 c.cells.toArray (0, 0) _ (keep X4.out H1.out) Tryz.underlying27 rfl SZC.out ?_) | (refine wpList_load_row rfl 35 _ rfl g1 rfl 35 t.cells.toArray (0, 0) _ (keep X4.out H2.out) Tryz.underlying35 rfl SZT.out ?_) | (go_at_call 7; (with_reducible refine (HOW.out _ X4.out).mono ?_); rintro e w5 ⟨rfl, hb⟩; have X5 := Lib.hid (bthen X4.out hb); have HVJ5 := Lib.hid (keep hb HVJ.out); have cj : w5.cell? ⟨vj, 0, none⟩ = some (.slice none 0 0) := (range_cons (range_of (keep hb HVJ.out))).1; clear hb) | (go_at_call 5; (with_reducible refine (HAW.out _).mono ?_); rintro e w99 ⟨rfl, hb⟩; have XF := Lib.hid (bthen X5.out hb); clear hb) | fail)
    go_ret
    exact ⟨rfl, bthen HB1.out XF.out⟩
set_option linter.unusedSimpArgs false in
set_option maxRecDepth 100000 in
set_option maxHeartbeats 6400000 in
theorem builds15_hash {w : World} {c : PChan} {t : PTx} {pre : List UInt8} {z r f : Int} {m k : Int} {b o b2 o2 wk : Nat} {u0 u1 : PWay} {x1 : POut} (hc : ChanIn c) (ht : TxIn w t) (hpl : pre.length = 32) (hrf : Fits r) (hff : Fits f) (hk : KsAt w) (hst : smallT t = true) (hcl : 0 ≤ c.client ∧ c.client ≤ 255 ∧ 0 ≤ c.peer ∧ c.peer ≤ 255) (hO : ownerP c t ≠ -1) (z0 : -1 ≤ z) (z1 : z ≤ 15) (hp : PartAt w t m k b o b2 o2 wk u0 u1 x1) (hh : shownSum pre ≠ u1.h) :
    Calls Tryz.prog 3 #[.agg c.cells.toArray, .agg t.cells.toArray, .agg (cellsOf pre).toArray, .int .i64 z, .agg #[.int .i64 r, .int .i64 f]] w fun e w' => e = .returned (.bool true) ∧ Below w.heap.size w w' := by
  have SZCl := Lib.hid (chan_size hc.ftx)
  have HAW := Lib.hid (fun (W : World) => awake15_of shares_code key_code W)
  have HC := Lib.hid hc
  have HT := Lib.hid ht
  have SZC := Lib.hid (chan_sizeA hc.ftx)
  have SZT := Lib.hid (tx_sizeA ht.op.root)
  have SZTl := Lib.hid (tx_size ht.op.root)
  have SZPA := Lib.hid (size_of hpl)
  have HPL := Lib.hid hpl
  have HK := Lib.hid hk
  have HRF := Lib.hid hrf
  have HFF := Lib.hid hff
  have HFT := Lib.hid (small_front15 ht hst).1
  have ea1 : decide (255 < c.client) = false := decide_eq_false (by omega)
  have ea2 : decide (c.client < 0) = false := decide_eq_false (by omega)
  have ea3 : decide (255 < c.peer) = false := decide_eq_false (by omega)
  have ea4 : decide (c.peer < 0) = false := decide_eq_false (by omega)
  have HP := Lib.hid hp
  have HZ0 := Lib.hid z0
  have HZ1 := Lib.hid z1
  have HH := Lib.hid hh
  have HON := Lib.hid hO
  have HSM : Hid (∀ W : World, Below w.heap.size w W → Calls Tryz.prog 4 #[.agg t.cells.toArray] W fun e w' => e = .returned (.int .i64 0) ∧ Below W.heap.size W w') := Lib.hid (fun W hW => by have h9 := small8_law (HT.out.below hW); rw [hst] at h9; exact h9)
  clear hc ht hk hpl hrf hff hst hcl hp hh z0 z1
  go_enter Tryz.func3, Tryz.ntmps3
  go_upto_region 1 with (fail)
  obtain ⟨w1, g1, g2, g3, hw1, hg1, hg2, hg3, hb1, h1, h2, h3, h4⟩ := four_boxes15 w c.cells.toArray t.cells.toArray (cellsOf pre).toArray #[.int .i64 r, .int .i64 f] 27 35 23 37
  rw [← hw1, ← hg3, ← hg2, ← hg1]
  have hn3 : w.heap.size ≤ g3 := by omega
  obtain ⟨g, hg⟩ : ∃ g, g = w.heap.size := ⟨_, rfl⟩
  rw [← hg] at h1 ⊢
  have HB1 := Lib.hid hb1
  have H1 := Lib.hid h1
  have H2 := Lib.hid h2
  have H3 := Lib.hid h3
  have H4 : Hid (w1.heap[g3]? = some (.cells (([.int .i64 r, .int .i64 f] : List Value)).toArray 37 (0, 0))) := Lib.hid h4
  have HN3 := Lib.hid hn3
  have HST := Lib.hid (fun (W : World) (hW : Below w1.heap.size w1 W) => HSM.out W (bthen HB1.out hW))
  clear hw1 hg1 hg2 hg3 hb1 h1 h2 h3 h4 hg hn3 HSM
  have HBD : Hid (∀ W : World, Below w1.heap.size w1 W → Calls Tryz.prog 6 #[.agg c.cells.toArray, .agg t.cells.toArray, .agg (cellsOf pre).toArray, .int .i64 z, .agg #[.int .i64 r, .int .i64 f]] W fun e w' => e = .returned (.tuple #[.agg noTx.cells.toArray, .int .i64 16]) ∧ Below W.heap.size W w') := Lib.hid fun W hW => (build15_at HC.out (HT.out.below (bthen HB1.out hW)) (HK.out.below (bthen HB1.out hW)) HFT.out HPL.out HRF.out HFF.out (HP.out.below (bthen HB1.out hW)) hO HZ0.out HZ1.out).mono fun e w9 ⟨h8, h9⟩ => ⟨by unfold builtR at h8; rw [if_neg HH.out] at h8; exact h8, h9⟩
  obtain ⟨O, hOv⟩ : ∃ O, ownerP c t = O := ⟨_, rfl⟩
  have HOW : Hid (∀ W : World, Below w1.heap.size w1 W → Calls Tryz.prog 7 #[.agg c.cells.toArray, .agg t.cells.toArray] W fun e w' => e = .returned (.int .i64 O) ∧ Below W.heap.size W w') := Lib.hid fun W hW => by rw [← hOv]; exact owner_any HC.out (HT.out.below (bthen HB1.out hW))
  have eO : decide (O < 0) = false := by rcases ownerP_cases c t with e | ⟨k, _, e, _⟩; exact absurd e hO; exact decide_eq_false (by omega)
  clear hOv hO
  go_upto_region 3 with (first | (refine wpList_load_row rfl 35 _ rfl g1 rfl 35 t.cells.toArray (0, 0) _ H2.out Tryz.underlying35 rfl SZT.out ?_) | (go_at_call 4; (with_reducible refine (HST.out _ (Below.refl _ _)).mono ?_); rintro e w2 ⟨rfl, hb⟩; have X2 := Lib.hid hb; have c1 := (chan_at HC.out.ftx (range_of (keep X2.out H1.out))).client; have c2 := (chan_at HC.out.ftx (range_of (keep X2.out H1.out))).peer; rw [Nat.zero_add] at c1 c2; clear hb) | fail)
  clear c1 c2 ea1 ea2 ea3 ea4
  go_upto_region 4 with (first | (refine wpList_load_row rfl 27 _ rfl g rfl 27 c.cells.toArray (0, 0) _ (keep X2.out H1.out) Tryz.underlying27 rfl SZC.out ?_) | (refine wpList_load_row rfl 35 _ rfl g1 rfl 35 t.cells.toArray (0, 0) _ (keep X2.out H2.out) Tryz.underlying35 rfl SZT.out ?_) | (refine wpList_load_row rfl 23 _ rfl g2 rfl 23 (cellsOf pre).toArray (0, 0) _ (keep X2.out H3.out) Tryz.underlying23 rfl SZPA.out ?_) | (refine wpList_load_row rfl 37 _ rfl g3 rfl 37 ([.int .i64 r, .int .i64 f] : List Value).toArray (0, 0) _ (keep X2.out H4.out) Tryz.underlying37 rfl (by kernel_rfl) ?_) | (go_at_call 6; (with_reducible refine (HBD.out _ X2.out).mono ?_); rintro e w3 ⟨rfl, hb⟩; have X3 := Lib.hid (bthen X2.out hb); clear hb) | (refine wpList_var rfl rfl 35 rfl _ _ rfl noTx.cells.toArray Tryz.zeroTx14 rfl noTx.cells (fun _ => rfl) (fun _ => rfl) rfl (PTx.one _) ?_; intro vj w4 hq hh hb; go_frame; have HVJ := Lib.hid hh; have X4 := Lib.hid (bthen X3.out hb); clear hq hh hb) | fail)
  have e0 : decide (z < -1) = false := decide_eq_false (by have h9 := HZ0.out; omega)
  have e1 : decide (15 < z) = false := decide_eq_false (by have h9 := HZ1.out; omega)
  go_upto_region 7 with (first | (refine wpList_load_row rfl 27 _ rfl g rfl 27 c.cells.toArray (0, 0) _ (keep X4.out H1.out) Tryz.underlying27 rfl SZC.out ?_) | (refine wpList_load_row rfl 35 _ rfl g1 rfl 35 t.cells.toArray (0, 0) _ (keep X4.out H2.out) Tryz.underlying35 rfl SZT.out ?_) | (go_at_call 7; (with_reducible refine (HOW.out _ X4.out).mono ?_); rintro e w5 ⟨rfl, hb⟩; have X5 := Lib.hid (bthen X4.out hb); have HVJ5 := Lib.hid (keep hb HVJ.out); clear hb) | fail)
  have co : w5.cell? ⟨g1, 1, none⟩ = some (.slice (some ⟨b, o, none⟩) 2 t.oc) := by have h9 := tx_outs (range_of (keep X5.out H2.out)); rw [Nat.zero_add, HP.out.oa, HP.out.on] at h9; exact h9
  have HP5 := Lib.hid (HP.out.below (bthen HB1.out X5.out))
  have cw : w5.cell? ⟨b, o + 1, none⟩ = some (.slice (some ⟨b2, o2, none⟩) 2 wk) := (range_cons (range_cons HP5.out.out).2).1
  have cy : w5.cell? ⟨b2, o2 + 35, none⟩ = some (.slice u1.a 1 u1.c) := by have h9 := (range_cons HP5.out.at2).1; rw [HP.out.kn] at h9; exact h9
  have RW := Lib.hid HP5.out.at2
  have SZU := Lib.hid (way_size HP.out.way.sum)
  have ZW : Hid (u1.cells.length = 35) := Lib.hid (PWay.cells_len HP.out.way.sum)
  go_upto_region 10 with (first | (refine wpList_load_mid rfl 49 _ rfl b2 (o2 + 35) rfl u1.cells _ RW.out Tryz.underlying49 rfl SZU.out ?_) | (refine wpList_var rfl rfl 49 rfl _ _ rfl noWay.cells.toArray Tryz.zeroWay14 rfl u1.cells (fun _ => rfl) (fun _ => rfl) ZW.out (PWay.cells_one _) ?_; intro v w6 hq hh hb; go_frame; have HV := Lib.hid hh; have X6 := Lib.hid (bthen X5.out hb); have HVJ6 := Lib.hid (keep hb HVJ5.out); clear hq hh hb) | fail)
  clear co cw cy RW
  obtain ⟨S, hS⟩ : ∃ S, shownSum pre = S := ⟨_, rfl⟩
  have SHN : Hid (S.length = 32) := Lib.hid (by rw [← hS]; exact shownSum_len pre)
  have HHA : Hid (∀ (W : World) (gp : Nat) (ty : TypeId) (fr : Nat × Nat), Below w1.heap.size w1 W → W.heap[gp]? = some (.cells (cellsOf pre).toArray ty fr) → Calls Tryz.prog 8 #[.slice (some ⟨gp, 0, none⟩) 32 32] W fun e w' => e = .returned (.agg (cellsOf S).toArray) ∧ Below W.heap.size W w') := Lib.hid fun W gp ty fr hW hg => by rw [← hS]; exact hash_any (row_block15 hg HPL.out (by omega)) (HK.out.below (bthen HB1.out hW)) (by omega)
  have SZUh : Hid ((Tryz.prog.info? 23).map (·.size) = some (cellsOf u1.h).length) := Lib.hid (by rw [cellsOf_len, HP.out.way.sum]; exact Tryz.size23)
  have HHE : Hid (decide (S = u1.h) = false) := Lib.hid (by rw [← hS]; exact decide_eq_false HH.out)
  have qs : ∀ W : World, (Op.equalIn 10000 23 (.agg (cellsOf S).toArray) (.agg (cellsOf u1.h).toArray)).run Tryz.prog W = .ok false W := fun W => by rw [run_eqSums _ _ SHN.out HP.out.way.sum W, HHE.out]
  clear hS
  refine wp_region_held_drew (S := fun w' => Below w6.heap.size w6 w') (by kernel_rfl) (below_drew (Below.refl _ _)) (fun hHeld => ?_)
  refine take_at (i := 0) (v := ?_) rfl rfl (by kernel_rfl) (by kernel_rfl) (by kernel_rfl) (fun _ _ _ h => h) (Or.inl ⟨by rfl, ?_⟩) (by assumption) ?_
  rotate_left
  · intro w0 hSw; (try dsimp only at hSw); first | (go_simp; done) | (go_simp; with_reducible rfl)
  simp only [nrmA, nrmB, nrmC]
  refine take_at (i := 2) (v := ?_) rfl rfl (by kernel_rfl) (by kernel_rfl) (by kernel_rfl) (fun _ _ _ h => h) (Or.inl ⟨by rfl, ?_⟩) (by assumption) ?_
  rotate_left
  · intro w0 hSw; (try dsimp only at hSw); first | (go_simp; done) | (go_simp; with_reducible rfl)
  simp only [nrmA, nrmB, nrmC]
  refine take_at (i := 3) rfl rfl (by kernel_rfl) (by kernel_rfl) (by kernel_rfl) (fun _ _ _ h => h) (yieldsIf_load_mid (by rfl) _ _ rfl v 1 rfl (cellsOf u1.h) _ (fun w0 hSw => (range_append (range_cons (range_of (keep hSw HV.out))).2).1) Tryz.underlying23 rfl SZUh.out) (by assumption) ?_
  simp only [nrmA, nrmB, nrmC]
  refine wpAnyH_ready (rs := [1]) (by kernel_rfl) (by simp) ?_
  refine AllReadyH.cons rfl (fun K hK => ?_) ?_
  · have HCx := Lib.hid (HHA.out _ g2 _ _ (bthen X6.out hHeld) (keep hHeld (keep X6.out H3.out)))
    go_simp
    go_wp2_with ((go_at_call 8; (with_reducible refine (HCx.out).mono ?_); rintro e y1 ⟨rfl, hb⟩; have HX := Lib.hid (bthen hHeld hb); clear hb HCx))
    refine hK.out _ _ (by (try dsimp only); exact HX.out) (fun hHeld => ?_)
    clear hK K
    refine take_at (i := 4) (v := .bool true) rfl rfl (by kernel_rfl) (by kernel_rfl) (by kernel_rfl) (fun _ _ _ h => h) (Or.inl ⟨by rfl, ?_⟩) (by assumption) ?_
    · intro w0 hSw; (try dsimp only at hSw); first | (go_simp; done) | (go_simp; with_reducible rfl) | (go_simp; omega)
    simp only [nrmA, nrmB, nrmC]
    refine wpAnyH_done (by kernel_rfl) ?_ _
    clear hHeld
    have X7 := Lib.hid (bthen X6.out HX.out)
    have cj : y1.cell? ⟨vj, 0, none⟩ = some (.slice none 0 0) := (range_cons (range_of (keep HX.out HVJ6.out))).1
    go_wp2_with (first | (go_at_call 5; (with_reducible refine (HAW.out _).mono ?_); rintro e w99 ⟨rfl, hb⟩; have XF := Lib.hid (bthen X7.out hb); clear hb) | fail)
    go_ret
    exact ⟨rfl, bthen HB1.out XF.out⟩
  exact AllReadyH.nil
set_option linter.unusedSimpArgs false in
set_option maxRecDepth 100000 in
set_option maxHeartbeats 6400000 in
theorem builds15_shares {w : World} {c : PChan} {t : PTx} {pre : List UInt8} {z r f : Int} {m k : Int} {b o b2 o2 wk : Nat} {u0 u1 : PWay} {x1 : POut} (hc : ChanIn c) (ht : TxIn w t) (hpl : pre.length = 32) (hrf : Fits r) (hff : Fits f) (hk : KsAt w) (hst : smallT t = true) (hcl : 0 ≤ c.client ∧ c.client ≤ 255 ∧ 0 ≤ c.peer ∧ c.peer ≤ 255) (hO : ownerP c t ≠ -1) (z0 : -1 ≤ z) (z1 : z ≤ 15) (hp : PartAt w t m k b o b2 o2 wk u0 u1 x1) (hh : shownSum pre = u1.h) (hsh : sharesOk m (askP z r) f = false) :
    Calls Tryz.prog 3 #[.agg c.cells.toArray, .agg t.cells.toArray, .agg (cellsOf pre).toArray, .int .i64 z, .agg #[.int .i64 r, .int .i64 f]] w fun e w' => e = .returned (.bool true) ∧ Below w.heap.size w w' := by
  have SZCl := Lib.hid (chan_size hc.ftx)
  have HAW := Lib.hid (fun (W : World) => awake15_of shares_code key_code W)
  have HC := Lib.hid hc
  have HT := Lib.hid ht
  have SZC := Lib.hid (chan_sizeA hc.ftx)
  have SZT := Lib.hid (tx_sizeA ht.op.root)
  have SZTl := Lib.hid (tx_size ht.op.root)
  have SZPA := Lib.hid (size_of hpl)
  have HPL := Lib.hid hpl
  have HK := Lib.hid hk
  have HRF := Lib.hid hrf
  have HFF := Lib.hid hff
  have HFT := Lib.hid (small_front15 ht hst).1
  have ea1 : decide (255 < c.client) = false := decide_eq_false (by omega)
  have ea2 : decide (c.client < 0) = false := decide_eq_false (by omega)
  have ea3 : decide (255 < c.peer) = false := decide_eq_false (by omega)
  have ea4 : decide (c.peer < 0) = false := decide_eq_false (by omega)
  have HP := Lib.hid hp
  have HZ0 := Lib.hid z0
  have HZ1 := Lib.hid z1
  have HH := Lib.hid hh
  have HON := Lib.hid hO
  have HSHV := Lib.hid hsh
  have HSM : Hid (∀ W : World, Below w.heap.size w W → Calls Tryz.prog 4 #[.agg t.cells.toArray] W fun e w' => e = .returned (.int .i64 0) ∧ Below W.heap.size W w') := Lib.hid (fun W hW => by have h9 := small8_law (HT.out.below hW); rw [hst] at h9; exact h9)
  clear hc ht hk hpl hrf hff hst hcl hp hh z0 z1 hsh
  go_enter Tryz.func3, Tryz.ntmps3
  go_upto_region 1 with (fail)
  obtain ⟨w1, g1, g2, g3, hw1, hg1, hg2, hg3, hb1, h1, h2, h3, h4⟩ := four_boxes15 w c.cells.toArray t.cells.toArray (cellsOf pre).toArray #[.int .i64 r, .int .i64 f] 27 35 23 37
  rw [← hw1, ← hg3, ← hg2, ← hg1]
  have hn3 : w.heap.size ≤ g3 := by omega
  obtain ⟨g, hg⟩ : ∃ g, g = w.heap.size := ⟨_, rfl⟩
  rw [← hg] at h1 ⊢
  have HB1 := Lib.hid hb1
  have H1 := Lib.hid h1
  have H2 := Lib.hid h2
  have H3 := Lib.hid h3
  have H4 : Hid (w1.heap[g3]? = some (.cells (([.int .i64 r, .int .i64 f] : List Value)).toArray 37 (0, 0))) := Lib.hid h4
  have HN3 := Lib.hid hn3
  have HST := Lib.hid (fun (W : World) (hW : Below w1.heap.size w1 W) => HSM.out W (bthen HB1.out hW))
  clear hw1 hg1 hg2 hg3 hb1 h1 h2 h3 h4 hg hn3 HSM
  have HBD : Hid (∀ W : World, Below w1.heap.size w1 W → Calls Tryz.prog 6 #[.agg c.cells.toArray, .agg t.cells.toArray, .agg (cellsOf pre).toArray, .int .i64 z, .agg #[.int .i64 r, .int .i64 f]] W fun e w' => e = .returned (.tuple #[.agg noTx.cells.toArray, .int .i64 1]) ∧ Below W.heap.size W w') := Lib.hid fun W hW => (build15_at HC.out (HT.out.below (bthen HB1.out hW)) (HK.out.below (bthen HB1.out hW)) HFT.out HPL.out HRF.out HFF.out (HP.out.below (bthen HB1.out hW)) hO HZ0.out HZ1.out).mono fun e w9 ⟨h8, h9⟩ => ⟨by unfold builtR at h8; rw [if_pos HH.out, HSHV.out] at h8; exact h8, h9⟩
  obtain ⟨O, hOv⟩ : ∃ O, ownerP c t = O := ⟨_, rfl⟩
  have HOW : Hid (∀ W : World, Below w1.heap.size w1 W → Calls Tryz.prog 7 #[.agg c.cells.toArray, .agg t.cells.toArray] W fun e w' => e = .returned (.int .i64 O) ∧ Below W.heap.size W w') := Lib.hid fun W hW => by rw [← hOv]; exact owner_any HC.out (HT.out.below (bthen HB1.out hW))
  have eO : decide (O < 0) = false := by rcases ownerP_cases c t with e | ⟨k, _, e, _⟩; exact absurd e hO; exact decide_eq_false (by omega)
  clear hOv hO
  go_upto_region 3 with (first | (refine wpList_load_row rfl 35 _ rfl g1 rfl 35 t.cells.toArray (0, 0) _ H2.out Tryz.underlying35 rfl SZT.out ?_) | (go_at_call 4; (with_reducible refine (HST.out _ (Below.refl _ _)).mono ?_); rintro e w2 ⟨rfl, hb⟩; have X2 := Lib.hid hb; have c1 := (chan_at HC.out.ftx (range_of (keep X2.out H1.out))).client; have c2 := (chan_at HC.out.ftx (range_of (keep X2.out H1.out))).peer; rw [Nat.zero_add] at c1 c2; clear hb) | fail)
  clear c1 c2 ea1 ea2 ea3 ea4
  go_upto_region 4 with (first | (refine wpList_load_row rfl 27 _ rfl g rfl 27 c.cells.toArray (0, 0) _ (keep X2.out H1.out) Tryz.underlying27 rfl SZC.out ?_) | (refine wpList_load_row rfl 35 _ rfl g1 rfl 35 t.cells.toArray (0, 0) _ (keep X2.out H2.out) Tryz.underlying35 rfl SZT.out ?_) | (refine wpList_load_row rfl 23 _ rfl g2 rfl 23 (cellsOf pre).toArray (0, 0) _ (keep X2.out H3.out) Tryz.underlying23 rfl SZPA.out ?_) | (refine wpList_load_row rfl 37 _ rfl g3 rfl 37 ([.int .i64 r, .int .i64 f] : List Value).toArray (0, 0) _ (keep X2.out H4.out) Tryz.underlying37 rfl (by kernel_rfl) ?_) | (go_at_call 6; (with_reducible refine (HBD.out _ X2.out).mono ?_); rintro e w3 ⟨rfl, hb⟩; have X3 := Lib.hid (bthen X2.out hb); clear hb) | (refine wpList_var rfl rfl 35 rfl _ _ rfl noTx.cells.toArray Tryz.zeroTx14 rfl noTx.cells (fun _ => rfl) (fun _ => rfl) rfl (PTx.one _) ?_; intro vj w4 hq hh hb; go_frame; have HVJ := Lib.hid hh; have X4 := Lib.hid (bthen X3.out hb); clear hq hh hb) | fail)
  have e0 : decide (z < -1) = false := decide_eq_false (by have h9 := HZ0.out; omega)
  have e1 : decide (15 < z) = false := decide_eq_false (by have h9 := HZ1.out; omega)
  go_upto_region 7 with (first | (refine wpList_load_row rfl 27 _ rfl g rfl 27 c.cells.toArray (0, 0) _ (keep X4.out H1.out) Tryz.underlying27 rfl SZC.out ?_) | (refine wpList_load_row rfl 35 _ rfl g1 rfl 35 t.cells.toArray (0, 0) _ (keep X4.out H2.out) Tryz.underlying35 rfl SZT.out ?_) | (go_at_call 7; (with_reducible refine (HOW.out _ X4.out).mono ?_); rintro e w5 ⟨rfl, hb⟩; have X5 := Lib.hid (bthen X4.out hb); have HVJ5 := Lib.hid (keep hb HVJ.out); clear hb) | fail)
  have co : w5.cell? ⟨g1, 1, none⟩ = some (.slice (some ⟨b, o, none⟩) 2 t.oc) := by have h9 := tx_outs (range_of (keep X5.out H2.out)); rw [Nat.zero_add, HP.out.oa, HP.out.on] at h9; exact h9
  have HP5 := Lib.hid (HP.out.below (bthen HB1.out X5.out))
  have cw : w5.cell? ⟨b, o + 1, none⟩ = some (.slice (some ⟨b2, o2, none⟩) 2 wk) := (range_cons (range_cons HP5.out.out).2).1
  have cy : w5.cell? ⟨b2, o2 + 35, none⟩ = some (.slice u1.a 1 u1.c) := by have h9 := (range_cons HP5.out.at2).1; rw [HP.out.kn] at h9; exact h9
  have RW := Lib.hid HP5.out.at2
  have SZU := Lib.hid (way_size HP.out.way.sum)
  have ZW : Hid (u1.cells.length = 35) := Lib.hid (PWay.cells_len HP.out.way.sum)
  go_upto_region 10 with (first | (refine wpList_load_mid rfl 49 _ rfl b2 (o2 + 35) rfl u1.cells _ RW.out Tryz.underlying49 rfl SZU.out ?_) | (refine wpList_var rfl rfl 49 rfl _ _ rfl noWay.cells.toArray Tryz.zeroWay14 rfl u1.cells (fun _ => rfl) (fun _ => rfl) ZW.out (PWay.cells_one _) ?_; intro v w6 hq hh hb; go_frame; have HV := Lib.hid hh; have X6 := Lib.hid (bthen X5.out hb); have HVJ6 := Lib.hid (keep hb HVJ5.out); clear hq hh hb) | fail)
  clear co cw cy RW
  obtain ⟨S, hS⟩ : ∃ S, shownSum pre = S := ⟨_, rfl⟩
  have SHN : Hid (S.length = 32) := Lib.hid (by rw [← hS]; exact shownSum_len pre)
  have HHA : Hid (∀ (W : World) (gp : Nat) (ty : TypeId) (fr : Nat × Nat), Below w1.heap.size w1 W → W.heap[gp]? = some (.cells (cellsOf pre).toArray ty fr) → Calls Tryz.prog 8 #[.slice (some ⟨gp, 0, none⟩) 32 32] W fun e w' => e = .returned (.agg (cellsOf S).toArray) ∧ Below W.heap.size W w') := Lib.hid fun W gp ty fr hW hg => by rw [← hS]; exact hash_any (row_block15 hg HPL.out (by omega)) (HK.out.below (bthen HB1.out hW)) (by omega)
  have SZUh : Hid ((Tryz.prog.info? 23).map (·.size) = some (cellsOf u1.h).length) := Lib.hid (by rw [cellsOf_len, HP.out.way.sum]; exact Tryz.size23)
  have HHE : Hid (decide (S = u1.h) = true) := Lib.hid (by rw [← hS]; exact decide_eq_true HH.out)
  have qs : ∀ W : World, (Op.equalIn 10000 23 (.agg (cellsOf S).toArray) (.agg (cellsOf u1.h).toArray)).run Tryz.prog W = .ok true W := fun W => by rw [run_eqSums _ _ SHN.out HP.out.way.sum W, HHE.out]
  clear hS
  refine wp_region_held_drew (S := fun w' => Below w6.heap.size w6 w') (by kernel_rfl) (below_drew (Below.refl _ _)) (fun hHeld => ?_)
  refine take_at (i := 0) (v := ?_) rfl rfl (by kernel_rfl) (by kernel_rfl) (by kernel_rfl) (fun _ _ _ h => h) (Or.inl ⟨by rfl, ?_⟩) (by assumption) ?_
  rotate_left
  · intro w0 hSw; (try dsimp only at hSw); first | (go_simp; done) | (go_simp; with_reducible rfl)
  simp only [nrmA, nrmB, nrmC]
  refine take_at (i := 2) (v := ?_) rfl rfl (by kernel_rfl) (by kernel_rfl) (by kernel_rfl) (fun _ _ _ h => h) (Or.inl ⟨by rfl, ?_⟩) (by assumption) ?_
  rotate_left
  · intro w0 hSw; (try dsimp only at hSw); first | (go_simp; done) | (go_simp; with_reducible rfl)
  simp only [nrmA, nrmB, nrmC]
  refine take_at (i := 3) rfl rfl (by kernel_rfl) (by kernel_rfl) (by kernel_rfl) (fun _ _ _ h => h) (yieldsIf_load_mid (by rfl) _ _ rfl v 1 rfl (cellsOf u1.h) _ (fun w0 hSw => (range_append (range_cons (range_of (keep hSw HV.out))).2).1) Tryz.underlying23 rfl SZUh.out) (by assumption) ?_
  simp only [nrmA, nrmB, nrmC]
  refine wpAnyH_ready (rs := [1]) (by kernel_rfl) (by simp) ?_
  refine AllReadyH.cons rfl (fun K hK => ?_) ?_
  · have HCx := Lib.hid (HHA.out _ g2 _ _ (bthen X6.out hHeld) (keep hHeld (keep X6.out H3.out)))
    go_simp
    go_wp2_with ((go_at_call 8; (with_reducible refine (HCx.out).mono ?_); rintro e y1 ⟨rfl, hb⟩; have HX := Lib.hid (bthen hHeld hb); clear hb HCx))
    refine hK.out _ _ (by (try dsimp only); exact HX.out) (fun hHeld => ?_)
    clear hK K
    refine take_at (i := 4) (v := .bool false) rfl rfl (by kernel_rfl) (by kernel_rfl) (by kernel_rfl) (fun _ _ _ h => h) (Or.inl ⟨by rfl, ?_⟩) (by assumption) ?_
    · intro w0 hSw; (try dsimp only at hSw); first | (go_simp; done) | (go_simp; with_reducible rfl) | (go_simp; omega)
    simp only [nrmA, nrmB, nrmC]
    refine wpAnyH_done (by kernel_rfl) ?_ _
    clear hHeld
    have X7 := Lib.hid (bthen X6.out HX.out)
    have HV7 := Lib.hid (keep HX.out HV.out)
    have HVJ7 := Lib.hid (keep HX.out HVJ6.out)
    revert X7 HV7 HVJ7
    generalize y1 = w7
    intro X7 HV7 HVJ7
    obtain ⟨R, hR⟩ : ∃ R, askP z r = R := ⟨_, rfl⟩
    have HRV := Lib.hid hR
    clear hR
    go_upto_if 126 with (fail)
    go_cut [126] from 127 to 127 (fun _ w' => w'.heap[g3]? = some (.cells (([.int .i64 R, .int .i64 f] : List Value)).toArray 37 (0, 0)) ∧ But w7.heap.size g3 w7 w')
    case first =>
      by_cases hz : z = -1
      · have ez : (z == -1) = true := by simp [hz]
        obtain rfl : R = 0 := by rw [← HRV.out]; exact if_pos hz
        go_wp2_with (first | (refine wpList_field10 rfl 3 _ _ rfl g3 0 rfl (.int .i64 0) rfl 37 ([.int .i64 r, .int .i64 f] : List Value) (keep X7.out H4.out) (by simp) (by kernel_rfl) rfl ?_; intro w8 hh hb) | fail)
        go_meet
        exact ⟨hh, hb⟩
      · have ez : (z == -1) = false := by simp [hz]
        obtain rfl : R = r := by rw [← HRV.out]; exact if_neg hz
        go_wp2_with fail
        go_meet
        exact ⟨keep X7.out H4.out, But.refl _ _ _⟩
    case rest =>
      rename World => wd
      obtain ⟨hd4, hbut⟩ := hcut
      have hbd : Below w.heap.size w wd := But.in (bthen HB1.out X7.out) hbut HN3.out
      have HBD0 := Lib.hid hbd
      have HD4 := Lib.hid hd4
      have D1 := Lib.hid ((hbut.block g (lt_of_block (keep X7.out H1.out)) (ne_type15 (keep X7.out H1.out) (keep X7.out H4.out) (by decide))).trans (keep X7.out H1.out))
      have D2 := Lib.hid ((hbut.block g1 (lt_of_block (keep X7.out H2.out)) (ne_type15 (keep X7.out H2.out) (keep X7.out H4.out) (by decide))).trans (keep X7.out H2.out))
      have D3 := Lib.hid ((hbut.block g2 (lt_of_block (keep X7.out H3.out)) (ne_type15 (keep X7.out H3.out) (keep X7.out H4.out) (by decide))).trans (keep X7.out H3.out))
      have DV := Lib.hid ((hbut.block v (lt_of_block HV7.out) (ne_type15 HV7.out (keep X7.out H4.out) (by decide))).trans HV7.out)
      have DJ := Lib.hid ((hbut.block vj (lt_of_block HVJ7.out) (ne_type15 HVJ7.out (keep X7.out H4.out) (by decide))).trans HVJ7.out)
      have DP := Lib.hid (HP.out.below hbd)
      have DT := Lib.hid (HT.out.below hbd)
      have DK := Lib.hid (HK.out.below hbd)
      have SZD : Hid ((Tryz.prog.info? 37).map (·.size) = some (([.int .i64 R, .int .i64 f] : List Value)).length) := Lib.hid (by kernel_rfl)
      go_upto_region 14 with (fail)
      have CO : Hid (wd.cell? ⟨g1, 1, none⟩ = some (.slice (some ⟨b, o, none⟩) 2 t.oc)) := Lib.hid (by have h9 := tx_outs (range_of D2.out); rw [Nat.zero_add, HP.out.oa, HP.out.on] at h9; exact h9)
      have CM : Hid (wd.cell? ⟨b, o, none⟩ = some (.int .i64 m)) := Lib.hid ((range_cons DP.out.out).1)
      have hrR : Fits R := by rw [← HRV.out]; unfold askP; split; (constructor <;> decide); exact HRF.out
      have hq := of_decide_eq_false HSHV.out
      rw [HRV.out] at hq
      have HSH : Hid (∀ W : World, Calls Tryz.prog 9 #[.int .i64 m, .agg #[.int .i64 R, .int .i64 f]] W fun e w' => e = .returned (.tuple #[.int .i64 0, .int .i64 0, .int .i64 0, .int .i64 1]) ∧ Below W.heap.size W w') := Lib.hid fun W => by rw [← sharesV_bad (n := m) (r := R) (f := f) (by omega)]; exact shares_code W m R f HP.out.fit hrR HFF.out
      clear hq hrR
      refine wp_region_held_drew (S := fun w' => Below wd.heap.size wd w') (by kernel_rfl) (below_drew (Below.refl _ _)) (fun hHeld => ?_)
      refine take_at (i := 0) (v := ?_) rfl rfl (by kernel_rfl) (by kernel_rfl) (by kernel_rfl) (fun _ _ _ h => h) (Or.inl ⟨by rfl, ?_⟩) (by assumption) ?_
      rotate_left
      · intro w0 hSw; (try dsimp only at hSw); first | (go_simp; done) | (go_simp; with_reducible rfl)
      simp only [nrmA, nrmB, nrmC]
      refine take_at (i := 1) rfl rfl (by kernel_rfl) (by kernel_rfl) (by kernel_rfl) (fun _ _ _ h => h) (yields_cell (b := g1) (o := 1) (by rfl) rfl rfl (fun w0 hSw => (Below.cell hSw (p := ⟨g1, 1, none⟩) (lt_of_block D2.out)).trans CO.out) (fun w0 => Tryz.isAgg29 w0)) (by assumption) ?_
      simp only [nrmA, nrmB, nrmC]
      refine take_at (i := 2) (v := ?_) rfl rfl (by kernel_rfl) (by kernel_rfl) (by kernel_rfl) (fun _ _ _ h => h) (Or.inl ⟨by rfl, ?_⟩) (by assumption) ?_
      rotate_left
      · intro w0 hSw; (try dsimp only at hSw); first | (go_simp; done) | (go_simp; with_reducible rfl)
      simp only [nrmA, nrmB, nrmC]
      refine take_at (i := 3) (v := ?_) rfl rfl (by kernel_rfl) (by kernel_rfl) (by kernel_rfl) (fun _ _ _ h => h) (Or.inl ⟨by rfl, ?_⟩) (by assumption) ?_
      rotate_left
      · intro w0 hSw; (try dsimp only at hSw); first | (go_simp; done) | (go_simp; with_reducible rfl)
      simp only [nrmA, nrmB, nrmC]
      refine take_at (i := 4) rfl rfl (by kernel_rfl) (by kernel_rfl) (by kernel_rfl) (fun _ _ _ h => h) (yields_cell (b := b) (o := o) (by rfl) rfl rfl (fun w0 hSw => (Below.cell hSw (p := ⟨b, o, none⟩) DP.out.lb).trans CM.out) (fun w0 => Tryz.isAgg2 w0)) (by assumption) ?_
      simp only [nrmA, nrmB, nrmC]
      refine take_at (i := 5) rfl rfl (by kernel_rfl) (by kernel_rfl) (by kernel_rfl) (fun _ _ _ h => h) (yieldsIf_load_mid (by rfl) _ _ rfl g3 0 rfl ([.int .i64 R, .int .i64 f] : List Value) _ (fun w0 hSw => range_of (keep hSw HD4.out)) Tryz.underlying37 rfl SZD.out) (by assumption) ?_
      simp only [nrmA, nrmB, nrmC]
      refine wpAnyH_ready (rs := [6]) (by kernel_rfl) (by simp) ?_
      refine AllReadyH.cons rfl (fun K hK => ?_) ?_
      · have HCx := Lib.hid (HSH.out wd.drew)
        go_simp
        go_wp2_with ((go_at_call 9; (with_reducible refine (HCx.out).mono ?_); rintro e y1 ⟨rfl, hb⟩; have HX := Lib.hid (bthen hHeld hb); clear hb HCx))
        refine hK.out _ _ (by (try dsimp only); exact HX.out) (fun hHeld => ?_)
        clear hK K
        refine take_at (i := 7) (v := ?_) rfl rfl (by kernel_rfl) (by kernel_rfl) (by kernel_rfl) (fun _ _ _ h => h) (Or.inl ⟨by rfl, ?_⟩) (by assumption) ?_
        rotate_left
        · intro w0 hSw; (try dsimp only at hSw); first | (go_simp; done) | (go_simp; with_reducible rfl)
        simp only [nrmA, nrmB, nrmC]
        refine take_at (i := 8) (v := ?_) rfl rfl (by kernel_rfl) (by kernel_rfl) (by kernel_rfl) (fun _ _ _ h => h) (Or.inl ⟨by rfl, ?_⟩) (by assumption) ?_
        rotate_left
        · intro w0 hSw; (try dsimp only at hSw); first | (go_simp; done) | (go_simp; with_reducible rfl)
        simp only [nrmA, nrmB, nrmC]
        refine take_at (i := 9) (v := ?_) rfl rfl (by kernel_rfl) (by kernel_rfl) (by kernel_rfl) (fun _ _ _ h => h) (Or.inl ⟨by rfl, ?_⟩) (by assumption) ?_
        rotate_left
        · intro w0 hSw; (try dsimp only at hSw); first | (go_simp; done) | (go_simp; with_reducible rfl)
        simp only [nrmA, nrmB, nrmC]
        refine take_at (i := 10) (v := ?_) rfl rfl (by kernel_rfl) (by kernel_rfl) (by kernel_rfl) (fun _ _ _ h => h) (Or.inl ⟨by rfl, ?_⟩) (by assumption) ?_
        rotate_left
        · intro w0 hSw; (try dsimp only at hSw); first | (go_simp; done) | (go_simp; with_reducible rfl)
        simp only [nrmA, nrmB, nrmC]
        refine take_at (i := 11) (v := ?_) rfl rfl (by kernel_rfl) (by kernel_rfl) (by kernel_rfl) (fun _ _ _ h => h) (Or.inl ⟨by rfl, ?_⟩) (by assumption) ?_
        rotate_left
        · intro w0 hSw; (try dsimp only at hSw); first | (go_simp; done) | (go_simp; with_reducible rfl)
        simp only [nrmA, nrmB, nrmC]
        refine take_at (i := 12) (v := ?_) rfl rfl (by kernel_rfl) (by kernel_rfl) (by kernel_rfl) (fun _ _ _ h => h) (Or.inl ⟨by rfl, ?_⟩) (by assumption) ?_
        rotate_left
        · intro w0 hSw; (try dsimp only at hSw); first | (go_simp; done) | (go_simp; with_reducible rfl)
        simp only [nrmA, nrmB, nrmC]
        refine take_at (i := 13) (v := ?_) rfl rfl (by kernel_rfl) (by kernel_rfl) (by kernel_rfl) (fun _ _ _ h => h) (Or.inl ⟨by rfl, ?_⟩) (by assumption) ?_
        rotate_left
        · intro w0 hSw; (try dsimp only at hSw); first | (go_simp; done) | (go_simp; with_reducible rfl)
        simp only [nrmA, nrmB, nrmC]
        refine take_at (i := 14) (v := ?_) rfl rfl (by kernel_rfl) (by kernel_rfl) (by kernel_rfl) (fun _ _ _ h => h) (Or.inl ⟨by rfl, ?_⟩) (by assumption) ?_
        rotate_left
        · intro w0 hSw; (try dsimp only at hSw); first | (go_simp; done) | (go_simp; with_reducible rfl)
        simp only [nrmA, nrmB, nrmC]
        refine take_at (i := 15) (v := ?_) rfl rfl (by kernel_rfl) (by kernel_rfl) (by kernel_rfl) (fun _ _ _ h => h) (Or.inl ⟨by rfl, ?_⟩) (by assumption) ?_
        rotate_left
        · intro w0 hSw; (try dsimp only at hSw); first | (go_simp; done) | (go_simp; with_reducible rfl)
        simp only [nrmA, nrmB, nrmC]
        refine wpAnyH_done (by kernel_rfl) ?_ _
        clear hHeld
        have cj : y1.cell? ⟨vj, 0, none⟩ = some (.slice none 0 0) := (range_cons (range_of (keep HX.out DJ.out))).1
        have X8 := Lib.hid HX.out
        go_wp2_with (first | (go_at_call 5; (with_reducible refine (HAW.out _).mono ?_); rintro e w99 ⟨rfl, hb⟩; have XF := Lib.hid (bthen X8.out hb); clear hb) | fail)
        go_ret
        exact ⟨rfl, bthen HBD0.out XF.out⟩
      exact AllReadyH.nil
  exact AllReadyH.nil
end Go.Proofs.YtnjnomebcggccaaGreatDoor
