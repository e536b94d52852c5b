/- What law 14's build comes to: a commitment, in new blocks. -/
import Derived.Test.YtkihmhchdenamaaDoorComLaid
namespace Go.Proofs.YtkihmhchdenamaaDoor
open Go.RowKit

set_option linter.unusedSimpArgs false in
set_option maxRecDepth 100000 in
set_option maxHeartbeats 6400000 in
theorem build_law14 {w : World} {c : PChan} {h : List UInt8} {me other mine hers : Int} (hc : ChanIn c) (hh : h.length = 32) :
    Calls Tryd.prog 13 #[.agg c.cells.toArray, .int .i64 me, .int .i64 other, .int .i64 mine, .int .i64 hers, .agg (cellsOf h).toArray] w fun e w' => ∃ p0 p1 p2 p3 p4 p5 p6 : Nat, e = .returned (.agg (commitP c (some ⟨p0, 0, none⟩) (some ⟨p3, 0, none⟩) (some ⟨p1, 0, none⟩) (some ⟨p2, 0, none⟩) (some ⟨p5, 0, none⟩) (some ⟨p4, 0, none⟩) (some ⟨p6, 0, none⟩) me other mine hers h).cells.toArray) ∧ Laid14 w.heap.size w' p0 (insO [fundP c]) ∧ OutsAt w.heap.size w' c me other mine hers h p1 p2 p3 p4 p5 p6 ∧ Below w.heap.size w w' := by
  have HC := Lib.hid hc
  have HHL := Lib.hid hh
  have HSZ := Lib.hid (size_of hh)
  clear hc hh
  go_enter Tryd.func13, Tryd.ntmps13
  go_upto_region 1 with (first | (refine wpList_new rfl 38 rfl noTx.cells.toArray Tryd.zeroTx14 ?_; intro r w1 hr hh hb; go_frame) | fail)
  have b0 : Below w.heap.size w ((w.alloc (.cells c.cells.toArray 27)).alloc (.cells (cellsOf h).toArray 23)) := ((Below.refl _ _).alloc (Nat.le_refl _) _).alloc (by simp) _
  have k1 : ((w.alloc (.cells c.cells.toArray 27)).alloc (.cells (cellsOf h).toArray 23)).heap[w.heap.size]? = some (.cells c.cells.toArray 27 (0, 0)) := by
    rw [heap_alloc_old _ _ (by simp), heap_alloc_new]
  have k2 : ((w.alloc (.cells c.cells.toArray 27)).alloc (.cells (cellsOf h).toArray 23)).heap[w.heap.size + 1]? = some (.cells (cellsOf h).toArray 23 (0, 0)) := heap_alloc_at _ _ _ (by simp)
  have b1 := bthen b0 hb
  have h1 := keep hb k1
  have h2 := keep hb k2
  have hr' : w.heap.size ≤ r := Nat.le_trans b0.size hr
  obtain ⟨g, hg⟩ : ∃ g, g = w.heap.size := ⟨_, rfl⟩
  rw [← hg] at h1 h2 ⊢
  have HB1 := Lib.hid b1
  have H1 := Lib.hid h1
  have H2 := Lib.hid h2
  have HR := Lib.hid hh
  have HN : Hid (w.heap.size ≤ r) := Lib.hid hr'
  have SZR : Hid ((Tryd.prog.info? 25).map (·.size) = some (refCells c.ftx c.fat).length) := Lib.hid (refSize HC.out.ftx)
  clear b0 k1 k2 b1 h1 h2 hr' hg hr hh hb
  go_upto_region 2 with (first | (refine wpList_int14 rfl _ rfl me rfl ?_; intro p1 w2 hp hh hb; go_frame; have Hp1 := Lib.hid hh; have Bp1 := Lib.hid hb; have Cp1 := Lib.hid hb; have Qp1 := Lib.hid hp; have c37 := (chan_at HC.out.ftx (range_of (keep hb H1.out))).wait; rw [Nat.zero_add] at c37; clear hp hh hb) | (refine wpList_build10 rfl rfl (vs := [(0, .slice (some ⟨p1, 0, none⟩) 1 1), (3, .int .i64 c.wait)]) rfl (build_way_wait _ _ _ [me] _) ?_; go_frame) | (refine wpList_int14 rfl _ rfl other rfl ?_; intro p2 w3 hp hh hb; go_frame; have Hp2 := Lib.hid hh; have Bp2 := Lib.hid hb; have Cp2 := Lib.hid (bthen Cp1.out hb); have Qp2 := Lib.hid (Nat.le_trans Cp1.out.size hp); clear c37; have H23 := Lib.hid (keep Cp2.out H2.out); clear hp hh hb) | (refine wpList_load_row rfl 23 _ rfl (g + 1) rfl 23 (cellsOf h).toArray (0, 0) _ H23.out Tryd.underlying23 rfl HSZ.out ?_) | (refine wpList_build10 rfl rfl (vs := [(0, .slice (some ⟨p2, 0, none⟩) 1 1), (1, .agg (cellsOf h).toArray)]) rfl (build_way_hash _ _ _ [other] HHL.out) ?_; go_frame) | (refine wpList_lits Tryd.wayAt14 rfl rfl [⟨some ⟨p1, 0, none⟩, 1, 1, [me], zero32, 0, c.wait⟩, ⟨some ⟨p2, 0, none⟩, 1, 1, [other], h, 0, 0⟩] rfl (by decide) (by decide) (by intro x hx; simp at hx; rcases hx with rfl | rfl; exact PWay.cells_len zero32_len; exact PWay.cells_len HHL.out) rfl ?_; intro p3 w4 hp hh hb; go_frame; have Hp3 := Lib.hid hh; have Bp3 := Lib.hid hb; have Cp3 := Lib.hid (bthen Cp2.out hb); have Qp3 := Lib.hid (Nat.le_trans Cp2.out.size hp); skip; clear hp hh hb) | (refine wpList_build10 rfl rfl (vs := [(0, .int .i64 mine), (1, .slice (some ⟨p3, 0, none⟩) 2 2)]) rfl (build_out14 mine _ _ _ [⟨some ⟨p1, 0, none⟩, 1, 1, [me], zero32, 0, c.wait⟩, ⟨some ⟨p2, 0, none⟩, 1, 1, [other], h, 0, 0⟩]) ?_; go_frame) | (refine wpList_var rfl rfl 50 rfl _ _ rfl noOut.cells.toArray Tryd.zeroOut14 rfl (POut.cells (ownP c (some ⟨p3, 0, none⟩) (some ⟨p1, 0, none⟩) (some ⟨p2, 0, none⟩) me other mine h)) (fun _ => rfl) (fun _ => rfl) rfl (POut.one _) ?_; intro p4 w5 hp hh hb; go_frame; have Hp4 := Lib.hid hh; have Bp4 := Lib.hid hb; have Cp4 := Lib.hid (bthen Cp3.out hb); have Qp4 := Lib.hid (Nat.le_trans Cp3.out.size hp); clear hp hh hb) | fail)
  have RF := Lib.hid (chan_at HC.out.ftx (range_of (keep Cp4.out H1.out))).fund
  clear H23
  go_wp2_with (first | (refine wpList_load_mid rfl 25 _ rfl g 3 rfl (refCells c.ftx c.fat) _ RF.out Tryd.underlying25 rfl SZR.out ?_) | (refine wpList_build10 rfl rfl (vs := [(0, .agg (refCells c.ftx c.fat).toArray)]) rfl (build_in14 c.fat HC.out.ftx) ?_; go_frame) | (refine wpList_lits Tryd.inAt14 rfl rfl [fundP c] rfl (by decide) (by decide) (by intro x hx; simp at hx; subst hx; exact PIn.len HC.out.ftx) rfl ?_; intro p5 w6 hp hh hb; go_frame; have Hp5 := Lib.hid hh; have Bp5 := Lib.hid hb; have Cp5 := Lib.hid (bthen Cp4.out hb); have Qp5 := Lib.hid (Nat.le_trans Cp4.out.size hp); have H46 := Lib.hid (keep hb Hp4.out); clear hp hh hb) | (refine wpList_load_row rfl 50 _ rfl p4 rfl 50 (POut.cells (ownP c (some ⟨p3, 0, none⟩) (some ⟨p1, 0, none⟩) (some ⟨p2, 0, none⟩) me other mine h)).toArray (0, 0) _ H46.out Tryd.underlying50 rfl (by kernel_rfl) ?_) | (refine wpList_int14 rfl _ rfl other rfl ?_; intro p6 w7 hp hh hb; go_frame; have Hp6 := Lib.hid hh; have Bp6 := Lib.hid hb; have Cp6 := Lib.hid (bthen Cp5.out hb); have Qp6 := Lib.hid (Nat.le_trans Cp5.out.size hp); skip; clear hp hh hb) | (refine wpList_build10 rfl rfl (vs := [(0, .slice (some ⟨p6, 0, none⟩) 1 1)]) rfl (build_way_keys _ _ _ [other]) ?_; go_frame) | (refine wpList_lits Tryd.wayAt14 rfl rfl [⟨some ⟨p6, 0, none⟩, 1, 1, [other], zero32, 0, 0⟩] rfl (by decide) (by decide) (by intro x hx; simp at hx; subst hx; exact PWay.cells_len zero32_len) rfl ?_; intro p7 w8 hp hh hb; go_frame; have Hp7 := Lib.hid hh; have Bp7 := Lib.hid hb; have Cp7 := Lib.hid (bthen Cp6.out hb); have Qp7 := Lib.hid (Nat.le_trans Cp6.out.size hp); skip; clear hp hh hb) | (refine wpList_build10 rfl rfl (vs := [(0, .int .i64 hers), (1, .slice (some ⟨p7, 0, none⟩) 1 1)]) rfl (build_out14 hers _ _ _ [⟨some ⟨p6, 0, none⟩, 1, 1, [other], zero32, 0, 0⟩]) ?_; go_frame) | (refine wpList_lits Tryd.outAt14 rfl rfl [(ownP c (some ⟨p3, 0, none⟩) (some ⟨p1, 0, none⟩) (some ⟨p2, 0, none⟩) me other mine h), (herP (some ⟨p7, 0, none⟩) (some ⟨p6, 0, none⟩) other hers)] rfl (by decide) (by decide) (by intro x hx; simp at hx; rcases hx with rfl | rfl; rfl; rfl) rfl ?_; intro p8 w9 hp hh hb; go_frame; have Hp8 := Lib.hid hh; have Bp8 := Lib.hid hb; have Cp8 := Lib.hid (bthen Cp7.out hb); have Qp8 := Lib.hid (Nat.le_trans Cp7.out.size hp); have HR9 := Lib.hid (keep Cp8.out HR.out); clear hp hh hb) | (refine wpList_build10 rfl rfl (vs := [(0, .slice (some ⟨p5, 0, none⟩) 1 1), (1, .slice (some ⟨p8, 0, none⟩) 2 2)]) rfl (build_tx14 _ _ _ [fundP c] _ _ _ [(ownP c (some ⟨p3, 0, none⟩) (some ⟨p1, 0, none⟩) (some ⟨p2, 0, none⟩) me other mine h), (herP (some ⟨p7, 0, none⟩) (some ⟨p6, 0, none⟩) other hers)]) ?_; go_frame) | (refine wpList_row10 rfl 38 _ _ rfl r (commitP c (some ⟨p5, 0, none⟩) (some ⟨p3, 0, none⟩) (some ⟨p1, 0, none⟩) (some ⟨p2, 0, none⟩) (some ⟨p7, 0, none⟩) (some ⟨p6, 0, none⟩) (some ⟨p8, 0, none⟩) me other mine hers h).cells rfl rfl 38 noTx.cells HR9.out (by kernel_rfl) rfl (PTx.one _) ?_; intro w10 hh hb) | fail)
  have D8 := Bp8.out
  have D7 := bthen Bp7.out D8
  have D6 := bthen Bp6.out D7
  have D5 := bthen Bp5.out D6
  have D4 := bthen Bp4.out D5
  have D3 := bthen Bp3.out D4
  have D2 := bthen Bp2.out D3
  have hrl := lt_of_block HR.out
  have g1 := to_last14 hb (keep D2 Hp1.out) hrl Qp1.out
  have g2 := to_last14 hb (keep D3 Hp2.out) hrl Qp2.out
  have g3 := to_last14 hb (keep D4 Hp3.out) hrl Qp3.out
  have g5 := to_last14 hb (keep D6 Hp5.out) hrl Qp5.out
  have g6 := to_last14 hb (keep D7 Hp6.out) hrl Qp6.out
  have g7 := to_last14 hb (keep D8 Hp7.out) hrl Qp7.out
  have g8 := to_last14 hb Hp8.out hrl Qp8.out
  have HFIN := Lib.hid (But.in (bthen HB1.out Cp8.out) hb HN.out)
  refine bodyPost_ret (results_cell_row rfl _ _ r 38 (commitP c (some ⟨p5, 0, none⟩) (some ⟨p3, 0, none⟩) (some ⟨p1, 0, none⟩) (some ⟨p2, 0, none⟩) (some ⟨p7, 0, none⟩) (some ⟨p6, 0, none⟩) (some ⟨p8, 0, none⟩) me other mine hers h).cells.toArray (0, 0) _ rfl hh Tryd.underlying38 rfl (by kernel_rfl)) rfl ?_
  have n1 := HB1.out.size
  have q1 := Qp1.out
  have q2 := Qp2.out
  have q3 := Qp3.out
  have q5 := Qp5.out
  have q6 := Qp6.out
  have q7 := Qp7.out
  have q8 := Qp8.out
  exact ⟨p5, p1, p2, p3, p6, p7, p8, rfl, ⟨by omega, g5⟩, ⟨⟨⟨by omega, g1⟩, ⟨by omega, g2⟩, ⟨by omega, g3⟩⟩, ⟨⟨by omega, g6⟩, ⟨by omega, g7⟩⟩, ⟨by omega, g8⟩⟩, HFIN.out⟩
end Go.Proofs.YtkihmhchdenamaaDoor
