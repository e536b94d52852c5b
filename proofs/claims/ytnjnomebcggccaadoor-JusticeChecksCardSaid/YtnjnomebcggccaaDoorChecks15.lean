/- JusticeChecks, walked. -/
import Derived.Test.YtnjnomebcggccaaDoorJustCheck
import Derived.Test.YtnjnomebcggccaaDoorJustCode
import Derived.Test.YtnjnomebcggccaaDoorLaw8Small
import Derived.Deep.CutRange
namespace Go.Proofs.YtnjnomebcggccaaDoor
open Go.RowKit

/-- A small transaction has few bytes. -/
theorem small_front15 {w : World} {x : PTx} (h : TxIn w x) (hs : smallT x = true) : FrontFew false x ∧ x.sn ≤ 20 ∧ x.on ≤ 20 ∧ (∀ y ∈ x.ins, y.n ≤ 100) := by
  unfold smallT at hs
  simp only [Bool.and_eq_true, decide_eq_true_eq, List.all_eq_true] at hs
  obtain ⟨h1, h2, h3, h4, h5, h6⟩ := hs
  refine ⟨frontFew false h h1 h2 (fun y hy => by have h9 := h5 y hy; simpa using h9) (fun y hy => ?_) (by omega), h3, h2, fun y hy => by have h9 := h5 y hy; simpa using h9⟩
  have h9 := h6 y hy
  unfold fewO at h9
  simp only [Bool.and_eq_true, decide_eq_true_eq, List.all_eq_true] at h9
  exact ⟨h9.1, fun z hz => by have h8 := h9.2 z hz; simpa using h8⟩
set_option linter.unusedSimpArgs false in
set_option maxRecDepth 100000 in
set_option maxHeartbeats 6400000 in
theorem checks15_walk {w : World} {c : PChan} {t j : PTx} (hc : ChanIn c) (ht : TxIn w t) (hj : TxIn w j) (hk : KsAt w) :
    Calls Tryd.prog 3 #[.agg c.cells.toArray, .agg t.cells.toArray, .agg j.cells.toArray] w fun e w' => e = .returned (.bool true) ∧ Below w.heap.size w w' := by
  have HAW := Lib.hid (fun (W : World) => awake15_of shares_code key_code W)
  have HC := Lib.hid hc
  have HT := Lib.hid ht
  have HJ := Lib.hid hj
  have HK := Lib.hid hk
  have SZC := Lib.hid (chan_sizeA hc.ftx)
  have SZT := Lib.hid (tx_sizeA ht.op.root)
  have SZTl := Lib.hid (tx_size ht.op.root)
  have SZJ := Lib.hid (tx_size hj.op.root)
  have SZJA := Lib.hid (tx_sizeA hj.op.root)
  have j63 := hj.ins.len63
  have o63 := hj.outs.len63
  clear hc ht hj hk
  go_enter Tryd.func3, Tryd.ntmps3
  go_upto_region 1 with (fail)
  obtain ⟨w1, g1, g2, hw1, hg1, hg2, hb1, h1, h2, h3⟩ := three_boxes15 w c.cells.toArray t.cells.toArray j.cells.toArray 27 35 35
  rw [← hw1, ← hg2, ← hg1]
  obtain ⟨g, hg⟩ : ∃ g, g = w.heap.size := ⟨_, rfl⟩
  rw [← hg] at h1 ⊢
  have HB1 := Lib.hid hb1
  have H1 := Lib.hid h1
  have H2 := Lib.hid h2
  have H3 := Lib.hid h3
  clear hw1 hg1 hg2 hb1 h1 h2 h3 hg
  cases hst : smallT t
  · have HST : Hid (∀ W : World, Below w1.heap.size w1 W → Calls Tryd.prog 4 #[.agg t.cells.toArray] W fun e w' => e = .returned (.int .i64 1) ∧ Below W.heap.size W w') := Lib.hid (fun W hW => by have h9 := small8_law (HT.out.below (bthen HB1.out hW)); rw [hst] at h9; exact h9)
    go_wp2_with (first | (refine wpList_load_row rfl 35 _ rfl g1 rfl 35 t.cells.toArray (0, 0) _ H2.out Tryd.underlying35 rfl SZT.out ?_) | (go_at_call 4; (with_reducible refine (HST.out _ (Below.refl _ _)).mono ?_); rintro e w2 ⟨rfl, hb⟩; have X2 := Lib.hid hb; clear hb) | (go_at_call 5; (with_reducible refine (HAW.out _).mono ?_); rintro e w99 ⟨rfl, hb⟩; have XF := Lib.hid (bthen X2.out hb); clear hb) | fail)
    go_ret
    exact ⟨rfl, bthen HB1.out XF.out⟩
  · have HST : Hid (∀ W : World, Below w1.heap.size w1 W → Calls Tryd.prog 4 #[.agg t.cells.toArray] W fun e w' => e = .returned (.int .i64 0) ∧ Below W.heap.size W w') := Lib.hid (fun W hW => by have h9 := small8_law (HT.out.below (bthen HB1.out hW)); rw [hst] at h9; exact h9)
    cases hsj : smallT j
    · have HSJ : Hid (∀ W : World, Below w1.heap.size w1 W → Calls Tryd.prog 4 #[.agg j.cells.toArray] W fun e w' => e = .returned (.int .i64 1) ∧ Below W.heap.size W w') := Lib.hid (fun W hW => by have h9 := small8_law (HJ.out.below (bthen HB1.out hW)); rw [hsj] at h9; exact h9)
      go_wp2_with (first | (refine wpList_load_row rfl 35 _ rfl g1 rfl 35 t.cells.toArray (0, 0) _ H2.out Tryd.underlying35 rfl SZT.out ?_) | (refine wpList_mid_wanted (by rfl) 35 _ rfl g2 0 rfl j.cells _ (range_of (keep X2.out H3.out)) Tryd.underlying35 rfl SZJ.out ?_) | (go_at_call 4; first | ((with_reducible refine (HST.out _ (Below.refl _ _)).mono ?_); rintro e w2 ⟨rfl, hb⟩; have X2 := Lib.hid hb; clear hb) | ((with_reducible refine (HSJ.out _ X2.out).mono ?_); rintro e w3 ⟨rfl, hb⟩; have X3 := Lib.hid (bthen X2.out hb); have c1 := (chan_at HC.out.ftx (range_of (keep X3.out H1.out))).client; have c2 := (chan_at HC.out.ftx (range_of (keep X3.out H1.out))).peer; rw [Nat.zero_add] at c1 c2; clear hb)) | (go_at_call 5; (with_reducible refine (HAW.out _).mono ?_); rintro e w99 ⟨rfl, hb⟩; have XF := Lib.hid (bthen X3.out hb); clear hb) | fail)
      go_ret
      exact ⟨rfl, bthen HB1.out XF.out⟩
    · have HSJ : Hid (∀ W : World, Below w1.heap.size w1 W → Calls Tryd.prog 4 #[.agg j.cells.toArray] W fun e w' => e = .returned (.int .i64 0) ∧ Below W.heap.size W w') := Lib.hid (fun W hW => by have h9 := small8_law (HJ.out.below (bthen HB1.out hW)); rw [hsj] at h9; exact h9)
      by_cases a1 : 255 < c.client
      · have ea1 : decide (255 < c.client) = true := decide_eq_true a1
        go_wp2_with (first | (refine wpList_load_row rfl 35 _ rfl g1 rfl 35 t.cells.toArray (0, 0) _ H2.out Tryd.underlying35 rfl SZT.out ?_) | (refine wpList_mid_wanted (by rfl) 35 _ rfl g2 0 rfl j.cells _ (range_of (keep X2.out H3.out)) Tryd.underlying35 rfl SZJ.out ?_) | (go_at_call 4; first | ((with_reducible refine (HST.out _ (Below.refl _ _)).mono ?_); rintro e w2 ⟨rfl, hb⟩; have X2 := Lib.hid hb; clear hb) | ((with_reducible refine (HSJ.out _ X2.out).mono ?_); rintro e w3 ⟨rfl, hb⟩; have X3 := Lib.hid (bthen X2.out hb); have c1 := (chan_at HC.out.ftx (range_of (keep X3.out H1.out))).client; have c2 := (chan_at HC.out.ftx (range_of (keep X3.out H1.out))).peer; rw [Nat.zero_add] at c1 c2; clear hb)) | (go_at_call 5; (with_reducible refine (HAW.out _).mono ?_); rintro e w99 ⟨rfl, hb⟩; have XF := Lib.hid (bthen X3.out hb); clear hb) | fail)
        go_ret
        exact ⟨rfl, bthen HB1.out XF.out⟩
      · have ea1 : decide (255 < c.client) = false := decide_eq_false a1
        by_cases a2 : c.client < 0
        · have ea2 : decide (c.client < 0) = true := decide_eq_true a2
          go_wp2_with (first | (refine wpList_load_row rfl 35 _ rfl g1 rfl 35 t.cells.toArray (0, 0) _ H2.out Tryd.underlying35 rfl SZT.out ?_) | (refine wpList_mid_wanted (by rfl) 35 _ rfl g2 0 rfl j.cells _ (range_of (keep X2.out H3.out)) Tryd.underlying35 rfl SZJ.out ?_) | (go_at_call 4; first | ((with_reducible refine (HST.out _ (Below.refl _ _)).mono ?_); rintro e w2 ⟨rfl, hb⟩; have X2 := Lib.hid hb; clear hb) | ((with_reducible refine (HSJ.out _ X2.out).mono ?_); rintro e w3 ⟨rfl, hb⟩; have X3 := Lib.hid (bthen X2.out hb); have c1 := (chan_at HC.out.ftx (range_of (keep X3.out H1.out))).client; have c2 := (chan_at HC.out.ftx (range_of (keep X3.out H1.out))).peer; rw [Nat.zero_add] at c1 c2; clear hb)) | (go_at_call 5; (with_reducible refine (HAW.out _).mono ?_); rintro e w99 ⟨rfl, hb⟩; have XF := Lib.hid (bthen X3.out hb); clear hb) | fail)
          go_ret
          exact ⟨rfl, bthen HB1.out XF.out⟩
        · have ea2 : decide (c.client < 0) = false := decide_eq_false a2
          by_cases a3 : 255 < c.peer
          · have ea3 : decide (255 < c.peer) = true := decide_eq_true a3
            go_wp2_with (first | (refine wpList_load_row rfl 35 _ rfl g1 rfl 35 t.cells.toArray (0, 0) _ H2.out Tryd.underlying35 rfl SZT.out ?_) | (refine wpList_mid_wanted (by rfl) 35 _ rfl g2 0 rfl j.cells _ (range_of (keep X2.out H3.out)) Tryd.underlying35 rfl SZJ.out ?_) | (go_at_call 4; first | ((with_reducible refine (HST.out _ (Below.refl _ _)).mono ?_); rintro e w2 ⟨rfl, hb⟩; have X2 := Lib.hid hb; clear hb) | ((with_reducible refine (HSJ.out _ X2.out).mono ?_); rintro e w3 ⟨rfl, hb⟩; have X3 := Lib.hid (bthen X2.out hb); have c1 := (chan_at HC.out.ftx (range_of (keep X3.out H1.out))).client; have c2 := (chan_at HC.out.ftx (range_of (keep X3.out H1.out))).peer; rw [Nat.zero_add] at c1 c2; clear hb)) | (go_at_call 5; (with_reducible refine (HAW.out _).mono ?_); rintro e w99 ⟨rfl, hb⟩; have XF := Lib.hid (bthen X3.out hb); clear hb) | fail)
            go_ret
            exact ⟨rfl, bthen HB1.out XF.out⟩
          · have ea3 : decide (255 < c.peer) = false := decide_eq_false a3
            by_cases a4 : c.peer < 0
            · have ea4 : decide (c.peer < 0) = true := decide_eq_true a4
              go_wp2_with (first | (refine wpList_load_row rfl 35 _ rfl g1 rfl 35 t.cells.toArray (0, 0) _ H2.out Tryd.underlying35 rfl SZT.out ?_) | (refine wpList_mid_wanted (by rfl) 35 _ rfl g2 0 rfl j.cells _ (range_of (keep X2.out H3.out)) Tryd.underlying35 rfl SZJ.out ?_) | (go_at_call 4; first | ((with_reducible refine (HST.out _ (Below.refl _ _)).mono ?_); rintro e w2 ⟨rfl, hb⟩; have X2 := Lib.hid hb; clear hb) | ((with_reducible refine (HSJ.out _ X2.out).mono ?_); rintro e w3 ⟨rfl, hb⟩; have X3 := Lib.hid (bthen X2.out hb); have c1 := (chan_at HC.out.ftx (range_of (keep X3.out H1.out))).client; have c2 := (chan_at HC.out.ftx (range_of (keep X3.out H1.out))).peer; rw [Nat.zero_add] at c1 c2; clear hb)) | (go_at_call 5; (with_reducible refine (HAW.out _).mono ?_); rintro e w99 ⟨rfl, hb⟩; have XF := Lib.hid (bthen X3.out hb); clear hb) | fail)
              go_ret
              exact ⟨rfl, bthen HB1.out XF.out⟩
            · have ea4 : decide (c.peer < 0) = false := decide_eq_false a4
              have HFT := Lib.hid (small_front15 HT.out hst).1
              have hfj := small_front15 HJ.out hsj
              have HFJ := Lib.hid hfj.1
              have HSN := Lib.hid hfj.2.1
              have HON := Lib.hid hfj.2.2.1
              have HPN := Lib.hid hfj.2.2.2
              clear hfj hst hsj
              go_upto_region 3 with (first | (refine wpList_load_row rfl 35 _ rfl g1 rfl 35 t.cells.toArray (0, 0) _ H2.out Tryd.underlying35 rfl SZT.out ?_) | (refine wpList_mid_wanted (by rfl) 35 _ rfl g2 0 rfl j.cells _ (range_of (keep X2.out H3.out)) Tryd.underlying35 rfl SZJ.out ?_) | (go_at_call 4; first | ((with_reducible refine (HST.out _ (Below.refl _ _)).mono ?_); rintro e w2 ⟨rfl, hb⟩; have X2 := Lib.hid hb; clear hb) | ((with_reducible refine (HSJ.out _ X2.out).mono ?_); rintro e w3 ⟨rfl, hb⟩; have X3 := Lib.hid (bthen X2.out hb); have c1 := (chan_at HC.out.ftx (range_of (keep X3.out H1.out))).client; have c2 := (chan_at HC.out.ftx (range_of (keep X3.out H1.out))).peer; rw [Nat.zero_add] at c1 c2; clear hb)) | fail | fail)
              clear a1 a2 a3 a4 ea1 ea2 ea3 ea4 HST HSJ
              by_cases hO : ownerP c t = -1
              · have HOW : Hid (∀ W : World, Below w1.heap.size w1 W → Calls Tryd.prog 7 #[.agg c.cells.toArray, .agg t.cells.toArray] W fun e w' => e = .returned (.int .i64 (-1)) ∧ Below W.heap.size W w') := Lib.hid fun W hW => by rw [← hO]; exact owner_any HC.out (HT.out.below (bthen HB1.out hW))
                have HCK : Hid (∀ W : World, Below w1.heap.size w1 W → Calls Tryd.prog 6 #[.agg c.cells.toArray, .agg t.cells.toArray, .agg j.cells.toArray] W fun e w' => e = .returned (.int .i64 1) ∧ Below W.heap.size W w') := Lib.hid fun W hW => check_none HC.out (HT.out.below (bthen HB1.out hW)) hO
                clear hO
                go_wp2_with (first | (refine wpList_load_row rfl 27 _ rfl g rfl 27 c.cells.toArray (0, 0) _ (keep X3.out H1.out) Tryd.underlying27 rfl SZC.out ?_) | (refine wpList_load_row rfl 35 _ rfl g1 rfl 35 t.cells.toArray (0, 0) _ (keep X3.out H2.out) Tryd.underlying35 rfl SZT.out ?_) | (refine wpList_load_row rfl 35 _ rfl g2 rfl 35 j.cells.toArray (0, 0) _ (keep X3.out H3.out) Tryd.underlying35 rfl SZJA.out ?_) | (go_at_call 6; (with_reducible refine (HCK.out _ X3.out).mono ?_); rintro e w4 ⟨rfl, hb⟩; have X4 := Lib.hid (bthen X3.out hb); clear hb) | (refine wpList_load_row rfl 27 _ rfl g rfl 27 c.cells.toArray (0, 0) _ (keep X4.out H1.out) Tryd.underlying27 rfl SZC.out ?_) | (refine wpList_load_row rfl 35 _ rfl g1 rfl 35 t.cells.toArray (0, 0) _ (keep X4.out H2.out) Tryd.underlying35 rfl SZT.out ?_) | (go_at_call 7; (with_reducible refine (HOW.out _ X4.out).mono ?_); rintro e w5 ⟨rfl, hb⟩; have X5 := Lib.hid (bthen X4.out hb); clear hb) | (go_at_call 5; (with_reducible refine (HAW.out _).mono ?_); rintro e w99 ⟨rfl, hb⟩; have XF := Lib.hid (bthen X5.out hb); clear hb) | fail)
                go_ret
                exact ⟨rfl, bthen HB1.out XF.out⟩
              · obtain ⟨m, z, b, o, b2, o2, wk, u0, u1, x1, hp⟩ := part_at HT.out hO
                have HP := Lib.hid hp
                obtain ⟨O, hOv⟩ : ∃ O, ownerP c t = O := ⟨_, rfl⟩
                have eO : decide (O < 0) = false := by rcases ownerP_cases c t with e | ⟨k, _, e, _⟩; exact absurd e hO; exact decide_eq_false (by omega)
                have HOW : Hid (∀ W : World, Below w1.heap.size w1 W → Calls Tryd.prog 7 #[.agg c.cells.toArray, .agg t.cells.toArray] W fun e w' => e = .returned (.int .i64 O) ∧ Below W.heap.size W w') := Lib.hid fun W hW => by rw [← hOv]; exact owner_any HC.out (HT.out.below (bthen HB1.out hW))
                obtain ⟨T, hT, hTl⟩ : ∃ T, txSum t = T ∧ T.length = 32 := ⟨_, rfl, txSum_len _⟩
                have HTL := Lib.hid hTl
                have HSUM : Hid (∀ W : World, Below w1.heap.size w1 W → Calls Tryd.prog 9 #[.agg t.cells.toArray] W fun e w' => e = .returned (.agg (cellsOf T).toArray) ∧ Below W.heap.size W w') := Lib.hid fun W hW => by rw [← hT]; exact txSum_any (HT.out.below (bthen HB1.out hW)) (HK.out.below (bthen HB1.out hW)) HFT.out
                obtain ⟨V, hV⟩ : ∃ V, checkR m u1 T j = V := ⟨_, rfl⟩
                have HCK : Hid (∀ W : World, Below w1.heap.size w1 W → Calls Tryd.prog 6 #[.agg c.cells.toArray, .agg t.cells.toArray, .agg j.cells.toArray] W fun e w' => e = .returned (.int .i64 V) ∧ Below W.heap.size W w') := Lib.hid fun W hW => by rw [← hV, ← hT]; exact check_at HC.out (HT.out.below (bthen HB1.out hW)) (HJ.out.below (bthen HB1.out hW)) (HK.out.below (bthen HB1.out hW)) HFT.out (HP.out.below (bthen HB1.out hW)) hO
                have HVV := Lib.hid hV
                obtain ⟨K, hK⟩ : ∃ K, txOk j = K := ⟨_, rfl⟩
                have HTR : Hid (∀ W : World, Below w1.heap.size w1 W → Calls Tryd.prog 8 #[.agg j.cells.toArray] W fun e w' => e = .returned (.bool K) ∧ Below W.heap.size W w') := Lib.hid fun W hW => by rw [← hK]; exact txRight_any (HJ.out.below (bthen HB1.out hW))
                have HKV := Lib.hid hK
                clear hp hOv hT hTl hV hK hO
                go_upto_region 4 with (first | (refine wpList_load_row rfl 27 _ rfl g rfl 27 c.cells.toArray (0, 0) _ (keep X3.out H1.out) Tryd.underlying27 rfl SZC.out ?_) | (refine wpList_load_row rfl 35 _ rfl g1 rfl 35 t.cells.toArray (0, 0) _ (keep X3.out H2.out) Tryd.underlying35 rfl SZT.out ?_) | (refine wpList_load_row rfl 35 _ rfl g2 rfl 35 j.cells.toArray (0, 0) _ (keep X3.out H3.out) Tryd.underlying35 rfl SZJA.out ?_) | (go_at_call 6; (with_reducible refine (HCK.out _ X3.out).mono ?_); rintro e w4 ⟨rfl, hb⟩; have X4 := Lib.hid (bthen X3.out hb); clear hb) | fail)
                clear c1 c2
                cases K
                · obtain rfl : V = 1 := HVV.out.symm.trans (checkR_right HKV.out)
                  go_wp2_with (first | (refine wpList_load_row rfl 27 _ rfl g rfl 27 c.cells.toArray (0, 0) _ (keep X4.out H1.out) Tryd.underlying27 rfl SZC.out ?_) | (refine wpList_load_row rfl 35 _ rfl g1 rfl 35 t.cells.toArray (0, 0) _ (keep X4.out H2.out) Tryd.underlying35 rfl SZT.out ?_) | (refine wpList_mid_wanted (by rfl) 35 _ rfl g2 0 rfl j.cells _ (range_of (keep X5.out H3.out)) Tryd.underlying35 rfl SZJ.out ?_) | (go_at_call 7; (with_reducible refine (HOW.out _ X4.out).mono ?_); rintro e w5 ⟨rfl, hb⟩; have X5 := Lib.hid (bthen X4.out hb); clear hb) | (go_at_call 8; (with_reducible refine (HTR.out _ X5.out).mono ?_); rintro e w6 ⟨rfl, hb⟩; have X6 := Lib.hid (bthen X5.out hb); have ci := tx_ins (range_of (keep X6.out H3.out)); have ck := op_kind (tx_op (range_of (keep X6.out H3.out))); rw [Nat.zero_add] at ck; clear hb) | (go_at_call 5; (with_reducible refine (HAW.out _).mono ?_); rintro e w99 ⟨rfl, hb⟩; have XF := Lib.hid (bthen X6.out hb); clear hb) | fail)
                  go_ret
                  exact ⟨rfl, bthen HB1.out XF.out⟩
                · by_cases h2 : j.inn = 1
                  · have HI := Lib.hid h2
                    have e2 : ((j.inn : Int) != 1) = false := by simp [h2]
                    clear h2
                    by_cases h4 : j.op.kind = 0
                    · have HKI := Lib.hid h4
                      have e4 : (j.op.kind != 0) = false := by simp [h4]
                      clear h4
                      obtain ⟨x, bj, oj, hins, hia, hxi, hlt, hrx⟩ := one_in15 HJ.out HI.out
                      have HXI := Lib.hid hxi
                      have HINS := Lib.hid hins
                      have HIA := Lib.hid hia
                      have HONE := Lib.hid (checkR_one (m := m) (u := u1) (T := T) HKV.out HI.out HKI.out hins)
                      have HJB := Lib.hid hrx
                      have HJL := Lib.hid hlt
                      clear hins hia hxi hlt hrx
                      go_upto_region 6 with (first | (refine wpList_load_row rfl 27 _ rfl g rfl 27 c.cells.toArray (0, 0) _ (keep X4.out H1.out) Tryd.underlying27 rfl SZC.out ?_) | (refine wpList_load_row rfl 35 _ rfl g1 rfl 35 t.cells.toArray (0, 0) _ (keep X4.out H2.out) Tryd.underlying35 rfl SZT.out ?_) | (refine wpList_mid_wanted (by rfl) 35 _ rfl g2 0 rfl j.cells _ (range_of (keep X5.out H3.out)) Tryd.underlying35 rfl SZJ.out ?_) | (go_at_call 7; (with_reducible refine (HOW.out _ X4.out).mono ?_); rintro e w5 ⟨rfl, hb⟩; have X5 := Lib.hid (bthen X4.out hb); clear hb) | (go_at_call 8; (with_reducible refine (HTR.out _ X5.out).mono ?_); rintro e w6 ⟨rfl, hb⟩; have X6 := Lib.hid (bthen X5.out hb); have ci := tx_ins (range_of (keep X6.out H3.out)); have ck := op_kind (tx_op (range_of (keep X6.out H3.out))); rw [Nat.zero_add] at ck; clear hb) | fail)
                      clear ci ck
                      have CI : Hid (w6.cell? ⟨g2, 0, none⟩ = some (.slice (some ⟨bj, oj, none⟩) 1 j.ic)) := Lib.hid (by have h9 := tx_ins (range_of (keep X6.out H3.out)); rw [HIA.out, HI.out] at h9; exact h9)
                      have RX := Lib.hid (rangeAt_below HJB.out HJL.out (bthen HB1.out X6.out))
                      have LX := Lib.hid (Nat.lt_of_lt_of_le HJL.out (bthen HB1.out X6.out).size)
                      have CW : Hid (w6.cell? ⟨bj, oj + 33, none⟩ = some (.int .i64 x.way)) := Lib.hid (in_way HXI.out.tx RX.out)
                      have SZXR : Hid ((Tryd.prog.info? 25).map (·.size) = some (refCells x.tx x.place).length) := Lib.hid (refSize HXI.out.tx)
                      obtain ⟨RV, hRV⟩ : ∃ RV, (decide (x.tx = T) && decide (x.place = 0)) = RV := ⟨_, rfl⟩
                      have qr : ∀ W : World, (Op.equalIn 10000 25 (.agg (refCells x.tx x.place).toArray) (.agg (refCells T 0).toArray)).run Tryd.prog W = .ok RV W := fun W => by rw [run_eqRefs _ _ _ _ HXI.out.tx HTL.out W, hRV]
                      have HRV := Lib.hid hRV
                      clear hRV
                      cases RV
                      · refine wp_region_held_drew (S := fun w' => Below w6.heap.size w6 w') (by kernel_rfl) (below_drew (Below.refl _ _)) (fun hHeld => ?_)
                        refine take_at (i := 0) (v := ?_) rfl rfl (by kernel_rfl) (by kernel_rfl) (by kernel_rfl) (fun _ _ _ h => h) (Or.inl ⟨by rfl, ?_⟩) (by assumption) ?_
                        rotate_left
                        · intro w0 hSw; (try dsimp only at hSw); first | (go_simp; done) | (go_simp; with_reducible rfl)
                        simp only [List.setIfInBounds_toArray, List.set_cons_zero, List.set_cons_succ]
                        refine take_at (i := 1) rfl rfl (by kernel_rfl) (by kernel_rfl) (by kernel_rfl) (fun _ _ _ h => h) (yields_cell (b := g2) (o := 0) (by rfl) rfl rfl (fun w0 hSw => (Below.cell hSw (p := ⟨g2, 0, none⟩) (lt_of_block (keep X6.out H3.out))).trans CI.out) (fun w0 => Tryd.isAgg28 w0)) (by assumption) ?_
                        simp only [List.setIfInBounds_toArray, List.set_cons_zero, List.set_cons_succ]
                        refine take_at (i := 2) (v := ?_) rfl rfl (by kernel_rfl) (by kernel_rfl) (by kernel_rfl) (fun _ _ _ h => h) (Or.inl ⟨by rfl, ?_⟩) (by assumption) ?_
                        rotate_left
                        · intro w0 hSw; (try dsimp only at hSw); first | (go_simp; done) | (go_simp; with_reducible rfl)
                        simp only [List.setIfInBounds_toArray, List.set_cons_zero, List.set_cons_succ]
                        refine take_at (i := 3) (v := ?_) rfl rfl (by kernel_rfl) (by kernel_rfl) (by kernel_rfl) (fun _ _ _ h => h) (Or.inl ⟨by rfl, ?_⟩) (by assumption) ?_
                        rotate_left
                        · intro w0 hSw; (try dsimp only at hSw); first | (go_simp; done) | (go_simp; with_reducible rfl)
                        simp only [List.setIfInBounds_toArray, List.set_cons_zero, List.set_cons_succ]
                        refine take_at (i := 4) rfl rfl (by kernel_rfl) (by kernel_rfl) (by kernel_rfl) (fun _ _ _ h => h) (yieldsIf_load_mid (by rfl) _ _ rfl bj oj rfl (refCells x.tx x.place) _ (fun w0 hSw => in_ref (rangeAt_below RX.out LX.out hSw)) Tryd.underlying25 rfl SZXR.out) (by assumption) ?_
                        simp only [List.setIfInBounds_toArray, List.set_cons_zero, List.set_cons_succ]
                        refine take_at (i := 5) rfl rfl (by kernel_rfl) (by kernel_rfl) (by kernel_rfl) (fun _ _ _ h => h) (yieldsIf_load_mid (by rfl) _ _ rfl g1 0 rfl t.cells _ (fun w0 hSw => range_of (keep hSw (keep X6.out H2.out))) Tryd.underlying35 rfl SZTl.out) (by assumption) ?_
                        simp only [List.setIfInBounds_toArray, List.set_cons_zero, List.set_cons_succ]
                        refine wpAnyH_ready (rs := [6]) (by kernel_rfl) (by simp) ?_
                        refine AllReadyH.cons rfl (fun K hK => ?_) ?_
                        · have HCx := Lib.hid (HSUM.out _ (bthen X6.out hHeld))
                          go_simp
                          go_wp2_with ((go_at_call 9; (with_reducible refine (HCx.out).mono ?_); rintro e y1 ⟨rfl, hb⟩; have HX := Lib.hid (bthen hHeld hb); clear hb HCx))
                          refine hK.out _ _ (by (try dsimp only); exact HX.out) (fun hHeld => ?_)
                          clear hK K
                          refine take_at (i := 7) rfl rfl (by kernel_rfl) (by kernel_rfl) (by kernel_rfl) (fun _ _ _ h => h) (yields_build10 (by rfl) rfl (vs := [(0, .agg (cellsOf T).toArray)]) (by rfl) (build_ref1_14 HTL.out)) (by assumption) ?_
                          simp only [List.setIfInBounds_toArray, List.set_cons_zero, List.set_cons_succ]
                          refine take_at (i := 8) (v := .bool true) rfl rfl (by kernel_rfl) (by kernel_rfl) (by kernel_rfl) (fun _ _ _ h => h) (Or.inl ⟨by rfl, ?_⟩) (by assumption) ?_
                          · intro w0 hSw; (try dsimp only at hSw); first | (go_simp; done) | (go_simp; with_reducible rfl) | (go_simp; omega)
                          simp only [List.setIfInBounds_toArray, List.set_cons_zero, List.set_cons_succ]
                          refine take_at (i := 9) (v := ?_) rfl rfl (by kernel_rfl) (by kernel_rfl) (by kernel_rfl) (fun _ _ _ h => h) (Or.inl ⟨by rfl, ?_⟩) (by assumption) ?_
                          rotate_left
                          · intro w0 hSw; (try dsimp only at hSw); first | (go_simp; done) | (go_simp; with_reducible rfl)
                          simp only [List.setIfInBounds_toArray, List.set_cons_zero, List.set_cons_succ]
                          refine take_at (i := 10) (v := undef) rfl rfl (by kernel_rfl) (by kernel_rfl) (by kernel_rfl) (fun _ _ _ h => h) (Or.inr ⟨by rfl, rfl⟩) (by assumption) ?_
                          simp only [List.setIfInBounds_toArray, List.set_cons_zero, List.set_cons_succ]
                          refine take_at (i := 11) (v := undef) rfl rfl (by kernel_rfl) (by kernel_rfl) (by kernel_rfl) (fun _ _ _ h => h) (Or.inr ⟨by rfl, rfl⟩) (by assumption) ?_
                          simp only [List.setIfInBounds_toArray, List.set_cons_zero, List.set_cons_succ]
                          refine take_at (i := 12) (v := undef) rfl rfl (by kernel_rfl) (by kernel_rfl) (by kernel_rfl) (fun _ _ _ h => h) (Or.inr ⟨by rfl, rfl⟩) (by assumption) ?_
                          simp only [List.setIfInBounds_toArray, List.set_cons_zero, List.set_cons_succ]
                          refine take_at (i := 13) (v := undef) rfl rfl (by kernel_rfl) (by kernel_rfl) (by kernel_rfl) (fun _ _ _ h => h) (Or.inr ⟨by rfl, rfl⟩) (by assumption) ?_
                          simp only [List.setIfInBounds_toArray, List.set_cons_zero, List.set_cons_succ]
                          refine take_at (i := 14) (v := undef) rfl rfl (by kernel_rfl) (by kernel_rfl) (by kernel_rfl) (fun _ _ _ h => h) (Or.inr ⟨by rfl, rfl⟩) (by assumption) ?_
                          simp only [List.setIfInBounds_toArray, List.set_cons_zero, List.set_cons_succ]
                          refine take_at (i := 15) (v := undef) rfl rfl (by kernel_rfl) (by kernel_rfl) (by kernel_rfl) (fun _ _ _ h => h) (Or.inr ⟨by rfl, rfl⟩) (by assumption) ?_
                          simp only [List.setIfInBounds_toArray, List.set_cons_zero, List.set_cons_succ]
                          refine take_at (i := 16) (v := ?_) rfl rfl (by kernel_rfl) (by kernel_rfl) (by kernel_rfl) (fun _ _ _ h => h) (Or.inl ⟨by rfl, ?_⟩) (by assumption) ?_
                          rotate_left
                          · intro w0 hSw; (try dsimp only at hSw); first | (go_simp; done) | (go_simp; with_reducible rfl)
                          simp only [List.setIfInBounds_toArray, List.set_cons_zero, List.set_cons_succ]
                          refine wpAnyH_done (by kernel_rfl) ?_ _
                          clear hHeld
                          have X7 := Lib.hid (bthen X6.out HX.out)
                          obtain rfl : V = 13 := HVV.out.symm.trans (by rw [HONE.out, HRV.out]; rfl)
                          go_wp2_with (first | (go_at_call 5; (with_reducible refine (HAW.out _).mono ?_); rintro e w99 ⟨rfl, hb⟩; have XF := Lib.hid (bthen X7.out hb); clear hb) | fail)
                          go_ret
                          exact ⟨rfl, bthen HB1.out XF.out⟩
                        exact AllReadyH.nil
                      · by_cases hw : x.way = 1
                        · have ew : (x.way != 1) = false := by simp [hw]
                          have HWV : Hid (decide (x.way = 1) = true) := Lib.hid (decide_eq_true hw)
                          clear hw
                          refine wp_region_held_drew (S := fun w' => Below w6.heap.size w6 w') (by kernel_rfl) (below_drew (Below.refl _ _)) (fun hHeld => ?_)
                          refine take_at (i := 0) (v := ?_) rfl rfl (by kernel_rfl) (by kernel_rfl) (by kernel_rfl) (fun _ _ _ h => h) (Or.inl ⟨by rfl, ?_⟩) (by assumption) ?_
                          rotate_left
                          · intro w0 hSw; (try dsimp only at hSw); first | (go_simp; done) | (go_simp; with_reducible rfl)
                          simp only [List.setIfInBounds_toArray, List.set_cons_zero, List.set_cons_succ]
                          refine take_at (i := 1) rfl rfl (by kernel_rfl) (by kernel_rfl) (by kernel_rfl) (fun _ _ _ h => h) (yields_cell (b := g2) (o := 0) (by rfl) rfl rfl (fun w0 hSw => (Below.cell hSw (p := ⟨g2, 0, none⟩) (lt_of_block (keep X6.out H3.out))).trans CI.out) (fun w0 => Tryd.isAgg28 w0)) (by assumption) ?_
                          simp only [List.setIfInBounds_toArray, List.set_cons_zero, List.set_cons_succ]
                          refine take_at (i := 2) (v := ?_) rfl rfl (by kernel_rfl) (by kernel_rfl) (by kernel_rfl) (fun _ _ _ h => h) (Or.inl ⟨by rfl, ?_⟩) (by assumption) ?_
                          rotate_left
                          · intro w0 hSw; (try dsimp only at hSw); first | (go_simp; done) | (go_simp; with_reducible rfl)
                          simp only [List.setIfInBounds_toArray, List.set_cons_zero, List.set_cons_succ]
                          refine take_at (i := 3) (v := ?_) rfl rfl (by kernel_rfl) (by kernel_rfl) (by kernel_rfl) (fun _ _ _ h => h) (Or.inl ⟨by rfl, ?_⟩) (by assumption) ?_
                          rotate_left
                          · intro w0 hSw; (try dsimp only at hSw); first | (go_simp; done) | (go_simp; with_reducible rfl)
                          simp only [List.setIfInBounds_toArray, List.set_cons_zero, List.set_cons_succ]
                          refine take_at (i := 4) rfl rfl (by kernel_rfl) (by kernel_rfl) (by kernel_rfl) (fun _ _ _ h => h) (yieldsIf_load_mid (by rfl) _ _ rfl bj oj rfl (refCells x.tx x.place) _ (fun w0 hSw => in_ref (rangeAt_below RX.out LX.out hSw)) Tryd.underlying25 rfl SZXR.out) (by assumption) ?_
                          simp only [List.setIfInBounds_toArray, List.set_cons_zero, List.set_cons_succ]
                          refine take_at (i := 5) rfl rfl (by kernel_rfl) (by kernel_rfl) (by kernel_rfl) (fun _ _ _ h => h) (yieldsIf_load_mid (by rfl) _ _ rfl g1 0 rfl t.cells _ (fun w0 hSw => range_of (keep hSw (keep X6.out H2.out))) Tryd.underlying35 rfl SZTl.out) (by assumption) ?_
                          simp only [List.setIfInBounds_toArray, List.set_cons_zero, List.set_cons_succ]
                          refine wpAnyH_ready (rs := [6]) (by kernel_rfl) (by simp) ?_
                          refine AllReadyH.cons rfl (fun K hK => ?_) ?_
                          · have HCx := Lib.hid (HSUM.out _ (bthen X6.out hHeld))
                            go_simp
                            go_wp2_with ((go_at_call 9; (with_reducible refine (HCx.out).mono ?_); rintro e y1 ⟨rfl, hb⟩; have HX := Lib.hid (bthen hHeld hb); clear hb HCx))
                            refine hK.out _ _ (by (try dsimp only); exact HX.out) (fun hHeld => ?_)
                            clear hK K
                            refine take_at (i := 7) rfl rfl (by kernel_rfl) (by kernel_rfl) (by kernel_rfl) (fun _ _ _ h => h) (yields_build10 (by rfl) rfl (vs := [(0, .agg (cellsOf T).toArray)]) (by rfl) (build_ref1_14 HTL.out)) (by assumption) ?_
                            simp only [List.setIfInBounds_toArray, List.set_cons_zero, List.set_cons_succ]
                            refine take_at (i := 8) (v := .bool false) rfl rfl (by kernel_rfl) (by kernel_rfl) (by kernel_rfl) (fun _ _ _ h => h) (Or.inl ⟨by rfl, ?_⟩) (by assumption) ?_
                            · intro w0 hSw; (try dsimp only at hSw); first | (go_simp; done) | (go_simp; with_reducible rfl) | (go_simp; omega)
                            simp only [List.setIfInBounds_toArray, List.set_cons_zero, List.set_cons_succ]
                            refine take_at (i := 9) (v := ?_) rfl rfl (by kernel_rfl) (by kernel_rfl) (by kernel_rfl) (fun _ _ _ h => h) (Or.inl ⟨by rfl, ?_⟩) (by assumption) ?_
                            rotate_left
                            · intro w0 hSw; (try dsimp only at hSw); first | (go_simp; done) | (go_simp; with_reducible rfl)
                            simp only [List.setIfInBounds_toArray, List.set_cons_zero, List.set_cons_succ]
                            refine take_at (i := 10) (v := ?_) rfl rfl (by kernel_rfl) (by kernel_rfl) (by kernel_rfl) (fun _ _ _ h => h) (Or.inl ⟨by rfl, ?_⟩) (by assumption) ?_
                            rotate_left
                            · intro w0 hSw; (try dsimp only at hSw); first | (go_simp; done) | (go_simp; with_reducible rfl)
                            simp only [List.setIfInBounds_toArray, List.set_cons_zero, List.set_cons_succ]
                            refine take_at (i := 11) rfl rfl (by kernel_rfl) (by kernel_rfl) (by kernel_rfl) (fun _ _ _ h => h) (yields_cell (b := g2) (o := 0) (by rfl) rfl rfl (fun w0 hSw => (Below.cell hSw (p := ⟨g2, 0, none⟩) (lt_of_block (keep X6.out H3.out))).trans CI.out) (fun w0 => Tryd.isAgg28 w0)) (by assumption) ?_
                            simp only [List.setIfInBounds_toArray, List.set_cons_zero, List.set_cons_succ]
                            refine take_at (i := 12) (v := ?_) rfl rfl (by kernel_rfl) (by kernel_rfl) (by kernel_rfl) (fun _ _ _ h => h) (Or.inl ⟨by rfl, ?_⟩) (by assumption) ?_
                            rotate_left
                            · intro w0 hSw; (try dsimp only at hSw); first | (go_simp; done) | (go_simp; with_reducible rfl)
                            simp only [List.setIfInBounds_toArray, List.set_cons_zero, List.set_cons_succ]
                            refine take_at (i := 13) (v := ?_) rfl rfl (by kernel_rfl) (by kernel_rfl) (by kernel_rfl) (fun _ _ _ h => h) (Or.inl ⟨by rfl, ?_⟩) (by assumption) ?_
                            rotate_left
                            · intro w0 hSw; (try dsimp only at hSw); first | (go_simp; done) | (go_simp; with_reducible rfl)
                            simp only [List.setIfInBounds_toArray, List.set_cons_zero, List.set_cons_succ]
                            refine take_at (i := 14) rfl rfl (by kernel_rfl) (by kernel_rfl) (by kernel_rfl) (fun _ _ _ h => h) (yields_cell (b := bj) (o := (oj + 33)) (by rfl) rfl rfl (fun w0 hSw => (Below.cell hSw (p := ⟨bj, oj + 33, none⟩) LX.out).trans CW.out) (fun w0 => Tryd.isAgg3 w0)) (by assumption) ?_
                            simp only [List.setIfInBounds_toArray, List.set_cons_zero, List.set_cons_succ]
                            refine take_at (i := 15) (v := .bool false) rfl rfl (by kernel_rfl) (by kernel_rfl) (by kernel_rfl) (fun _ _ _ h => h) (Or.inl ⟨by rfl, ?_⟩) (by assumption) ?_
                            · intro w0 hSw; (try dsimp only at hSw); first | (go_simp; done) | (go_simp; with_reducible rfl) | (go_simp; omega)
                            simp only [List.setIfInBounds_toArray, List.set_cons_zero, List.set_cons_succ]
                            refine take_at (i := 16) (v := ?_) rfl rfl (by kernel_rfl) (by kernel_rfl) (by kernel_rfl) (fun _ _ _ h => h) (Or.inl ⟨by rfl, ?_⟩) (by assumption) ?_
                            rotate_left
                            · intro w0 hSw; (try dsimp only at hSw); first | (go_simp; done) | (go_simp; with_reducible rfl)
                            simp only [List.setIfInBounds_toArray, List.set_cons_zero, List.set_cons_succ]
                            refine wpAnyH_done (by kernel_rfl) ?_ _
                            clear hHeld
                            have X7 := Lib.hid (bthen X6.out HX.out)
                            revert X7
                            generalize y1 = w7
                            intro X7
                            go_upto_region 8 with (fail)
                            have co : w7.cell? ⟨g1, 1, none⟩ = some (.slice (some ⟨b, o, none⟩) 2 t.oc) := by have h9 := tx_outs (range_of (keep X7.out H2.out)); rw [Nat.zero_add, HP.out.oa, HP.out.on] at h9; exact h9
                            have HP7 := Lib.hid (HP.out.below (bthen HB1.out X7.out))
                            have cw : w7.cell? ⟨b, o + 1, none⟩ = some (.slice (some ⟨b2, o2, none⟩) 2 wk) := (range_cons (range_cons HP7.out.out).2).1
                            have cy : w7.cell? ⟨b2, o2 + 35, none⟩ = some (.slice u1.a 1 u1.c) := by have h9 := (range_cons HP7.out.at2).1; rw [HP.out.kn] at h9; exact h9
                            have RW := Lib.hid HP7.out.at2
                            have SZU := Lib.hid (way_size HP.out.way.sum)
                            have ZW : Hid (u1.cells.length = 35) := Lib.hid (PWay.cells_len HP.out.way.sum)
                            go_upto_region 11 with (first | (refine wpList_load_mid rfl 50 _ rfl b2 (o2 + 35) rfl u1.cells _ RW.out Tryd.underlying50 rfl SZU.out ?_) | (refine wpList_var rfl rfl 50 rfl _ _ rfl noWay.cells.toArray Tryd.zeroWay14 rfl u1.cells (fun _ => rfl) (fun _ => rfl) ZW.out (PWay.cells_one _) ?_; intro v w8 hq hh hb; go_frame; have HV := Lib.hid hh; have X8 := Lib.hid (bthen X7.out hb); clear hq hh hb) | fail)
                            clear co cw cy RW
                            have CI8 : Hid (w8.cell? ⟨g2, 0, none⟩ = some (.slice (some ⟨bj, oj, none⟩) 1 j.ic)) := Lib.hid (by have h9 := tx_ins (range_of (keep X8.out H3.out)); rw [HIA.out, HI.out] at h9; exact h9)
                            have LX8 := Lib.hid (Nat.lt_of_lt_of_le HJL.out (bthen HB1.out X8.out).size)
                            have CP8 : Hid (w8.cell? ⟨bj, oj + 34, none⟩ = some (.slice x.a x.n x.c)) := Lib.hid (in_pre HXI.out.tx (rangeAt_below HJB.out HJL.out (bthen HB1.out X8.out)))
                            obtain ⟨KS, hKS⟩ : ∃ KS, keysBy (txSum j) j.signs = KS := ⟨_, rfl⟩
                            have HKY : Hid (∀ W : World, Below w1.heap.size w1 W → Calls Tryd.prog 11 #[.agg j.cells.toArray] W fun e w' => ∃ (a : Option Addr) (n c : Nat), e = .returned (.slice a n c) ∧ Numbers w' a n c KS ∧ Below W.heap.size W w') := Lib.hid (fun W hW => by rw [← hKS]; exact txKeys_any (HJ.out.below (bthen HB1.out hW)) (HK.out.below (bthen HB1.out hW)) HFJ.out (by have h9 := HSN.out; omega))
                            have hks20 : KS.length ≤ 20 := by have h9 := keysBy_len (s := txSum j) j.signs; have h8 := HJ.out.signs.1; have h7 := HSN.out; rw [hKS] at h9; omega
                            have hpre : x.n ≤ 1000000 := by have h9 := HPN.out x (by rw [HINS.out]; simp); omega
                            obtain ⟨OV, hOV⟩ : ∃ OV, opensW u1 KS x.pre 0 0 = OV := ⟨_, rfl⟩
                            have HOPN : Hid (∀ (W : World) (a : Option Addr) (n c : Nat), Below w1.heap.size w1 W → Numbers W a n c KS → Calls Tryd.prog 10 #[.agg u1.cells.toArray, .agg #[.slice a n c, .slice x.a x.n x.c, .int .i64 0, .int .i64 0]] W fun e w' => e = .returned (.bool OV) ∧ Below W.heap.size W w') := Lib.hid (fun W a n c hW hn => by rw [← hOV]; exact opens_any (HP.out.way.below (bthen HB1.out hW)) hn (HXI.out.pre.below (bthen HB1.out hW)) (HK.out.below (bthen HB1.out hW)) (by have h9 := hn.1; omega) hpre)
                            have HOV := Lib.hid hOV
                            have HKS := Lib.hid hKS
                            clear hKS hks20 hpre hOV
                            cases OV
                            · refine wp_region_held_drew (S := fun w' => Below w8.heap.size w8 w') (by kernel_rfl) (below_drew (Below.refl _ _)) (fun hHeld => ?_)
                              refine take_at (i := 0) rfl rfl (by kernel_rfl) (by kernel_rfl) (by kernel_rfl) (fun _ _ _ h => h) (yieldsIf_load_mid (by rfl) _ _ rfl v 0 rfl u1.cells _ (fun w0 hSw => range_of (keep hSw HV.out)) Tryd.underlying50 rfl SZU.out) (by assumption) ?_
                              simp only [List.setIfInBounds_toArray, List.set_cons_zero, List.set_cons_succ]
                              refine take_at (i := 1) rfl rfl (by kernel_rfl) (by kernel_rfl) (by kernel_rfl) (fun _ _ _ h => h) (yieldsIf_load_mid (by rfl) _ _ rfl g2 0 rfl j.cells _ (fun w0 hSw => range_of (keep hSw (keep X8.out H3.out))) Tryd.underlying35 rfl SZJ.out) (by assumption) ?_
                              simp only [List.setIfInBounds_toArray, List.set_cons_zero, List.set_cons_succ]
                              refine take_at (i := 3) (v := ?_) rfl rfl (by kernel_rfl) (by kernel_rfl) (by kernel_rfl) (fun _ _ _ h => h) (Or.inl ⟨by rfl, ?_⟩) (by assumption) ?_
                              rotate_left
                              · intro w0 hSw; (try dsimp only at hSw); first | (go_simp; done) | (go_simp; with_reducible rfl)
                              simp only [List.setIfInBounds_toArray, List.set_cons_zero, List.set_cons_succ]
                              refine take_at (i := 4) rfl rfl (by kernel_rfl) (by kernel_rfl) (by kernel_rfl) (fun _ _ _ h => h) (yields_cell (b := g2) (o := 0) (by rfl) rfl rfl (fun w0 hSw => (Below.cell hSw (p := ⟨g2, 0, none⟩) (lt_of_block (keep X8.out H3.out))).trans CI8.out) (fun w0 => Tryd.isAgg28 w0)) (by assumption) ?_
                              simp only [List.setIfInBounds_toArray, List.set_cons_zero, List.set_cons_succ]
                              refine take_at (i := 5) (v := ?_) rfl rfl (by kernel_rfl) (by kernel_rfl) (by kernel_rfl) (fun _ _ _ h => h) (Or.inl ⟨by rfl, ?_⟩) (by assumption) ?_
                              rotate_left
                              · intro w0 hSw; (try dsimp only at hSw); first | (go_simp; done) | (go_simp; with_reducible rfl)
                              simp only [List.setIfInBounds_toArray, List.set_cons_zero, List.set_cons_succ]
                              refine take_at (i := 6) (v := ?_) rfl rfl (by kernel_rfl) (by kernel_rfl) (by kernel_rfl) (fun _ _ _ h => h) (Or.inl ⟨by rfl, ?_⟩) (by assumption) ?_
                              rotate_left
                              · intro w0 hSw; (try dsimp only at hSw); first | (go_simp; done) | (go_simp; with_reducible rfl)
                              simp only [List.setIfInBounds_toArray, List.set_cons_zero, List.set_cons_succ]
                              refine take_at (i := 7) rfl rfl (by kernel_rfl) (by kernel_rfl) (by kernel_rfl) (fun _ _ _ h => h) (yields_cell (b := bj) (o := (oj + 34)) (by rfl) rfl rfl (fun w0 hSw => (Below.cell hSw (p := ⟨bj, oj + 34, none⟩) LX8.out).trans CP8.out) (fun w0 => Tryd.isAgg30 w0)) (by assumption) ?_
                              simp only [List.setIfInBounds_toArray, List.set_cons_zero, List.set_cons_succ]
                              refine wpAnyH_ready (rs := [2]) (by kernel_rfl) (by simp) ?_
                              refine AllReadyH.cons rfl (fun K hK => ?_) ?_
                              · have HCx := Lib.hid (HKY.out _ (bthen X8.out hHeld))
                                go_simp
                                go_wp2_with ((go_at_call 11; (with_reducible refine (HCx.out).mono ?_); rintro e y1 ⟨ka, kn, kc, rfl, hn, hb⟩; have HN := Lib.hid hn; have HX := Lib.hid (bthen hHeld hb); clear hn hb HCx))
                                refine hK.out _ _ (by (try dsimp only); exact HX.out) (fun hHeld => ?_)
                                clear hK K
                                refine take_at (i := 8) rfl rfl (by kernel_rfl) (by kernel_rfl) (by kernel_rfl) (fun _ _ _ h => h) (yields_build10 (by rfl) rfl (vs := [(0, .slice ka kn kc), (1, .slice x.a x.n x.c)]) (by rfl) (build_try15 _ _ _ _ _ _)) (by assumption) ?_
                                simp only [List.setIfInBounds_toArray, List.set_cons_zero, List.set_cons_succ]
                                refine wpAnyH_ready (rs := [9]) (by kernel_rfl) (by simp) ?_
                                refine AllReadyH.cons rfl (fun K hK => ?_) ?_
                                · have HCx := Lib.hid (HOPN.out _ ka kn kc (bthen X8.out hHeld) HN.out)
                                  go_simp
                                  go_wp2_with ((go_at_call 10; (with_reducible refine (HCx.out).mono ?_); rintro e y2 ⟨rfl, hb⟩; have HX := Lib.hid (bthen hHeld hb); clear hb HCx))
                                  refine hK.out _ _ (by (try dsimp only); exact HX.out) (fun hHeld => ?_)
                                  clear hK K
                                  refine take_at (i := 10) (v := .bool true) rfl rfl (by kernel_rfl) (by kernel_rfl) (by kernel_rfl) (fun _ _ _ h => h) (Or.inl ⟨by rfl, ?_⟩) (by assumption) ?_
                                  · intro w0 hSw; (try dsimp only at hSw); first | (go_simp; done) | (go_simp; with_reducible rfl) | (go_simp; omega)
                                  simp only [List.setIfInBounds_toArray, List.set_cons_zero, List.set_cons_succ]
                                  refine wpAnyH_done (by kernel_rfl) ?_ _
                                  clear hHeld
                                  have X9 := Lib.hid (bthen X8.out HX.out)
                                  obtain rfl : V = 12 := HVV.out.symm.trans (by rw [HONE.out, HRV.out, HWV.out, HKS.out]; unfold passR; simp only [HOV.out]; rfl)
                                  go_wp2_with (first | (go_at_call 5; (with_reducible refine (HAW.out _).mono ?_); rintro e w99 ⟨rfl, hb⟩; have XF := Lib.hid (bthen X9.out hb); clear hb) | fail)
                                  go_ret
                                  exact ⟨rfl, bthen HB1.out XF.out⟩
                                exact AllReadyH.nil
                              exact AllReadyH.nil
                            · refine wp_region_held_drew (S := fun w' => Below w8.heap.size w8 w') (by kernel_rfl) (below_drew (Below.refl _ _)) (fun hHeld => ?_)
                              refine take_at (i := 0) rfl rfl (by kernel_rfl) (by kernel_rfl) (by kernel_rfl) (fun _ _ _ h => h) (yieldsIf_load_mid (by rfl) _ _ rfl v 0 rfl u1.cells _ (fun w0 hSw => range_of (keep hSw HV.out)) Tryd.underlying50 rfl SZU.out) (by assumption) ?_
                              simp only [List.setIfInBounds_toArray, List.set_cons_zero, List.set_cons_succ]
                              refine take_at (i := 1) rfl rfl (by kernel_rfl) (by kernel_rfl) (by kernel_rfl) (fun _ _ _ h => h) (yieldsIf_load_mid (by rfl) _ _ rfl g2 0 rfl j.cells _ (fun w0 hSw => range_of (keep hSw (keep X8.out H3.out))) Tryd.underlying35 rfl SZJ.out) (by assumption) ?_
                              simp only [List.setIfInBounds_toArray, List.set_cons_zero, List.set_cons_succ]
                              refine take_at (i := 3) (v := ?_) rfl rfl (by kernel_rfl) (by kernel_rfl) (by kernel_rfl) (fun _ _ _ h => h) (Or.inl ⟨by rfl, ?_⟩) (by assumption) ?_
                              rotate_left
                              · intro w0 hSw; (try dsimp only at hSw); first | (go_simp; done) | (go_simp; with_reducible rfl)
                              simp only [List.setIfInBounds_toArray, List.set_cons_zero, List.set_cons_succ]
                              refine take_at (i := 4) rfl rfl (by kernel_rfl) (by kernel_rfl) (by kernel_rfl) (fun _ _ _ h => h) (yields_cell (b := g2) (o := 0) (by rfl) rfl rfl (fun w0 hSw => (Below.cell hSw (p := ⟨g2, 0, none⟩) (lt_of_block (keep X8.out H3.out))).trans CI8.out) (fun w0 => Tryd.isAgg28 w0)) (by assumption) ?_
                              simp only [List.setIfInBounds_toArray, List.set_cons_zero, List.set_cons_succ]
                              refine take_at (i := 5) (v := ?_) rfl rfl (by kernel_rfl) (by kernel_rfl) (by kernel_rfl) (fun _ _ _ h => h) (Or.inl ⟨by rfl, ?_⟩) (by assumption) ?_
                              rotate_left
                              · intro w0 hSw; (try dsimp only at hSw); first | (go_simp; done) | (go_simp; with_reducible rfl)
                              simp only [List.setIfInBounds_toArray, List.set_cons_zero, List.set_cons_succ]
                              refine take_at (i := 6) (v := ?_) rfl rfl (by kernel_rfl) (by kernel_rfl) (by kernel_rfl) (fun _ _ _ h => h) (Or.inl ⟨by rfl, ?_⟩) (by assumption) ?_
                              rotate_left
                              · intro w0 hSw; (try dsimp only at hSw); first | (go_simp; done) | (go_simp; with_reducible rfl)
                              simp only [List.setIfInBounds_toArray, List.set_cons_zero, List.set_cons_succ]
                              refine take_at (i := 7) rfl rfl (by kernel_rfl) (by kernel_rfl) (by kernel_rfl) (fun _ _ _ h => h) (yields_cell (b := bj) (o := (oj + 34)) (by rfl) rfl rfl (fun w0 hSw => (Below.cell hSw (p := ⟨bj, oj + 34, none⟩) LX8.out).trans CP8.out) (fun w0 => Tryd.isAgg30 w0)) (by assumption) ?_
                              simp only [List.setIfInBounds_toArray, List.set_cons_zero, List.set_cons_succ]
                              refine wpAnyH_ready (rs := [2]) (by kernel_rfl) (by simp) ?_
                              refine AllReadyH.cons rfl (fun K hK => ?_) ?_
                              · have HCx := Lib.hid (HKY.out _ (bthen X8.out hHeld))
                                go_simp
                                go_wp2_with ((go_at_call 11; (with_reducible refine (HCx.out).mono ?_); rintro e y1 ⟨ka, kn, kc, rfl, hn, hb⟩; have HN := Lib.hid hn; have HX := Lib.hid (bthen hHeld hb); clear hn hb HCx))
                                refine hK.out _ _ (by (try dsimp only); exact HX.out) (fun hHeld => ?_)
                                clear hK K
                                refine take_at (i := 8) rfl rfl (by kernel_rfl) (by kernel_rfl) (by kernel_rfl) (fun _ _ _ h => h) (yields_build10 (by rfl) rfl (vs := [(0, .slice ka kn kc), (1, .slice x.a x.n x.c)]) (by rfl) (build_try15 _ _ _ _ _ _)) (by assumption) ?_
                                simp only [List.setIfInBounds_toArray, List.set_cons_zero, List.set_cons_succ]
                                refine wpAnyH_ready (rs := [9]) (by kernel_rfl) (by simp) ?_
                                refine AllReadyH.cons rfl (fun K hK => ?_) ?_
                                · have HCx := Lib.hid (HOPN.out _ ka kn kc (bthen X8.out hHeld) HN.out)
                                  go_simp
                                  go_wp2_with ((go_at_call 10; (with_reducible refine (HCx.out).mono ?_); rintro e y2 ⟨rfl, hb⟩; have HX := Lib.hid (bthen hHeld hb); clear hb HCx))
                                  refine hK.out _ _ (by (try dsimp only); exact HX.out) (fun hHeld => ?_)
                                  clear hK K
                                  refine take_at (i := 10) (v := .bool false) rfl rfl (by kernel_rfl) (by kernel_rfl) (by kernel_rfl) (fun _ _ _ h => h) (Or.inl ⟨by rfl, ?_⟩) (by assumption) ?_
                                  · intro w0 hSw; (try dsimp only at hSw); first | (go_simp; done) | (go_simp; with_reducible rfl) | (go_simp; omega)
                                  simp only [List.setIfInBounds_toArray, List.set_cons_zero, List.set_cons_succ]
                                  refine wpAnyH_done (by kernel_rfl) ?_ _
                                  clear hHeld
                                  have X9 := Lib.hid (bthen X8.out HX.out)
                                  revert X9
                                  generalize y2 = w9
                                  intro X9
                                  have HPASS : Hid (V = passR m u1 KS x.pre j.outs) := Lib.hid (by rw [← HVV.out, HONE.out, HRV.out, HWV.out, HKS.out]; rfl)
                                  obtain ⟨A1, A2, hA⟩ : ∃ A1 A2, addFrom 0 (sumsOf j.outs) = (A1, A2) := ⟨_, _, rfl⟩
                                  have HVA : Hid (V = if A2 = 0 then (if m < A1 then 14 else 0) else A2) := Lib.hid (by rw [HPASS.out]; unfold passR; rw [HOV.out, hA]; rfl)
                                  have HA := Lib.hid hA
                                  have HOUTS := Lib.hid (HJ.out.outs)
                                  clear hA HPASS HOV
                                  go_upto_region 15 with (fail)
                                  go_loopw [9, 10] (fun v i wr => ∃ (k : Nat) (ks : List Int), k ≤ j.on ∧ i = .int .i64 k ∧ ks = sumsOf (j.outs.take k) ∧ OwnZ wr 2 w9.heap.size v ks ∧ Below w9.heap.size w9 wr) (fun _ i _ => j.on - (intOf i).toNat)
                                  case atStart => exact ⟨0, [], Nat.zero_le _, rfl, rfl, OwnZ.nil _ _ _, Below.refl _ _⟩
                                  case round =>
                                    obtain ⟨k, ks, hk, rfl, hks, hown, hbr⟩ := hrel
                                    have HKS2 := Lib.hid hks
                                    have HOWN := Lib.hid hown
                                    have HBR := Lib.hid hbr
                                    obtain ⟨va, vc, rfl, _⟩ := hown.shape
                                    have XR := Lib.hid (bthen X9.out hbr)
                                    have hsg := HOUTS.out.below (bthen HB1.out XR.out)
                                    have hkl1000 : ks.length ≤ 1000 := by rw [hks, sumsOf_len, List.length_take]; have h9 := HON.out; omega
                                    have co := tx_outs (range_of (keep XR.out H3.out))
                                    rw [Nat.zero_add] at co
                                    clear hks hown hbr
                                    by_cases hkn : k < j.on
                                    · have f1 : (k : Int) < (j.on : Int) := by omega
                                      have f0 : (0 : Int) ≤ (k : Int) := by omega
                                      have ft : ((k : Int)).toNat = k := by omega
                                      have hkl : k < j.outs.length := by rw [hsg.1]; exact hkn
                                      obtain ⟨b1, o1, e1, hltb, hc1⟩ := hsg.2.2.2.2.2 (by omega)
                                      have hrx : wr.rangeAt b1 (o1 + k * 2) (j.outs.getD k noOut).cells := hc1 k hkn
                                      have hy1 : OutIn wr (j.outs.getD k noOut) := hsg.get hkn
                                      have hnx := sumsOf_take hkl
                                      rw [← HKS2.out] at hnx
                                      revert hrx hy1 hnx
                                      generalize j.outs.getD k noOut = y
                                      intro hrx hy1 hnx
                                      have HFK := Lib.hid hy1.m
                                      have HNX := Lib.hid hnx
                                      rw [e1] at co
                                      have cm : wr.cell? ⟨b1, o1 + k * 2, none⟩ = some (.int .i64 y.m) := (range_cons hrx).1
                                      have b6 : Below wr.heap.size wr (wr.alloc (.cells #[.int .i64 y.m] 2)) := (Below.refl _ _).alloc (Nat.le_refl _) _
                                      have HO6 := Lib.hid (HOWN.out.below b6)
                                      have HB6 := Lib.hid (bthen HBR.out b6)
                                      have HN1 := Lib.hid (numbers_one (heap_alloc_new wr (.cells #[.int .i64 y.m] 2)) HFK.out)
                                      obtain ⟨ie, i1, hz0, hz1, hz2⟩ := info_parts (show (Tryd.prog.info? 2).map (fun i => (i.zero, i.size, i.bytes)) = some (some (.int .i64 0), 1, 8) by kernel_rfl)
                                      have HI := Lib.hid i1
                                      clear b6 i1 hc1 hrx hy1 hnx hkl hsg e1
                                      go_wp2_with (at_builtin; refine wpList_append_numbers _ rfl _ _ 55 2 rfl w9.heap.size ie Tryd.underlying55 HI.out hz0 hz1 hz2 (.slice va ks.length vc) ks ks.length rfl rfl HO6.out _ 1 1 [y.m] rfl HN1.out (by omega) HB6.out.size ?_; intro a8 c8 w10 ho8 hg8; have HO8 := Lib.hid ho8; have HB8 := Lib.hid (HB6.out.trans (HO6.out.grows hg8 HB6.out.size)); clear ho8 hg8)
                                      go_roundw
                                      case rel => exact ⟨k + 1, ks ++ [y.m], by omega, by go_num, HNX.out.symm, HO8.out, HB8.out⟩
                                      case measure => simp [intOf]; omega
                                    · obtain rfl : k = j.on := by omega
                                      have f1 : ¬ ((j.on : Int) < (j.on : Int)) := by omega
                                      have htk : j.outs.take j.on = j.outs := List.take_of_length_le (by rw [hsg.1]; exact Nat.le_refl _)
                                      have hk2 : ks = sumsOf j.outs := by rw [HKS2.out, htk]
                                      have hadd := add_any HOWN.out.numbers
                                      rw [hk2, HA.out] at hadd
                                      have HADD := Lib.hid (show Calls Tryd.prog 12 #[.slice va (sumsOf j.outs).length vc] wr fun e w' => e = .returned (.tuple #[.int .i64 A1, .int .i64 A2]) ∧ Below wr.heap.size wr w' from hadd)
                                      subst hk2
                                      clear htk HKS2 hadd hsg
                                      go_upto_region 19 with (first | (go_at_call 12; (with_reducible refine (HADD.out).mono ?_); rintro e w11 ⟨rfl, hb⟩; have X11 := Lib.hid (bthen XR.out hb); clear hb) | fail)
                                      by_cases hA2 : A2 = 0
                                      · have e2 : (A2 != 0) = false := by simp [hA2]
                                        have co2 : w11.cell? ⟨g1, 1, none⟩ = some (.slice (some ⟨b, o, none⟩) 2 t.oc) := by have h9 := tx_outs (range_of (keep X11.out H2.out)); rw [Nat.zero_add, HP.out.oa, HP.out.on] at h9; exact h9
                                        have cm2 : w11.cell? ⟨b, o, none⟩ = some (.int .i64 m) := (range_cons (HP.out.below (bthen HB1.out X11.out)).out).1
                                        by_cases hm : m < A1
                                        · have e3 : decide (m < A1) = true := decide_eq_true hm
                                          obtain rfl : V = 14 := by rw [HVA.out, if_pos hA2, if_pos hm]
                                          clear HVA hA2
                                          go_wp2_with (first | (go_at_call 5; (with_reducible refine (HAW.out _).mono ?_); rintro e w99 ⟨rfl, hb⟩; have XF := Lib.hid (bthen X11.out hb); clear hb) | fail)
                                          go_ret
                                          exact ⟨rfl, bthen HB1.out XF.out⟩
                                        · have e3 : decide (m < A1) = false := decide_eq_false hm
                                          obtain rfl : V = 0 := by rw [HVA.out, if_pos hA2, if_neg hm]
                                          clear HVA hA2
                                          go_wp2_with (first | (go_at_call 5; (with_reducible refine (HAW.out _).mono ?_); rintro e w99 ⟨rfl, hb⟩; have XF := Lib.hid (bthen X11.out hb); clear hb) | fail)
                                          go_ret
                                          exact ⟨rfl, bthen HB1.out XF.out⟩
                                      · have e2 : (A2 != 0) = true := by simp [hA2]
                                        obtain rfl : V = A2 := by rw [HVA.out, if_neg hA2]
                                        clear HVA hA2
                                        go_wp2_with (first | (go_at_call 5; (with_reducible refine (HAW.out _).mono ?_); rintro e w99 ⟨rfl, hb⟩; have XF := Lib.hid (bthen X11.out hb); clear hb) | fail)
                                        go_ret
                                        exact ⟨rfl, bthen HB1.out XF.out⟩
                                exact AllReadyH.nil
                              exact AllReadyH.nil
                          exact AllReadyH.nil
                        · have ew : (x.way != 1) = true := by simp [hw]
                          have HWV : Hid (decide (x.way = 1) = false) := Lib.hid (decide_eq_false hw)
                          clear hw
                          refine wp_region_held_drew (S := fun w' => Below w6.heap.size w6 w') (by kernel_rfl) (below_drew (Below.refl _ _)) (fun hHeld => ?_)
                          refine take_at (i := 0) (v := ?_) rfl rfl (by kernel_rfl) (by kernel_rfl) (by kernel_rfl) (fun _ _ _ h => h) (Or.inl ⟨by rfl, ?_⟩) (by assumption) ?_
                          rotate_left
                          · intro w0 hSw; (try dsimp only at hSw); first | (go_simp; done) | (go_simp; with_reducible rfl)
                          simp only [List.setIfInBounds_toArray, List.set_cons_zero, List.set_cons_succ]
                          refine take_at (i := 1) rfl rfl (by kernel_rfl) (by kernel_rfl) (by kernel_rfl) (fun _ _ _ h => h) (yields_cell (b := g2) (o := 0) (by rfl) rfl rfl (fun w0 hSw => (Below.cell hSw (p := ⟨g2, 0, none⟩) (lt_of_block (keep X6.out H3.out))).trans CI.out) (fun w0 => Tryd.isAgg28 w0)) (by assumption) ?_
                          simp only [List.setIfInBounds_toArray, List.set_cons_zero, List.set_cons_succ]
                          refine take_at (i := 2) (v := ?_) rfl rfl (by kernel_rfl) (by kernel_rfl) (by kernel_rfl) (fun _ _ _ h => h) (Or.inl ⟨by rfl, ?_⟩) (by assumption) ?_
                          rotate_left
                          · intro w0 hSw; (try dsimp only at hSw); first | (go_simp; done) | (go_simp; with_reducible rfl)
                          simp only [List.setIfInBounds_toArray, List.set_cons_zero, List.set_cons_succ]
                          refine take_at (i := 3) (v := ?_) rfl rfl (by kernel_rfl) (by kernel_rfl) (by kernel_rfl) (fun _ _ _ h => h) (Or.inl ⟨by rfl, ?_⟩) (by assumption) ?_
                          rotate_left
                          · intro w0 hSw; (try dsimp only at hSw); first | (go_simp; done) | (go_simp; with_reducible rfl)
                          simp only [List.setIfInBounds_toArray, List.set_cons_zero, List.set_cons_succ]
                          refine take_at (i := 4) rfl rfl (by kernel_rfl) (by kernel_rfl) (by kernel_rfl) (fun _ _ _ h => h) (yieldsIf_load_mid (by rfl) _ _ rfl bj oj rfl (refCells x.tx x.place) _ (fun w0 hSw => in_ref (rangeAt_below RX.out LX.out hSw)) Tryd.underlying25 rfl SZXR.out) (by assumption) ?_
                          simp only [List.setIfInBounds_toArray, List.set_cons_zero, List.set_cons_succ]
                          refine take_at (i := 5) rfl rfl (by kernel_rfl) (by kernel_rfl) (by kernel_rfl) (fun _ _ _ h => h) (yieldsIf_load_mid (by rfl) _ _ rfl g1 0 rfl t.cells _ (fun w0 hSw => range_of (keep hSw (keep X6.out H2.out))) Tryd.underlying35 rfl SZTl.out) (by assumption) ?_
                          simp only [List.setIfInBounds_toArray, List.set_cons_zero, List.set_cons_succ]
                          refine wpAnyH_ready (rs := [6]) (by kernel_rfl) (by simp) ?_
                          refine AllReadyH.cons rfl (fun K hK => ?_) ?_
                          · have HCx := Lib.hid (HSUM.out _ (bthen X6.out hHeld))
                            go_simp
                            go_wp2_with ((go_at_call 9; (with_reducible refine (HCx.out).mono ?_); rintro e y1 ⟨rfl, hb⟩; have HX := Lib.hid (bthen hHeld hb); clear hb HCx))
                            refine hK.out _ _ (by (try dsimp only); exact HX.out) (fun hHeld => ?_)
                            clear hK K
                            refine take_at (i := 7) rfl rfl (by kernel_rfl) (by kernel_rfl) (by kernel_rfl) (fun _ _ _ h => h) (yields_build10 (by rfl) rfl (vs := [(0, .agg (cellsOf T).toArray)]) (by rfl) (build_ref1_14 HTL.out)) (by assumption) ?_
                            simp only [List.setIfInBounds_toArray, List.set_cons_zero, List.set_cons_succ]
                            refine take_at (i := 8) (v := .bool false) rfl rfl (by kernel_rfl) (by kernel_rfl) (by kernel_rfl) (fun _ _ _ h => h) (Or.inl ⟨by rfl, ?_⟩) (by assumption) ?_
                            · intro w0 hSw; (try dsimp only at hSw); first | (go_simp; done) | (go_simp; with_reducible rfl) | (go_simp; omega)
                            simp only [List.setIfInBounds_toArray, List.set_cons_zero, List.set_cons_succ]
                            refine take_at (i := 9) (v := ?_) rfl rfl (by kernel_rfl) (by kernel_rfl) (by kernel_rfl) (fun _ _ _ h => h) (Or.inl ⟨by rfl, ?_⟩) (by assumption) ?_
                            rotate_left
                            · intro w0 hSw; (try dsimp only at hSw); first | (go_simp; done) | (go_simp; with_reducible rfl)
                            simp only [List.setIfInBounds_toArray, List.set_cons_zero, List.set_cons_succ]
                            refine take_at (i := 10) (v := ?_) rfl rfl (by kernel_rfl) (by kernel_rfl) (by kernel_rfl) (fun _ _ _ h => h) (Or.inl ⟨by rfl, ?_⟩) (by assumption) ?_
                            rotate_left
                            · intro w0 hSw; (try dsimp only at hSw); first | (go_simp; done) | (go_simp; with_reducible rfl)
                            simp only [List.setIfInBounds_toArray, List.set_cons_zero, List.set_cons_succ]
                            refine take_at (i := 11) rfl rfl (by kernel_rfl) (by kernel_rfl) (by kernel_rfl) (fun _ _ _ h => h) (yields_cell (b := g2) (o := 0) (by rfl) rfl rfl (fun w0 hSw => (Below.cell hSw (p := ⟨g2, 0, none⟩) (lt_of_block (keep X6.out H3.out))).trans CI.out) (fun w0 => Tryd.isAgg28 w0)) (by assumption) ?_
                            simp only [List.setIfInBounds_toArray, List.set_cons_zero, List.set_cons_succ]
                            refine take_at (i := 12) (v := ?_) rfl rfl (by kernel_rfl) (by kernel_rfl) (by kernel_rfl) (fun _ _ _ h => h) (Or.inl ⟨by rfl, ?_⟩) (by assumption) ?_
                            rotate_left
                            · intro w0 hSw; (try dsimp only at hSw); first | (go_simp; done) | (go_simp; with_reducible rfl)
                            simp only [List.setIfInBounds_toArray, List.set_cons_zero, List.set_cons_succ]
                            refine take_at (i := 13) (v := ?_) rfl rfl (by kernel_rfl) (by kernel_rfl) (by kernel_rfl) (fun _ _ _ h => h) (Or.inl ⟨by rfl, ?_⟩) (by assumption) ?_
                            rotate_left
                            · intro w0 hSw; (try dsimp only at hSw); first | (go_simp; done) | (go_simp; with_reducible rfl)
                            simp only [List.setIfInBounds_toArray, List.set_cons_zero, List.set_cons_succ]
                            refine take_at (i := 14) rfl rfl (by kernel_rfl) (by kernel_rfl) (by kernel_rfl) (fun _ _ _ h => h) (yields_cell (b := bj) (o := (oj + 33)) (by rfl) rfl rfl (fun w0 hSw => (Below.cell hSw (p := ⟨bj, oj + 33, none⟩) LX.out).trans CW.out) (fun w0 => Tryd.isAgg3 w0)) (by assumption) ?_
                            simp only [List.setIfInBounds_toArray, List.set_cons_zero, List.set_cons_succ]
                            refine take_at (i := 15) (v := .bool true) rfl rfl (by kernel_rfl) (by kernel_rfl) (by kernel_rfl) (fun _ _ _ h => h) (Or.inl ⟨by rfl, ?_⟩) (by assumption) ?_
                            · intro w0 hSw; (try dsimp only at hSw); first | (go_simp; done) | (go_simp; with_reducible rfl) | (go_simp; omega)
                            simp only [List.setIfInBounds_toArray, List.set_cons_zero, List.set_cons_succ]
                            refine take_at (i := 16) (v := ?_) rfl rfl (by kernel_rfl) (by kernel_rfl) (by kernel_rfl) (fun _ _ _ h => h) (Or.inl ⟨by rfl, ?_⟩) (by assumption) ?_
                            rotate_left
                            · intro w0 hSw; (try dsimp only at hSw); first | (go_simp; done) | (go_simp; with_reducible rfl)
                            simp only [List.setIfInBounds_toArray, List.set_cons_zero, List.set_cons_succ]
                            refine wpAnyH_done (by kernel_rfl) ?_ _
                            clear hHeld
                            have X7 := Lib.hid (bthen X6.out HX.out)
                            obtain rfl : V = 13 := HVV.out.symm.trans (by rw [HONE.out, HRV.out, HWV.out]; rfl)
                            go_wp2_with (first | (go_at_call 5; (with_reducible refine (HAW.out _).mono ?_); rintro e w99 ⟨rfl, hb⟩; have XF := Lib.hid (bthen X7.out hb); clear hb) | fail)
                            go_ret
                            exact ⟨rfl, bthen HB1.out XF.out⟩
                          exact AllReadyH.nil
                    · have e4 : (j.op.kind != 0) = true := by simp [h4]
                      obtain rfl : V = 1 := HVV.out.symm.trans (checkR_kind h4)
                      go_wp2_with (first | (refine wpList_load_row rfl 27 _ rfl g rfl 27 c.cells.toArray (0, 0) _ (keep X4.out H1.out) Tryd.underlying27 rfl SZC.out ?_) | (refine wpList_load_row rfl 35 _ rfl g1 rfl 35 t.cells.toArray (0, 0) _ (keep X4.out H2.out) Tryd.underlying35 rfl SZT.out ?_) | (refine wpList_mid_wanted (by rfl) 35 _ rfl g2 0 rfl j.cells _ (range_of (keep X5.out H3.out)) Tryd.underlying35 rfl SZJ.out ?_) | (go_at_call 7; (with_reducible refine (HOW.out _ X4.out).mono ?_); rintro e w5 ⟨rfl, hb⟩; have X5 := Lib.hid (bthen X4.out hb); clear hb) | (go_at_call 8; (with_reducible refine (HTR.out _ X5.out).mono ?_); rintro e w6 ⟨rfl, hb⟩; have X6 := Lib.hid (bthen X5.out hb); have ci := tx_ins (range_of (keep X6.out H3.out)); have ck := op_kind (tx_op (range_of (keep X6.out H3.out))); rw [Nat.zero_add] at ck; clear hb) | (go_at_call 5; (with_reducible refine (HAW.out _).mono ?_); rintro e w99 ⟨rfl, hb⟩; have XF := Lib.hid (bthen X6.out hb); clear hb) | fail)
                      go_ret
                      exact ⟨rfl, bthen HB1.out XF.out⟩
                  · have e2 : ((j.inn : Int) != 1) = true := by simp; omega
                    obtain rfl : V = 1 := HVV.out.symm.trans (checkR_len h2)
                    go_wp2_with (first | (refine wpList_load_row rfl 27 _ rfl g rfl 27 c.cells.toArray (0, 0) _ (keep X4.out H1.out) Tryd.underlying27 rfl SZC.out ?_) | (refine wpList_load_row rfl 35 _ rfl g1 rfl 35 t.cells.toArray (0, 0) _ (keep X4.out H2.out) Tryd.underlying35 rfl SZT.out ?_) | (refine wpList_mid_wanted (by rfl) 35 _ rfl g2 0 rfl j.cells _ (range_of (keep X5.out H3.out)) Tryd.underlying35 rfl SZJ.out ?_) | (go_at_call 7; (with_reducible refine (HOW.out _ X4.out).mono ?_); rintro e w5 ⟨rfl, hb⟩; have X5 := Lib.hid (bthen X4.out hb); clear hb) | (go_at_call 8; (with_reducible refine (HTR.out _ X5.out).mono ?_); rintro e w6 ⟨rfl, hb⟩; have X6 := Lib.hid (bthen X5.out hb); have ci := tx_ins (range_of (keep X6.out H3.out)); have ck := op_kind (tx_op (range_of (keep X6.out H3.out))); rw [Nat.zero_add] at ck; clear hb) | (go_at_call 5; (with_reducible refine (HAW.out _).mono ?_); rintro e w99 ⟨rfl, hb⟩; have XF := Lib.hid (bthen X6.out hb); clear hb) | fail)
                    go_ret
                    exact ⟨rfl, bthen HB1.out XF.out⟩
end Go.Proofs.YtnjnomebcggccaaDoor
