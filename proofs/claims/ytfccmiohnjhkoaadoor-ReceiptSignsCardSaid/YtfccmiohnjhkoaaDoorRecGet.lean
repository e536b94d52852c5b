/- What Get comes to: bytes are read as the one that is signed whose bytes they are, or as none. -/
import Derived.Test.YtfccmiohnjhkoaaDoorRecSig
import Derived.Test.YtfccmiohnjhkoaaDoorRecRead
namespace Go.Proofs.YtfccmiohnjhkoaaDoor
open Go.RowKit

/-- How all stands while one that is signed is read: g2 is the result. -/
structure GSt (w0 : World) (yb g2 : Nat) (s : List UInt8 × Int) (w : World) : Prop where
  res : w.heap[g2]? = some (.cells noSig.toArray 38 (0, 0))
  eye : EyeAt w yb s.1 s.2
  below : Below w0.heap.size w0 w
theorem GSt.read {w0 w w' : World} {yb g2 : Nat} {s s' : List UInt8 × Int} (h : GSt w0 yb g2 s w) (hy : w0.heap.size ≤ yb) (he : EyeAt w' yb s'.1 s'.2) (hb : But w.heap.size yb w w') : GSt w0 yb g2 s' w' := by
  obtain ⟨ce, hce⟩ := eye_cells h.eye
  refine ⟨hb.heap h.res (lt_of_block h.res) (fun e => ?_), he, But.in h.below hb hy⟩
  have h9 := h.res
  rw [e, hce] at h9
  simp at h9
theorem GSt.more {w0 w w' : World} {yb g2 : Nat} {s : List UInt8 × Int} (h : GSt w0 yb g2 s w) (hb : Below w.heap.size w w') : GSt w0 yb g2 s w' :=
  ⟨keep hb h.res, h.eye.below hb, bthen h.below hb⟩
/-- What Get tells. -/
def GetOut (w0 : World) (b : List UInt8) (e : Ending) (w' : World) : Prop := ∃ a n c, e = .returned (.tuple #[.agg (sigCells (getX b) a n c).toArray, .int .i64 (getE b)]) ∧ Row w' a n c (getS b) ∧ (∀ y, a = some y → w0.heap.size ≤ y.block) ∧ Below w0.heap.size w0 w'
set_option linter.unusedSimpArgs false in
set_option maxRecDepth 100000 in
set_option maxHeartbeats 6400000 in
theorem recget_any {w : World} {a : Option Addr} {n c : Nat} {b : List UInt8} (h : Row w a n c b) (hn : n ≤ 1000000) :
    Calls Tryd.prog 14 #[.slice a n c] w (GetOut w b) := by
  have hbl : b.length ≤ 1000000 := by rw [h.1]; exact hn
  have l1 := getT_le b
  obtain ⟨T, hT⟩ : ∃ r, r = (getT b).1 := ⟨_, rfl⟩
  obtain ⟨t, ht⟩ : ∃ r, r = (getT b).2 := ⟨_, rfl⟩
  obtain ⟨Q, hQ⟩ : ∃ r, r = (getQ b).1 := ⟨_, rfl⟩
  obtain ⟨q, hq⟩ : ∃ r, r = (getQ b).2 := ⟨_, rfl⟩
  have HTL : Hid (T.length ≤ 1000000) := Lib.hid (by rw [hT]; have := getT_len b; show _ ≤ _; omega)
  have HLK : Hid (∀ W : World, Below w.heap.size w W → Calls Tryd.prog 28 #[.slice a n c] W fun r w' => ∃ yb, r = .returned (.pointer (some ⟨yb, 0, none⟩)) ∧ W.heap.size ≤ yb ∧ EyeAt w' yb b 0 ∧ Below W.heap.size W w') := Lib.hid fun W hb => look_any (h.below hb) (by omega)
  have HU1 : Hid (∀ (W : World) (yb : Nat), EyeAt W yb b 0 → Calls Tryd.prog 29 #[.pointer (some ⟨yb, 0, none⟩), .int .i64 65536] W (TellsT yb T t.1 t.2 W)) := Lib.hid fun W yb he => by
    have h9 := text_st (s := (b, 0)) W 65536 he (by show b.length ≤ _; omega)
    rw [hT, ht]
    exact h9
  have HU2 : Hid (∀ (W : World) (yb : Nat), EyeAt W yb t.1 t.2 → Calls Tryd.prog 29 #[.pointer (some ⟨yb, 0, none⟩), .int .i64 65536] W (TellsT yb Q q.1 q.2 W)) := Lib.hid fun W yb he => by
    have h9 := text_st (s := t) W 65536 he (by rw [ht]; omega)
    rw [hQ, hq]
    unfold getQ
    rw [← ht]
    exact h9
  obtain ⟨D, hD⟩ : ∃ D, D = getD b := ⟨_, rfl⟩
  obtain ⟨E, hE⟩ : ∃ E, E = getE b := ⟨_, rfl⟩
  obtain ⟨X, hX⟩ : ∃ X, X = getX b := ⟨_, rfl⟩
  obtain ⟨SB, hSB⟩ : ∃ r, r = getS b := ⟨_, rfl⟩
  obtain ⟨Y, hY⟩ : ∃ Y, Y = readX T := ⟨_, rfl⟩
  obtain ⟨F, hF⟩ : ∃ F, F = readE T := ⟨_, rfl⟩
  have HDN : Hid (∀ (W : World) (yb : Nat), EyeAt W yb q.1 q.2 → Calls Tryd.prog 30 #[.pointer (some ⟨yb, 0, none⟩)] W fun r w' => r = .returned (.int .i64 D) ∧ (∃ s' : List UInt8 × Int, EyeAt w' yb s'.1 s'.2) ∧ But W.heap.size yb W w') := Lib.hid fun W yb he => by
    have h9 := done_st (s := q) W he
    rw [hD]
    unfold getD
    rw [← hq]
    exact h9
  have HRD : Hid (∀ (W : World) (a' : Option Addr) (n' c' : Nat), Row W a' n' c' T → Calls Tryd.prog 31 #[.slice a' n' c'] W fun e w' => e = .returned (.tuple #[.agg Y.cells.toArray, .int .i64 F]) ∧ Below W.heap.size W w') := Lib.hid fun W a' n' c' hr => by
    rw [hY, hF]
    exact read_any hr (by rw [← hr.1]; exact HTL.out)
  have HXI : Hid (RecIn X) := Lib.hid (by rw [hX]; exact getX_in b)
  have HYI : Hid (RecIn Y) := Lib.hid (by rw [hY]; exact readX_in T)
  -- the cases
  have K1 : Hid (D ≠ 0 → E = D ∧ X = noRec ∧ SB = []) := Lib.hid fun h0 => by
    have h1 : getE b = getD b := get_bad (by rw [← hD]; exact h0)
    have h2 := getR_no (b := b) (by rw [h1, ← hD]; exact h0)
    exact ⟨by rw [hE, hD, h1], by rw [hX, h2.1], by rw [hSB, h2.2]⟩
  have K2 : Hid (D = 0 → F ≠ 0 → E = F ∧ X = noRec ∧ SB = []) := Lib.hid fun h0 h3 => by
    have h1 : getE b = F := by rw [get_good (by rw [← hD]; exact h0), ← hT, hF]
    have h2 := getR_no (b := b) (by rw [h1]; exact h3)
    exact ⟨by rw [hE, h1], by rw [hX, h2.1], by rw [hSB, h2.2]⟩
  have K3 : Hid (D = 0 → F = 0 → E = 0 ∧ X = Y ∧ SB = Q) := Lib.hid fun h0 h3 => by
    have h1 : getE b = F := by rw [get_good (by rw [← hD]; exact h0), ← hT, hF]
    have h2 := get_yes (b := b) (by rw [h1]; exact h3)
    exact ⟨by rw [hE, h1, h3], by rw [hX, h2.1, ← hT, hY], by rw [hSB, h2.2, hQ]⟩
  have GO : Hid (∀ (e : Ending) (w' : World), (∃ a n c, e = .returned (.tuple #[.agg (sigCells X a n c).toArray, .int .i64 E]) ∧ Row w' a n c SB ∧ (∀ y, a = some y → w.heap.size ≤ y.block) ∧ Below w.heap.size w w') → GetOut w b e w') := Lib.hid fun e w' hh => by
    unfold GetOut
    rw [← hX, ← hE, ← hSB]
    exact hh
  have SZ0 := Lib.hid (sig_sizeA noRec_in none 0 0)
  have SLY := Lib.hid (rec_size HYI.out)
  have SAY := Lib.hid (rec_sizeA HYI.out)
  have ZY := Lib.hid (rec_zero HYI.out)
  clear h hn hbl l1 hT ht hQ hq hD hE hX hSB hY hF
  go_enter Tryd.func14, Tryd.ntmps14
  go_upto_region 1 with (first | (refine wpList_new rfl 38 rfl noSig.toArray Tryd.infoSig ?_; intro g2 w1 hg2 h1 b1; go_frame) | fail)
  have HB1 := Lib.hid b1
  have H1 := Lib.hid h1
  clear b1 h1
  go_wp2_with fail
  refine (HLK.out _ HB1.out).mono ?_
  rintro e w2 ⟨yb, rfl, hyb1, he2, hb2⟩
  have hyb : w.heap.size ≤ yb := Nat.le_trans HB1.out.size hyb1
  have RS : Hid (GSt w yb g2 (b, 0) w2) := Lib.hid ⟨keep hb2 H1.out, he2, bthen HB1.out hb2⟩
  clear he2 hb2 hyb1 HLK HB1 H1
  go_wp2_with fail
  refine (HU1.out _ _ RS.out.eye).mono ?_
  rintro e w3 ⟨ta, tn, tc, rfl, hr, hf, he, hb, htg⟩
  have RS := Lib.hid (RS.out.read (s' := t) hyb he hb)
  have HT1 := Lib.hid hr
  clear hr hf he hb htg HU1
  go_wp2_with fail
  have HNB := Lib.hid RS.out.eye.noBytes
  have HSZ3 := Lib.hid RS.out.below.size
  have HLT3 := Lib.hid (lt_of_block RS.out.res)
  refine (HU2.out _ _ RS.out.eye).mono ?_
  rintro e w4 ⟨qa, qn, qc, rfl, hr, hf, he, hb, htg⟩
  have HT2 := Lib.hid (HT1.out.butN hb HNB.out)
  have RS := Lib.hid (RS.out.read (s' := q) hyb he hb)
  have HQ1 := Lib.hid hr
  have HQF : Hid (∀ y, qa = some y → w.heap.size ≤ y.block) := Lib.hid fun y e => Nat.le_trans HSZ3.out (hf y e)
  have HQG : Hid (∀ y, qa = some y → y.block ≠ g2) := Lib.hid fun y e => by
    have h9 := hf y e
    have h8 := HLT3.out
    omega
  clear hr hf he hb htg HU2 HT1 HNB HSZ3 HLT3
  go_wp2_with fail
  have HNB := Lib.hid RS.out.eye.noBytes
  refine (HDN.out _ _ RS.out.eye).mono ?_
  rintro e w5 ⟨rfl, ⟨sd, he⟩, hb⟩
  have HT3 := Lib.hid (HT2.out.butN hb HNB.out)
  have HQ2 := Lib.hid (HQ1.out.butN hb HNB.out)
  have RS := Lib.hid (RS.out.read (s' := sd) hyb he hb)
  clear he hb HDN HT2 HQ1 HNB
  by_cases h0 : D = 0
  rotate_left
  · have hb : (D != 0) = true := by simpa using h0
    obtain ⟨rfl, rfl, rfl⟩ := K1.out h0
    clear h0 K1 K2 K3
    go_wp2_with (first | (refine wpList_build10 rfl rfl (vs := []) (by rfl) build_sig0 ?_) | (refine wpList_store_row rfl 38 _ _ rfl g2 noSig.toArray (by rfl) (by rfl) 38 noSig.toArray RS.out.res SZ0.out rfl (all_oneCell_toArray (sig_one noRec none 0 0)) ?_) | fail)
    exact bodyPost_ret (results_cell_then rfl _ _ g2 38 noSig.toArray (0, 0) _ (.int .i64 E) rfl rfl (setRow_heap w5 g2 _ _ 38 _ RS.out.res) Tryd.underlying38 rfl SZ0.out) rfl (GO.out _ _ ⟨none, 0, 0, rfl, Row.nil _, (fun _ e => by cases e), But.in RS.out.below (but_setRow w5 g2 noSig.toArray) hg2⟩)
  · subst h0
    have hb0 : ((0 : Int) != 0) = false := by decide
    by_cases h3 : F = 0
    · subst h3
      obtain ⟨rfl, rfl, rfl⟩ := K3.out rfl rfl
      have SZX := Lib.hid (sig_sizeA HXI.out qa qn qc)
      have ZX := Lib.hid (sig_zero HXI.out qa qn qc)
      clear K1 K2 K3
      go_wp2_with fail
      refine (HRD.out _ _ _ _ HT3.out).mono ?_
      rintro e w6 ⟨rfl, hb⟩
      have RS := Lib.hid (RS.out.more hb)
      have HQ3 := Lib.hid (HQ2.out.below hb)
      have HQU := Lib.hid (row_under HQ3.out)
      clear hb HRD HQ2
      have EL8 : Hid (yb < w6.heap.size) := Lib.hid RS.out.eye.lt
      have EB8 := Lib.hid RS.out.below
      go_upto_region 8 with (first | (refine wpList_new rfl 26 rfl noRec.cells.toArray Tryd.infoRec ?_; intro g8 w7 hg8 h8 b8; have RS := Lib.hid (RS.out.more b8); have HQ4 := Lib.hid (HQ3.out.below b8); have H8 := Lib.hid h8; clear h8 b8 HQ3; go_frame) | (refine wpList_store_row rfl 26 _ _ rfl g8 X.cells.toArray rfl rfl 26 noRec.cells.toArray H8.out SAY.out ZY.out (all_oneCell_toArray X.one) ?_) | fail)
      have h9 := setRow_heap w7 g8 noRec.cells.toArray X.cells.toArray 26 (0, 0) H8.out
      have b9 := but_setRow w7 g8 X.cells.toArray
      revert h9 b9
      generalize w7.setRow g8 X.cells.toArray = w8
      intro h9 b9
      have hne : g2 ≠ g8 := fun e => by
        have h7 := RS.out.res
        rw [e, H8.out] at h7
        simp at h7
      have HQ5 := Lib.hid (HQ4.out.but b9 (fun h0 b off e => Nat.ne_of_lt (Nat.lt_of_lt_of_le (HQU.out h0 _ e) hg8)))
      have RS : Hid (GSt w yb g2 sd w8) := Lib.hid ⟨b9.heap RS.out.res (lt_of_block RS.out.res) hne, RS.out.eye.typed b9 H8.out (by decide) (Nat.ne_of_lt (Nat.lt_of_lt_of_le EL8.out hg8)), But.in RS.out.below b9 (Nat.le_trans (Nat.le_trans EB8.out.size hg8) (Nat.le_refl _))⟩
      have H9 := Lib.hid h9
      clear h9 b9 H8 hne
      have RV := Lib.hid (range_of H9.out)
      go_wp2_with (first | (refine wpList_load_mid rfl 26 _ rfl g8 0 rfl X.cells _ RV.out Tryd.underlying26 rfl SLY.out ?_) | (refine wpList_build10 rfl rfl (vs := [(0, .agg X.cells.toArray), (1, .slice qa qn qc)]) (by rfl) (build_sig HXI.out qa qn qc) ?_) | (refine wpList_store_row rfl 38 _ _ rfl g2 (sigCells X qa qn qc).toArray rfl rfl 38 noSig.toArray RS.out.res SZX.out ZX.out (all_oneCell_toArray (sig_one X qa qn qc)) ?_) | fail)
      refine bodyPost_ret (results_cell_then rfl _ _ g2 38 (sigCells X qa qn qc).toArray (0, 0) _ (.int .i64 0) rfl rfl (setRow_heap w8 g2 _ _ 38 _ RS.out.res) Tryd.underlying38 rfl SZX.out) rfl (GO.out _ _ ⟨qa, qn, qc, rfl, HQ5.out.but (but_setRow w8 g2 _) (fun h0 b off e => HQG.out _ e), HQF.out, But.in RS.out.below (but_setRow w8 g2 _) hg2⟩)
    · have hb1 : (F != 0) = true := by simpa using h3
      obtain ⟨rfl, rfl, rfl⟩ := K2.out rfl h3
      clear h3 K1 K2 K3
      go_wp2_with fail
      refine (HRD.out _ _ _ _ HT3.out).mono ?_
      rintro e w6 ⟨rfl, hb⟩
      have RS := Lib.hid (RS.out.more hb)
      clear hb HRD HQ2
      have EL8 : Hid (yb < w6.heap.size) := Lib.hid RS.out.eye.lt
      have EB8 := Lib.hid RS.out.below
      go_upto_region 8 with (first | (refine wpList_new rfl 26 rfl noRec.cells.toArray Tryd.infoRec ?_; intro g8 w7 hg8 h8 b8; have RS := Lib.hid (RS.out.more b8); have H8 := Lib.hid h8; clear h8 b8; go_frame) | (refine wpList_store_row rfl 26 _ _ rfl g8 Y.cells.toArray rfl rfl 26 noRec.cells.toArray H8.out SAY.out ZY.out (all_oneCell_toArray Y.one) ?_) | fail)
      have b9 := but_setRow w7 g8 Y.cells.toArray
      revert b9
      generalize w7.setRow g8 Y.cells.toArray = w8
      intro b9
      have hne : g2 ≠ g8 := fun e => by
        have h7 := RS.out.res
        rw [e, H8.out] at h7
        simp at h7
      have RS : Hid (GSt w yb g2 sd w8) := Lib.hid ⟨b9.heap RS.out.res (lt_of_block RS.out.res) hne, RS.out.eye.typed b9 H8.out (by decide) (Nat.ne_of_lt (Nat.lt_of_lt_of_le EL8.out hg8)), But.in RS.out.below b9 (Nat.le_trans (Nat.le_trans EB8.out.size hg8) (Nat.le_refl _))⟩
      clear b9 H8 hne
      go_wp2_with (first | (refine wpList_build10 rfl rfl (vs := []) (by rfl) build_sig0 ?_) | (refine wpList_store_row rfl 38 _ _ rfl g2 noSig.toArray (by rfl) (by rfl) 38 noSig.toArray RS.out.res SZ0.out rfl (all_oneCell_toArray (sig_one noRec none 0 0)) ?_) | fail)
      exact bodyPost_ret (results_cell_then rfl _ _ g2 38 noSig.toArray (0, 0) _ (.int .i64 E) rfl rfl (setRow_heap w8 g2 _ _ 38 _ RS.out.res) Tryd.underlying38 rfl SZ0.out) rfl (GO.out _ _ ⟨none, 0, 0, rfl, Row.nil _, (fun _ e => by cases e), But.in RS.out.below (but_setRow w8 g2 noSig.toArray) hg2⟩)
end Go.Proofs.YtfccmiohnjhkoaaDoor
