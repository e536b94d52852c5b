/- What Read comes to: bytes are read as the receipt whose text they are, or as none. -/
import Derived.Test.YtcmdpmialehjgaaGreatDoorRecMem
namespace Go.Proofs.YtcmdpmialehjgaaGreatDoor
open Go.RowKit

theorem eye_cells {w : World} {yb : Nat} {l : List UInt8} {e : Int} (h : EyeAt w yb l e) : ∃ cs, w.heap[yb]? = some (.cells cs 95 (0, 0)) := by
  obtain ⟨a, N, c, hh, _⟩ := h
  exact ⟨_, hh⟩
/-- How all stands while a receipt is read: g5 is the variable, g2 the result. -/
structure RSt (w0 : World) (yb g2 g5 : Nat) (x : PRec) (s : List UInt8 × Int) (w : World) : Prop where
  res : w.heap[g2]? = some (.cells noRec.cells.toArray 25 (0, 0))
  var : w.heap[g5]? = some (.cells x.cells.toArray 25 (0, 0))
  eye : EyeAt w yb s.1 s.2
  below : Below w0.heap.size w0 w
theorem RSt.read {w0 w w' : World} {yb g2 g5 : Nat} {x : PRec} {s s' : List UInt8 × Int} (h : RSt w0 yb g2 g5 x s w) (hy : w0.heap.size ≤ yb) (he : EyeAt w' yb s'.1 s'.2) (hb : But w.heap.size yb w w') : RSt w0 yb g2 g5 x s' w' := by
  obtain ⟨ce, hce⟩ := eye_cells h.eye
  refine ⟨hb.heap h.res (lt_of_block h.res) (fun e => ?_), hb.heap h.var (lt_of_block h.var) (fun e => ?_), he, But.in h.below hb hy⟩
  · have h9 := h.res
    rw [e, hce] at h9
    simp at h9
  · have h9 := h.var
    rw [e, hce] at h9
    simp at h9
theorem RSt.put {w0 w w' : World} {yb g2 g5 : Nat} {x x' : PRec} {s : List UInt8 × Int} (h : RSt w0 yb g2 g5 x s w) (hg : w0.heap.size ≤ g5) (hne : g2 ≠ g5) (hv : w'.heap[g5]? = some (.cells x'.cells.toArray 25 (0, 0))) (hb : But w.heap.size g5 w w') : RSt w0 yb g2 g5 x' s w' := by
  obtain ⟨ce, hce⟩ := eye_cells h.eye
  refine ⟨hb.heap h.res (lt_of_block h.res) hne, hv, h.eye.typed hb h.var (by decide) (fun e => ?_), But.in h.below hb hg⟩
  have h9 := h.var
  rw [← e, hce] at h9
  simp at h9
theorem sumLenR {s : List UInt8} (h : s.length = 32) : (Tryz.prog.info? 23).map (·.size) = some (cellsOf s).length := by rw [cellsOf_len, h]; exact Tryz.size23
set_option linter.unusedSimpArgs false in
set_option maxRecDepth 100000 in
set_option maxHeartbeats 6400000 in
theorem read_any {w : World} {a : Option Addr} {n c : Nat} {b : List UInt8} (h : Row w a n c b) (hn : n ≤ 1000000) :
    Calls Tryz.prog 26 #[.slice a n c] w fun e w' => e = .returned (.tuple #[.agg (readX b).cells.toArray, .int .i64 (readE b)]) ∧ Below w.heap.size w w' := by
  obtain ⟨ra, rb, rc, rd, re, s1, s2, s3, s4, s5, e1, e2, e3, e4, e5, e6⟩ := recR_parts (b, 0)
  have hbl : b.length ≤ 140737488355328 := by rw [h.1]; omega
  have l1 := upR_le (b, 0) 15
  have l2 := upR_le s1 1048576
  have l3 := upR_le s2 1048576
  have l4 := sumR_le s3
  have n4 := sumR_len s3
  have n5 := sumR_len s4
  rw [e1] at l1
  rw [e2] at l2
  rw [e3] at l3
  rw [e4] at l4 n4
  rw [e5] at n5
  dsimp only at l1 l2 l3 l4 n4 n5
  have HL3 : Hid (s3.1.length ≤ 140737488355328) := Lib.hid (by show _ ≤ _; omega)
  have HL4 : Hid (s4.1.length ≤ 140737488355328) := Lib.hid (by show _ ≤ _; omega)
  have HN4 := Lib.hid n4
  have HN5 := Lib.hid n5
  have HSD := Lib.hid (sumLenR n4)
  have HSE := Lib.hid (sumLenR n5)
  have HLK : Hid (∀ W : World, Below w.heap.size w W → Calls Tryz.prog 22 #[.slice a n c] W fun r w' => ∃ yb, r = .returned (.pointer (some ⟨yb, 0, none⟩)) ∧ W.heap.size ≤ yb ∧ EyeAt w' yb b 0 ∧ Below W.heap.size W w') := Lib.hid fun W hb => look_any (h.below hb) (by omega)
  have HU1 : Hid (∀ (W : World) (yb : Nat), EyeAt W yb b 0 → Calls Tryz.prog 38 #[.pointer (some ⟨yb, 0, none⟩), .int .i64 15] W fun r w' => r = .returned (.int .i64 ra) ∧ EyeAt w' yb s1.1 s1.2 ∧ But W.heap.size yb W w') := Lib.hid fun W yb he => by
    have h9 := upto_st (s := (b, 0)) 15 he
    rw [e1] at h9
    exact h9
  have HU2 : Hid (∀ (W : World) (yb : Nat), EyeAt W yb s1.1 s1.2 → Calls Tryz.prog 38 #[.pointer (some ⟨yb, 0, none⟩), .int .i64 1048576] W fun r w' => r = .returned (.int .i64 rb) ∧ EyeAt w' yb s2.1 s2.2 ∧ But W.heap.size yb W w') := Lib.hid fun W yb he => by
    have h9 := upto_st (s := s1) 1048576 he
    rw [e2] at h9
    exact h9
  have HU3 : Hid (∀ (W : World) (yb : Nat), EyeAt W yb s2.1 s2.2 → Calls Tryz.prog 38 #[.pointer (some ⟨yb, 0, none⟩), .int .i64 1048576] W fun r w' => r = .returned (.int .i64 rc) ∧ EyeAt w' yb s3.1 s3.2 ∧ But W.heap.size yb W w') := Lib.hid fun W yb he => by
    have h9 := upto_st (s := s2) 1048576 he
    rw [e3] at h9
    exact h9
  have HU4 : Hid (∀ (W : World) (yb : Nat), EyeAt W yb s3.1 s3.2 → Calls Tryz.prog 24 #[.pointer (some ⟨yb, 0, none⟩)] W fun r w' => r = .returned (.agg (cellsOf rd).toArray) ∧ EyeAt w' yb s4.1 s4.2 ∧ But W.heap.size yb W w') := Lib.hid fun W yb he => by
    have h9 := sum_st (s := s3) W he HL3.out
    rw [e4] at h9
    exact h9
  have HU5 : Hid (∀ (W : World) (yb : Nat), EyeAt W yb s4.1 s4.2 → Calls Tryz.prog 24 #[.pointer (some ⟨yb, 0, none⟩)] W fun r w' => r = .returned (.agg (cellsOf re).toArray) ∧ EyeAt w' yb s5.1 s5.2 ∧ But W.heap.size yb W w') := Lib.hid fun W yb he => by
    have h9 := sum_st (s := s4) W he HL4.out
    rw [e5] at h9
    exact h9
  obtain ⟨E, hE⟩ : ∃ E, E = readE b := ⟨_, rfl⟩
  obtain ⟨X, hX⟩ : ∃ X, X = readX b := ⟨_, rfl⟩
  have HDN : Hid (∀ (W : World) (yb : Nat), EyeAt W yb s5.1 s5.2 → Calls Tryz.prog 25 #[.pointer (some ⟨yb, 0, none⟩)] W fun r w' => r = .returned (.int .i64 E) ∧ (∃ s' : List UInt8 × Int, EyeAt w' yb s'.1 s'.2) ∧ But W.heap.size yb W w') := Lib.hid fun W yb he => by
    have h9 := done_st (s := s5) W he
    rw [hE]
    unfold readE
    rw [e6]
    exact h9
  have HXI : RecIn X := by rw [hX]; exact readX_in b
  have HX0 : Hid (E = 0 → X = ⟨ra, rb, rc, rd, re⟩) := Lib.hid fun e0 => by rw [hX]; unfold readX; rw [if_pos (by rw [← hE]; exact e0), e6]
  have HX1 : Hid (E ≠ 0 → X = noRec) := Lib.hid fun e0 => by rw [hX]; unfold readX; rw [if_neg (by rw [← hE]; exact e0)]
  rw [← hE, ← hX]
  have SZ0 := Lib.hid (rec_sizeA noRec_in)
  have SZX := Lib.hid (rec_sizeA HXI)
  have SLX := Lib.hid (rec_size HXI)
  have ZX := Lib.hid (rec_zero HXI)
  clear h hn hbl l1 l2 l3 l4 n4 n5 e1 e2 e3 e4 e5 e6 hE hX HL3 HL4 HXI
  go_enter Tryz.func26, Tryz.ntmps26
  go_upto_region 1 with (first | (refine wpList_new rfl 25 rfl noRec.cells.toArray Tryz.infoRec ?_; intro g2 w1 hg2 h1 b1; go_frame) | fail)
  have hB2 : w.heap.size ≤ g2 := by omega
  have HB1 := Lib.hid b1
  have H1 := Lib.hid h1
  clear b1 h1 hg2
  go_wp2_with fail
  refine (HLK.out _ HB1.out).mono ?_
  rintro e w2 ⟨yb, rfl, hyb1, he2, hb2⟩
  have hyb : w.heap.size ≤ yb := Nat.le_trans HB1.out.size hyb1
  have HE2 := Lib.hid he2
  have H2 := Lib.hid (keep hb2 H1.out)
  have HB2 := Lib.hid (bthen HB1.out hb2)
  clear he2 hb2 hyb1 HLK HB1 H1
  go_upto_region 3 with (first | (refine wpList_new rfl 25 rfl noRec.cells.toArray Tryz.infoRec ?_; intro g5 w3 hg5 h3 b3; go_frame) | fail)
  have hne : g2 ≠ g5 := by have := lt_of_block H2.out; omega
  have hB5 : w.heap.size ≤ g5 := by have := HB2.out.size; omega
  have RS : Hid (RSt w yb g2 g5 noRec (b, 0) w3) := Lib.hid ⟨keep b3 H2.out, h3, HE2.out.below b3, bthen HB2.out b3⟩
  clear b3 h3 hg5 HE2 H2 HB2
  go_wp2_with fail
  refine (HU1.out _ _ RS.out.eye).mono ?_
  rintro e w4 ⟨rfl, he, hb⟩
  have RS := Lib.hid (RS.out.read (s' := s1) hyb he hb)
  clear he hb HU1
  go_upto_region 4 with (first | (refine wpList_field10 rfl 3 _ _ rfl g5 0 rfl (.int .i64 ra) rfl 25 _ RS.out.var (by simp [PRec.cells]) (by kernel_rfl) rfl ?_; intro w5 hv hb) | fail)
  have RS := Lib.hid (RS.out.put (x' := ⟨ra, 0, 0, zero32, zero32⟩) hB5 hne hv hb)
  clear hv hb
  go_wp2_with fail
  refine (HU2.out _ _ RS.out.eye).mono ?_
  rintro e w4 ⟨rfl, he, hb⟩
  have RS := Lib.hid (RS.out.read (s' := s2) hyb he hb)
  clear he hb HU2
  go_upto_region 5 with (first | (refine wpList_field10 rfl 3 _ _ rfl g5 1 rfl (.int .i64 rb) rfl 25 _ RS.out.var (by simp [PRec.cells]) (by kernel_rfl) rfl ?_; intro w5 hv hb) | fail)
  have RS := Lib.hid (RS.out.put (x' := ⟨ra, rb, 0, zero32, zero32⟩) hB5 hne hv hb)
  clear hv hb
  go_wp2_with fail
  refine (HU3.out _ _ RS.out.eye).mono ?_
  rintro e w4 ⟨rfl, he, hb⟩
  have RS := Lib.hid (RS.out.read (s' := s3) hyb he hb)
  clear he hb HU3
  go_upto_region 6 with (first | (refine wpList_field10 rfl 3 _ _ rfl g5 2 rfl (.int .i64 rc) rfl 25 _ RS.out.var (by simp [PRec.cells]) (by kernel_rfl) rfl ?_; intro w5 hv hb) | fail)
  have RS := Lib.hid (RS.out.put (x' := ⟨ra, rb, rc, zero32, zero32⟩) hB5 hne hv hb)
  clear hv hb
  go_wp2_with fail
  refine (HU4.out _ _ RS.out.eye).mono ?_
  rintro e w4 ⟨rfl, he, hb⟩
  have RS := Lib.hid (RS.out.read (s' := s4) hyb he hb)
  clear he hb HU4
  go_upto_region 7 with (first | (refine wpList_part10 rfl 23 _ _ rfl g5 3 rfl (cellsOf rd) rfl 25 [.int .i64 ra, .int .i64 rb, .int .i64 rc] (cellsOf zero32) (cellsOf zero32) RS.out.var rfl (by rw [cellsOf_len, cellsOf_len, HN4.out]; rfl) HSD.out (cellsOf_one rd) ?_; intro w5 hv hb) | fail)
  have RS := Lib.hid (RS.out.put (x' := ⟨ra, rb, rc, rd, zero32⟩) hB5 hne hv hb)
  clear hv hb
  go_wp2_with fail
  refine (HU5.out _ _ RS.out.eye).mono ?_
  rintro e w4 ⟨rfl, he, hb⟩
  have RS := Lib.hid (RS.out.read (s' := s5) hyb he hb)
  clear he hb HU5
  go_upto_region 8 with (first | (refine wpList_part10 rfl 23 _ _ rfl g5 35 rfl (cellsOf re) rfl 25 (.int .i64 ra :: .int .i64 rb :: .int .i64 rc :: cellsOf rd) (cellsOf zero32) [] (by rw [List.append_nil]; exact RS.out.var) (by simp [cellsOf_len, HN4.out]) (by rw [cellsOf_len, cellsOf_len, HN5.out]; rfl) HSE.out (cellsOf_one re) ?_; intro w5 hv hb; rw [List.append_nil] at hv) | fail)
  have RS := Lib.hid (RS.out.put (x' := ⟨ra, rb, rc, rd, re⟩) hB5 hne hv hb)
  clear hv hb
  go_wp2_with fail
  refine (HDN.out _ _ RS.out.eye).mono ?_
  rintro e wd ⟨rfl, ⟨sd, he⟩, hb⟩
  have RS := Lib.hid (RS.out.read (s' := sd) hyb he hb)
  clear he hb HDN
  by_cases h0 : E = 0
  · subst h0
    have hb : ((0 : Int) != 0) = false := by decide
    have hXe := HX0.out rfl
    rw [← hXe] at RS
    have RV := Lib.hid (range_of RS.out.var)
    clear hXe HX0 HX1
    go_wp2_with (first | (refine wpList_load_mid rfl 25 _ rfl g5 0 rfl X.cells _ RV.out Tryz.underlying25 rfl SLX.out ?_) | (refine wpList_store_row rfl 25 _ _ rfl g2 X.cells.toArray rfl rfl 25 noRec.cells.toArray RS.out.res SZX.out ZX.out (all_oneCell_toArray X.one) ?_) | fail)
    exact bodyPost_ret (results_cell_then rfl _ _ g2 25 X.cells.toArray (0, 0) _ (.int .i64 0) rfl rfl (setRow_heap wd g2 _ _ 25 _ RS.out.res) Tryz.underlying25 rfl SZX.out) rfl ⟨rfl, But.in RS.out.below (but_setRow wd g2 X.cells.toArray) hB2⟩
  · have hb : (E != 0) = true := by simpa using h0
    have hXe := HX1.out h0
    subst hXe
    have H0 := Lib.hid h0
    clear h0 HX0 HX1
    go_wp2_with (first | (refine wpList_build10 rfl rfl (vs := []) (by rfl) build_rec0 ?_) | (refine wpList_store_row rfl 25 _ _ rfl g2 noRec.cells.toArray (by rfl) (by rfl) 25 noRec.cells.toArray RS.out.res SZ0.out rfl (all_oneCell_toArray noRec.one) ?_) | fail)
    exact bodyPost_ret (results_cell_then rfl _ _ g2 25 noRec.cells.toArray (0, 0) _ (.int .i64 E) rfl rfl (setRow_heap wd g2 _ _ 25 _ RS.out.res) Tryz.underlying25 rfl SZ0.out) rfl ⟨rfl, But.in RS.out.below (but_setRow wd g2 noRec.cells.toArray) hB2⟩
end Go.Proofs.YtcmdpmialehjgaaGreatDoor
