/- What package appoint's Get comes to: bytes are read as the job whose bytes they are, or as none. -/
import Derived.Test.YtnepcjnnlfhplaaDoorJobRead
namespace Go.Proofs.YtnepcjnnlfhplaaDoor
open Go.RowKit

theorem eye_cells16 {w : World} {yb : Nat} {l : List UInt8} {e : Int} (h : EyeAt w yb l e) : ∃ cs, w.heap[yb]? = some (.cells cs 119 (0, 0)) := by
  obtain ⟨a, N, c, hh, _⟩ := h
  exact ⟨_, hh⟩
/-- How all stands while a job is read: g5 is the variable, g2 the result. -/
structure JSt (w0 : World) (yb g2 g5 : Nat) (x : PJob) (s : List UInt8 × Int) (w : World) : Prop where
  res : w.heap[g2]? = some (.cells noJob.cells.toArray 51 (0, 0))
  var : w.heap[g5]? = some (.cells x.cells.toArray 51 (0, 0))
  eye : EyeAt w yb s.1 s.2
  below : Below w0.heap.size w0 w
theorem JSt.read {w0 w w' : World} {yb g2 g5 : Nat} {x : PJob} {s s' : List UInt8 × Int} (h : JSt w0 yb g2 g5 x s w) (hy : w0.heap.size ≤ yb) (he : EyeAt w' yb s'.1 s'.2) (hb : But w.heap.size yb w w') : JSt w0 yb g2 g5 x s' w' := by
  obtain ⟨ce, hce⟩ := eye_cells16 h.eye
  refine ⟨hb.heap h.res (lt_of_block h.res) (fun e => ?_), hb.heap h.var (lt_of_block h.var) (fun e => ?_), he, But.in h.below hb hy⟩
  · have h9 := h.res
    rw [e, hce] at h9
    simp at h9
  · have h9 := h.var
    rw [e, hce] at h9
    simp at h9
theorem JSt.put {w0 w w' : World} {yb g2 g5 : Nat} {x x' : PJob} {s : List UInt8 × Int} (h : JSt w0 yb g2 g5 x s w) (hg : w0.heap.size ≤ g5) (hne : g2 ≠ g5) (hv : w'.heap[g5]? = some (.cells x'.cells.toArray 51 (0, 0))) (hb : But w.heap.size g5 w w') : JSt w0 yb g2 g5 x' s w' := by
  obtain ⟨ce, hce⟩ := eye_cells16 h.eye
  refine ⟨hb.heap h.res (lt_of_block h.res) hne, hv, h.eye.typed hb h.var (by decide) (fun e => ?_), But.in h.below hb hg⟩
  have h9 := h.var
  rw [← e, hce] at h9
  simp at h9
theorem sumLen16 {s : List UInt8} (h : s.length = 32) : (Tryd.prog.info? 23).map (·.size) = some (cellsOf s).length := by rw [cellsOf_len, h]; exact Tryd.size23
theorem job_set34 (ra rb : Int) {rd : List UInt8} (h : rd.length = 32) (a : Option Addr) (n c : Nat) (q q' : List UInt8) : (PJob.cells ⟨ra, rb, rd, none, 0, 0, q⟩).set 34 (.slice a n c) = PJob.cells ⟨ra, rb, rd, a, n, c, q'⟩ := by
  have e : (cellsOf rd).length = 32 := by rw [cellsOf_len, h]
  show ((.int .i64 ra :: .int .i64 rb :: (cellsOf rd ++ [.slice none 0 0] : List Value)) : List Value).set 34 (.slice a n c) = _
  rw [List.set_cons_succ, List.set_cons_succ, List.set_append_right _ _ (by omega), e]
  rfl
/-- What Get tells. -/
def JobOut (w0 : World) (b : List UInt8) (e : Ending) (w' : World) : Prop := ∃ a n c, e = .returned (.tuple #[.agg (jobX b a n c).cells.toArray, .int .i64 (jobE b)]) ∧ JobIn w' (jobX b a n c) ∧ Below w0.heap.size w0 w'
set_option linter.unusedSimpArgs false in
set_option maxRecDepth 100000 in
set_option maxHeartbeats 6400000 in
theorem getjob_any {w : World} {a : Option Addr} {n c : Nat} {b : List UInt8} (h : Row w a n c b) (hn : n ≤ 1000000) :
    Calls Tryd.prog 26 #[.slice a n c] w (JobOut w b) := by
  have hbl : b.length ≤ 1000000 := by rw [h.1]; exact hn
  obtain ⟨⟨k1, k2⟩, ⟨k3, k4⟩, n4, k5⟩ := job_ranges b
  have l1 : (jobC b).2.1.length ≤ b.length := upR_le (b, 0) 1048576
  have l2 : (jobS b).2.1.length ≤ (jobC b).2.1.length := upR_le (jobC b).2 1048576
  have l3 : (jobH b).2.1.length ≤ (jobS b).2.1.length := sumR_le (jobS b).2
  obtain ⟨ra, era⟩ : ∃ r, (jobC b).1 = r := ⟨_, rfl⟩
  obtain ⟨s1, es1⟩ : ∃ r, (jobC b).2 = r := ⟨_, rfl⟩
  obtain ⟨rb, erb⟩ : ∃ r, (jobS b).1 = r := ⟨_, rfl⟩
  obtain ⟨s2, es2⟩ : ∃ r, (jobS b).2 = r := ⟨_, rfl⟩
  obtain ⟨rd, erd⟩ : ∃ r, (jobH b).1 = r := ⟨_, rfl⟩
  obtain ⟨s3, es3⟩ : ∃ r, (jobH b).2 = r := ⟨_, rfl⟩
  obtain ⟨T, eT⟩ : ∃ r, (jobT b).1 = r := ⟨_, rfl⟩
  obtain ⟨s4, es4⟩ : ∃ r, (jobT b).2 = r := ⟨_, rfl⟩
  obtain ⟨E, hE⟩ : ∃ E, jobE b = E := ⟨_, rfl⟩
  have HLK : Hid (∀ W : World, Below w.heap.size w W → Calls Tryd.prog 38 #[.slice a n c] W fun r w' => ∃ yb, r = .returned (.pointer (some ⟨yb, 0, none⟩)) ∧ W.heap.size ≤ yb ∧ EyeAt w' yb b 0 ∧ Below W.heap.size W w') := Lib.hid fun W hb => look_any (h.below hb) (by omega)
  have HU1 : Hid (∀ (W : World) (yb : Nat), EyeAt W yb b 0 → Calls Tryd.prog 39 #[.pointer (some ⟨yb, 0, none⟩), .int .i64 1048576] W fun r w' => r = .returned (.int .i64 ra) ∧ EyeAt w' yb s1.1 s1.2 ∧ But W.heap.size yb W w') := Lib.hid fun W yb he => by
    have h9 := upto_st (s := (b, 0)) 1048576 he
    rw [← era, ← es1]
    exact h9
  have HU2 : Hid (∀ (W : World) (yb : Nat), EyeAt W yb s1.1 s1.2 → Calls Tryd.prog 39 #[.pointer (some ⟨yb, 0, none⟩), .int .i64 1048576] W fun r w' => r = .returned (.int .i64 rb) ∧ EyeAt w' yb s2.1 s2.2 ∧ But W.heap.size yb W w') := Lib.hid fun W yb he => by
    have h9 := upto_st (s := s1) 1048576 he
    rw [← erb, ← es2]
    unfold jobS
    rw [es1]
    exact h9
  have HU3 : Hid (∀ (W : World) (yb : Nat), EyeAt W yb s2.1 s2.2 → Calls Tryd.prog 47 #[.pointer (some ⟨yb, 0, none⟩)] W fun r w' => r = .returned (.agg (cellsOf rd).toArray) ∧ EyeAt w' yb s3.1 s3.2 ∧ But W.heap.size yb W w') := Lib.hid fun W yb he => by
    have h9 := sum_st (s := s2) W he (by rw [← es2]; omega)
    rw [← erd, ← es3]
    unfold jobH
    rw [es2]
    exact h9
  have HU4 : Hid (∀ (W : World) (yb : Nat), EyeAt W yb s3.1 s3.2 → Calls Tryd.prog 48 #[.pointer (some ⟨yb, 0, none⟩), .int .i64 65536] W (TellsT yb T s4.1 s4.2 W)) := Lib.hid fun W yb he => by
    have h9 := text_st (s := s3) W 65536 he (by rw [← es3]; omega)
    rw [← eT, ← es4]
    unfold jobT
    rw [es3]
    exact h9
  have HDN : Hid (∀ (W : World) (yb : Nat), EyeAt W yb s4.1 s4.2 → Calls Tryd.prog 44 #[.pointer (some ⟨yb, 0, none⟩)] W fun r w' => r = .returned (.int .i64 E) ∧ (∃ s' : List UInt8 × Int, EyeAt w' yb s'.1 s'.2) ∧ But W.heap.size yb W w') := Lib.hid fun W yb he => by
    have h9 := done_st (s := s4) W he
    rw [← hE]
    unfold jobE
    rw [es4]
    exact h9
  have FX1 : Hid (Fits ra) := Lib.hid (by rw [← era]; constructor <;> omega)
  have FX2 : Hid (Fits rb) := Lib.hid (by rw [← erb]; constructor <;> omega)
  have N4 : Hid (rd.length = 32) := Lib.hid (by rw [← erd]; exact n4)
  have HX0 : Hid (E = 0 → ∀ a n c, jobX b a n c = ⟨ra, rb, rd, a, n, c, T⟩) := Lib.hid fun e0 a n c => by rw [jobX_ok (by rw [hE]; exact e0), era, erb, erd, eT]
  have HX1 : Hid (E ≠ 0 → ∀ a n c, jobX b a n c = noJob) := Lib.hid fun e0 a n c => jobX_no (by rw [hE]; exact e0)
  have GO : Hid (∀ (e : Ending) (w' : World), (∃ a n c, e = .returned (.tuple #[.agg (jobX b a n c).cells.toArray, .int .i64 E]) ∧ JobIn w' (jobX b a n c) ∧ Below w.heap.size w w') → JobOut w b e w') := Lib.hid fun e w' hh => by
    unfold JobOut
    rw [hE]
    exact hh
  have SZ0 : Hid ((Tryd.prog.info? 51).map (·.size) = some noJob.cells.length) := Lib.hid (job_size rfl)
  have HSD := Lib.hid (sumLen16 N4.out)
  clear h hn hbl k1 k2 k3 k4 k5 n4 l1 l2 l3 era es1 erb es2 erd es3 eT es4 hE
  go_enter Tryd.func26, Tryd.ntmps26
  go_upto_region 1 with (first | (refine wpList_new rfl 51 rfl noJob.cells.toArray Tryd.infoJob ?_; intro g2 w1 hg2 h1 b1; go_frame) | fail)
  have hB2 : w.heap.size ≤ g2 := by omega
  have HB1 := Lib.hid b1
  have H1 := Lib.hid h1
  clear b1 h1 hg2
  go_wp2_with fail
  refine (HLK.out _ HB1.out).mono ?_
  rintro e w2 ⟨yb, rfl, hyb1, he2, hb2⟩
  have hyb : w.heap.size ≤ yb := Nat.le_trans HB1.out.size hyb1
  have HE2 := Lib.hid he2
  have H2 := Lib.hid (keep hb2 H1.out)
  have HB2 := Lib.hid (bthen HB1.out hb2)
  clear he2 hb2 hyb1 HLK HB1 H1
  go_upto_region 3 with (first | (refine wpList_new rfl 51 rfl noJob.cells.toArray Tryd.infoJob ?_; intro g5 w3 hg5 h3 b3; go_frame) | fail)
  have hne : g2 ≠ g5 := by have := lt_of_block H2.out; omega
  have hB5 : w.heap.size ≤ g5 := by have := HB2.out.size; omega
  have RS : Hid (JSt w yb g2 g5 noJob (b, 0) w3) := Lib.hid ⟨keep b3 H2.out, h3, HE2.out.below b3, bthen HB2.out b3⟩
  clear b3 h3 hg5 HE2 H2 HB2
  go_wp2_with fail
  refine (HU1.out _ _ RS.out.eye).mono ?_
  rintro e w4 ⟨rfl, he, hb⟩
  have RS := Lib.hid (RS.out.read (s' := s1) hyb he hb)
  clear he hb HU1
  go_upto_region 4 with (first | (refine wpList_field10 rfl 3 _ _ rfl g5 0 rfl (.int .i64 ra) rfl 51 _ RS.out.var (by simp [PJob.cells]) (by kernel_rfl) rfl ?_; intro w5 hv hb) | fail)
  have RS := Lib.hid (RS.out.put (x' := ⟨ra, 0, zero32, none, 0, 0, []⟩) hB5 hne hv hb)
  clear hv hb
  go_wp2_with fail
  refine (HU2.out _ _ RS.out.eye).mono ?_
  rintro e w4 ⟨rfl, he, hb⟩
  have RS := Lib.hid (RS.out.read (s' := s2) hyb he hb)
  clear he hb HU2
  go_upto_region 5 with (first | (refine wpList_field10 rfl 3 _ _ rfl g5 1 rfl (.int .i64 rb) rfl 51 _ RS.out.var (by simp [PJob.cells]) (by kernel_rfl) rfl ?_; intro w5 hv hb) | fail)
  have RS := Lib.hid (RS.out.put (x' := ⟨ra, rb, zero32, none, 0, 0, []⟩) hB5 hne hv hb)
  clear hv hb
  go_wp2_with fail
  refine (HU3.out _ _ RS.out.eye).mono ?_
  rintro e w4 ⟨rfl, he, hb⟩
  have RS := Lib.hid (RS.out.read (s' := s3) hyb he hb)
  clear he hb HU3
  go_upto_region 6 with (first | (refine wpList_part10 rfl 23 _ _ rfl g5 2 rfl (cellsOf rd) rfl 51 [.int .i64 ra, .int .i64 rb] (cellsOf zero32) [.slice none 0 0] RS.out.var rfl (by rw [cellsOf_len, cellsOf_len, N4.out]; rfl) HSD.out (cellsOf_one rd) ?_; intro w5 hv hb) | fail)
  have RS := Lib.hid (RS.out.put (x' := ⟨ra, rb, rd, none, 0, 0, []⟩) hB5 hne hv hb)
  clear hv hb
  go_wp2_with fail
  have HSZ3 := Lib.hid RS.out.below.size
  have HLT2 := Lib.hid (lt_of_block RS.out.res)
  have HLT5 := Lib.hid (lt_of_block RS.out.var)
  refine (HU4.out _ _ RS.out.eye).mono ?_
  rintro e w4 ⟨ta, tn, tc, rfl, hr, hf, he, hb, htg⟩
  have RS := Lib.hid (RS.out.read (s' := s4) hyb he hb)
  have HT1 := Lib.hid hr
  have HF2 : Hid (∀ y, ta = some y → y.block ≠ g2) := Lib.hid fun y e => by
    have h9 := hf y e
    have h8 := HLT2.out
    omega
  have HF5 : Hid (∀ y, ta = some y → y.block ≠ g5) := Lib.hid fun y e => by
    have h9 := hf y e
    have h8 := HLT5.out
    omega
  clear hr hf he hb htg HU4 HSZ3 HLT2 HLT5
  go_upto_region 7 with (first | (refine wpList_field10 rfl 26 _ _ rfl g5 34 rfl (.slice ta tn tc) rfl 51 _ RS.out.var (by rw [PJob.len N4.out]; decide) (by kernel_rfl) rfl ?_; intro w5 hv hb) | fail)
  rw [job_set34 ra rb N4.out ta tn tc [] T] at hv
  have RS := Lib.hid (RS.out.put (x' := ⟨ra, rb, rd, ta, tn, tc, T⟩) hB5 hne hv hb)
  have HT2 := Lib.hid (HT1.out.but hb (fun h0 b off e => HF5.out _ e))
  clear hv hb HT1
  go_wp2_with fail
  have HNB := Lib.hid RS.out.eye.noBytes
  refine (HDN.out _ _ RS.out.eye).mono ?_
  rintro e wd ⟨rfl, ⟨sd, he⟩, hb⟩
  have HT3 := Lib.hid (HT2.out.butN hb HNB.out)
  have RS := Lib.hid (RS.out.read (s' := sd) hyb he hb)
  clear he hb HDN HT2 HNB
  by_cases h0 : E = 0
  · subst h0
    have hb : ((0 : Int) != 0) = false := by decide
    have RV := Lib.hid (range_of RS.out.var)
    have XL : Hid ((PJob.cells ⟨ra, rb, rd, ta, tn, tc, T⟩).length = noJob.cells.length) := Lib.hid (by rw [PJob.len N4.out]; rfl)
    have SLX : Hid ((Tryd.prog.info? 51).map (·.size) = some (PJob.cells ⟨ra, rb, rd, ta, tn, tc, T⟩).length) := Lib.hid (job_size N4.out)
    have GO2 := Lib.hid (GO.out (.returned (.tuple #[.agg (PJob.cells ⟨ra, rb, rd, ta, tn, tc, T⟩).toArray, .int .i64 0])))
    obtain ⟨X, hX⟩ : ∃ X : PJob, X = ⟨ra, rb, rd, ta, tn, tc, T⟩ := ⟨_, rfl⟩
    have HX2 := HX0.out rfl ta tn tc
    rw [← hX] at HX2 RV XL SLX GO2
    have HX3 := Lib.hid HX2
    have HXE := Lib.hid hX
    clear HX0 HX1 HX2 hX GO
    go_wp2_with (first | (refine wpList_load_mid rfl 51 _ rfl g5 0 rfl X.cells _ RV.out Tryd.underlying51 rfl SLX.out ?_) | (refine wpList_row10 rfl 51 _ _ rfl g2 X.cells rfl rfl 51 noJob.cells RS.out.res SLX.out XL.out.symm (PJob.one _) ?_; intro w9 hh9 hb9) | fail)
    refine bodyPost_ret (results_cell_then rfl _ _ g2 51 X.cells.toArray (0, 0) _ (.int .i64 0) rfl rfl hh9 Tryd.underlying51 rfl (by rw [List.size_toArray]; exact SLX.out)) rfl (GO2.out _ ⟨ta, tn, tc, by rw [HX3.out], ?_, But.in RS.out.below hb9 hB2⟩)
    rw [HX3.out, HXE.out]
    exact ⟨FX1.out, FX2.out, N4.out, HT3.out.but hb9 (fun h0 b off e => HF2.out _ e)⟩
  · have hb : (E != 0) = true := by simpa using h0
    have H0 := Lib.hid (HX1.out h0 none 0 0)
    clear h0 HX0 HX1
    go_wp2_with (first | (refine wpList_build10 rfl rfl (vs := []) (by rfl) build_job0 ?_) | (refine wpList_row10 rfl 51 _ _ rfl g2 noJob.cells (by rfl) (by rfl) 51 noJob.cells RS.out.res SZ0.out rfl (PJob.one _) ?_; intro w9 hh9 hb9) | fail)
    refine bodyPost_ret (results_cell_then rfl _ _ g2 51 noJob.cells.toArray (0, 0) _ (.int .i64 E) rfl rfl hh9 Tryd.underlying51 rfl (by rw [List.size_toArray]; exact SZ0.out)) rfl (GO.out _ _ ⟨none, 0, 0, by rw [H0.out], ?_, But.in RS.out.below hb9 hB2⟩)
    rw [H0.out]
    exact noJob_in _
end Go.Proofs.YtnepcjnnlfhplaaDoor
