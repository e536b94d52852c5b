/- What package appoint's Make comes to. -/
import Derived.Test.YtnepcjnnlfhplaaDoorAppCover
import Derived.Test.YtnepcjnnlfhplaaDoorJobMem
namespace Go.Proofs.YtnepcjnnlfhplaaDoor
open Go.RowKit

def okNum (z : Int) : Bool := decide (0 ≤ z) && decide (z ≤ 1048576)
theorem okNum_iff {z : Int} : okNum z = true ↔ 0 ≤ z ∧ z ≤ 1048576 := by simp [okNum]
theorem appupto_any (w : World) (z m : Int) : Calls Tryd.prog 45 #[.int .i64 z, .int .i64 m] w fun e w' => e = .returned (.bool (decide (0 ≤ z) && decide (z ≤ m))) ∧ w = w' := by
  obtain ⟨t1, h1⟩ : ∃ r, decide (0 ≤ z) = r := ⟨_, rfl⟩
  obtain ⟨t2, h2⟩ : ∃ r, decide (z ≤ m) = r := ⟨_, rfl⟩
  go_enter Tryd.func45, Tryd.ntmps45
  rw [h1, h2]
  cases t1
  · go_wp2
    go_ret
    exact ⟨rfl, rfl⟩
  · cases t2
    · go_wp2
      go_ret
      exact ⟨rfl, rfl⟩
    · go_wp2
      go_ret
      exact ⟨rfl, rfl⟩
/-- A long row of bytes lies in no block that holds the zero job. -/
theorem off_job {w : World} {a : Option Addr} {n c r : Nat} {l : List UInt8} (h : Row w a n c l) (hn : 33 ≤ n) (hr : w.heap[r]? = some (.cells noJob.cells.toArray 51 (0, 0))) : Off r a n := by
  intro h0 b off e hbr
  subst hbr
  obtain ⟨b', off', e', _, hc⟩ := h.2.2.2.2 h0
  rw [e] at e'
  cases e'
  have hrg : ∀ k v, noJob.cells[k]? = some v → w.cell? ⟨b, k, none⟩ = some v := fun k v hv => by
    have h9 := range_of hr k v hv
    rwa [Nat.zero_add] at h9
  by_cases h34 : off ≤ 34
  · by_cases h2 : 2 ≤ off
    · have h9 := hc (34 - off) (by omega)
      rw [show off + (34 - off) = 34 by omega, hrg 34 (.slice none 0 0) rfl] at h9
      simp at h9
    · have h9 := hc 0 h0
      rcases (show off = 0 ∨ off = 1 by omega) with rfl | rfl
      · rw [hrg 0 (.int .i64 0) rfl] at h9
        simp at h9
      · rw [Nat.add_zero, hrg 1 (.int .i64 0) rfl] at h9
        simp at h9
  · have h9 := hc 0 h0
    rw [cell_of_row _ _ _ _ _ _ hr] at h9
    rw [Array.getElem?_eq_none (by rw [List.size_toArray, PJob.len (x := noJob) rfl]; omega)] at h9
    simp at h9
theorem txB_long {w : World} {x : PTx} (h : TxIn w x) : 32 ≤ (txB x).length := by
  have h9 := h.op.root
  simp only [txB, frontB, opB, List.length_append]
  omega
set_option linter.unusedSimpArgs false in
set_option maxRecDepth 100000 in
set_option maxHeartbeats 6400000 in
theorem make_arg {w : World} {s : List UInt8} {x : PTx} {ch st : Int} (hbad : (okNum ch && okNum st) = false) :
    Calls Tryd.prog 19 #[.int .i64 ch, .int .i64 st, .agg (cellsOf s).toArray, .agg x.cells.toArray] w fun e w' => e = .returned (.tuple #[.agg noJob.cells.toArray, .int .i64 1]) ∧ Below w.heap.size w w' := by
  obtain ⟨u1, e1⟩ : ∃ u, okNum ch = u := ⟨_, rfl⟩
  obtain ⟨u2, e2⟩ : ∃ u, okNum st = u := ⟨_, rfl⟩
  have HU1 : Hid (∀ W : World, Calls Tryd.prog 45 #[.int .i64 ch, .int .i64 1048576] W fun e w' => e = .returned (.bool u1) ∧ W = w') := Lib.hid fun W => by
    rw [← e1]
    exact appupto_any W _ _
  have HU2 : Hid (∀ W : World, Calls Tryd.prog 45 #[.int .i64 st, .int .i64 1048576] W fun e w' => e = .returned (.bool u2) ∧ W = w') := Lib.hid fun W => by
    rw [← e2]
    exact appupto_any W _ _
  have SZ0 : Hid ((Tryd.prog.info? 51).map (·.size) = some noJob.cells.length) := Lib.hid (job_size rfl)
  rw [e1, e2] at hbad
  clear e1 e2
  go_enter Tryd.func19, Tryd.ntmps19
  go_upto_region 1 with (first | (refine wpList_new rfl 51 rfl noJob.cells.toArray Tryd.infoJob ?_; intro r w1 hr hh hb; go_frame) | fail)
  have b0 : Below w.heap.size w ((w.alloc (.cells (cellsOf s).toArray 23)).alloc (.cells x.cells.toArray 31)) := ((Below.refl _ _).alloc (Nat.le_refl _) _).alloc (by simp) _
  have h1 : w1.heap[w.heap.size]? = some (.cells (cellsOf s).toArray 23 (0, 0)) := keep hb (by rw [heap_alloc_old _ _ (by simp), heap_alloc_new])
  have h2 : w1.heap[w.heap.size + 1]? = some (.cells x.cells.toArray 31 (0, 0)) := keep hb (heap_alloc_at _ _ _ (by simp))
  have hr' : w.heap.size ≤ r := Nat.le_trans b0.size hr
  have HB1 := Lib.hid (bthen b0 hb)
  obtain ⟨g, hg⟩ : ∃ g, g = w.heap.size := ⟨_, rfl⟩
  obtain ⟨g1, hg1⟩ : ∃ g1, g1 = g + 1 := ⟨_, rfl⟩
  rw [← hg] at h1 h2 ⊢
  rw [← hg1] at h2 ⊢
  have H1 := Lib.hid h1
  have H2 := Lib.hid h2
  have HR1 := Lib.hid hh
  have HNR : Hid (w.heap.size ≤ r) := Lib.hid hr'
  clear b0 h1 h2 hr' hg hg1 hr hh hb
  cases u1
  · go_wp2_with (first | (go_at_call 45; (first | (with_reducible refine (HU1.out _).mono ?_) | (with_reducible refine (HU2.out _).mono ?_)); rintro e w2 ⟨rfl, rfl⟩) | (refine wpList_build10 rfl rfl (vs := []) rfl build_job0 ?_; go_frame) | (refine wpList_row10 rfl 51 _ _ rfl r noJob.cells rfl rfl 51 noJob.cells HR1.out SZ0.out rfl (PJob.one _) ?_; intro w9 hh9 hb9) | fail)
    refine bodyPost_ret (results_cell_then rfl _ _ r 51 noJob.cells.toArray (0, 0) _ (.int .i64 1) rfl rfl hh9 Tryd.underlying51 rfl (by rw [List.size_toArray]; exact SZ0.out)) rfl ?_
    exact ⟨rfl, But.in HB1.out hb9 HNR.out⟩
  · cases u2
    · go_wp2_with (first | (go_at_call 45; (first | (with_reducible refine (HU1.out _).mono ?_) | (with_reducible refine (HU2.out _).mono ?_)); rintro e w2 ⟨rfl, rfl⟩) | (refine wpList_build10 rfl rfl (vs := []) rfl build_job0 ?_; go_frame) | (refine wpList_row10 rfl 51 _ _ rfl r noJob.cells rfl rfl 51 noJob.cells HR1.out SZ0.out rfl (PJob.one _) ?_; intro w9 hh9 hb9) | fail)
      refine bodyPost_ret (results_cell_then rfl _ _ r 51 noJob.cells.toArray (0, 0) _ (.int .i64 1) rfl rfl hh9 Tryd.underlying51 rfl (by rw [List.size_toArray]; exact SZ0.out)) rfl ?_
      exact ⟨rfl, But.in HB1.out hb9 HNR.out⟩
    · exact absurd hbad (by decide)
set_option linter.unusedSimpArgs false in
set_option maxRecDepth 100000 in
set_option maxHeartbeats 6400000 in
theorem make_bad {w : World} {s : List UInt8} {x : PTx} {ch st : Int} (hs : s.length = 32) (ht : TxIn w x) (hnum : (okNum ch && okNum st) = true) (hok : txOk x = false) :
    Calls Tryd.prog 19 #[.int .i64 ch, .int .i64 st, .agg (cellsOf s).toArray, .agg x.cells.toArray] w fun e w' => e = .returned (.tuple #[.agg noJob.cells.toArray, .int .i64 1]) ∧ Below w.heap.size w w' := by
  obtain ⟨u1, e1⟩ : ∃ u, okNum ch = u := ⟨_, rfl⟩
  obtain ⟨u2, e2⟩ : ∃ u, okNum st = u := ⟨_, rfl⟩
  have HU1 : Hid (∀ W : World, Calls Tryd.prog 45 #[.int .i64 ch, .int .i64 1048576] W fun e w' => e = .returned (.bool u1) ∧ W = w') := Lib.hid fun W => by
    rw [← e1]
    exact appupto_any W _ _
  have HU2 : Hid (∀ W : World, Calls Tryd.prog 45 #[.int .i64 st, .int .i64 1048576] W fun e w' => e = .returned (.bool u2) ∧ W = w') := Lib.hid fun W => by
    rw [← e2]
    exact appupto_any W _ _
  have hu : u1 = true ∧ u2 = true := by rw [← e1, ← e2]; simpa using hnum
  obtain ⟨rfl, rfl⟩ := hu
  clear e1 e2
  have HCV : Hid (∀ W : World, Below w.heap.size w W → Calls Tryd.prog 9 #[.agg (cellsOf s).toArray, .agg x.cells.toArray] W fun e w' => e = .returned (.tuple #[.slice none 0 0, .int .i64 1]) ∧ Below W.heap.size W w') := Lib.hid fun W hW => cover_bad (ht.below hW) hok
  have SZ0 : Hid ((Tryd.prog.info? 51).map (·.size) = some noJob.cells.length) := Lib.hid (job_size rfl)
  have SZX := Lib.hid (tx_sizeA ht.op.root)
  have SZS := Lib.hid (size_of hs)
  clear hs ht hnum hok
  go_enter Tryd.func19, Tryd.ntmps19
  go_upto_region 1 with (first | (refine wpList_new rfl 51 rfl noJob.cells.toArray Tryd.infoJob ?_; intro r w1 hr hh hb; go_frame) | fail)
  have b0 : Below w.heap.size w ((w.alloc (.cells (cellsOf s).toArray 23)).alloc (.cells x.cells.toArray 31)) := ((Below.refl _ _).alloc (Nat.le_refl _) _).alloc (by simp) _
  have h1 : w1.heap[w.heap.size]? = some (.cells (cellsOf s).toArray 23 (0, 0)) := keep hb (by rw [heap_alloc_old _ _ (by simp), heap_alloc_new])
  have h2 : w1.heap[w.heap.size + 1]? = some (.cells x.cells.toArray 31 (0, 0)) := keep hb (heap_alloc_at _ _ _ (by simp))
  have hr' : w.heap.size ≤ r := Nat.le_trans b0.size hr
  have HB1 := Lib.hid (bthen b0 hb)
  obtain ⟨g, hg⟩ : ∃ g, g = w.heap.size := ⟨_, rfl⟩
  obtain ⟨g1, hg1⟩ : ∃ g1, g1 = g + 1 := ⟨_, rfl⟩
  rw [← hg] at h1 h2 ⊢
  rw [← hg1] at h2 ⊢
  have H1 := Lib.hid h1
  have H2 := Lib.hid h2
  have HR1 := Lib.hid hh
  have HNR : Hid (w.heap.size ≤ r) := Lib.hid hr'
  clear b0 h1 h2 hr' hg hg1 hr hh hb
  go_wp2_with (first | (go_at_call 45; (first | (with_reducible refine (HU1.out _).mono ?_) | (with_reducible refine (HU2.out _).mono ?_)); rintro e w2 ⟨rfl, rfl⟩) | (refine wpList_load_row rfl 31 _ rfl g1 rfl 31 x.cells.toArray (0, 0) _ H2.out Tryd.underlying31 rfl SZX.out ?_) | (refine wpList_load_row rfl 23 _ rfl g rfl 23 (cellsOf s).toArray (0, 0) _ H1.out Tryd.underlying23 rfl SZS.out ?_) | (go_at_call 9; (with_reducible refine (HCV.out _ HB1.out).mono ?_); rintro e w3 ⟨rfl, hb⟩; have HB3 := Lib.hid (bthen HB1.out hb); have H13 := Lib.hid (keep hb H1.out); have HR3 := Lib.hid (keep hb HR1.out); clear hb) | (refine wpList_build10 rfl rfl (vs := []) rfl build_job0 ?_; go_frame) | (refine wpList_row10 rfl 51 _ _ rfl r noJob.cells rfl rfl 51 noJob.cells HR3.out SZ0.out rfl (PJob.one _) ?_; intro w9 hh9 hb9) | fail)
  refine bodyPost_ret (results_cell_then rfl _ _ r 51 noJob.cells.toArray (0, 0) _ (.int .i64 1) rfl rfl hh9 Tryd.underlying51 rfl (by rw [List.size_toArray]; exact SZ0.out)) rfl ?_
  exact ⟨rfl, But.in HB3.out hb9 HNR.out⟩
/-- The job that is made of a commitment's sum and a transaction, its blob at some place. -/
def madeJob (ch st : Int) (s : List UInt8) (x : PTx) (a : Option Addr) (c : Nat) : PJob := ⟨ch, st, sumOf (partsOf 71 [s]), a, 16 + (txB x).length, c, closeB (appKey s) (txB x)⟩
set_option linter.unusedSimpArgs false in
set_option maxRecDepth 100000 in
set_option maxHeartbeats 6400000 in
theorem make_ok {w : World} {s : List UInt8} {x : PTx} {ch st : Int} (hs : s.length = 32) (ht : TxIn w x) (hk : KsAt w) (hnum : (okNum ch && okNum st) = true) (hok : txOk x = true) (hl : (txB x).length ≤ 65536) :
    Calls Tryd.prog 19 #[.int .i64 ch, .int .i64 st, .agg (cellsOf s).toArray, .agg x.cells.toArray] w fun e w' => ∃ a c, e = .returned (.tuple #[.agg (madeJob ch st s x a c).cells.toArray, .int .i64 0]) ∧ JobIn w' (madeJob ch st s x a c) ∧ Below w.heap.size w w' := by
  have hnum2 : (0 ≤ ch ∧ ch ≤ 1048576) ∧ 0 ≤ st ∧ st ≤ 1048576 := by simpa [okNum] using hnum
  have FX1 : Hid (Fits ch) := Lib.hid (by constructor <;> omega)
  have FX2 : Hid (Fits st) := Lib.hid (by constructor <;> omega)
  clear hnum2
  obtain ⟨u1, e1⟩ : ∃ u, okNum ch = u := ⟨_, rfl⟩
  obtain ⟨u2, e2⟩ : ∃ u, okNum st = u := ⟨_, rfl⟩
  have HU1 : Hid (∀ W : World, Calls Tryd.prog 45 #[.int .i64 ch, .int .i64 1048576] W fun e w' => e = .returned (.bool u1) ∧ W = w') := Lib.hid fun W => by
    rw [← e1]
    exact appupto_any W _ _
  have HU2 : Hid (∀ W : World, Calls Tryd.prog 45 #[.int .i64 st, .int .i64 1048576] W fun e w' => e = .returned (.bool u2) ∧ W = w') := Lib.hid fun W => by
    rw [← e2]
    exact appupto_any W _ _
  have hu : u1 = true ∧ u2 = true := by rw [← e1, ← e2]; simpa using hnum
  obtain ⟨rfl, rfl⟩ := hu
  clear e1 e2
  obtain ⟨C, hC⟩ : ∃ C, closeB (appKey s) (txB x) = C := ⟨_, rfl⟩
  obtain ⟨N, hN⟩ : ∃ N, 16 + (txB x).length = N := ⟨_, rfl⟩
  obtain ⟨X, hX⟩ : ∃ X, sumOf (partsOf 71 [s]) = X := ⟨_, rfl⟩
  have hXl : X.length = 32 := by rw [← hX]; exact sumOf_len _
  have HCV : Hid (∀ W : World, Below w.heap.size w W → Calls Tryd.prog 9 #[.agg (cellsOf s).toArray, .agg x.cells.toArray] W fun e w' => ∃ a c, e = .returned (.tuple #[.slice a N c, .int .i64 0]) ∧ Row w' a N c C ∧ Below W.heap.size W w') := Lib.hid fun W hW => by
    rw [← hC, ← hN]
    exact cover_ok hs (ht.below hW) (hk.below hW) hok hl
  have HHI : Hid (∀ W : World, Below w.heap.size w W → Calls Tryd.prog 15 #[.agg (cellsOf s).toArray] W fun e w' => e = .returned (.agg (cellsOf X).toArray) ∧ Below W.heap.size W w') := Lib.hid fun W hW => by
    rw [← hX]
    exact hint_any hs (hk.below hW)
  have GO : Hid (∀ (e : Ending) (w' : World), (∃ a c, e = .returned (.tuple #[.agg (PJob.cells ⟨ch, st, X, a, N, c, C⟩).toArray, .int .i64 0]) ∧ JobIn w' ⟨ch, st, X, a, N, c, C⟩ ∧ Below w.heap.size w w') → ∃ a c, e = .returned (.tuple #[.agg (madeJob ch st s x a c).cells.toArray, .int .i64 0]) ∧ JobIn w' (madeJob ch st s x a c) ∧ Below w.heap.size w w') := Lib.hid fun e w' hh => by
    unfold madeJob
    rw [hX, hN, hC]
    exact hh
  refine Calls.mono ?_ (fun e w' h => GO.out e w' h)
  have XL := Lib.hid hXl
  have SZX := Lib.hid (tx_sizeA ht.op.root)
  have SZS := Lib.hid (size_of hs)
  have HN33 : Hid (33 ≤ N) := Lib.hid (by have h9 := txB_long ht; omega)
  clear hs ht hk hnum hok hl hC hN hX hXl GO
  go_enter Tryd.func19, Tryd.ntmps19
  go_upto_region 1 with (first | (refine wpList_new rfl 51 rfl noJob.cells.toArray Tryd.infoJob ?_; intro r w1 hr hh hb; go_frame) | fail)
  have b0 : Below w.heap.size w ((w.alloc (.cells (cellsOf s).toArray 23)).alloc (.cells x.cells.toArray 31)) := ((Below.refl _ _).alloc (Nat.le_refl _) _).alloc (by simp) _
  have h1 : w1.heap[w.heap.size]? = some (.cells (cellsOf s).toArray 23 (0, 0)) := keep hb (by rw [heap_alloc_old _ _ (by simp), heap_alloc_new])
  have h2 : w1.heap[w.heap.size + 1]? = some (.cells x.cells.toArray 31 (0, 0)) := keep hb (heap_alloc_at _ _ _ (by simp))
  have hr' : w.heap.size ≤ r := Nat.le_trans b0.size hr
  have HB1 := Lib.hid (bthen b0 hb)
  obtain ⟨g, hg⟩ : ∃ g, g = w.heap.size := ⟨_, rfl⟩
  obtain ⟨g1, hg1⟩ : ∃ g1, g1 = g + 1 := ⟨_, rfl⟩
  rw [← hg] at h1 h2 ⊢
  rw [← hg1] at h2 ⊢
  have H1 := Lib.hid h1
  have H2 := Lib.hid h2
  have HR1 := Lib.hid hh
  have HNR : Hid (w.heap.size ≤ r) := Lib.hid hr'
  clear b0 h1 h2 hr' hg hg1 hr hh hb
  go_upto_region 4 with (first | (go_at_call 45; (first | (with_reducible refine (HU1.out _).mono ?_) | (with_reducible refine (HU2.out _).mono ?_)); rintro e w2 ⟨rfl, rfl⟩) | (refine wpList_load_row rfl 31 _ rfl g1 rfl 31 x.cells.toArray (0, 0) _ H2.out Tryd.underlying31 rfl SZX.out ?_) | (refine wpList_load_row rfl 23 _ rfl g rfl 23 (cellsOf s).toArray (0, 0) _ H1.out Tryd.underlying23 rfl SZS.out ?_) | (go_at_call 9; (with_reducible refine (HCV.out _ HB1.out).mono ?_); rintro e w3 ⟨a, c, rfl, hrow, hb⟩; have HB3 := Lib.hid (bthen HB1.out hb); have H13 := Lib.hid (keep hb H1.out); have HR3 := Lib.hid (keep hb HR1.out); have HC3 := Lib.hid hrow; clear hrow; clear hb) | fail)
  have HF := Lib.hid (off_job HC3.out HN33.out HR3.out)
  have SZJ : Hid ((Tryd.prog.info? 51).map (·.size) = some (PJob.cells ⟨ch, st, X, a, N, c, C⟩).length) := Lib.hid (job_size XL.out)
  have ZJ : Hid (noJob.cells.length = (PJob.cells ⟨ch, st, X, a, N, c, C⟩).length) := Lib.hid (by rw [PJob.len (x := ⟨ch, st, X, a, N, c, C⟩) XL.out]; rfl)
  go_wp2_with (first | (refine wpList_load_row rfl 23 _ rfl g rfl 23 (cellsOf s).toArray (0, 0) _ H13.out Tryd.underlying23 rfl SZS.out ?_) | (go_at_call 15; (with_reducible refine (HHI.out _ HB3.out).mono ?_); rintro e w4 ⟨rfl, hb⟩; have HB4 := Lib.hid (bthen HB3.out hb); have HR4 := Lib.hid (keep hb HR3.out); have HC4 := Lib.hid (HC3.out.below hb); clear hb) | (refine wpList_build10 rfl rfl (vs := [(0, .int .i64 ch), (1, .int .i64 st), (2, .agg (cellsOf X).toArray), (3, .slice a N c)]) rfl (build_job ch st XL.out a N c C) ?_; go_frame) | (refine wpList_row10 rfl 51 _ _ rfl r (PJob.mk ch st X a N c C).cells rfl rfl 51 noJob.cells HR4.out SZJ.out ZJ.out (PJob.one _) ?_; intro w9 hh9 hb9) | fail)
  refine bodyPost_ret (results_cell_then rfl _ _ r 51 (PJob.mk ch st X a N c C).cells.toArray (0, 0) _ (.int .i64 0) rfl rfl hh9 Tryd.underlying51 rfl (by rw [List.size_toArray]; exact SZJ.out)) rfl ?_
  exact ⟨a, c, rfl, ⟨FX1.out, FX2.out, XL.out, HC4.out.but hb9 HF.out⟩, But.in HB4.out hb9 HNR.out⟩
end Go.Proofs.YtnepcjnnlfhplaaDoor
