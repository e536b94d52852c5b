/- How a shelf of secrets stands in memory, and what Len, Get, All, Clone tell of it. -/
import Derived.Test.YthpkafjonelanaaDoorSeqAt
import Derived.Test.YthpkafjonelanaaDoorSecOf
namespace Go.Proofs.YthpkafjonelanaaDoor
open Go.RowKit

/-- A shelf without secrets. -/
def ShelfNo (w : World) (ps : Nat) : Prop := w.heap[ps]? = some (.cells #[.pointer none, .int .i64 0] 34 (0, 0))
/-- A shelf with secrets: they are all that its rack has. -/
structure ShelfIs (w : World) (B ps r : Nat) (v : Value) (ls : List (List UInt8)) : Prop where
  cell : w.heap[ps]? = some (.cells #[.pointer (some ⟨r, 0, none⟩), .int .i64 ((ls.length : Nat) : Int)] 34 (0, 0))
  rack : w.heap[r]? = some (.cells #[v] 60 (0, 0))
  own : OwnS w B v ls
  full : ls ≠ []
  base : B ≤ r
theorem ShelfNo.below {w w' : World} {ps : Nat} (h : ShelfNo w ps) (hb : Below w.heap.size w w') : ShelfNo w' ps := keep hb h
theorem ShelfIs.below {w w' : World} {B ps r : Nat} {v : Value} {ls : List (List UInt8)} (h : ShelfIs w B ps r v ls) (hb : Below w.heap.size w w') : ShelfIs w' B ps r v ls := ⟨keep hb h.cell, keep hb h.rack, h.own.below hb, h.full, h.base⟩
theorem agShelfP (w : World) : (isAgg 32).run Tryd.prog w = .ok false w := by kernel_rfl
theorem agInt13 (w : World) : (isAgg 3).run Tryd.prog w = .ok false w := by kernel_rfl
theorem shelf_cell {w : World} {ps : Nat} {p q : Value} (h : w.heap[ps]? = some (.cells #[p, q] 34 (0, 0))) : w.cell? ⟨ps, 0, none⟩ = some p ∧ w.cell? ⟨ps, 1, none⟩ = some q := ⟨by rw [cell_of_row _ _ _ _ _ _ h]; rfl, by rw [cell_of_row _ _ _ _ _ _ h]; rfl⟩
theorem rack_cell {w : World} {r : Nat} {v : Value} (h : w.heap[r]? = some (.cells #[v] 60 (0, 0))) : w.cell? ⟨r, 0, none⟩ = some v := by rw [cell_of_row _ _ _ _ _ _ h]; rfl
theorem sumLen13 {s : List UInt8} (h : s.length = 32) : (Tryd.prog.info? 23).map (·.size) = some (cellsOf s).length := by rw [cellsOf_len, h]; exact Tryd.size23
theorem zeroLen13 {s : List UInt8} (h : s.length = 32) : (cellsOf zero32).length = (cellsOf s).length := by rw [cellsOf_len, cellsOf_len, h]; rfl
theorem build_zero13 (w : World) : (Instr.build 23 ([] : List (Nat × Value)).toArray).run Tryd.prog w = .ok (.agg (cellsOf zero32).toArray) w := by kernel_rfl
/-! ### Len -/
set_option linter.unusedSimpArgs false in
set_option maxRecDepth 100000 in
set_option maxHeartbeats 6400000 in
theorem len_at13 {w : World} {ps : Nat} {p : Value} {n : Int} (h : w.heap[ps]? = some (.cells #[p, .int .i64 n] 34 (0, 0))) :
    Calls Tryd.prog 14 #[.pointer (some ⟨ps, 0, none⟩)] w fun e w' => e = .returned (.int .i64 n) ∧ w = w' := by
  have c1 := (shelf_cell h).2
  clear h
  go_enter Tryd.func14, Tryd.ntmps14
  go_wp2_with fail
  go_ret
  exact ⟨rfl, rfl⟩
set_option linter.unusedSimpArgs false in
set_option maxRecDepth 100000 in
set_option maxHeartbeats 6400000 in
theorem len_nil13 {w : World} :
    Calls Tryd.prog 14 #[.pointer none] w fun e w' => e = .returned (.int .i64 0) ∧ w = w' := by
  go_enter Tryd.func14, Tryd.ntmps14
  go_wp2_with fail
  go_ret
  exact ⟨rfl, rfl⟩
/-! ### Get -/
set_option linter.unusedSimpArgs false in
set_option maxRecDepth 100000 in
set_option maxHeartbeats 6400000 in
theorem get_low13 {w : World} {p : Value} {z : Int} (hz : z < 0) :
    Calls Tryd.prog 15 #[p, .int .i64 z] w fun e w' => e = .returned (.tuple #[.agg (cellsOf zero32).toArray, .bool false]) ∧ Below w.heap.size w w' := by
  have SZZ := Lib.hid (sumLen13 (s := zero32) rfl)
  go_enter Tryd.func15, Tryd.ntmps15
  go_upto_region 1 with (fail)
  rw [← zero32_is]
  have b1 : Below w.heap.size w (w.alloc (.cells (cellsOf zero32).toArray 23)) := (Below.refl _ _).alloc (Nat.le_refl _) _
  have h1 := heap_alloc_new w (.cells (cellsOf zero32).toArray 23)
  revert b1 h1
  generalize (w.alloc (.cells (cellsOf zero32).toArray 23)) = w1
  obtain ⟨q, hq⟩ : ∃ q, q = w.heap.size := ⟨_, rfl⟩
  rw [← hq]
  intro b1 h1
  rw [hq] at b1
  have HB1 := Lib.hid b1
  have HQ1 := Lib.hid h1
  have HN : Hid (w.heap.size ≤ q) := Lib.hid (by omega)
  clear b1 h1 hq
  go_upto_region 2 with (fail)
  go_wp2_with (first | (refine wpList_build10 rfl rfl (vs := []) rfl build_zero13 ?_; go_frame) | (refine wpList_row10 rfl 23 _ _ rfl q (cellsOf zero32) rfl rfl 23 (cellsOf zero32) HQ1.out SZZ.out rfl (cellsOf_one zero32) ?_; intro w5 hh5 hb5) | fail)
  have HFIN := Lib.hid (But.in HB1.out hb5 HN.out)
  have HX5 := Lib.hid hh5
  clear hb5 hh5
  go_wp2_with fail
  exact bodyPost_ret (results_cell_then rfl _ _ q 23 (cellsOf zero32).toArray (0, 0) _ _ rfl rfl HX5.out Tryd.underlying23 rfl (size_of rfl)) rfl ⟨rfl, HFIN.out⟩
set_option linter.unusedSimpArgs false in
set_option maxRecDepth 100000 in
set_option maxHeartbeats 6400000 in
theorem get_high13 {w : World} {ps : Nat} {p : Value} {n : Int} {z : Int} (h : w.heap[ps]? = some (.cells #[p, .int .i64 n] 34 (0, 0))) (hz : 0 ≤ z) (hn : n ≤ z) :
    Calls Tryd.prog 15 #[.pointer (some ⟨ps, 0, none⟩), .int .i64 z] w fun e w' => e = .returned (.tuple #[.agg (cellsOf zero32).toArray, .bool false]) ∧ Below w.heap.size w w' := by
  have SZZ := Lib.hid (sumLen13 (s := zero32) rfl)
  go_enter Tryd.func15, Tryd.ntmps15
  go_upto_region 1 with (fail)
  rw [← zero32_is]
  have b1 : Below w.heap.size w (w.alloc (.cells (cellsOf zero32).toArray 23)) := (Below.refl _ _).alloc (Nat.le_refl _) _
  have h1 := heap_alloc_new w (.cells (cellsOf zero32).toArray 23)
  revert b1 h1
  generalize (w.alloc (.cells (cellsOf zero32).toArray 23)) = w1
  obtain ⟨q, hq⟩ : ∃ q, q = w.heap.size := ⟨_, rfl⟩
  rw [← hq]
  intro b1 h1
  rw [hq] at b1
  have HB1 := Lib.hid b1
  have HQ1 := Lib.hid h1
  have HN : Hid (w.heap.size ≤ q) := Lib.hid (by omega)
  have HL := Lib.hid (len_at13 (keep b1 h))
  clear h
  clear b1 h1 hq
  go_upto_region 2 with (first | (go_at_call 14; (with_reducible refine (HL.out).mono ?_); rintro e w2 ⟨rfl, rfl⟩) | fail)
  go_wp2_with (first | (refine wpList_build10 rfl rfl (vs := []) rfl build_zero13 ?_; go_frame) | (refine wpList_row10 rfl 23 _ _ rfl q (cellsOf zero32) rfl rfl 23 (cellsOf zero32) HQ1.out SZZ.out rfl (cellsOf_one zero32) ?_; intro w5 hh5 hb5) | fail)
  have HFIN := Lib.hid (But.in HB1.out hb5 HN.out)
  have HX5 := Lib.hid hh5
  clear hb5 hh5
  go_wp2_with fail
  exact bodyPost_ret (results_cell_then rfl _ _ q 23 (cellsOf zero32).toArray (0, 0) _ _ rfl rfl HX5.out Tryd.underlying23 rfl (size_of rfl)) rfl ⟨rfl, HFIN.out⟩
set_option linter.unusedSimpArgs false in
set_option maxRecDepth 100000 in
set_option maxHeartbeats 6400000 in
theorem get_nil13 {w : World}  {z : Int} (hz : 0 ≤ z) :
    Calls Tryd.prog 15 #[.pointer none, .int .i64 z] w fun e w' => e = .returned (.tuple #[.agg (cellsOf zero32).toArray, .bool false]) ∧ Below w.heap.size w w' := by
  have SZZ := Lib.hid (sumLen13 (s := zero32) rfl)
  go_enter Tryd.func15, Tryd.ntmps15
  go_upto_region 1 with (fail)
  rw [← zero32_is]
  have b1 : Below w.heap.size w (w.alloc (.cells (cellsOf zero32).toArray 23)) := (Below.refl _ _).alloc (Nat.le_refl _) _
  have h1 := heap_alloc_new w (.cells (cellsOf zero32).toArray 23)
  revert b1 h1
  generalize (w.alloc (.cells (cellsOf zero32).toArray 23)) = w1
  obtain ⟨q, hq⟩ : ∃ q, q = w.heap.size := ⟨_, rfl⟩
  rw [← hq]
  intro b1 h1
  rw [hq] at b1
  have HB1 := Lib.hid b1
  have HQ1 := Lib.hid h1
  have HN : Hid (w.heap.size ≤ q) := Lib.hid (by omega)
  have HL := Lib.hid (len_nil13 (w := w1))
  clear b1 h1 hq
  go_upto_region 2 with (first | (go_at_call 14; (with_reducible refine (HL.out).mono ?_); rintro e w2 ⟨rfl, rfl⟩) | fail)
  go_wp2_with (first | (refine wpList_build10 rfl rfl (vs := []) rfl build_zero13 ?_; go_frame) | (refine wpList_row10 rfl 23 _ _ rfl q (cellsOf zero32) rfl rfl 23 (cellsOf zero32) HQ1.out SZZ.out rfl (cellsOf_one zero32) ?_; intro w5 hh5 hb5) | fail)
  have HFIN := Lib.hid (But.in HB1.out hb5 HN.out)
  have HX5 := Lib.hid hh5
  clear hb5 hh5
  go_wp2_with fail
  exact bodyPost_ret (results_cell_then rfl _ _ q 23 (cellsOf zero32).toArray (0, 0) _ _ rfl rfl HX5.out Tryd.underlying23 rfl (size_of rfl)) rfl ⟨rfl, HFIN.out⟩
set_option linter.unusedSimpArgs false in
set_option maxRecDepth 100000 in
set_option maxHeartbeats 6400000 in
theorem get_at13 {w : World} {B ps r : Nat} {v : Value} {ls : List (List UInt8)} {i : Nat} (h : ShelfIs w B ps r v ls) (hi : i < ls.length) :
    Calls Tryd.prog 15 #[.pointer (some ⟨ps, 0, none⟩), .int .i64 (i : Int)] w fun e w' => e = .returned (.tuple #[.agg (cellsOf (ls.getD i [])).toArray, .bool true]) ∧ Below w.heap.size w w' := by
  obtain ⟨a, c, rfl, _⟩ := h.own.shape
  obtain ⟨g, rfl, hBg, hlg⟩ := h.own.full h.full
  have hsum := h.own.sums
  have hx := hsum.each hi
  obtain ⟨b, off, e0, hlb, hc⟩ := hsum.2.2.2.2.2 (by omega)
  cases e0
  have hrow := hc i hi
  rw [Nat.zero_add] at hrow
  obtain ⟨n, hn⟩ : ∃ n, ls.length = n := ⟨_, rfl⟩
  obtain ⟨x, hxx⟩ : ∃ x, ls.getD i [] = x := ⟨_, rfl⟩
  rw [hxx] at hx hrow
  rw [hn] at hi
  have h0 := h.cell
  have h2 := h.rack
  rw [hn] at h0 h2
  rw [hxx]
  have f1 : (i : Int) < (n : Int) := by omega
  have HR := Lib.hid hrow
  have HG := Lib.hid hlg
  have H0 := Lib.hid h0
  have H2 := Lib.hid h2
  have SZX := Lib.hid (sumLen13 hx)
  have SZA := Lib.hid (size_of hx)
  have ZX := Lib.hid (zeroLen13 hx)
  clear h hsum hc hrow hx hxx hlg hlb hBg h0 h2 hn
  go_enter Tryd.func15, Tryd.ntmps15
  go_upto_region 1 with (fail)
  rw [← zero32_is]
  have b1 : Below w.heap.size w (w.alloc (.cells (cellsOf zero32).toArray 23)) := (Below.refl _ _).alloc (Nat.le_refl _) _
  have h1 := heap_alloc_new w (.cells (cellsOf zero32).toArray 23)
  revert b1 h1
  generalize (w.alloc (.cells (cellsOf zero32).toArray 23)) = w1
  obtain ⟨q, hq⟩ : ∃ q, q = w.heap.size := ⟨_, rfl⟩
  rw [← hq]
  intro b1 h1
  rw [hq] at b1
  have HB1 := Lib.hid b1
  have HQ1 := Lib.hid h1
  have HN : Hid (w.heap.size ≤ q) := Lib.hid (by omega)
  have HL := Lib.hid (len_at13 (keep b1 H0.out))
  have c0 := (shelf_cell (keep b1 H0.out)).1
  have c2 := rack_cell (keep b1 H2.out)
  have HR1 := Lib.hid (rangeAt_below HR.out HG.out b1)
  clear b1 h1 hq
  go_upto_region 3 with (first | (go_at_call 14; (with_reducible refine (HL.out).mono ?_); rintro e w2 ⟨rfl, rfl⟩) | fail)
  go_wp2_with (first | (refine wpList_load_mid rfl 23 _ rfl g (i * 32) rfl (cellsOf x) _ HR1.out Tryd.underlying23 rfl SZX.out ?_) | (refine wpList_row10 rfl 23 _ _ rfl q (cellsOf x) rfl rfl 23 (cellsOf zero32) HQ1.out SZX.out ZX.out (cellsOf_one x) ?_; intro w5 hh5 hb5) | fail)

  have HFIN := Lib.hid (But.in HB1.out hb5 HN.out)
  have HX5 := Lib.hid hh5
  clear hb5 hh5
  go_wp2_with fail
  exact bodyPost_ret (results_cell_then rfl _ _ q 23 (cellsOf x).toArray (0, 0) _ _ rfl rfl HX5.out Tryd.underlying23 rfl SZA.out) rfl ⟨rfl, HFIN.out⟩
end Go.Proofs.YthpkafjonelanaaDoor
