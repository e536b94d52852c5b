/- What markOf comes to: a text's mark. -/
import Derived.Test.YtjfkhclcjggoeaaDoorVeilTurned
namespace Go.Proofs.YtjfkhclcjggoeaaDoor
open Go.RowKit

def zero16 : List UInt8 := List.replicate 16 0
theorem zero16_is : (cellsOf zero16).toArray = #[.int .u8 0, .int .u8 0, .int .u8 0, .int .u8 0, .int .u8 0, .int .u8 0, .int .u8 0, .int .u8 0, .int .u8 0, .int .u8 0, .int .u8 0, .int .u8 0, .int .u8 0, .int .u8 0, .int .u8 0, .int .u8 0] := rfl
theorem Tryd.size16 : (Tryd.prog.info? 45).map (·.size) = some 16 := by kernel_rfl
theorem size16_of {d : List UInt8} (h : d.length = 16) : (Tryd.prog.info? 45).map (·.size) = some (cellsOf d).toArray.size := by rw [List.size_toArray, cellsOf_len, h]; exact Tryd.size16
theorem zero16_of {d : List UInt8} (h : d.length = 16) : (cellsOf zero16).toArray.size = (cellsOf d).toArray.size := by rw [List.size_toArray, List.size_toArray, cellsOf_len, cellsOf_len, h]; rfl
/-- The array at the front of a slice of 16 bytes. -/
theorem array16 {b off c : Nat} (W : World) : (Instr.arrayAt 45 (.slice (some ⟨b, off, none⟩) 16 c)).run Tryd.prog W = .ok (.pointer (some ⟨b, off, none⟩)) W := by
  simp [Instr.arrayAt, run_underlying Tryd.underlying45]
/-- The first 16 bytes of a sum. -/
theorem range16 {w : World} {b : Nat} {x : List UInt8} {t : TypeId} {fr : Nat × Nat} (h : w.heap[b]? = some (.cells (cellsOf x).toArray t fr)) : w.rangeAt b 0 (cellsOf (x.take 16)) := fun j v hv => by
  have hj : j < 16 := by
    have h1 := (List.getElem?_eq_some_iff.1 hv).1
    rw [cellsOf_len, List.length_take] at h1
    omega
  refine range_of h j v ?_
  rw [← hv]
  simp [cellsOf, hj]
set_option linter.unusedSimpArgs false in
set_option maxRecDepth 100000 in
set_option maxHeartbeats 6400000 in
theorem mark_any {w : World} {a : Option Addr} {s t : List UInt8} {n c : Nat} (hs : s.length = 32) (ht : Row w a n c t) (hn : n ≤ 100000) (hk : KsAt w) :
    Calls Tryd.prog 16 #[.agg (cellsOf s).toArray, .slice a n c] w fun e w' => e = .returned (.agg (cellsOf (markB s t)).toArray) ∧ Below w.heap.size w w' := by
  have hml := markB_len s t
  obtain ⟨x, hx, hxl, hm, hjoin⟩ : ∃ x, sumOf (partsOf 52 [s, t]) = x ∧ x.length = 32 ∧ markB s t = x.take 16 ∧ ∀ (W : World) (gg q : Nat), KsAt W → W.heap[q]? = some (.cells (cellsOf s).toArray 23 (0, 0)) → Row W a n c t → W.heap[gg]? = some (.cells #[.slice (some ⟨q, 0, none⟩) 32 32, .slice a n c] 24 (0, 0)) →
      Calls Tryd.prog 7 #[.int .u8 52, .slice (some ⟨gg, 0, none⟩) 2 2] W fun e w' => e = .returned (.agg (cellsOf x).toArray) ∧ Below W.heap.size W w' :=
    ⟨_, rfl, sumOf_len _, rfl, fun W gg q hW hq hr hg => join_any 52 52 rfl (rows2_at hg (row_all hq 32 hs.symm (by omega)) hr) hW (parts2_few 52 hs (by rw [hr.1]; omega))⟩
  obtain ⟨m, hmm⟩ : ∃ m, m = markB s t := ⟨_, rfl⟩
  rw [← hmm] at hml hm ⊢
  have SZX := Lib.hid (size_of hxl)
  have ZX := Lib.hid (zero_of hxl)
  have SZM := Lib.hid (size16_of hml)
  have ZM := Lib.hid (zero16_of hml)
  have HM := Lib.hid hm
  have HML : Hid ((Tryd.prog.info? 45).map (·.size) = some (cellsOf m).length) := Lib.hid (by rw [cellsOf_len, hml]; exact Tryd.size16)
  have HXL := Lib.hid hxl
  have HJ := Lib.hid hjoin
  have HK := Lib.hid hk
  have HT := Lib.hid ht
  have qa := @array16
  clear hml hx hxl hm hjoin hmm hk ht
  go_enter Tryd.func16, Tryd.ntmps16
  go_upto_region 1 with (fail)
  rw [← zero16_is]
  have b1 : Below w.heap.size w ((w.alloc (.cells (cellsOf s).toArray 23)).alloc (.cells (cellsOf zero16).toArray 45)) := ((Below.refl _ _).alloc (Nat.le_refl _) _).alloc (by simp) _
  have h1 : ((w.alloc (.cells (cellsOf s).toArray 23)).alloc (.cells (cellsOf zero16).toArray 45)).heap[w.heap.size]? = some (.cells (cellsOf s).toArray 23 (0, 0)) := by
    rw [heap_alloc_old _ _ (by simp), heap_alloc_new]
  have h2 : ((w.alloc (.cells (cellsOf s).toArray 23)).alloc (.cells (cellsOf zero16).toArray 45)).heap[w.heap.size + 1]? = some (.cells (cellsOf zero16).toArray 45 (0, 0)) := heap_alloc_at _ _ _ (by simp)
  revert b1 h1 h2
  generalize ((w.alloc (.cells (cellsOf s).toArray 23)).alloc (.cells (cellsOf zero16).toArray 45)) = w1
  obtain ⟨q, hq⟩ : ∃ q, q = w.heap.size := ⟨_, rfl⟩
  rw [← hq]
  intro b1 h1 h2
  rw [hq] at b1
  have hge : w.heap.size ≤ q + 1 := by omega
  have HB1 := Lib.hid b1
  have HQ1 := Lib.hid h1
  have HR1 := Lib.hid h2
  have HK1 := Lib.hid (HK.out.below b1)
  have HT1 := Lib.hid (HT.out.below b1)
  have hlq := lt_of_block h1
  clear b1 h1 h2 hq HK HT
  go_wp2_with fail
  have b2 : Below w1.heap.size w1 (w1.alloc (.cells #[.slice (some ⟨q, 0, none⟩) 32 32, .slice a n c] 24)) := (Below.refl _ _).alloc (Nat.le_refl _) _
  refine (HJ.out _ w1.heap.size q (HK1.out.below b2) (keep b2 HQ1.out) (HT1.out.below b2) (heap_alloc_new _ _)).mono ?_
  rintro e w2 ⟨rfl, hb2⟩
  have b3 := bthen b2 hb2
  have HB2 := Lib.hid (bthen HB1.out b3)
  have HR2 := Lib.hid (keep b3 HR1.out)
  clear b2 hb2 b3
  go_upto_region 2 with (first | (refine wpList_store_row rfl 23 _ _ rfl w2.heap.size (cellsOf x).toArray rfl rfl 23 (cellsOf zero32).toArray (heap_alloc_new _ _) SZX.out ZX.out (all_oneCell_toArray (cellsOf_one x)) ?_) | fail)
  rw [← zero32_is, laySum_is]
  have h5 := laySum_heap w2 x
  have b5 := laySum_self w2 x
  revert h5 b5
  generalize laySum w2 x = w5
  obtain ⟨p, hp⟩ : ∃ p, p = w2.heap.size := ⟨_, rfl⟩
  rw [← hp]
  intro h5 b5
  rw [hp] at b5
  have h6 := range16 h5
  rw [← HM.out] at h6
  have HP5 := Lib.hid h6
  have HR5 := Lib.hid (keep b5 HR2.out)
  have HB5 := Lib.hid (bthen HB2.out b5)
  clear h5 b5 h6 hp
  try simp only [Act.put]
  go_wp2_with (first | (refine wpList_load_mid rfl 45 _ rfl p 0 rfl (cellsOf m) _ HP5.out Tryd.underlying45 rfl HML.out ?_) | (refine wpList_store_row rfl 45 _ _ rfl (q + 1) (cellsOf m).toArray rfl rfl 45 (cellsOf zero16).toArray HR5.out SZM.out ZM.out (all_oneCell_toArray (cellsOf_one m)) ?_) | fail)
  exact bodyPost_ret (results_cell_row rfl _ _ (q + 1) 45 (cellsOf m).toArray (0, 0) _ rfl (setRow_heap w5 (q + 1) _ _ 45 _ HR5.out) Tryd.underlying45 rfl SZM.out) rfl ⟨rfl, But.in HB5.out (but_setRow w5 (q + 1) _) hge⟩
end Go.Proofs.YtjfkhclcjggoeaaDoor
