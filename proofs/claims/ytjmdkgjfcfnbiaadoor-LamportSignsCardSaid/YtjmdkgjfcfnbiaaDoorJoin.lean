/- What Join comes to: the sum of parts under a tag. -/
import Derived.Test.YtjmdkgjfcfnbiaaDoorStart
namespace Go.Proofs.YtjmdkgjfcfnbiaaDoor
open Go.RowKit

/-- A slice of slices of bytes that reads as 'ps'. -/
def Rows2 (w : World) (a : Option Addr) (n c : Nat) (ps : List (List UInt8)) : Prop :=
  ps.length = n ∧ n ≤ c ∧ c ≤ maxLen ∧ (a = none → c = 0) ∧
  (0 < n → ∃ b off, a = some ⟨b, off, none⟩ ∧ b < w.heap.size ∧ ∀ j, j < n → ∃ aj nj cj, w.cell? ⟨b, off + j, none⟩ = some (.slice aj nj cj) ∧ Row w aj nj cj (ps.getD j []))
theorem Rows2.below {w w' : World} {n c : Nat} {a : Option Addr} {ps : List (List UInt8)} (h : Rows2 w a n c ps) (hb : Below w.heap.size w w') : Rows2 w' a n c ps := by
  obtain ⟨h1, h2, h3, h4, h5⟩ := h
  refine ⟨h1, h2, h3, h4, fun h0 => ?_⟩
  obtain ⟨b, off, rfl, hlt, hc⟩ := h5 h0
  refine ⟨b, off, rfl, Nat.lt_of_lt_of_le hlt hb.size, fun j hj => ?_⟩
  obtain ⟨aj, nj, cj, h6, h7⟩ := hc j hj
  exact ⟨aj, nj, cj, (hb.cell (p := ⟨b, off + j, none⟩) hlt).trans h6, h7.below hb⟩
theorem Rows2.nil (w : World) : Rows2 w none 0 0 [] := ⟨rfl, Nat.le_refl _, Nat.zero_le _, fun _ => rfl, fun h => by omega⟩

theorem partsOf_succ (tag : UInt8) (ps : List (List UInt8)) (j : Nat) (h : j < ps.length) : partsOf tag (ps.take (j + 1)) = (partsOf tag (ps.take j) ++ four (BitVec.ofNat 32 (ps.getD j []).length)) ++ ps.getD j [] := by
  unfold partsOf
  rw [List.take_succ_eq_append_getElem h, List.flatMap_append]
  simp [partOf, List.getD, h]
theorem partsOf_le (tag : UInt8) (ps : List (List UInt8)) (j : Nat) : (partsOf tag (ps.take j)).length ≤ (partsOf tag ps).length := by
  have h : ps.flatMap partOf = (ps.take j).flatMap partOf ++ (ps.drop j).flatMap partOf := by rw [← List.flatMap_append, List.take_append_drop]
  unfold partsOf
  rw [List.length_cons, List.length_cons, h, List.length_append]
  omega

set_option maxRecDepth 100000 in
set_option maxHeartbeats 1600000 in
theorem join_any {w : World} {a : Option Addr} {n c : Nat} {ps : List (List UInt8)} (tag : UInt8) (T : Nat) (hT : tag.toNat = T) (h : Rows2 w a n c ps) (hk : KsAt w) (hn : (partsOf tag ps).length ≤ 1125899906842624) :
    Calls Tryd.prog 10 #[.int .u8 (T : Int), .slice a n c] w fun e w' => e = .returned (.agg (cellsOf (sumOf (partsOf tag ps))).toArray) ∧ Below w.heap.size w w' := by
  have hz := zero_row
  have HZS := Lib.hid zeroHash_size
  have hn63 : n ≤ 9223372036854775807 := by have := h.2.1; have := h.2.2.1; unfold maxLen at this; omega
  have H := Lib.hid h
  have HK := Lib.hid hk
  have HTT := Lib.hid hT
  clear h hk hT
  go_enter Tryd.func10, Tryd.ntmps10
  go_wp2_with fail
  refine (begin_any _).mono ?_
  rintro e w1 ⟨rfl, hb1⟩
  have HB1 := Lib.hid hb1
  clear hb1
  go_upto_region 2 with (refine wpList_store_row rfl 45 _ _ rfl w1.heap.size (hashRow start.list (List.replicate 64 0) 0).toArray rfl rfl 45 zeroHash (heap_alloc_new _ _) (by rw [hash_size]; exact Tryd.size45) (by rw [hash_size]; exact HZS.out) start_all ?_)
  have hw5 := StartAt.begun HK.out HB1.out
  revert hw5
  generalize ((w1.alloc (.cells zeroHash 45)).setRow w1.heap.size (hashRow start.list (List.replicate 64 0) 0).toArray) = w5
  obtain ⟨hb, hhb⟩ : ∃ hb, hb = w1.heap.size := ⟨_, rfl⟩
  rw [← hhb]
  intro hw5
  have H5 := Lib.hid hw5
  clear hw5 hhb hz
  simp only [Act.put]
  go_wp2_with fail
  have b6 : Below w5.heap.size w5 (w5.alloc (.cells #[.int .u8 (T : Int)] 5)) := (Below.refl _ _).alloc (Nat.le_refl _) _
  have h6 := H5.out.below b6
  have r6 : Row (w5.alloc (.cells #[.int .u8 (T : Int)] 5)) (some ⟨w5.heap.size, 0, none⟩) 1 1 [tag] := by
    refine row_all (t := 5) (fr := (0, 0)) ?_ 1 rfl (by omega)
    rw [heap_alloc_new, ← HTT.out]
    rfl
  have o6 : Off hb (some ⟨w5.heap.size, 0, none⟩) 1 := fun _ b off e => by cases e; have := H5.out.1.lt; omega
  have hb0 : hb ≠ 0 := by have := H5.out.2.2.2.1; omega
  refine (put_any h6.1 r6 o6 h6.2.2.2.2.1 hb0 (by simp)).mono ?_
  rintro e w6 ⟨rfl, hs6, hb6⟩
  have H6 : Hid (StartAt w w.heap.size hb (partsOf tag (ps.take 0)) w6) := h6.step hs6 hb6
  clear b6 h6 r6 o6 hs6 hb6 H5
  go_wp2_with fail
  go_loopw [15] (fun i wr => ∃ j : Nat, j ≤ n ∧ i = .int .i64 j ∧ StartAt w w.heap.size hb (partsOf tag (ps.take j)) wr) (fun i _ => n - (intOf i).toNat)
  case atStart => exact ⟨0, Nat.zero_le _, rfl, H6.out⟩
  case round =>
    obtain ⟨j, hj, rfl, hat⟩ := hrel
    have HAT := Lib.hid hat
    by_cases hjn : j < n
    · obtain ⟨b, off, rfl, hlt, hcells⟩ := H.out.2.2.2.2 (by omega)
      obtain ⟨aj, nj, cj, hcj, hrj⟩ := hcells j hjn
      have hcj1 : wr.cell? ⟨b, off + j, none⟩ = some (.slice aj nj cj) := (hat.2.2.2.2.2.cell (p := ⟨b, off + j, none⟩) hlt).trans hcj
      have hpl : ps.length = n := H.out.1
      have hle := partsOf_le tag ps (j + 1)
      have hsucc := partsOf_succ tag ps j (by omega)
      have hlen : (partsOf tag (ps.take (j + 1))).length = (partsOf tag (ps.take j)).length + 4 + (ps.getD j []).length := by rw [hsucc, List.length_append, List.length_append, four_len]
      have hnj : (ps.getD j []).length = nj := hrj.1
      have hnjb : nj ≤ 1125899906842624 := by omega
      obtain ⟨X, hX⟩ : ∃ X, X = BitVec.ofNat 32 (ps.getD j []).length := ⟨_, rfl⟩
      have en : (nj : Int) % 4294967296 = num X := by rw [hX, hnj]; unfold num; rw [BitVec.toNat_ofNat]; omega
      have hb1 : (partsOf tag (ps.take j)).length ≤ 1125899906842624 := by omega
      have hb2 : (partsOf tag (ps.take j)).length + 4 + nj ≤ 1125899906842624 := by omega
      obtain ⟨q, hq⟩ : ∃ q, q = ps.getD j [] := ⟨_, rfl⟩
      rw [← hX, ← hq] at hsucc
      rw [← hq] at hrj
      have hrow := hrj.below hat.2.2.2.2.2
      have hoff : Off hb aj nj := Off.of_lt hrj (by have := hat.2.2.2.1; omega)
      have HB1 := Lib.hid hb1
      have HB2 := Lib.hid hb2
      have HS := Lib.hid hsucc
      have HRJ := Lib.hid hrj
      have HOFF := Lib.hid hoff
      clear hat hcells hcj hle hsucc hlen hnj hX hq hrj hrow hb1 hb2 hpl hoff
      go_wp2_with fail
      refine (bytesOf_four _ _).mono ?_
      rintro e w7 ⟨rfl, hb7⟩
      have h7 := HAT.out.below hb7
      have H7 := Lib.hid h7
      clear hb7 h7
      go_wp2_with fail
      rw [← four_cells]
      have b8 : Below w7.heap.size w7 (w7.alloc (.cells (cellsOf (four X)).toArray 48)) := (Below.refl _ _).alloc (Nat.le_refl _) _
      have h8 := H7.out.below b8
      have r8 : Row (w7.alloc (.cells (cellsOf (four X)).toArray 48)) (some ⟨w7.heap.size, 0, none⟩) 4 4 (four X) := row_all (heap_alloc_new _ _) 4 rfl (by omega)
      have o8 : Off hb (some ⟨w7.heap.size, 0, none⟩) 4 := fun _ b off e => by cases e; have := H7.out.1.lt; omega
      refine (put_any h8.1 r8 o8 h8.2.2.2.2.1 hb0 (by have := HB1.out; omega)).mono ?_
      rintro e w9 ⟨rfl, hs9, hb9⟩
      have h9 := h8.step hs9 hb9
      have H9 := Lib.hid h9
      clear b8 h8 r8 o8 hs9 hb9 h9
      go_wp2_with fail
      refine (put_any H9.out.1 (HRJ.out.below H9.out.2.2.2.2.2) HOFF.out H9.out.2.2.2.2.1 hb0 (by rw [List.length_append, four_len]; have := HB2.out; omega)).mono ?_
      rintro e w10 ⟨rfl, hs10, hb10⟩
      have h10 := H9.out.step hs10 hb10
      rw [← HS.out] at h10
      have H10 := Lib.hid h10
      clear hs10 hb10 h10
      go_wp2_with fail
      go_roundw
      case rel => exact ⟨j + 1, by omega, by go_num, H10.out⟩
      case measure => simp [intOf]; omega
    · have hjn' : j = n := by omega
      rw [hjn', List.take_of_length_le (by rw [H.out.1]; exact Nat.le_refl _)] at hat
      have HF := Lib.hid hat
      clear hat hjn'
      go_wp2_with fail
      refine (end_any HF.out.1 HF.out.2.2.2.2.1 hb0 hn).mono ?_
      rintro e w7 ⟨rfl, hb7⟩
      have ht := HF.out.told hb7
      have HT1 := Lib.hid ht.1
      have HT2 := Lib.hid ht.2
      clear hb7 ht
      go_wp2_with (refine wpList_store_row rfl 23 _ _ rfl w.heap.size (cellsOf (sumOf (partsOf tag ps))).toArray rfl rfl 23 (cellsOf zero32).toArray HT1.out (sum_size' _) (by rw [sum_size]; rfl) (sum_all _) ?_)
      exact bodyPost_ret (results_cell_row rfl _ _ w.heap.size 23 (cellsOf (sumOf (partsOf tag ps))).toArray (0, 0) _ rfl (setRow_heap w7 w.heap.size _ _ 23 _ HT1.out) Tryd.underlying23 rfl (sum_size' _)) rfl ⟨rfl, HT2.out⟩
end Go.Proofs.YtjmdkgjfcfnbiaaDoor
