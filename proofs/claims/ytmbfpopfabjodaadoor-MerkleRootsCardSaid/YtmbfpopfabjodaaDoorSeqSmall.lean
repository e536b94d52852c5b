/- What the small functions of package merkle come to: isPlace, beside, pairs, joined, Leaf; and the document's leaf. -/
import Derived.Test.YtmbfpopfabjodaaDoorSeq
import Derived.Outline
namespace Go.Proofs.YtmbfpopfabjodaaDoor
open Go.RowKit

theorem xor_one (n : Nat) : n ^^^ 1 = beside n := by
  have h1 : (n ^^^ 1) / 2 = n / 2 := by
    have := Nat.xor_div_two (a := n) (b := 1)
    simpa using this
  have h2 : (n ^^^ 1) % 2 = (n + 1) % 2 := by
    have := Nat.xor_mod_two_pow (a := n) (b := 1) (n := 1)
    rw [Nat.pow_one] at this
    rw [this]
    rcases Nat.mod_two_eq_zero_or_one n with h | h <;> rw [h] <;> simp <;> omega
  unfold beside
  omega
theorem bits_beside (n : Nat) (h : n < 4611686018427387904) : bits .xor .i64 (n : Int) 1 = ((beside n : Nat) : Int) := by
  have hb : beside n < 4611686018427387906 := by unfold beside; omega
  have e0 : (BitVec.ofInt 64 (n : Int) ^^^ BitVec.ofInt 64 1).toNat = beside n := by
    rw [BitVec.toNat_xor, show BitVec.ofInt 64 (n : Int) = BitVec.ofNat 64 n from BitVec.ofInt_natCast .., BitVec.toNat_ofNat, Nat.mod_eq_of_lt (by omega), ← xor_one]
    rfl
  show IntKind.i64.wrap ((BitVec.ofInt 64 (n : Int) ^^^ BitVec.ofInt 64 1).toNat : Int) = _
  rw [e0, IntKind.wrap_i64]
  omega
theorem beside_any (n : Nat) (h : n < 4611686018427387904) (w : World) : Calls Tryd.prog 20 #[.int .i64 (n : Int)] w fun e w' => e = .returned (.int .i64 ((beside n : Nat) : Int)) ∧ w = w' := by
  have e0 := bits_beside n h
  clear h
  go_enter Tryd.func20, Tryd.ntmps20
  go_wp2
  go_ret
  exact ⟨rfl, rfl⟩
theorem pairs_any (n : Nat) (h : n < 4611686018427387904) (w : World) : Calls Tryd.prog 24 #[.int .i64 (n : Int)] w fun e w' => e = .returned (.int .i64 (((n + 1) / 2 : Nat) : Int)) ∧ w = w' := by
  have h0 : (0 : Int) ≤ (n : Int) := by omega
  have h1 : (n : Int) < 4611686018427387904 := by omega
  have e1 : (n : Int) - (n : Int) / 2 = (((n + 1) / 2 : Nat) : Int) := by omega
  have E1 := Lib.hid e1
  clear e1 h
  go_enter Tryd.func24, Tryd.ntmps24
  go_wp2
  go_ret
  exact ⟨by rw [E1.out]; rfl, rfl⟩
theorem isPlace_yes (i n : Nat) (h : i < n) (w : World) : Calls Tryd.prog 17 #[.int .i64 (i : Int), .int .i64 (n : Int)] w fun e w' => e = .returned (.bool true) ∧ w = w' := by
  have h0 : (0 : Int) ≤ (i : Int) := by omega
  have h1 : (i : Int) < (n : Int) := by omega
  go_enter Tryd.func17, Tryd.ntmps17
  go_wp2
  go_ret
  exact ⟨rfl, rfl⟩
theorem isPlace_no (i n : Int) (h : i < 0 ∨ n ≤ i) (w : World) : Calls Tryd.prog 17 #[.int .i64 i, .int .i64 n] w fun e w' => e = .returned (.bool false) ∧ w = w' := by
  by_cases h0 : i < 0
  · clear h
    go_enter Tryd.func17, Tryd.ntmps17
    go_wp2
    go_ret
    exact ⟨rfl, rfl⟩
  · have h1 : 0 ≤ i := by omega
    have h2 : ¬ (i < n) := by omega
    clear h h0
    go_enter Tryd.func17, Tryd.ntmps17
    go_wp2
    go_ret
    exact ⟨rfl, rfl⟩

/-- A sum that a leaf is made of, as the one part of it. -/
theorem rows2_one {w : World} {g : Nat} {a1 : Option Addr} {n1 c1 : Nat} {l1 : List UInt8} {t : TypeId} {fr : Nat × Nat} (hg : w.heap[g]? = some (.cells #[.slice a1 n1 c1] t fr)) (h1 : Row w a1 n1 c1 l1) : Rows2 w (some ⟨g, 0, none⟩) 1 1 [l1] := by
  refine ⟨rfl, Nat.le_refl _, by unfold maxLen; omega, (fun e => by cases e), fun _ => ⟨g, 0, rfl, lt_of_block hg, fun j hj => ?_⟩⟩
  obtain rfl : j = 0 := by omega
  exact ⟨a1, n1, c1, by rw [cell_of_row _ _ _ _ _ _ hg]; rfl, h1⟩
set_option maxRecDepth 100000 in
set_option maxHeartbeats 1600000 in
theorem leaf_of {w : World} {s : List UInt8} (hs : s.length = 32) (hk : KsAt w) : Calls Tryd.prog 10 #[.agg (cellsOf s).toArray] w fun e w' => e = .returned (.agg (cellsOf (leafSum s)).toArray) ∧ Below w.heap.size w w' := by
  have HK := Lib.hid hk
  have HS := Lib.hid hs
  clear hk hs
  go_enter Tryd.func10, Tryd.ntmps10
  go_wp2_with fail
  rw [← zero32_is]
  have b1 : Below w.heap.size w ((w.alloc (.cells (cellsOf s).toArray 24)).alloc (.cells (cellsOf zero32).toArray 24)) := ((Below.refl _ _).alloc (Nat.le_refl _) _).alloc (by simp) _
  have h1 : ((w.alloc (.cells (cellsOf s).toArray 24)).alloc (.cells (cellsOf zero32).toArray 24)).heap[w.heap.size]? = some (.cells (cellsOf s).toArray 24 (0, 0)) := by
    rw [heap_alloc_old _ _ (by simp), heap_alloc_new]
  have h2 : ((w.alloc (.cells (cellsOf s).toArray 24)).alloc (.cells (cellsOf zero32).toArray 24)).heap[w.heap.size + 1]? = some (.cells (cellsOf zero32).toArray 24 (0, 0)) := heap_alloc_at _ _ _ (by simp)
  have h3 : ((w.alloc (.cells (cellsOf s).toArray 24)).alloc (.cells (cellsOf zero32).toArray 24)).heap.size = w.heap.size + 1 + 1 := by simp
  revert b1 h1 h2 h3
  generalize ((w.alloc (.cells (cellsOf s).toArray 24)).alloc (.cells (cellsOf zero32).toArray 24)) = w3
  obtain ⟨g, hg⟩ : ∃ g, g = w.heap.size := ⟨_, rfl⟩
  rw [← hg]
  intro b1 h1 h2 h3
  rw [hg] at b1
  have HG := Lib.hid hg
  have HB1 := Lib.hid b1
  have H1 := Lib.hid h1
  have H2 := Lib.hid h2
  have H3 := Lib.hid h3
  clear b1 h1 h2 h3 hg
  have b4 : Below w3.heap.size w3 (w3.alloc (.cells #[.slice (some ⟨g, 0, none⟩) 32 32] 43)) := (Below.refl _ _).alloc (Nat.le_refl _) _
  have r1 : Row (w3.alloc (.cells #[.slice (some ⟨g, 0, none⟩) 32 32] 43)) (some ⟨g, 0, none⟩) 32 32 s := row_all ((b4.block _ (lt_of_block H1.out)).trans H1.out) 32 HS.out.symm (by omega)
  have hlen : (partsOf 1 [s]).length ≤ 1125899906842624 := by
    unfold partsOf partOf
    simp only [List.flatMap_cons, List.flatMap_nil, List.length_cons, List.length_append, four_len, List.length_nil, HS.out]
    omega
  refine (join_any 1 1 rfl (rows2_one (heap_alloc_at _ _ _ H3.out) r1) ((HK.out.below HB1.out).below b4) hlen).mono ?_
  rintro e w5 ⟨rfl, hb5⟩
  have hb6 := b4.trans (hb5.mono b4.size)
  have HB6 := Lib.hid hb6
  have HT1 := Lib.hid ((hb6.block _ (lt_of_block H2.out)).trans H2.out)
  clear b4 r1 hlen hb5 hb6
  go_wp2_with (refine wpList_store_row rfl 24 _ _ rfl (g + 1) (cellsOf (sumOf (partsOf 1 [s]))).toArray rfl rfl 24 (cellsOf zero32).toArray HT1.out (sum_size' _) (by rw [sum_size]; rfl) (sum_all _) ?_)
  refine bodyPost_ret (results_cell_row rfl _ _ (g + 1) 24 (cellsOf (sumOf (partsOf 1 [s]))).toArray (0, 0) _ rfl (setRow_heap w5 (g + 1) _ _ 24 _ HT1.out) Tryd.underlying24 rfl (sum_size' _)) rfl ⟨rfl, ?_⟩
  have b7 : Below w.heap.size w w5 := HB1.out.trans (HB6.out.mono HB1.out.size)
  exact b7.trans (((but_setRow _ (g + 1) _).mono b7.size).below (by rw [HG.out]; omega))
set_option maxRecDepth 100000 in
set_option maxHeartbeats 1600000 in
theorem leaf_law {w : World} {s : List UInt8} (hs : s.length = 32) (hk : KsAt w) : Calls Tryd.prog 11 #[.agg (cellsOf s).toArray] w fun e w' => e = .returned (.agg (cellsOf (leafSum s)).toArray) ∧ Below w.heap.size w w' := by
  have HK := Lib.hid hk
  have HS := Lib.hid hs
  clear hk hs
  go_enter Tryd.func11, Tryd.ntmps11
  go_wp2_with fail
  rw [← zero32_is]
  have b1 : Below w.heap.size w ((w.alloc (.cells (cellsOf s).toArray 24)).alloc (.cells (cellsOf zero32).toArray 24)) := ((Below.refl _ _).alloc (Nat.le_refl _) _).alloc (by simp) _
  have h1 : ((w.alloc (.cells (cellsOf s).toArray 24)).alloc (.cells (cellsOf zero32).toArray 24)).heap[w.heap.size]? = some (.cells (cellsOf s).toArray 24 (0, 0)) := by
    rw [heap_alloc_old _ _ (by simp), heap_alloc_new]
  have h2 : ((w.alloc (.cells (cellsOf s).toArray 24)).alloc (.cells (cellsOf zero32).toArray 24)).heap[w.heap.size + 1]? = some (.cells (cellsOf zero32).toArray 24 (0, 0)) := heap_alloc_at _ _ _ (by simp)
  have h3 : ((w.alloc (.cells (cellsOf s).toArray 24)).alloc (.cells (cellsOf zero32).toArray 24)).heap.size = w.heap.size + 1 + 1 := by simp
  revert b1 h1 h2 h3
  generalize ((w.alloc (.cells (cellsOf s).toArray 24)).alloc (.cells (cellsOf zero32).toArray 24)) = w3
  obtain ⟨g, hg⟩ : ∃ g, g = w.heap.size := ⟨_, rfl⟩
  rw [← hg]
  intro b1 h1 h2 h3
  rw [hg] at b1
  have HG := Lib.hid hg
  have HB1 := Lib.hid b1
  have H1 := Lib.hid h1
  have H2 := Lib.hid h2
  have H3 := Lib.hid h3
  clear b1 h1 h2 h3 hg
  have b4 : Below w3.heap.size w3 (w3.alloc (.cells #[.slice (some ⟨g, 0, none⟩) 32 32] 43)) := (Below.refl _ _).alloc (Nat.le_refl _) _
  have r1 : Row (w3.alloc (.cells #[.slice (some ⟨g, 0, none⟩) 32 32] 43)) (some ⟨g, 0, none⟩) 32 32 s := row_all ((b4.block _ (lt_of_block H1.out)).trans H1.out) 32 HS.out.symm (by omega)
  have hlen : (partsOf 1 [s]).length ≤ 1125899906842624 := by
    unfold partsOf partOf
    simp only [List.flatMap_cons, List.flatMap_nil, List.length_cons, List.length_append, four_len, List.length_nil, HS.out]
    omega
  refine (join_any 1 1 rfl (rows2_one (heap_alloc_at _ _ _ H3.out) r1) ((HK.out.below HB1.out).below b4) hlen).mono ?_
  rintro e w5 ⟨rfl, hb5⟩
  have hb6 := b4.trans (hb5.mono b4.size)
  have HB6 := Lib.hid hb6
  have HT1 := Lib.hid ((hb6.block _ (lt_of_block H2.out)).trans H2.out)
  clear b4 r1 hlen hb5 hb6
  go_wp2_with (refine wpList_store_row rfl 24 _ _ rfl (g + 1) (cellsOf (sumOf (partsOf 1 [s]))).toArray rfl rfl 24 (cellsOf zero32).toArray HT1.out (sum_size' _) (by rw [sum_size]; rfl) (sum_all _) ?_)
  refine bodyPost_ret (results_cell_row rfl _ _ (g + 1) 24 (cellsOf (sumOf (partsOf 1 [s]))).toArray (0, 0) _ rfl (setRow_heap w5 (g + 1) _ _ 24 _ HT1.out) Tryd.underlying24 rfl (sum_size' _)) rfl ⟨rfl, ?_⟩
  have b7 : Below w.heap.size w w5 := HB1.out.trans (HB6.out.mono HB1.out.size)
  exact b7.trans (((but_setRow _ (g + 1) _).mono b7.size).below (by rw [HG.out]; omega))
end Go.Proofs.YtmbfpopfabjodaaDoor
