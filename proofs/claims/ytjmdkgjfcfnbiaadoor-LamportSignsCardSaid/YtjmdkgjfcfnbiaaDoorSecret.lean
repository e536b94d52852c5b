/- What the functions that tell a secret come to: Secret, and the document's own secret. -/
import Derived.Test.YtjmdkgjfcfnbiaaDoorAt
import Derived.Test.YtjmdkgjfcfnbiaaDoorLamp
namespace Go.Proofs.YtjmdkgjfcfnbiaaDoor
open Go.RowKit

theorem bits_and_one (z : Int) : bits .and .i64 z 1 = z % 2 := by
  have e0 : (((BitVec.ofInt 64 z &&& BitVec.ofInt 64 1).toNat : Nat) : Int) = z % 2 := by
    rw [BitVec.toNat_and, show (BitVec.ofInt 64 1).toNat = 1 from rfl, Nat.and_one_is_mod, BitVec.toNat_ofInt]
    omega
  show IntKind.i64.wrap ((BitVec.ofInt 64 z &&& BitVec.ofInt 64 1).toNat : Int) = _
  rw [e0, IntKind.wrap_i64]
  omega
theorem two_cells (x y : UInt8) : #[.int .u8 ((x.toNat : Nat) : Int), .int .u8 ((y.toNat : Nat) : Int)] = (cellsOf [x, y]).toArray := rfl
set_option maxRecDepth 100000 in
set_option maxHeartbeats 1600000 in
theorem secret_any {w : World} {s : List UInt8} (p b : Int) (x y : UInt8) (hx : ((x.toNat : Nat) : Int) = p % 256) (hy : ((y.toNat : Nat) : Int) = b % 2) (hs : s.length = 32) (hk : KsAt w) :
    Calls Tryd.prog 17 #[.agg (cellsOf s).toArray, .int .i64 p, .int .i64 b] w fun e w' => e = .returned (.agg (cellsOf (sumOf (partsOf 11 [s, [x, y]]))).toArray) ∧ Below w.heap.size w w' := by
  have HK := Lib.hid hk
  have HX := Lib.hid hx
  have HY := Lib.hid hy
  have HS := Lib.hid hs
  have hu := Tryd.underlying23
  have e1 := bits_and_one b
  clear hk hx hy hs
  go_enter Tryd.func17, Tryd.ntmps17
  go_wp2_with fail
  rw [← zero32_is, ← HX.out, ← HY.out, two_cells]
  have b1 : Below w.heap.size w (((w.alloc (.cells (cellsOf s).toArray 23)).alloc (.cells (cellsOf zero32).toArray 23)).alloc (.cells (cellsOf [x, y]).toArray 54)) := (((Below.refl _ _).alloc (Nat.le_refl _) _).alloc (by simp) _).alloc (by simp; omega) _
  have h1 : (((w.alloc (.cells (cellsOf s).toArray 23)).alloc (.cells (cellsOf zero32).toArray 23)).alloc (.cells (cellsOf [x, y]).toArray 54)).heap[w.heap.size]? = some (.cells (cellsOf s).toArray 23 (0, 0)) := by
    rw [heap_alloc_old _ _ (by simp; omega), heap_alloc_old _ _ (by simp), heap_alloc_new]
  have h2 : (((w.alloc (.cells (cellsOf s).toArray 23)).alloc (.cells (cellsOf zero32).toArray 23)).alloc (.cells (cellsOf [x, y]).toArray 54)).heap[w.heap.size + 1]? = some (.cells (cellsOf zero32).toArray 23 (0, 0)) := by
    rw [heap_alloc_old _ _ (by simp)]
    exact heap_alloc_at _ _ _ (by simp)
  have h3 : (((w.alloc (.cells (cellsOf s).toArray 23)).alloc (.cells (cellsOf zero32).toArray 23)).alloc (.cells (cellsOf [x, y]).toArray 54)).heap[w.heap.size + 1 + 1]? = some (.cells (cellsOf [x, y]).toArray 54 (0, 0)) := heap_alloc_at _ _ _ (by simp)
  revert b1 h1 h2 h3
  generalize (((w.alloc (.cells (cellsOf s).toArray 23)).alloc (.cells (cellsOf zero32).toArray 23)).alloc (.cells (cellsOf [x, y]).toArray 54)) = w3
  obtain ⟨g, hg⟩ : ∃ g, g = w.heap.size := ⟨_, rfl⟩
  rw [← hg]
  intro b1 h1 h2 h3
  rw [hg] at b1
  have HG := Lib.hid hg
  have HB1 := Lib.hid b1
  have H1 := Lib.hid h1
  have H2 := Lib.hid h2
  have H3 := Lib.hid h3
  obtain ⟨cs, hcs⟩ : ∃ cs, cs = cellsOf (sumOf (partsOf 11 [s, [x, y]])) := ⟨_, rfl⟩
  have hcl : cs.length = 32 := by rw [hcs, cellsOf_len]; exact sumOf_len _
  have hone : ∀ v ∈ cs, v.oneCell' = true := by rw [hcs]; exact cellsOf_one _
  have hsz : (Tryd.prog.info? 23).map (·.size) = some cs.length := by rw [hcl]; exact Tryd.size23
  have HCS := Lib.hid hcs
  have HSZ := Lib.hid hsz
  have HJ : Hid (∀ (W : World) (gg : Nat), Below w3.heap.size w3 W → W.heap[gg]? = some (.cells #[.slice (some ⟨g, 0, none⟩) 32 32, .slice (some ⟨g + 1 + 1, 0, none⟩) 2 2] 24 (0, 0)) → Calls Tryd.prog 10 #[.int .u8 11, .slice (some ⟨gg, 0, none⟩) 2 2] W fun e w' => e = .returned (.agg cs.toArray) ∧ Below w3.heap.size w3 w') := Lib.hid (fun W gg hb hgg => by
    have r1 : Row W (some ⟨g, 0, none⟩) 32 32 s := row_all ((hb.block _ (lt_of_block H1.out)).trans H1.out) 32 HS.out.symm (by omega)
    have r2 : Row W (some ⟨g + 1 + 1, 0, none⟩) 2 2 [x, y] := row_all ((hb.block _ (lt_of_block H3.out)).trans H3.out) 2 rfl (by omega)
    have hlen : (partsOf 11 [s, [x, y]]).length ≤ 1125899906842624 := by
      unfold partsOf partOf
      simp only [List.flatMap_cons, List.flatMap_nil, List.length_cons, List.length_append, four_len, List.length_nil, HS.out]
      omega
    refine (join_any 11 11 rfl (rows2_at hgg r1 r2) ((HK.out.below HB1.out).below hb) hlen).mono fun e w' ⟨e1, e2⟩ => ⟨by rw [e1, hcs], hb.trans (e2.mono hb.size)⟩)
  have ht3 : w3.drew.there (g + 1) 0 32 := there_of (w := w3.drew) h2 rfl
  have ht4 : ∀ w' : World, Below w3.heap.size w3 w' → w'.there (g + 1) 0 32 := fun w' hb => there_of ((hb.block _ (lt_of_block h2)).trans h2) rfl
  have HT4 := Lib.hid ht4
  clear b1 h1 h2 h3 hg hcs ht4 hsz e1
  have hsz := HSZ.out
  go_region_held (fun w' => w'.there (g + 1) 0 32)
    (first | exact ht3 | exact ht5 | go_keep_ranges)
    ((go_at_call 10; (with_reducible refine (HJ.out _ _ ?_ ?_).mono ?_); (exact below_drew ((Below.refl _ _).alloc (Nat.le_refl _) _)); (exact heap_alloc_new _ _); rintro e w5 ⟨rfl, hb5⟩; have ht5 := HT4.out w5 hb5; have HB5 := Lib.hid hb5; clear hb5))
  all_goals
    go_wp2_with fail
    have hbe : Below w.heap.size w (w5.setCells (g + 1) 0 cs) := below_setCells (by rw [HG.out]; omega) cs 0 w5 (HB1.out.trans (HB5.out.mono HB1.out.size))
    refine bodyPost_ret (results_cell_range rfl _ _ (g + 1) cs _ rfl ?_ Tryd.underlying23 rfl HSZ.out) rfl ⟨by rw [HCS.out], hbe⟩
    exact World.rangeAt_setCells_same w5 (g + 1) 0 cs (by rw [hcl]; exact ht5)
set_option maxRecDepth 100000 in
set_option maxHeartbeats 1600000 in
theorem secret_law {w : World} {s : List UInt8} (i b : Nat) (hi : i < 256) (hb : b < 256) (hs : s.length = 32) (hk : KsAt w) :
    Calls Tryd.prog 8 #[.agg (cellsOf s).toArray, .int .i64 (i : Int), .int .i64 (b : Int)] w fun e w' => e = .returned (.agg (cellsOf (secretOf s i b)).toArray) ∧ Below w.heap.size w w' := by
  obtain ⟨x, rfl⟩ : ∃ x : UInt8, i = x.toNat := ⟨UInt8.ofNat i, by rw [UInt8.toNat_ofNat']; omega⟩
  obtain ⟨y, rfl⟩ : ∃ y : UInt8, b = y.toNat := ⟨UInt8.ofNat b, by rw [UInt8.toNat_ofNat']; omega⟩
  have hv : secretOf s x.toNat y.toNat = sumOf (partsOf 11 [s, [x, y]]) := by unfold secretOf; rw [UInt8.ofNat_toNat, UInt8.ofNat_toNat]
  rw [hv]
  have HK := Lib.hid hk
  have HS := Lib.hid hs
  clear hk hs hv
  go_enter Tryd.func8, Tryd.ntmps8
  go_wp2_with fail
  rw [← zero32_is, two_cells]
  have h3 : ((((w.alloc (.cells (cellsOf s).toArray 23)).alloc (.cells (cellsOf zero32).toArray 23)).alloc (.cells (cellsOf [x, y]).toArray 5)).alloc (.cells #[.slice (some ⟨w.heap.size, 0, none⟩) 32 32, .slice (some ⟨w.heap.size + 1 + 1, 0, none⟩) 2 2] 24)).heap[w.heap.size + 1 + 1 + 1]? = some (.cells #[.slice (some ⟨w.heap.size, 0, none⟩) 32 32, .slice (some ⟨w.heap.size + 1 + 1, 0, none⟩) 2 2] 24 (0, 0)) := heap_alloc_at _ _ _ (by simp)
  have h2 : ((((w.alloc (.cells (cellsOf s).toArray 23)).alloc (.cells (cellsOf zero32).toArray 23)).alloc (.cells (cellsOf [x, y]).toArray 5)).alloc (.cells #[.slice (some ⟨w.heap.size, 0, none⟩) 32 32, .slice (some ⟨w.heap.size + 1 + 1, 0, none⟩) 2 2] 24)).heap[w.heap.size + 1]? = some (.cells (cellsOf zero32).toArray 23 (0, 0)) := by
    rw [heap_alloc_old _ _ (by simp), heap_alloc_old _ _ (by simp)]
    exact heap_alloc_at _ _ _ (by simp)
  have r1 : Row ((((w.alloc (.cells (cellsOf s).toArray 23)).alloc (.cells (cellsOf zero32).toArray 23)).alloc (.cells (cellsOf [x, y]).toArray 5)).alloc (.cells #[.slice (some ⟨w.heap.size, 0, none⟩) 32 32, .slice (some ⟨w.heap.size + 1 + 1, 0, none⟩) 2 2] 24)) (some ⟨w.heap.size, 0, none⟩) 32 32 s := by
    refine row_all (t := 23) (fr := (0, 0)) ?_ 32 HS.out.symm (by omega)
    rw [heap_alloc_old _ _ (by simp; omega), heap_alloc_old _ _ (by simp; omega), heap_alloc_old _ _ (by simp), heap_alloc_new]
  have r2 : Row ((((w.alloc (.cells (cellsOf s).toArray 23)).alloc (.cells (cellsOf zero32).toArray 23)).alloc (.cells (cellsOf [x, y]).toArray 5)).alloc (.cells #[.slice (some ⟨w.heap.size, 0, none⟩) 32 32, .slice (some ⟨w.heap.size + 1 + 1, 0, none⟩) 2 2] 24)) (some ⟨w.heap.size + 1 + 1, 0, none⟩) 2 2 [x, y] := by
    refine row_all (t := 5) (fr := (0, 0)) ?_ 2 rfl (by omega)
    rw [heap_alloc_old _ _ (by simp)]
    exact heap_alloc_at _ _ _ (by simp)
  have b1 : Below w.heap.size w ((((w.alloc (.cells (cellsOf s).toArray 23)).alloc (.cells (cellsOf zero32).toArray 23)).alloc (.cells (cellsOf [x, y]).toArray 5)).alloc (.cells #[.slice (some ⟨w.heap.size, 0, none⟩) 32 32, .slice (some ⟨w.heap.size + 1 + 1, 0, none⟩) 2 2] 24)) := ((((Below.refl _ _).alloc (Nat.le_refl _) _).alloc (by simp) _).alloc (by simp; omega) _).alloc (by simp; omega) _
  revert h3 h2 r1 r2 b1
  generalize ((((w.alloc (.cells (cellsOf s).toArray 23)).alloc (.cells (cellsOf zero32).toArray 23)).alloc (.cells (cellsOf [x, y]).toArray 5)).alloc (.cells #[.slice (some ⟨w.heap.size, 0, none⟩) 32 32, .slice (some ⟨w.heap.size + 1 + 1, 0, none⟩) 2 2] 24)) = w3
  obtain ⟨g, hg⟩ : ∃ g, g = w.heap.size := ⟨_, rfl⟩
  rw [← hg]
  intro h3 h2 r1 r2 b1
  rw [hg] at b1
  have HG := Lib.hid hg
  have HB1 := Lib.hid b1
  have H2 := Lib.hid h2
  have hlen : (partsOf 11 [s, [x, y]]).length ≤ 1125899906842624 := by
    unfold partsOf partOf
    simp only [List.flatMap_cons, List.flatMap_nil, List.length_cons, List.length_append, four_len, List.length_nil, HS.out]
    omega
  refine (join_any 11 11 rfl (rows2_at h3 r1 r2) (HK.out.below b1) hlen).mono ?_
  rintro e w5 ⟨rfl, hb5⟩
  have HB6 := Lib.hid hb5
  have HT1 := Lib.hid ((hb5.block _ (lt_of_block h2)).trans h2)
  clear h2 h3 r1 r2 b1 hb5 hlen hg
  go_wp2_with (refine wpList_store_row rfl 23 _ _ rfl (g + 1) (cellsOf (sumOf (partsOf 11 [s, [x, y]]))).toArray rfl rfl 23 (cellsOf zero32).toArray HT1.out (sum_size' _) (by rw [sum_size]; rfl) (sum_all _) ?_)
  refine bodyPost_ret (results_cell_row rfl _ _ (g + 1) 23 (cellsOf (sumOf (partsOf 11 [s, [x, y]]))).toArray (0, 0) _ rfl (setRow_heap w5 (g + 1) _ _ 23 _ HT1.out) Tryd.underlying23 rfl (sum_size' _)) rfl ⟨rfl, ?_⟩
  have b7 : Below w.heap.size w w5 := HB1.out.trans (HB6.out.mono HB1.out.size)
  exact b7.trans (((but_setRow _ (g + 1) _).mono b7.size).below (by rw [HG.out]; omega))
/-- The program's secret of a place and a bit. -/
theorem secret_at {w : World} {s : List UInt8} (i b : Nat) (hb : b < 2) (hs : s.length = 32) (hk : KsAt w) :
    Calls Tryd.prog 17 #[.agg (cellsOf s).toArray, .int .i64 (i : Int), .int .i64 (b : Int)] w fun e w' => e = .returned (.agg (cellsOf (secretOf s i b)).toArray) ∧ Below w.heap.size w w' :=
  secret_any (i : Int) (b : Int) (UInt8.ofNat i) (UInt8.ofNat b) (by rw [UInt8.toNat_ofNat']; omega) (by rw [UInt8.toNat_ofNat']; omega) hs hk
end Go.Proofs.YtjmdkgjfcfnbiaaDoor
