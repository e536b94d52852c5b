/- What the document's own Of comes to: the sum of bytes, as 32 bytes of its own. -/
import Derived.Test.YtfjedbfghcdbdaaDoorRefMath
namespace Go.Proofs.YtfjedbfghcdbdaaDoor
open Go.RowKit

theorem start_words : (wordsOf start.list).toArray = #[.int .u32 1779033703, .int .u32 3144134277, .int .u32 1013904242, .int .u32 2773480762, .int .u32 1359893119, .int .u32 2600822924, .int .u32 528734635, .int .u32 1541459225] := rfl

set_option maxRecDepth 100000 in
set_option maxHeartbeats 4000000 in
theorem refOf_any {w : World} {a : Option Addr} {n c : Nat} {q : List UInt8} (h : Row w a n c q) (hn : n ≤ 1000000) :
    Calls Tryd.prog 9 #[.slice a n c] w fun e w' => ∃ (af : Option Addr) (cf : Nat), e = .returned (.slice af 32 cf) ∧ Row w' af 32 cf (sumOf q) ∧ Below w.heap.size w w' := by
  obtain ⟨i0, hi, hz0, hz1, hz2⟩ := info_parts Tryd.info5
  have HI := Lib.hid hi
  have H := Lib.hid h
  have HQL : Hid (q.length = n) := Lib.hid h.1
  clear h hi
  go_enter Tryd.func9, Tryd.ntmps9
  go_wp2_with fail
  refine (constants_any _).mono ?_
  rintro e w1 ⟨rfl, hk1, hb1⟩
  have HK1 := Lib.hid hk1
  have HB1 := Lib.hid hb1
  clear hk1 hb1
  go_upto_region 3 with (fail)
  rw [← start_words]
  have b2 : Below w1.heap.size w1 (w1.alloc (.cells (wordsOf start.list).toArray 36)) := (Below.refl _ _).alloc (Nat.le_refl _) _
  have hk2 : (w1.alloc (.cells (wordsOf start.list).toArray 36)).heap[w.heap.size]? = some (.cells (wordsOf ks).toArray 36 (0, 0)) := (b2.block _ (lt_of_block HK1.out)).trans HK1.out
  have hv2 : (w1.alloc (.cells (wordsOf start.list).toArray 36)).heap[w1.heap.size]? = some (.cells (wordsOf start.list).toArray 36 (0, 0)) := heap_alloc_new _ _
  have hw2 : Below w.heap.size w (w1.alloc (.cells (wordsOf start.list).toArray 36)) := HB1.out.trans (b2.mono HB1.out.size)
  revert hk2 hv2 hw2
  generalize (w1.alloc (.cells (wordsOf start.list).toArray 36)) = w2
  obtain ⟨vb, hvb⟩ : ∃ vb, vb = w1.heap.size := ⟨_, rfl⟩
  rw [← hvb]
  intro hk2 hv2 hw2
  have HK2 := Lib.hid hk2
  have HV2 := Lib.hid hv2
  have HW2 := Lib.hid hw2
  have h3 : RefAt w w.heap.size vb start.list (.slice (some ⟨w2.heap.size, 0, none⟩) 0 0) [] (w2.alloc (.cells #[] 5)) := by
    have b3 : Below w2.heap.size w2 (w2.alloc (.cells #[] 5)) := (Below.refl _ _).alloc (Nat.le_refl _) _
    exact ⟨own_fresh (l := []) (heap_alloc_new _ _) hw2.size rfl (by omega), (b3.block _ (lt_of_block hk2)).trans hk2, (b3.block _ (lt_of_block hv2)).trans hv2, hw2.trans (b3.mono hw2.size)⟩
  have H3 := Lib.hid h3
  have HR3 := Lib.hid (H.out.below h3.2.2.2)
  clear b2 hk2 hv2 hw2 hvb h3 HK1 HB1
  obtain ⟨kg, hkg⟩ : ∃ kg, kg = w.heap.size := ⟨_, rfl⟩
  have HKG := Lib.hid hkg
  clear hkg
  go_upto_region 4 with (refine wpList_append_row _ rfl (.tmp 13) (.tmp 14) 22 rfl w.heap.size i0 Tryd.underlying22 HI.out hz0 hz1 hz2 (.slice (some ⟨w2.heap.size, 0, none⟩) 0 0) [] 0 rfl rfl H3.out.1 a n c q rfl HR3.out (by omega) H3.out.2.2.2.size ?_; intro a4 c4 w4 ho4 hg4; have HO4 := Lib.hid ho4; have HG4 := Lib.hid hg4; clear ho4 hg4)
  have h4 := H3.out.grown HO4.out HG4.out
  rw [List.nil_append, Nat.zero_add] at h4
  have H4 := Lib.hid h4
  clear h4 HO4 HG4 H3 HR3
  have b5 : Below w4.heap.size w4 (w4.alloc (.cells #[.int .u8 128] 5)) := (Below.refl _ _).alloc (Nat.le_refl _) _
  have H5 := Lib.hid (H4.out.below b5)
  have HR5 : Hid (Row (w4.alloc (.cells #[.int .u8 128] 5)) (some ⟨w4.heap.size, 0, none⟩) 1 1 [128]) := Lib.hid (row_one rfl)
  clear b5
  go_wp2_with (refine wpList_append_row _ rfl (.tmp 16) (.tmp 17) 22 rfl w.heap.size i0 Tryd.underlying22 HI.out hz0 hz1 hz2 (.slice a4 n c4) q n HQL.out rfl H5.out.1 _ 1 1 [128] rfl HR5.out (by omega) H5.out.2.2.2.size ?_; intro a6 c6 w6 ho6 hg6; have HO6 := Lib.hid ho6; have HG6 := Lib.hid hg6; clear ho6 hg6)
  have h6 := H5.out.grown HO6.out HG6.out
  have H6 := Lib.hid h6
  clear h6 HO6 HG6 H5 HR5 H4
  obtain ⟨Z, hZ⟩ : ∃ Z, Z = zerosOf n := ⟨_, rfl⟩
  have hZ64 : Z < 64 := by rw [hZ]; unfold zerosOf; omega
  have HZ := Lib.hid hZ
  clear hZ
  go_loopw [5] (fun v wr => ∃ (k : Nat) (a' : Option Addr) (c' : Nat), k ≤ Z ∧ v = .slice a' (n + 1 + k) c' ∧ RefAt w w.heap.size vb start.list (.slice a' (n + 1 + k) c') ((q ++ [128]) ++ List.replicate k 0) wr) (fun v _ => n + 1 + Z - lenOf v)
  case atStart => exact ⟨0, a6, c6, Nat.zero_le _, rfl, by simpa using H6.out⟩
  case round =>
    obtain ⟨k, a', c', hk, rfl, hat⟩ := hrel
    have HAT := Lib.hid hat
    obtain ⟨M, hM⟩ : ∃ M, M = n + 1 + k := ⟨_, rfl⟩
    have HM := Lib.hid hM
    rw [← hM] at HAT ⊢
    have hMb : M ≤ 1000100 := by omega
    obtain ⟨r, hr⟩ : ∃ r, r = M % 64 := ⟨_, rfl⟩
    have em : (M : Int) % 64 = (r : Int) := by omega
    by_cases hkZ : k < Z
    · have hne := zeros_mid n k (by rw [← HZ.out]; exact hkZ)
      rw [← hM, ← hr] at hne
      have t1 : ((r : Int) != 56) = true := by simp; omega
      have t2 : ((r : Int) == 56) = false := by simp; omega
      have b7 : Below wr.heap.size wr (wr.alloc (.cells #[.int .u8 0] 5)) := (Below.refl _ _).alloc (Nat.le_refl _) _
      have H7 := Lib.hid (HAT.out.below b7)
      have HR7 : Hid (Row (wr.alloc (.cells #[.int .u8 0] 5)) (some ⟨wr.heap.size, 0, none⟩) 1 1 [0]) := Lib.hid (row_one rfl)
      have hl : ((q ++ [128]) ++ List.replicate k 0).length = M := by rw [List.length_append, List.length_append, List.length_replicate, HQL.out, hM]; rfl
      have HL := Lib.hid hl
      clear hat hM hr hne b7 hl
      go_wp2_with (refine wpList_append_row _ rfl (.tmp 23) (.tmp 24) 22 rfl w.heap.size i0 Tryd.underlying22 HI.out hz0 hz1 hz2 (.slice a' M c') ((q ++ [128]) ++ List.replicate k 0) M HL.out rfl H7.out.1 _ 1 1 [0] rfl HR7.out (by omega) H7.out.2.2.2.size ?_; intro a8 c8 w8 ho8 hg8; have HO8 := Lib.hid ho8; have HG8 := Lib.hid hg8; clear ho8 hg8)
      have h8 := H7.out.grown HO8.out HG8.out
      rw [List.append_assoc (q ++ [128]), show List.replicate k (0 : UInt8) ++ [0] = List.replicate (k + 1) 0 by rw [List.replicate_succ']] at h8
      have H8 := Lib.hid h8
      clear h8
      go_roundw
      case rel => exact ⟨k + 1, a8, c8, by omega, by rw [HM.out]; rfl, by have := H8.out; rw [HM.out] at this; exact this⟩
      case measure => simp [lenOf, HM.out]; omega
    · have hkZ' : k = Z := by omega
      have heq := zeros_end n
      rw [← HZ.out, ← hkZ', ← hM, ← hr] at heq
      have t1 : ((r : Int) != 56) = false := by simp; omega
      have t2 : ((r : Int) == 56) = true := by simp; omega
      rw [hkZ'] at HAT
      have HKZ := Lib.hid hkZ'
      obtain ⟨L1, hL1⟩ : ∃ L1, L1 = (q ++ [128]) ++ List.replicate Z 0 := ⟨_, rfl⟩
      rw [← hL1] at HAT
      have hl1 : L1.length = M := by rw [hL1, List.length_append, List.length_append, List.length_replicate, HQL.out, hM, hkZ']; rfl
      have HL1 := Lib.hid hL1
      have HLL1 := Lib.hid hl1
      clear hat hM hr heq hkZ' hL1 hl1 hkZ
      go_wp2_with fail
      clear em t1 t2
      obtain ⟨wo, hwo⟩ : ∃ wo : World, wo = wr := ⟨_, rfl⟩
      rw [← hwo] at HAT ⊢
      clear hwo
      go_loopw [5, 7] (fun v i wr => ∃ (t : Nat) (a' : Option Addr) (c' : Nat), t ≤ 8 ∧ v = .slice a' (M + t) c' ∧ i = .int .i64 (7 - (t : Int)) ∧ RefAt w w.heap.size vb start.list (.slice a' (M + t) c') (L1 ++ (bitsOf n).take t) wr) (fun v _ _ => M + 8 - lenOf v)
      case atStart => exact ⟨0, a', c', Nat.zero_le _, rfl, rfl, by simpa using HAT.out⟩
      case round =>
        obtain ⟨t, ab, cb, ht, rfl, rfl, hat⟩ := hrel
        have HT := Lib.hid hat
        obtain ⟨Q, hQ⟩ : ∃ Q, Q = M + t := ⟨_, rfl⟩
        have HQ := Lib.hid hQ
        rw [← hQ] at HT ⊢
        have hQb : Q ≤ 1000200 := by omega
        by_cases ht8 : t < 8
        · obtain ⟨I, hI⟩ : ∃ I, I = 7 - t := ⟨_, rfl⟩
          have hIe : (7 : Int) - (t : Int) = (I : Int) := by omega
          rw [hIe]
          have hb := bits_byte n t I hn ht8 hI
          have hI7 : I ≤ 7 := by omega
          have hS : 8 * I < 64 := by omega
          have hS' : 8 * (I : Int) < 64 := by omega
          have hS'' : 0 ≤ 8 * (I : Int) := by omega
          have HBY := Lib.hid hb
          have HIE := Lib.hid hIe
          clear hat hQ hI hIe hb
          have b9 : Below wr.heap.size wr (wr.alloc (.cells #[.int .u8 ((n : Int) * 8 / 2 ^ (8 * I) % 256)] 5)) := (Below.refl _ _).alloc (Nat.le_refl _) _
          have H9 := Lib.hid (HT.out.below b9)
          have HR9 : Hid (Row (wr.alloc (.cells #[.int .u8 ((n : Int) * 8 / 2 ^ (8 * I) % 256)] 5)) (some ⟨wr.heap.size, 0, none⟩) 1 1 [(bitsOf n).getD t 0]) := Lib.hid (row_one HBY.out.symm)
          have hl : (L1 ++ (bitsOf n).take t).length = Q := by rw [List.length_append, HLL1.out, List.length_take, bits_len, HQ.out]; omega
          have HL := Lib.hid hl
          clear b9 hl
          go_wp2_with (refine wpList_append_row _ rfl (.tmp 34) (.tmp 40) 22 rfl w.heap.size i0 Tryd.underlying22 HI.out hz0 hz1 hz2 (.slice ab Q cb) (L1 ++ (bitsOf n).take t) Q HL.out rfl H9.out.1 _ 1 1 [(bitsOf n).getD t 0] rfl HR9.out (by omega) H9.out.2.2.2.size ?_; intro a10 c10 w10 ho10 hg10; have HO10 := Lib.hid ho10; have HG10 := Lib.hid hg10; clear ho10 hg10)
          have h10 := H9.out.grown HO10.out HG10.out
          rw [List.append_assoc, take_snoc _ t (by rw [bits_len]; exact ht8)] at h10
          have H10 := Lib.hid h10
          clear h10
          go_roundw
          case rel => exact ⟨t + 1, a10, c10, by omega, by rw [HQ.out]; rfl, by congr 1; have := HIE.out; omega, by have := H10.out; rw [HQ.out] at this; exact this⟩
          case measure => simp [lenOf, HQ.out]; omega
        · have ht8' : t = 8 := by omega
          have hIe : (7 : Int) - (t : Int) = -1 := by omega
          rw [hIe]
          have hT8 := HT.out
          rw [List.take_of_length_le (by rw [bits_len]; omega), HL1.out, HZ.out, ← HQL.out, ← pad_ref] at hT8
          have hpl : (pad q).length = Q := hT8.1.row.1
          have hrow := hT8.1.row
          have hQ64 : Q % 64 = 0 := by rw [← hpl]; exact pad_len q
          have hQpos : 0 < Q := by rw [← hpl, pad_ref, List.length_append, List.length_append, List.length_append]; simp; omega
          have hQc : Q ≤ cb := hrow.2.1
          have hcbm : cb ≤ 9223372036854775807 := by have := hrow.2.2.1; unfold maxLen at this; omega
          obtain ⟨b, off, hab, _, _⟩ := hrow.2.2.2.2 hQpos
          rw [hab] at hrow hT8 ⊢
          obtain ⟨P, hP⟩ : ∃ P, P = pad q := ⟨_, rfl⟩
          rw [← hP] at hrow hT8 hpl
          obtain ⟨W0, hW0⟩ : ∃ W0 : World, W0 = wr := ⟨_, rfl⟩
          rw [← hW0] at hrow hT8 ⊢
          have HP := Lib.hid hP
          have HPL := Lib.hid hpl
          have HROW := Lib.hid hrow
          have HT8 := Lib.hid hT8
          clear hT8 hat HT hrow hab hP hpl hW0 hQ
          go_wp2_with fail
          go_loopw [4, 8] (fun s i wr => ∃ (k J hv : Nat), J ≤ Q ∧ i = .int .i64 (J : Int) ∧ s = .slice (some ⟨hv, 0, none⟩) 8 8 ∧ Hid (J = 64 * k) ∧ wr.heap[hv]? = some (.cells (wordsOf (run P k).list).toArray 36 (0, 0)) ∧ Below W0.heap.size W0 wr) (fun _ i _ => Q - (intOf i).toNat)
          case atStart => exact ⟨0, 0, vb, Nat.zero_le _, rfl, rfl, Lib.hid rfl, HT8.out.2.2.1, Below.refl _ _⟩
          case round =>
            obtain ⟨k, J, hv, hJ, rfl, rfl, HJ, hw, hbel⟩ := hrel
            have HW := Lib.hid hw
            have HBEL := Lib.hid hbel
            by_cases hJQ : J < Q
            · have hJ64 : J + 64 ≤ Q := by have := HJ.out; omega
              have hne : ¬ cb = J := by omega
              have g1 : (J : Int) + 64 ≤ cb := by omega
              have g2 : (J : Int) ≤ (J : Int) + 64 := by omega
              have g3 : ((J : Int) + 64).toNat = J + 64 := by omega
              have g4 : J + 64 - J = 64 := by omega
              have hr64 : Row wr (some ⟨b, off + J, none⟩) 64 (cb - J) ((P.drop J).take 64) := ((HROW.out.below hbel).drop (k := J) (a' := some ⟨b, off + J, none⟩) hJ (fun e => by cases e) (fun _ b' off' e => by cases e; rfl)).take (by omega)
              have hks := (hbel.block _ (lt_of_block HT8.out.2.1)).trans HT8.out.2.1
              have HR64 := Lib.hid hr64
              have HKS := Lib.hid hks
              clear hw hbel hr64 hks
              go_wp2_with fail
              refine (one_any HW.out HKS.out HR64.out).mono ?_
              rintro e w12 ⟨g, rfl, hgl, hg, hb12⟩
              have HG := Lib.hid hg
              have HB12 := Lib.hid (HBEL.out.trans (hb12.mono HBEL.out.size))
              clear hg hb12 hgl
              go_wp2_with fail
              go_roundw
              case rel => exact ⟨k + 1, J + 64, g, hJ64, by first | rfl | go_num, rfl, Lib.hid (by rw [HJ.out]; omega), by have := HG.out; rw [HJ.out] at this; exact this, HB12.out⟩
              case measure => simp [intOf]; omega
            · have hJQ' : J = Q := by omega
              have hk : k = P.length / 64 := by rw [HPL.out, ← hJQ', HJ.out]; omega
              have hsum : sumOf q = (run P k).bytes := by rw [hk, HP.out]; rfl
              obtain ⟨V, hV⟩ : ∃ V, V = run P k := ⟨_, rfl⟩
              rw [← hV] at hw hsum
              have HSUM := Lib.hid hsum
              have HWV := Lib.hid hw
              have HBV := Lib.hid (HT8.out.2.2.2.trans (hbel.mono HT8.out.2.2.2.size))
              have hne' : ¬ (J : Int) < Q := by omega
              clear hw hbel hk hV hsum HW HBEL
              go_wp2_with fail
              go_loopw [9, 10] (fun s i wr => ∃ (j F : Nat) (af : Option Addr) (cf : Nat), j ≤ 8 ∧ i = .int .i64 j ∧ s = .slice af F cf ∧ Hid (F = 4 * j) ∧ OutAt w hv V (.slice af F cf) j wr) (fun _ i _ => 8 - (intOf i).toNat)
              case atStart => exact ⟨0, 0, none, 0, Nat.zero_le _, rfl, rfl, Lib.hid rfl, World.ownsRow_nil _ _ _ _, HWV.out, HBV.out⟩
              case round =>
                obtain ⟨j, F, af, cf, hj, rfl, rfl, HF, hat⟩ := hrel
                have HAT := Lib.hid hat
                by_cases hj8 : j < 8
                · have cj : wr.cell? ⟨hv, j, none⟩ = some (.int .u32 (num (V.list.getD j 0))) := by
                    rw [cell_of_row wr _ _ _ _ _ hat.2.1]
                    simpa using wordsOf_get (l := V.list) (j := j) (by rw [eight_len]; exact hj8)
                  obtain ⟨x, hx⟩ : ∃ x, x = V.list.getD j 0 := ⟨_, rfl⟩
                  rw [← hx] at cj
                  have HX := Lib.hid hx
                  have b20 : Below wr.heap.size wr (wr.alloc (.cells #[.int .u8 (num x / 16777216 % 256), .int .u8 (num x / 65536 % 256), .int .u8 (num x / 256 % 256), .int .u8 (num x % 256)] 5)).drew := below_drewN ((Below.refl _ _).alloc (Nat.le_refl _) _) 1
                  have h20 := hat.below b20
                  have H20 := Lib.hid h20
                  have HR20 : Hid (Row (wr.alloc (.cells #[.int .u8 (num x / 16777216 % 256), .int .u8 (num x / 65536 % 256), .int .u8 (num x / 256 % 256), .int .u8 (num x % 256)] 5)).drew (some ⟨wr.heap.size, 0, none⟩) 4 4 (four x)) := Lib.hid (row_four x)
                  have hl : ((V.list.take j).flatMap four).length = F := by rw [four_size V j hj, HF.out]
                  have HL := Lib.hid hl
                  have HC20 : Hid ((wr.alloc (.cells #[.int .u8 (num x / 16777216 % 256), .int .u8 (num x / 65536 % 256), .int .u8 (num x / 256 % 256), .int .u8 (num x % 256)] 5)).drew.cell? ⟨hv, j, none⟩ = some (.int .u32 (num x))) := Lib.hid ((b20.cell (p := ⟨hv, j, none⟩) (lt_of_block hat.2.1)).trans cj)
                  have hne20 : some hv ≠ (Value.slice af F cf).ownBlock := own_apart h20.1 h20.2.1 (by decide)
                  have HNE := Lib.hid hne20
                  have hF : F ≤ 32 := by have := HF.out; omega
                  have pj : (j : Int) < 8 := by omega
                  have qj : 0 ≤ (j : Int) := by omega
                  clear hat hx b20 h20 hl hne20
                  go_wp2_with fail
                  go_region_held_law (fun w' => w'.cell? ⟨hv, j, none⟩ = some (.int .u32 (num x)))
                    (first | exact cj | exact hcx | go_keep)
                    ((refine step_append_row (by rfl) (.tmp 60) (.tmp 84) 22 (by rfl) w.heap.size i0 Tryd.underlying22 HI.out hz0 hz1 hz2 (.slice af F cf) ((V.list.take j).flatMap four) F HL.out (by rfl) H20.out.1 _ 4 4 (four x) (by rfl) HR20.out (by omega) H20.out.2.2.size ?_; intro a21 c21 w21 ho21 hg21; have hcx := hg21.cell HC20.out HNE.out; have HO21 := Lib.hid ho21; have HG21 := Lib.hid hg21; clear ho21 hg21))
                  all_goals
                    have ho22 := HO21.out
                    rw [HX.out, four_succ V j hj8] at ho22
                    have h22 := H20.out.grown ho22 HG21.out
                    have H22 := Lib.hid h22
                    clear h22 ho22 hcx cj
                    go_wp2_with fail
                    go_roundw
                    case rel => exact ⟨j + 1, F + 4, a21, c21, by omega, by go_num, rfl, Lib.hid (by rw [HF.out]; omega), H22.out⟩
                    case measure => simp [intOf]; omega
                · have hj8' : j = 8 := by omega
                  have hF32 : F = 32 := by rw [HF.out, hj8']
                  rw [hF32] at hat ⊢
                  have ho := hat.1
                  rw [hj8', show (V.list.take 8).flatMap four = V.bytes from rfl, ← HSUM.out] at ho
                  have HO := Lib.hid ho
                  have HBB := Lib.hid hat.2.2
                  clear hat ho hF32
                  go_wp2_with fail
                  go_ret
                  exact ⟨af, cf, rfl, HO.out.row, HBB.out⟩
end Go.Proofs.YtfjedbfghcdbdaaDoor
