/- What Public comes to: the key's sum. -/
import Derived.Test.YtjmdkgjfcfnbiaaDoorUnder
import Derived.Test.YtjmdkgjfcfnbiaaDoorSecret
import Derived.Test.YtjmdkgjfcfnbiaaDoorShown
namespace Go.Proofs.YtjmdkgjfcfnbiaaDoor
open Go.RowKit

set_option linter.unusedSimpArgs false in
set_option maxRecDepth 100000 in
set_option maxHeartbeats 3200000 in
theorem public_any {w : World} {s : List UInt8} (hs : s.length = 32) (hk : KsAt w) :
    Calls Tryd.prog 13 #[.agg (cellsOf s).toArray] w fun e w' => e = .returned (.agg (cellsOf (keyOf s)).toArray) ∧ Below w.heap.size w w' := by
  obtain ⟨i0, hi, hz0, hz1, hz2⟩ := info_parts Tryd.bytes3
  have HI := Lib.hid hi
  have hstep : ∀ j m : Nat, m < 2 → ∃ x y : List UInt8, x.length = 32 ∧ y.length = 32 ∧ pairTo s j (m + 1) = pairTo s j m ++ y ∧
      (∀ W : World, KsAt W → Calls Tryd.prog 17 #[.agg (cellsOf s).toArray, .int .i64 (j : Int), .int .i64 (m : Int)] W fun e w' => e = .returned (.agg (cellsOf x).toArray) ∧ Below W.heap.size W w') ∧
      (∀ W : World, KsAt W → Calls Tryd.prog 18 #[.agg (cellsOf x).toArray] W fun e w' => e = .returned (.agg (cellsOf y).toArray) ∧ Below W.heap.size W w') :=
    fun j m hm => ⟨secretOf s j m, shownOf (secretOf s j m), secretOf_len _ _ _, shownOf_len _, pairTo_succ s j m, fun W hW => secret_at j m hm hs hW, fun W hW => shown_any (secretOf_len _ _ _) hW⟩
  obtain ⟨key, hkey, hkl, hjoin⟩ : ∃ key, keyOf s = key ∧ key.length = 32 ∧ ∀ (W : World) (a : Option Addr) (c gg : Nat), Row W a 4096 c (allTo s 64) → KsAt W → W.heap[gg]? = some (.cells #[.slice a 4096 c] 24 (0, 0)) → Calls Tryd.prog 10 #[.int .u8 13, .slice (some ⟨gg, 0, none⟩) 1 1] W fun e w' => e = .returned (.agg (cellsOf key).toArray) ∧ Below W.heap.size W w' := by
    refine ⟨_, rfl, keyOf_len s, fun W a c gg hr hW hg => join_any 13 13 rfl (rows2_one hg hr) hW ?_⟩
    have e : (allOf s).length = 4096 := allTo_len s 64
    unfold partsOf partOf
    simp only [List.flatMap_cons, List.flatMap_nil, List.length_cons, List.length_append, four_len, List.length_nil, e]
    omega
  rw [hkey]
  have SZ := Lib.hid (size_of hs)
  have SZK := Lib.hid (size_of hkl)
  have HZK := Lib.hid (zero_of hkl)
  have HK := Lib.hid hk
  have HST := Lib.hid hstep
  have HJ := Lib.hid hjoin
  clear hi hs hk hstep hkey hkl hjoin
  go_enter Tryd.func13, Tryd.ntmps13
  go_upto_region 1 with (fail)
  rw [← zero32_is]
  have b1 : Below w.heap.size w ((w.alloc (.cells (cellsOf s).toArray 23)).alloc (.cells (cellsOf zero32).toArray 23)) := ((Below.refl _ _).alloc (Nat.le_refl _) _).alloc (by simp) _
  have h1 : ((w.alloc (.cells (cellsOf s).toArray 23)).alloc (.cells (cellsOf zero32).toArray 23)).heap[w.heap.size]? = some (.cells (cellsOf s).toArray 23 (0, 0)) := by
    rw [heap_alloc_old _ _ (by simp), heap_alloc_new]
  have h2 : ((w.alloc (.cells (cellsOf s).toArray 23)).alloc (.cells (cellsOf zero32).toArray 23)).heap[w.heap.size + 1]? = some (.cells (cellsOf zero32).toArray 23 (0, 0)) := heap_alloc_at _ _ _ (by simp)
  revert b1 h1 h2
  generalize ((w.alloc (.cells (cellsOf s).toArray 23)).alloc (.cells (cellsOf zero32).toArray 23)) = w1
  obtain ⟨g, hg⟩ : ∃ g, g = w.heap.size := ⟨_, rfl⟩
  rw [← hg]
  intro b1 h1 h2
  rw [hg] at b1
  have HG := Lib.hid hg
  have HB1 := Lib.hid b1
  have H1 := Lib.hid h1
  have H2 := Lib.hid h2
  have HKW := Lib.hid (HK.out.below b1)
  clear b1 h1 h2 hg
  go_upto_region 2 with (at_make; refine wpList_make_own _ rfl _ _ 24 rfl w1.heap.size 5 i0 _ 1 Tryd.underlying24 HI.out hz0 hz1 _ _ _ 4096 rfl rfl rfl (by rw [hz2]; omega) (by unfold maxLen; omega) (Nat.le_refl _) ?_; intro w2 hown hgrow)
  have HU := Lib.hid (Under.begun hown hgrow)
  clear hown hgrow
  go_wp2_with fail
  go_loopw [3, 8] (fun u i wr => ∃ j : Nat, j ≤ 64 ∧ i = .int .i64 j ∧ Under w1 u (allTo s j) wr) (fun _ i _ => 64 - (intOf i).toNat)
  case atStart => exact ⟨0, Nat.zero_le _, rfl, HU.out⟩
  case round =>
    obtain ⟨j, hj, rfl, hat⟩ := hrel
    have HAT := Lib.hid hat
    clear hat HU
    by_cases hj64 : j < 64
    · have f1 : (j : Int) < 64 := by omega
      go_wp2_with fail
      go_loopw [3, 11] (fun u k wr => ∃ m : Nat, m ≤ 2 ∧ k = .int .i64 m ∧ Under w1 u (allTo s j ++ pairTo s j m) wr) (fun _ k _ => 2 - (intOf k).toNat)
      case atStart => exact ⟨0, Nat.zero_le _, rfl, by rw [pairTo_zero, List.append_nil]; exact HAT.out⟩
      case round =>
        rename_i wr0 wr
        obtain ⟨m, hm, rfl, hin⟩ := hrel
        by_cases hm2 : m < 2
        · have f2 : (m : Int) < 2 := by omega
          obtain ⟨x, y, hxl, hyl, hnext, hsec, hsh⟩ := HST.out j m hm2
          obtain ⟨L, hL⟩ : ∃ L, L = allTo s j ++ pairTo s j m := ⟨_, rfl⟩
          have hnext' : allTo s j ++ pairTo s j (m + 1) = L ++ y := by rw [hnext, hL, List.append_assoc]
          have hlen : L.length = j * 64 + m * 32 := by rw [hL, List.length_append, allTo_len, pairTo_len]
          rw [← hL] at hin
          obtain ⟨F, hF⟩ : ∃ F, F = L.length := ⟨_, rfl⟩
          have hF4 : F ≤ 4096 := by omega
          obtain ⟨a, c, rfl⟩ := hin.shape hF.symm
          have SZX := Lib.hid (size_of hxl)
          have SZY := Lib.hid (size_of hyl)
          have HZY := Lib.hid (zero_of hyl)
          have HYL := Lib.hid hyl
          have HN := Lib.hid hnext'
          have HSEC := Lib.hid hsec
          have HSH := Lib.hid hsh
          have HLF := Lib.hid hF.symm
          have HIN := Lib.hid hin
          have HG1 := Lib.hid ((hin.below.block _ (lt_of_block H1.out)).trans H1.out)
          have HK1 := Lib.hid (HKW.out.below hin.below)
          clear hxl hyl hnext hnext' hsec hsh hL hlen hF hin
          go_wp2_with (refine wpList_load_row rfl 23 _ rfl g rfl 23 (cellsOf s).toArray (0, 0) _ HG1.out Tryd.underlying23 rfl SZ.out ?_)
          refine (HSEC.out _ HK1.out).mono ?_
          rintro e w3 ⟨rfl, hb3⟩
          have HB3 := Lib.hid hb3
          have HI3 := Lib.hid (HIN.out.more hb3)
          have HK3 := Lib.hid (HK1.out.below hb3)
          clear hb3
          go_wp2_with fail
          refine (HSH.out _ HK3.out).mono ?_
          rintro e w4 ⟨rfl, hb4⟩
          have HI4 := Lib.hid (HI3.out.more hb4)
          clear hb4
          go_upto_region 9 with (refine wpList_store_row rfl 23 _ _ rfl w4.heap.size (cellsOf y).toArray rfl rfl 23 (cellsOf zero32).toArray (heap_alloc_new _ _) SZY.out HZY.out (all_oneCell_toArray (cellsOf_one y)) ?_)
          rw [← zero32_is, laySum_is]
          have hi5 := HI4.out.more (laySum_self w4 y)
          have hr5 := laySum_row w4 HYL.out
          revert hi5 hr5
          generalize laySum w4 y = w5
          generalize w4.heap.size = q
          intro hi5 hr5
          have HI5 := Lib.hid hi5
          have HR5 := Lib.hid hr5
          clear hi5 hr5
          try simp only [Act.put]
          go_wp2_with (at_builtin; refine wpList_append_row _ rfl _ _ 24 rfl w1.heap.size i0 Tryd.underlying24 HI.out hz0 hz1 hz2 (.slice a F c) L F HLF.out rfl HI5.out.own _ 32 32 y rfl HR5.out (by omega) HI5.out.below.size ?_; intro a6 c6 w6 ho6 hg6; have HU6 := Lib.hid (HI5.out.grown ho6 hg6); clear ho6 hg6)
          go_roundw
          case rel => exact ⟨m + 1, by omega, by go_num, by rw [HN.out]; exact HU6.out⟩
          case measure => simp [intOf]; omega
        · have f2 : ¬ ((m : Int) < 2) := by omega
          have hm' : m = 2 := by omega
          rw [hm', ← allTo_pair] at hin
          have HIN := Lib.hid hin
          clear hin hm'
          go_wp2_with fail
          go_roundw
          case rel => exact ⟨j + 1, by omega, by go_num, HIN.out⟩
          case measure => simp [intOf]; omega
    · have f1 : ¬ ((j : Int) < 64) := by omega
      have hj' : j = 64 := by omega
      have hat := HAT.out
      rw [hj'] at hat
      have hlen : (allTo s 64).length = 4096 := allTo_len s 64
      obtain ⟨a, c, rfl⟩ := hat.shape hlen
      have HF := Lib.hid hat
      clear hat hlen hj' HAT
      go_wp2_with fail
      have b3 : Below wr.heap.size wr (wr.alloc (.cells #[.slice a 4096 c] 24)) := (Below.refl _ _).alloc (Nat.le_refl _) _
      refine (HJ.out _ a c _ (HF.out.row.below b3) ((HKW.out.below HF.out.below).below b3) (heap_alloc_new _ _)).mono ?_
      rintro e w5 ⟨rfl, hb5⟩
      have hb6 : Below w1.heap.size w1 w5 := HF.out.below.trans ((b3.trans (hb5.mono b3.size)).mono HF.out.below.size)
      have HB6 := Lib.hid hb6
      have HT1 := Lib.hid ((hb6.block _ (lt_of_block H2.out)).trans H2.out)
      clear b3 hb5 hb6
      go_wp2_with (refine wpList_store_row rfl 23 _ _ rfl (g + 1) (cellsOf key).toArray rfl rfl 23 (cellsOf zero32).toArray HT1.out SZK.out HZK.out (all_oneCell_toArray (cellsOf_one key)) ?_)
      refine bodyPost_ret (results_cell_row rfl _ _ (g + 1) 23 (cellsOf key).toArray (0, 0) _ rfl (setRow_heap w5 (g + 1) _ _ 23 _ HT1.out) Tryd.underlying23 rfl SZK.out) rfl ⟨rfl, ?_⟩
      have b7 : Below w.heap.size w w5 := HB1.out.trans (HB6.out.mono HB1.out.size)
      exact b7.trans (((but_setRow _ (g + 1) _).mono b7.size).below (by rw [HG.out]; omega))
end Go.Proofs.YtjmdkgjfcfnbiaaDoor
