/- The walk of LamportSigns. -/
import Derived.Test.YtjmdkgjfcfnbiaaDoorAwake4
import Derived.Test.YtjmdkgjfcfnbiaaDoorBoth
namespace Go.Proofs.YtjmdkgjfcfnbiaaDoor
open Go.RowKit

set_option linter.unusedSimpArgs false in
set_option maxRecDepth 100000 in
set_option maxHeartbeats 25600000 in
theorem signs_walk {w : World} {s : List UInt8} {a : Option Addr} {n c : Nat} {l : List UInt8} (hs : s.length = 32) (h : Row w a n c l) (hk : KsAt w) :
    Calls Tryd.prog 3 #[.agg (cellsOf s).toArray, .slice a n c] w fun e w' => e = .returned (.bool true) ∧ Below w.heap.size w w' := by
  obtain ⟨i0, hi, hz0, hz1, hz2⟩ := info_parts Tryd.bytes3
  have HI := Lib.hid hi
  have hn : min n 200 ≤ 1000000 := by omega
  obtain ⟨T, hT⟩ : ∃ T, T = l.take 200 := ⟨_, rfl⟩
  have hstep : ∀ j : Nat, j < 64 → ∃ (b b' : Nat) (x y z : List UInt8), (1 : Int) - (b : Int) = (b' : Int) ∧ b' ≤ 1 ∧ x.length = 32 ∧ y.length = 32 ∧ z.length = 32 ∧ signTo s T (j + 1) = (signTo s T j ++ x) ++ z ∧
      (∀ W : World, Row W a (min n 200) c T → KsAt W → Calls Tryd.prog 7 #[.slice a (min n 200) c, .int .i64 (j : Int)] W fun e w' => e = .returned (.int .i64 (b : Int)) ∧ Below W.heap.size W w') ∧
      (∀ W : World, KsAt W → Calls Tryd.prog 8 #[.agg (cellsOf s).toArray, .int .i64 (j : Int), .int .i64 (b : Int)] W fun e w' => e = .returned (.agg (cellsOf x).toArray) ∧ Below W.heap.size W w') ∧
      (∀ W : World, KsAt W → Calls Tryd.prog 8 #[.agg (cellsOf s).toArray, .int .i64 (j : Int), .int .i64 (b' : Int)] W fun e w' => e = .returned (.agg (cellsOf y).toArray) ∧ Below W.heap.size W w') ∧
      (∀ W : World, KsAt W → Calls Tryd.prog 9 #[.agg (cellsOf y).toArray] W fun e w' => e = .returned (.agg (cellsOf z).toArray) ∧ Below W.heap.size W w') := fun j hj => by
    have hb := bitAt_lt (digestOf T) j
    exact ⟨bitAt (digestOf T) j, 1 - bitAt (digestOf T) j, secretOf s j (bitAt (digestOf T) j), secretOf s j (1 - bitAt (digestOf T) j), shownOf (secretOf s j (1 - bitAt (digestOf T) j)), by omega, by omega, secretOf_len _ _ _, secretOf_len _ _ _, shownOf_len _, signTo_succ s T j,
      fun W hr hW => bit_law j hj hr hn hW, fun W hW => secret_law j _ (by omega) (by omega) hs hW, fun W hW => secret_law j _ (by omega) (by omega) hs hW, fun W hW => shown_law (secretOf_len _ _ _) hW⟩
  have hpair : ∀ j m : Nat, j < 64 → m < 2 → ∃ x y : List UInt8, x.length = 32 ∧ y.length = 32 ∧ pairTo s j (m + 1) = pairTo s j m ++ y ∧
      (∀ W : World, KsAt W → Calls Tryd.prog 8 #[.agg (cellsOf s).toArray, .int .i64 (j : Int), .int .i64 (m : Int)] W fun e w' => e = .returned (.agg (cellsOf x).toArray) ∧ Below W.heap.size W w') ∧
      (∀ W : World, KsAt W → Calls Tryd.prog 9 #[.agg (cellsOf x).toArray] W fun e w' => e = .returned (.agg (cellsOf y).toArray) ∧ Below W.heap.size W w') :=
    fun j m hj hm => ⟨secretOf s j m, shownOf (secretOf s j m), secretOf_len _ _ _, shownOf_len _, pairTo_succ s j m, fun W hW => secret_law j m (by omega) (by omega) hs hW, fun W hW => shown_law (secretOf_len _ _ _) hW⟩
  obtain ⟨key, d, hkl, hdl, hjoin, hsign, hback, hpub, hver, hdig, hjd⟩ : ∃ key d : List UInt8, key.length = 32 ∧ d.length = 32 ∧
      (∀ (W : World) (a : Option Addr) (c gg : Nat), Row W a 4096 c (allTo s 64) → KsAt W → W.heap[gg]? = some (.cells #[.slice a 4096 c] 24 (0, 0)) → Calls Tryd.prog 10 #[.int .u8 13, .slice (some ⟨gg, 0, none⟩) 1 1] W fun e w' => e = .returned (.agg (cellsOf key).toArray) ∧ Below W.heap.size W w') ∧
      (∀ W : World, Row W a (min n 200) c T → KsAt W → Calls Tryd.prog 11 #[.agg (cellsOf s).toArray, .slice a (min n 200) c] W fun e w' => Signed W (signTo s T 64) e w') ∧
      (∀ (W : World) (b : Option Addr) (k : Nat), Row W a (min n 200) c T → Row W b 4096 k (signTo s T 64) → KsAt W → Calls Tryd.prog 12 #[.slice a (min n 200) c, .slice b 4096 k] W fun e w' => e = .returned (.tuple #[.agg (cellsOf key).toArray, .int .i64 0]) ∧ Below W.heap.size W w') ∧
      (∀ W : World, KsAt W → Calls Tryd.prog 13 #[.agg (cellsOf s).toArray] W fun e w' => e = .returned (.agg (cellsOf key).toArray) ∧ Below W.heap.size W w') ∧
      (∀ (W : World) (b : Option Addr) (k : Nat), Row W a (min n 200) c T → Row W b 4096 k (signTo s T 64) → KsAt W → Calls Tryd.prog 14 #[.agg (cellsOf key).toArray, .slice a (min n 200) c, .slice b 4096 k] W fun e w' => e = .returned (.bool true) ∧ Below W.heap.size W w') ∧
      (∀ W : World, Row W a (min n 200) c T → KsAt W → Calls Tryd.prog 15 #[.slice a (min n 200) c] W fun e w' => e = .returned (.agg (cellsOf d).toArray) ∧ Below W.heap.size W w') ∧
      (∀ (W : World) (gg : Nat), Row W a (min n 200) c T → KsAt W → W.heap[gg]? = some (.cells #[.slice a (min n 200) c] 24 (0, 0)) → Calls Tryd.prog 10 #[.int .u8 14, .slice (some ⟨gg, 0, none⟩) 1 1] W fun e w' => e = .returned (.agg (cellsOf d).toArray) ∧ Below W.heap.size W w') := by
    refine ⟨keyOf s, digestOf T, keyOf_len s, digestOf_len T, fun W a c gg hr hW hg => join_any 13 13 rfl (rows2_one hg hr) hW ?_, fun W hr hW => sign_any hs hr hn hW, fun W b k hr hb hW => ?_, fun W hW => public_any hs hW,
      fun W b k hr hb hW => verify_in hr hn hb (keyOf_len s) hW true ?_, fun W hr hW => digest_any hr hn hW, fun W gg hr hW hg => join_any 14 14 rfl (rows2_one hg hr) hW ?_⟩
    · have e : (allOf s).length = 4096 := allTo_len s 64
      unfold partsOf partOf
      simp only [List.flatMap_cons, List.flatMap_nil, List.length_cons, List.length_append, four_len, List.length_nil, e]
      omega
    · have h := back_in hr hn hb hW
      have e : backOf T (signTo s T 64) = keyOf s := back_sig s T
      rw [e] at h
      exact h
    · have e : backOf T (signTo s T 64) = keyOf s := back_sig s T
      rw [e]
      exact decide_eq_true rfl
    · have e := hr.1
      unfold partsOf partOf
      simp only [List.flatMap_cons, List.flatMap_nil, List.length_cons, List.length_append, four_len, List.length_nil, e]
      omega
  have haw : ∀ (W : World), KsAt W → Calls Tryd.prog 16 #[] W fun e w' => e = .returned (.bool true) ∧ Below W.heap.size W w' := fun W hW => awake4_any hW
  have hsl : (signTo s T 64).length = 4096 := signTo_len s T 64
  have hal : (allTo s 64).length = 4096 := allTo_len s 64
  have SZ := Lib.hid (size_of hs)
  have SZK := Lib.hid (size_of hkl)
  have HZK := Lib.hid (zero_of hkl)
  have HKL := Lib.hid hkl
  have HDL := Lib.hid hdl
  have HSL := Lib.hid hsl
  have HAL := Lib.hid hal
  have HK := Lib.hid hk
  have HT := Lib.hid h
  have HTT := Lib.hid hT
  have HSTEP := Lib.hid hstep
  have HPAIR := Lib.hid hpair
  have HJ := Lib.hid hjoin
  have HSG := Lib.hid hsign
  have HBK := Lib.hid hback
  have HPU := Lib.hid hpub
  have HVE := Lib.hid hver
  have HDG := Lib.hid hdig
  have HJD := Lib.hid hjd
  have HAW := Lib.hid haw
  clear hi hn hs hkl hdl hsl hal hk h hT hstep hpair hjoin hsign hback hpub hver hdig hjd haw
  go_enter Tryd.func3, Tryd.ntmps3
  go_upto_region 1 with (fail)
  have b1 : Below w.heap.size w (w.alloc (.cells (cellsOf s).toArray 23)) := (Below.refl _ _).alloc (Nat.le_refl _) _
  have h1 : (w.alloc (.cells (cellsOf s).toArray 23)).heap[w.heap.size]? = some (.cells (cellsOf s).toArray 23 (0, 0)) := heap_alloc_new _ _
  have hcut := cut_any (HT.out.below b1)
  revert b1 h1 hcut
  generalize (w.alloc (.cells (cellsOf s).toArray 23)) = w3
  obtain ⟨g, hg⟩ : ∃ g, g = w.heap.size := ⟨_, rfl⟩
  rw [← hg]
  intro b1 h1 hcut
  rw [hg] at b1
  have HB3 := Lib.hid b1
  have H3 := Lib.hid h1
  have HCUT := Lib.hid hcut
  have HK3 := Lib.hid (HK.out.below b1)
  clear b1 h1 hcut hg
  go_upto_region 2 with (go_at_call 6; (with_reducible refine (HCUT.out).mono ?_); rintro e w' ⟨rfl, hrow, rfl⟩; rw [← HTT.out] at hrow; have HR3 := Lib.hid hrow; clear hrow)
  try simp only [Act.put]
  go_wp2_with fail
  go_loopw [5, 6, 7] (fun u v i wr => ∃ j : Nat, j ≤ 64 ∧ i = .int .i64 j ∧ Both w3 u (allTo s j) v (signTo s T j) wr) (fun _ _ i _ => 64 - (intOf i).toNat)
  case atStart => exact ⟨0, Nat.zero_le _, rfl, Both.none w3⟩
  case round =>
    obtain ⟨j, hj, rfl, hat⟩ := hrel
    by_cases hj64 : j < 64
    · have f1 : (j : Int) < 64 := by omega
      obtain ⟨b, b', x, y, z, eb, hb1, hxl, hyl, hzl, hnext, hbit, hsec, hoth, hsh⟩ := HSTEP.out j hj64
      obtain ⟨X, hX⟩ : ∃ X, X = signTo s T j := ⟨_, rfl⟩
      obtain ⟨Y, hY⟩ : ∃ Y, Y = allTo s j := ⟨_, rfl⟩
      have hlen : X.length = j * 64 := by rw [hX]; exact signTo_len s T j
      have hlenY : Y.length = j * 64 := by rw [hY]; exact allTo_len s j
      rw [← hX, ← hY] at hat
      rw [← hX] at hnext
      obtain ⟨F, hF⟩ : ∃ F, F = X.length := ⟨_, rfl⟩
      have hF4 : F + 64 ≤ 4096 := by omega
      have hFY : F = Y.length := by omega
      obtain ⟨ag, cg, rfl⟩ := hat.right.shape hF.symm
      obtain ⟨aa, ca, rfl⟩ := hat.left.shape hFY.symm
      have i1 : IntKind.i64.wrap (b' : Int) = (b' : Int) := IntWalk.i64_in _ (by omega)
      have SZX := Lib.hid (size_of hxl)
      have HZX := Lib.hid (zero_of hxl)
      have SZZ := Lib.hid (size_of hzl)
      have HZZ := Lib.hid (zero_of hzl)
      have HXL := Lib.hid hxl
      have HZL := Lib.hid hzl
      have HN := Lib.hid hnext
      have HBIT := Lib.hid hbit
      have HSEC := Lib.hid hsec
      have HOTH := Lib.hid hoth
      have HSH := Lib.hid hsh
      have HLF := Lib.hid hF.symm
      have HLY := Lib.hid hFY.symm
      have HYY := Lib.hid hY
      have HAT := Lib.hid hat
      clear hxl hyl hzl hnext hbit hsec hoth hsh hX hY hlen hlenY hF hFY hat hb1
      go_upto_region 6 with (fail)
      try simp only [Act.put]
      go_wp2_with fail
      refine (HBIT.out _ (HR3.out.below HAT.out.left.below) (HK3.out.below HAT.out.left.below)).mono ?_
      rintro e w5 ⟨rfl, hb5⟩
      have HA5 := Lib.hid (HAT.out.more hb5)
      have HK5 := Lib.hid (HK3.out.below HA5.out.left.below)
      have hg5 := (HA5.out.left.below.block _ (lt_of_block H3.out)).trans H3.out
      have HG := Lib.hid (range_of hg5)
      have hltg := lt_of_block hg5
      clear hb5 hg5
      go_upto_region 7 with (fail)
      try simp only [Act.put]
      go_cut [9, 10] from 19 to 53 (fun u v w' => ∃ p q, u = .pointer (some ⟨p, 0, none⟩) ∧ v = .pointer (some ⟨q, 0, none⟩) ∧ Pair2 w5 p q x z w')
      case first =>
        refine wp_region_held_drew (S := fun w' => Below w5.heap.size w5 w') (by kernel_rfl) (below_drew (Below.refl _ _)) (fun hHeld => ?_)
        refine take_at (i := 0) rfl rfl (by kernel_rfl) (by kernel_rfl) (by kernel_rfl) (fun _ _ _ h => h) (yieldsIf_load_mid (by rfl) _ _ rfl g 0 rfl (cellsOf s) _ (fun w0 hSw => rangeAt_below HG.out hltg hSw) Tryd.underlying23 rfl SZ.out) (by assumption) ?_
        simp only [List.setIfInBounds_toArray, List.set_cons_zero, List.set_cons_succ]
        refine take_at (i := 1) (v := ?_) rfl rfl (by kernel_rfl) (by kernel_rfl) (by kernel_rfl) (fun _ _ _ h => h) (Or.inl ⟨by rfl, ?_⟩) (by assumption) ?_
        rotate_left
        · intro w0 hSw; (try dsimp only at hSw); first | (go_simp; done) | (go_simp; with_reducible rfl)
        simp only [List.setIfInBounds_toArray, List.set_cons_zero, List.set_cons_succ]
        refine take_at (i := 2) (v := ?_) rfl rfl (by kernel_rfl) (by kernel_rfl) (by kernel_rfl) (fun _ _ _ h => h) (Or.inl ⟨by rfl, ?_⟩) (by assumption) ?_
        rotate_left
        · intro w0 hSw; (try dsimp only at hSw); first | (go_simp; done) | (go_simp; with_reducible rfl)
        simp only [List.setIfInBounds_toArray, List.set_cons_zero, List.set_cons_succ]
        refine take_at (i := 4) rfl rfl (by kernel_rfl) (by kernel_rfl) (by kernel_rfl) (fun _ _ _ h => h) (yieldsIf_load_mid (by rfl) _ _ rfl g 0 rfl (cellsOf s) _ (fun w0 hSw => rangeAt_below HG.out hltg hSw) Tryd.underlying23 rfl SZ.out) (by assumption) ?_
        simp only [List.setIfInBounds_toArray, List.set_cons_zero, List.set_cons_succ]
        refine take_at (i := 5) (v := ?_) rfl rfl (by kernel_rfl) (by kernel_rfl) (by kernel_rfl) (fun _ _ _ h => h) (Or.inl ⟨by rfl, ?_⟩) (by assumption) ?_
        rotate_left
        · intro w0 hSw; (try dsimp only at hSw); first | (go_simp; done) | (go_simp; with_reducible rfl)
        simp only [List.setIfInBounds_toArray, List.set_cons_zero, List.set_cons_succ]
        refine take_at (i := 6) (v := ?_) rfl rfl (by kernel_rfl) (by kernel_rfl) (by kernel_rfl) (fun _ _ _ h => h) (Or.inl ⟨by rfl, ?_⟩) (by assumption) ?_
        rotate_left
        · intro w0 hSw; (try dsimp only at hSw); first | (go_simp; done) | (go_simp; with_reducible rfl)
        simp only [List.setIfInBounds_toArray, List.set_cons_zero, List.set_cons_succ]
        refine take_at (i := 7) (v := ?_) rfl rfl (by kernel_rfl) (by kernel_rfl) (by kernel_rfl) (fun _ _ _ h => h) (Or.inl ⟨by rfl, ?_⟩) (by assumption) ?_
        rotate_left
        · intro w0 hSw; (try dsimp only at hSw); first | (go_simp; done) | (go_simp; with_reducible rfl)
        simp only [List.setIfInBounds_toArray, List.set_cons_zero, List.set_cons_succ]
        refine wpAnyH_ready (rs := [3, 10, 11]) (by kernel_rfl) (by simp) ?_
        refine AllReadyH.cons rfl (fun K hK => ?_) ?_
        · go_simp
          go_wp2_with ((go_at_call 8; (with_reducible refine (HSEC.out _ (HK5.out.below hHeld)).mono ?_); rintro e x3 ⟨rfl, hb3⟩; have HC3 := Lib.hid hb3; clear hb3))
          refine hK.out _ _ (by (try dsimp only); exact Below.trans hHeld (HC3.out.mono (Below.size hHeld))) (fun hHeld => ?_)
          clear hK K
          refine wpAnyH_ready (rs := [8, 10, 11]) (by kernel_rfl) (by simp) ?_
          refine AllReadyH.cons rfl (fun K hK => ?_) ?_
          · go_simp
            go_wp2_with ((go_at_call 8; (with_reducible refine (HOTH.out _ (HK5.out.below hHeld)).mono ?_); rintro e x8 ⟨rfl, hb8⟩; have HC8 := Lib.hid hb8; clear hb8))
            refine hK.out _ _ (by (try dsimp only); exact Below.trans hHeld (HC8.out.mono (Below.size hHeld))) (fun hHeld => ?_)
            clear hK K
            refine wpAnyH_ready (rs := [9, 10, 11]) (by kernel_rfl) (by simp) ?_
            refine AllReadyH.cons rfl (fun K hK => ?_) ?_
            · go_simp
              go_wp2_with ((go_at_call 9; (with_reducible refine (HSH.out _ (HK5.out.below hHeld)).mono ?_); rintro e x9 ⟨rfl, hb9⟩; have HC9 := Lib.hid hb9; clear hb9))
              refine hK.out _ _ (by (try dsimp only); exact Below.trans hHeld (HC9.out.mono (Below.size hHeld))) (fun hHeld => ?_)
              clear hK K
              refine wpAnyH_ready (rs := [10, 11]) (by kernel_rfl) (by simp) ?_
              refine AllReadyH.cons rfl (fun K hK => ?_) ?_
              · refine step_alloc_gen (d := 9) rfl (by rfl) 23 rfl zero32 Tryd.zeroSum ?_
                intro p10 y10 hg10 hz10 hb10
                have HZ10 := Lib.hid hz10
                have HB10 := Lib.hid hb10
                have HGE10 : Hid (w5.heap.size ≤ p10) := Lib.hid (Nat.le_trans (Below.size hHeld) hg10)
                clear hg10 hz10 hb10
                refine hK.out _ _ (by (try dsimp only); exact Below.trans hHeld (HB10.out.mono (Below.size hHeld))) (fun hHeld => ?_)
                clear hK K
                refine wpAnyH_ready (rs := [11]) (by kernel_rfl) (by simp) ?_
                refine AllReadyH.cons rfl (fun K hK => ?_) ?_
                · refine step_alloc_gen (d := 10) rfl (by rfl) 23 rfl zero32 Tryd.zeroSum ?_
                  intro p11 y11 hg11 hz11 hb11
                  have HZ11 := Lib.hid hz11
                  have HB11 := Lib.hid hb11
                  have HGE11 : Hid (w5.heap.size ≤ p11) := Lib.hid (Nat.le_trans (Below.size hHeld) hg11)
                  have HNE : Hid (p10 ≠ p11) := Lib.hid (by
                    have h := HZ10.out
                    have := lt_of_block h
                    omega)
                  clear hg11 hz11 hb11
                  refine hK.out _ _ (by (try dsimp only); exact Below.trans hHeld (HB11.out.mono (Below.size hHeld))) (fun hHeld => ?_)
                  clear hK K
                  refine wpAnyH_ready (rs := [12]) (by kernel_rfl) (by simp) ?_
                  refine AllReadyH.cons rfl (fun K hK => ?_) ?_
                  · have hp : y11.heap[p10]? = some (.cells (cellsOf zero32).toArray 23 (0, 0)) := by
                      have h := HZ10.out
                      have h := (HB11.out.block _ (lt_of_block h)).trans h
                      exact h
                    have hq : y11.heap[p11]? = some (.cells (cellsOf zero32).toArray 23 (0, 0)) := by
                      have h := HZ11.out
                      exact h
                    have HP2 := Lib.hid (pair_stores (d := x) (e := z) (show Below w5.heap.size w5 y11 from hHeld) hp hq HNE.out HGE10.out HGE11.out)
                    have HQ := Lib.hid ((setRow_other y11 p10 p11 (cellsOf x).toArray HNE.out.symm).trans hq)
                    have hb : Below w5.heap.size w5 y11 := hHeld
                    have b12 : Below w5.heap.size w5 (y11.setRow p10 (cellsOf x).toArray) := hb.trans (((but_setRow _ p10 _).mono hb.size).below HGE10.out)
                    have HB12 := Lib.hid b12
                    clear hq b12 hb
                    rw [if_pos (by rfl)]
                    refine wp_store_row 23 _ _ rfl p10 (cellsOf x).toArray rfl rfl 23 (cellsOf zero32).toArray hp SZX.out HZX.out (all_oneCell_toArray (cellsOf_one x)) ?_
                    clear hp
                    refine hK.out _ _ (by (try dsimp only); exact HB12.out) (fun hHeld => ?_)
                    clear hK K
                    refine wpAnyH_ready (rs := [13]) (by kernel_rfl) (by simp) ?_
                    refine AllReadyH.cons rfl (fun K hK => ?_) ?_
                    · rw [if_pos (by rfl)]
                      refine wp_store_row 23 _ _ rfl p11 (cellsOf z).toArray rfl rfl 23 (cellsOf zero32).toArray HQ.out SZZ.out HZZ.out (all_oneCell_toArray (cellsOf_one z)) ?_
                      refine hK.out _ _ (by (try dsimp only); exact HP2.out.below) (fun hHeld => ?_)
                      clear hK K
                      refine wpAnyH_done (by kernel_rfl) ?_ _
                      clear hHeld
                      go_wp2_with fail
                      go_meet
                      exact ⟨p10, p11, rfl, rfl, HP2.out⟩
                    exact AllReadyH.nil
                  exact AllReadyH.nil
                exact AllReadyH.nil
              refine AllReadyH.cons rfl (fun K hK => ?_) ?_
              · refine step_alloc_gen (d := 10) rfl (by rfl) 23 rfl zero32 Tryd.zeroSum ?_
                intro p11 y11 hg11 hz11 hb11
                have HZ11 := Lib.hid hz11
                have HB11 := Lib.hid hb11
                have HGE11 : Hid (w5.heap.size ≤ p11) := Lib.hid (Nat.le_trans (Below.size hHeld) hg11)
                clear hg11 hz11 hb11
                refine hK.out _ _ (by (try dsimp only); exact Below.trans hHeld (HB11.out.mono (Below.size hHeld))) (fun hHeld => ?_)
                clear hK K
                refine wpAnyH_ready (rs := [10]) (by kernel_rfl) (by simp) ?_
                refine AllReadyH.cons rfl (fun K hK => ?_) ?_
                · refine step_alloc_gen (d := 9) rfl (by rfl) 23 rfl zero32 Tryd.zeroSum ?_
                  intro p10 y10 hg10 hz10 hb10
                  have HZ10 := Lib.hid hz10
                  have HB10 := Lib.hid hb10
                  have HGE10 : Hid (w5.heap.size ≤ p10) := Lib.hid (Nat.le_trans (Below.size hHeld) hg10)
                  have HNE : Hid (p10 ≠ p11) := Lib.hid (by
                    have h := HZ11.out
                    have := lt_of_block h
                    omega)
                  clear hg10 hz10 hb10
                  refine hK.out _ _ (by (try dsimp only); exact Below.trans hHeld (HB10.out.mono (Below.size hHeld))) (fun hHeld => ?_)
                  clear hK K
                  refine wpAnyH_ready (rs := [12]) (by kernel_rfl) (by simp) ?_
                  refine AllReadyH.cons rfl (fun K hK => ?_) ?_
                  · have hp : y10.heap[p10]? = some (.cells (cellsOf zero32).toArray 23 (0, 0)) := by
                      have h := HZ10.out
                      exact h
                    have hq : y10.heap[p11]? = some (.cells (cellsOf zero32).toArray 23 (0, 0)) := by
                      have h := HZ11.out
                      have h := (HB10.out.block _ (lt_of_block h)).trans h
                      exact h
                    have HP2 := Lib.hid (pair_stores (d := x) (e := z) (show Below w5.heap.size w5 y10 from hHeld) hp hq HNE.out HGE10.out HGE11.out)
                    have HQ := Lib.hid ((setRow_other y10 p10 p11 (cellsOf x).toArray HNE.out.symm).trans hq)
                    have hb : Below w5.heap.size w5 y10 := hHeld
                    have b12 : Below w5.heap.size w5 (y10.setRow p10 (cellsOf x).toArray) := hb.trans (((but_setRow _ p10 _).mono hb.size).below HGE10.out)
                    have HB12 := Lib.hid b12
                    clear hq b12 hb
                    rw [if_pos (by rfl)]
                    refine wp_store_row 23 _ _ rfl p10 (cellsOf x).toArray rfl rfl 23 (cellsOf zero32).toArray hp SZX.out HZX.out (all_oneCell_toArray (cellsOf_one x)) ?_
                    clear hp
                    refine hK.out _ _ (by (try dsimp only); exact HB12.out) (fun hHeld => ?_)
                    clear hK K
                    refine wpAnyH_ready (rs := [13]) (by kernel_rfl) (by simp) ?_
                    refine AllReadyH.cons rfl (fun K hK => ?_) ?_
                    · rw [if_pos (by rfl)]
                      refine wp_store_row 23 _ _ rfl p11 (cellsOf z).toArray rfl rfl 23 (cellsOf zero32).toArray HQ.out SZZ.out HZZ.out (all_oneCell_toArray (cellsOf_one z)) ?_
                      refine hK.out _ _ (by (try dsimp only); exact HP2.out.below) (fun hHeld => ?_)
                      clear hK K
                      refine wpAnyH_done (by kernel_rfl) ?_ _
                      clear hHeld
                      go_wp2_with fail
                      go_meet
                      exact ⟨p10, p11, rfl, rfl, HP2.out⟩
                    exact AllReadyH.nil
                  exact AllReadyH.nil
                exact AllReadyH.nil
              exact AllReadyH.nil
            refine AllReadyH.cons rfl (fun K hK => ?_) ?_
            · refine step_alloc_gen (d := 9) rfl (by rfl) 23 rfl zero32 Tryd.zeroSum ?_
              intro p10 y10 hg10 hz10 hb10
              have HZ10 := Lib.hid hz10
              have HB10 := Lib.hid hb10
              have HGE10 : Hid (w5.heap.size ≤ p10) := Lib.hid (Nat.le_trans (Below.size hHeld) hg10)
              clear hg10 hz10 hb10
              refine hK.out _ _ (by (try dsimp only); exact Below.trans hHeld (HB10.out.mono (Below.size hHeld))) (fun hHeld => ?_)
              clear hK K
              refine wpAnyH_ready (rs := [9, 11]) (by kernel_rfl) (by simp) ?_
              refine AllReadyH.cons rfl (fun K hK => ?_) ?_
              · go_simp
                go_wp2_with ((go_at_call 9; (with_reducible refine (HSH.out _ (HK5.out.below hHeld)).mono ?_); rintro e x9 ⟨rfl, hb9⟩; have HC9 := Lib.hid hb9; clear hb9))
                refine hK.out _ _ (by (try dsimp only); exact Below.trans hHeld (HC9.out.mono (Below.size hHeld))) (fun hHeld => ?_)
                clear hK K
                refine wpAnyH_ready (rs := [11]) (by kernel_rfl) (by simp) ?_
                refine AllReadyH.cons rfl (fun K hK => ?_) ?_
                · refine step_alloc_gen (d := 10) rfl (by rfl) 23 rfl zero32 Tryd.zeroSum ?_
                  intro p11 y11 hg11 hz11 hb11
                  have HZ11 := Lib.hid hz11
                  have HB11 := Lib.hid hb11
                  have HGE11 : Hid (w5.heap.size ≤ p11) := Lib.hid (Nat.le_trans (Below.size hHeld) hg11)
                  have HNE : Hid (p10 ≠ p11) := Lib.hid (by
                    have h := HZ10.out
                    have h := (HC9.out.block _ (lt_of_block h)).trans h
                    have := lt_of_block h
                    omega)
                  clear hg11 hz11 hb11
                  refine hK.out _ _ (by (try dsimp only); exact Below.trans hHeld (HB11.out.mono (Below.size hHeld))) (fun hHeld => ?_)
                  clear hK K
                  refine wpAnyH_ready (rs := [12]) (by kernel_rfl) (by simp) ?_
                  refine AllReadyH.cons rfl (fun K hK => ?_) ?_
                  · have hp : y11.heap[p10]? = some (.cells (cellsOf zero32).toArray 23 (0, 0)) := by
                      have h := HZ10.out
                      have h := (HC9.out.block _ (lt_of_block h)).trans h
                      have h := (HB11.out.block _ (lt_of_block h)).trans h
                      exact h
                    have hq : y11.heap[p11]? = some (.cells (cellsOf zero32).toArray 23 (0, 0)) := by
                      have h := HZ11.out
                      exact h
                    have HP2 := Lib.hid (pair_stores (d := x) (e := z) (show Below w5.heap.size w5 y11 from hHeld) hp hq HNE.out HGE10.out HGE11.out)
                    have HQ := Lib.hid ((setRow_other y11 p10 p11 (cellsOf x).toArray HNE.out.symm).trans hq)
                    have hb : Below w5.heap.size w5 y11 := hHeld
                    have b12 : Below w5.heap.size w5 (y11.setRow p10 (cellsOf x).toArray) := hb.trans (((but_setRow _ p10 _).mono hb.size).below HGE10.out)
                    have HB12 := Lib.hid b12
                    clear hq b12 hb
                    rw [if_pos (by rfl)]
                    refine wp_store_row 23 _ _ rfl p10 (cellsOf x).toArray rfl rfl 23 (cellsOf zero32).toArray hp SZX.out HZX.out (all_oneCell_toArray (cellsOf_one x)) ?_
                    clear hp
                    refine hK.out _ _ (by (try dsimp only); exact HB12.out) (fun hHeld => ?_)
                    clear hK K
                    refine wpAnyH_ready (rs := [13]) (by kernel_rfl) (by simp) ?_
                    refine AllReadyH.cons rfl (fun K hK => ?_) ?_
                    · rw [if_pos (by rfl)]
                      refine wp_store_row 23 _ _ rfl p11 (cellsOf z).toArray rfl rfl 23 (cellsOf zero32).toArray HQ.out SZZ.out HZZ.out (all_oneCell_toArray (cellsOf_one z)) ?_
                      refine hK.out _ _ (by (try dsimp only); exact HP2.out.below) (fun hHeld => ?_)
                      clear hK K
                      refine wpAnyH_done (by kernel_rfl) ?_ _
                      clear hHeld
                      go_wp2_with fail
                      go_meet
                      exact ⟨p10, p11, rfl, rfl, HP2.out⟩
                    exact AllReadyH.nil
                  exact AllReadyH.nil
                exact AllReadyH.nil
              refine AllReadyH.cons rfl (fun K hK => ?_) ?_
              · refine step_alloc_gen (d := 10) rfl (by rfl) 23 rfl zero32 Tryd.zeroSum ?_
                intro p11 y11 hg11 hz11 hb11
                have HZ11 := Lib.hid hz11
                have HB11 := Lib.hid hb11
                have HGE11 : Hid (w5.heap.size ≤ p11) := Lib.hid (Nat.le_trans (Below.size hHeld) hg11)
                have HNE : Hid (p10 ≠ p11) := Lib.hid (by
                  have h := HZ10.out
                  have := lt_of_block h
                  omega)
                clear hg11 hz11 hb11
                refine hK.out _ _ (by (try dsimp only); exact Below.trans hHeld (HB11.out.mono (Below.size hHeld))) (fun hHeld => ?_)
                clear hK K
                refine wpAnyH_ready (rs := [9]) (by kernel_rfl) (by simp) ?_
                refine AllReadyH.cons rfl (fun K hK => ?_) ?_
                · go_simp
                  go_wp2_with ((go_at_call 9; (with_reducible refine (HSH.out _ (HK5.out.below hHeld)).mono ?_); rintro e x9 ⟨rfl, hb9⟩; have HC9 := Lib.hid hb9; clear hb9))
                  refine hK.out _ _ (by (try dsimp only); exact Below.trans hHeld (HC9.out.mono (Below.size hHeld))) (fun hHeld => ?_)
                  clear hK K
                  refine wpAnyH_ready (rs := [12]) (by kernel_rfl) (by simp) ?_
                  refine AllReadyH.cons rfl (fun K hK => ?_) ?_
                  · have hp : x9.heap[p10]? = some (.cells (cellsOf zero32).toArray 23 (0, 0)) := by
                      have h := HZ10.out
                      have h := (HB11.out.block _ (lt_of_block h)).trans h
                      have h := (HC9.out.block _ (lt_of_block h)).trans h
                      exact h
                    have hq : x9.heap[p11]? = some (.cells (cellsOf zero32).toArray 23 (0, 0)) := by
                      have h := HZ11.out
                      have h := (HC9.out.block _ (lt_of_block h)).trans h
                      exact h
                    have HP2 := Lib.hid (pair_stores (d := x) (e := z) (show Below w5.heap.size w5 x9 from hHeld) hp hq HNE.out HGE10.out HGE11.out)
                    have HQ := Lib.hid ((setRow_other x9 p10 p11 (cellsOf x).toArray HNE.out.symm).trans hq)
                    have hb : Below w5.heap.size w5 x9 := hHeld
                    have b12 : Below w5.heap.size w5 (x9.setRow p10 (cellsOf x).toArray) := hb.trans (((but_setRow _ p10 _).mono hb.size).below HGE10.out)
                    have HB12 := Lib.hid b12
                    clear hq b12 hb
                    rw [if_pos (by rfl)]
                    refine wp_store_row 23 _ _ rfl p10 (cellsOf x).toArray rfl rfl 23 (cellsOf zero32).toArray hp SZX.out HZX.out (all_oneCell_toArray (cellsOf_one x)) ?_
                    clear hp
                    refine hK.out _ _ (by (try dsimp only); exact HB12.out) (fun hHeld => ?_)
                    clear hK K
                    refine wpAnyH_ready (rs := [13]) (by kernel_rfl) (by simp) ?_
                    refine AllReadyH.cons rfl (fun K hK => ?_) ?_
                    · rw [if_pos (by rfl)]
                      refine wp_store_row 23 _ _ rfl p11 (cellsOf z).toArray rfl rfl 23 (cellsOf zero32).toArray HQ.out SZZ.out HZZ.out (all_oneCell_toArray (cellsOf_one z)) ?_
                      refine hK.out _ _ (by (try dsimp only); exact HP2.out.below) (fun hHeld => ?_)
                      clear hK K
                      refine wpAnyH_done (by kernel_rfl) ?_ _
                      clear hHeld
                      go_wp2_with fail
                      go_meet
                      exact ⟨p10, p11, rfl, rfl, HP2.out⟩
                    exact AllReadyH.nil
                  exact AllReadyH.nil
                exact AllReadyH.nil
              exact AllReadyH.nil
            refine AllReadyH.cons rfl (fun K hK => ?_) ?_
            · refine step_alloc_gen (d := 10) rfl (by rfl) 23 rfl zero32 Tryd.zeroSum ?_
              intro p11 y11 hg11 hz11 hb11
              have HZ11 := Lib.hid hz11
              have HB11 := Lib.hid hb11
              have HGE11 : Hid (w5.heap.size ≤ p11) := Lib.hid (Nat.le_trans (Below.size hHeld) hg11)
              clear hg11 hz11 hb11
              refine hK.out _ _ (by (try dsimp only); exact Below.trans hHeld (HB11.out.mono (Below.size hHeld))) (fun hHeld => ?_)
              clear hK K
              refine wpAnyH_ready (rs := [9, 10]) (by kernel_rfl) (by simp) ?_
              refine AllReadyH.cons rfl (fun K hK => ?_) ?_
              · go_simp
                go_wp2_with ((go_at_call 9; (with_reducible refine (HSH.out _ (HK5.out.below hHeld)).mono ?_); rintro e x9 ⟨rfl, hb9⟩; have HC9 := Lib.hid hb9; clear hb9))
                refine hK.out _ _ (by (try dsimp only); exact Below.trans hHeld (HC9.out.mono (Below.size hHeld))) (fun hHeld => ?_)
                clear hK K
                refine wpAnyH_ready (rs := [10]) (by kernel_rfl) (by simp) ?_
                refine AllReadyH.cons rfl (fun K hK => ?_) ?_
                · refine step_alloc_gen (d := 9) rfl (by rfl) 23 rfl zero32 Tryd.zeroSum ?_
                  intro p10 y10 hg10 hz10 hb10
                  have HZ10 := Lib.hid hz10
                  have HB10 := Lib.hid hb10
                  have HGE10 : Hid (w5.heap.size ≤ p10) := Lib.hid (Nat.le_trans (Below.size hHeld) hg10)
                  have HNE : Hid (p10 ≠ p11) := Lib.hid (by
                    have h := HZ11.out
                    have h := (HC9.out.block _ (lt_of_block h)).trans h
                    have := lt_of_block h
                    omega)
                  clear hg10 hz10 hb10
                  refine hK.out _ _ (by (try dsimp only); exact Below.trans hHeld (HB10.out.mono (Below.size hHeld))) (fun hHeld => ?_)
                  clear hK K
                  refine wpAnyH_ready (rs := [12]) (by kernel_rfl) (by simp) ?_
                  refine AllReadyH.cons rfl (fun K hK => ?_) ?_
                  · have hp : y10.heap[p10]? = some (.cells (cellsOf zero32).toArray 23 (0, 0)) := by
                      have h := HZ10.out
                      exact h
                    have hq : y10.heap[p11]? = some (.cells (cellsOf zero32).toArray 23 (0, 0)) := by
                      have h := HZ11.out
                      have h := (HC9.out.block _ (lt_of_block h)).trans h
                      have h := (HB10.out.block _ (lt_of_block h)).trans h
                      exact h
                    have HP2 := Lib.hid (pair_stores (d := x) (e := z) (show Below w5.heap.size w5 y10 from hHeld) hp hq HNE.out HGE10.out HGE11.out)
                    have HQ := Lib.hid ((setRow_other y10 p10 p11 (cellsOf x).toArray HNE.out.symm).trans hq)
                    have hb : Below w5.heap.size w5 y10 := hHeld
                    have b12 : Below w5.heap.size w5 (y10.setRow p10 (cellsOf x).toArray) := hb.trans (((but_setRow _ p10 _).mono hb.size).below HGE10.out)
                    have HB12 := Lib.hid b12
                    clear hq b12 hb
                    rw [if_pos (by rfl)]
                    refine wp_store_row 23 _ _ rfl p10 (cellsOf x).toArray rfl rfl 23 (cellsOf zero32).toArray hp SZX.out HZX.out (all_oneCell_toArray (cellsOf_one x)) ?_
                    clear hp
                    refine hK.out _ _ (by (try dsimp only); exact HB12.out) (fun hHeld => ?_)
                    clear hK K
                    refine wpAnyH_ready (rs := [13]) (by kernel_rfl) (by simp) ?_
                    refine AllReadyH.cons rfl (fun K hK => ?_) ?_
                    · rw [if_pos (by rfl)]
                      refine wp_store_row 23 _ _ rfl p11 (cellsOf z).toArray rfl rfl 23 (cellsOf zero32).toArray HQ.out SZZ.out HZZ.out (all_oneCell_toArray (cellsOf_one z)) ?_
                      refine hK.out _ _ (by (try dsimp only); exact HP2.out.below) (fun hHeld => ?_)
                      clear hK K
                      refine wpAnyH_done (by kernel_rfl) ?_ _
                      clear hHeld
                      go_wp2_with fail
                      go_meet
                      exact ⟨p10, p11, rfl, rfl, HP2.out⟩
                    exact AllReadyH.nil
                  exact AllReadyH.nil
                exact AllReadyH.nil
              refine AllReadyH.cons rfl (fun K hK => ?_) ?_
              · refine step_alloc_gen (d := 9) rfl (by rfl) 23 rfl zero32 Tryd.zeroSum ?_
                intro p10 y10 hg10 hz10 hb10
                have HZ10 := Lib.hid hz10
                have HB10 := Lib.hid hb10
                have HGE10 : Hid (w5.heap.size ≤ p10) := Lib.hid (Nat.le_trans (Below.size hHeld) hg10)
                have HNE : Hid (p10 ≠ p11) := Lib.hid (by
                  have h := HZ11.out
                  have := lt_of_block h
                  omega)
                clear hg10 hz10 hb10
                refine hK.out _ _ (by (try dsimp only); exact Below.trans hHeld (HB10.out.mono (Below.size hHeld))) (fun hHeld => ?_)
                clear hK K
                refine wpAnyH_ready (rs := [9]) (by kernel_rfl) (by simp) ?_
                refine AllReadyH.cons rfl (fun K hK => ?_) ?_
                · go_simp
                  go_wp2_with ((go_at_call 9; (with_reducible refine (HSH.out _ (HK5.out.below hHeld)).mono ?_); rintro e x9 ⟨rfl, hb9⟩; have HC9 := Lib.hid hb9; clear hb9))
                  refine hK.out _ _ (by (try dsimp only); exact Below.trans hHeld (HC9.out.mono (Below.size hHeld))) (fun hHeld => ?_)
                  clear hK K
                  refine wpAnyH_ready (rs := [12]) (by kernel_rfl) (by simp) ?_
                  refine AllReadyH.cons rfl (fun K hK => ?_) ?_
                  · have hp : x9.heap[p10]? = some (.cells (cellsOf zero32).toArray 23 (0, 0)) := by
                      have h := HZ10.out
                      have h := (HC9.out.block _ (lt_of_block h)).trans h
                      exact h
                    have hq : x9.heap[p11]? = some (.cells (cellsOf zero32).toArray 23 (0, 0)) := by
                      have h := HZ11.out
                      have h := (HB10.out.block _ (lt_of_block h)).trans h
                      have h := (HC9.out.block _ (lt_of_block h)).trans h
                      exact h
                    have HP2 := Lib.hid (pair_stores (d := x) (e := z) (show Below w5.heap.size w5 x9 from hHeld) hp hq HNE.out HGE10.out HGE11.out)
                    have HQ := Lib.hid ((setRow_other x9 p10 p11 (cellsOf x).toArray HNE.out.symm).trans hq)
                    have hb : Below w5.heap.size w5 x9 := hHeld
                    have b12 : Below w5.heap.size w5 (x9.setRow p10 (cellsOf x).toArray) := hb.trans (((but_setRow _ p10 _).mono hb.size).below HGE10.out)
                    have HB12 := Lib.hid b12
                    clear hq b12 hb
                    rw [if_pos (by rfl)]
                    refine wp_store_row 23 _ _ rfl p10 (cellsOf x).toArray rfl rfl 23 (cellsOf zero32).toArray hp SZX.out HZX.out (all_oneCell_toArray (cellsOf_one x)) ?_
                    clear hp
                    refine hK.out _ _ (by (try dsimp only); exact HB12.out) (fun hHeld => ?_)
                    clear hK K
                    refine wpAnyH_ready (rs := [13]) (by kernel_rfl) (by simp) ?_
                    refine AllReadyH.cons rfl (fun K hK => ?_) ?_
                    · rw [if_pos (by rfl)]
                      refine wp_store_row 23 _ _ rfl p11 (cellsOf z).toArray rfl rfl 23 (cellsOf zero32).toArray HQ.out SZZ.out HZZ.out (all_oneCell_toArray (cellsOf_one z)) ?_
                      refine hK.out _ _ (by (try dsimp only); exact HP2.out.below) (fun hHeld => ?_)
                      clear hK K
                      refine wpAnyH_done (by kernel_rfl) ?_ _
                      clear hHeld
                      go_wp2_with fail
                      go_meet
                      exact ⟨p10, p11, rfl, rfl, HP2.out⟩
                    exact AllReadyH.nil
                  exact AllReadyH.nil
                exact AllReadyH.nil
              exact AllReadyH.nil
            exact AllReadyH.nil
          refine AllReadyH.cons rfl (fun K hK => ?_) ?_
          · refine step_alloc_gen (d := 9) rfl (by rfl) 23 rfl zero32 Tryd.zeroSum ?_
            intro p10 y10 hg10 hz10 hb10
            have HZ10 := Lib.hid hz10
            have HB10 := Lib.hid hb10
            have HGE10 : Hid (w5.heap.size ≤ p10) := Lib.hid (Nat.le_trans (Below.size hHeld) hg10)
            clear hg10 hz10 hb10
            refine hK.out _ _ (by (try dsimp only); exact Below.trans hHeld (HB10.out.mono (Below.size hHeld))) (fun hHeld => ?_)
            clear hK K
            refine wpAnyH_ready (rs := [8, 11]) (by kernel_rfl) (by simp) ?_
            refine AllReadyH.cons rfl (fun K hK => ?_) ?_
            · go_simp
              go_wp2_with ((go_at_call 8; (with_reducible refine (HOTH.out _ (HK5.out.below hHeld)).mono ?_); rintro e x8 ⟨rfl, hb8⟩; have HC8 := Lib.hid hb8; clear hb8))
              refine hK.out _ _ (by (try dsimp only); exact Below.trans hHeld (HC8.out.mono (Below.size hHeld))) (fun hHeld => ?_)
              clear hK K
              refine wpAnyH_ready (rs := [9, 11]) (by kernel_rfl) (by simp) ?_
              refine AllReadyH.cons rfl (fun K hK => ?_) ?_
              · go_simp
                go_wp2_with ((go_at_call 9; (with_reducible refine (HSH.out _ (HK5.out.below hHeld)).mono ?_); rintro e x9 ⟨rfl, hb9⟩; have HC9 := Lib.hid hb9; clear hb9))
                refine hK.out _ _ (by (try dsimp only); exact Below.trans hHeld (HC9.out.mono (Below.size hHeld))) (fun hHeld => ?_)
                clear hK K
                refine wpAnyH_ready (rs := [11]) (by kernel_rfl) (by simp) ?_
                refine AllReadyH.cons rfl (fun K hK => ?_) ?_
                · refine step_alloc_gen (d := 10) rfl (by rfl) 23 rfl zero32 Tryd.zeroSum ?_
                  intro p11 y11 hg11 hz11 hb11
                  have HZ11 := Lib.hid hz11
                  have HB11 := Lib.hid hb11
                  have HGE11 : Hid (w5.heap.size ≤ p11) := Lib.hid (Nat.le_trans (Below.size hHeld) hg11)
                  have HNE : Hid (p10 ≠ p11) := Lib.hid (by
                    have h := HZ10.out
                    have h := (HC8.out.block _ (lt_of_block h)).trans h
                    have h := (HC9.out.block _ (lt_of_block h)).trans h
                    have := lt_of_block h
                    omega)
                  clear hg11 hz11 hb11
                  refine hK.out _ _ (by (try dsimp only); exact Below.trans hHeld (HB11.out.mono (Below.size hHeld))) (fun hHeld => ?_)
                  clear hK K
                  refine wpAnyH_ready (rs := [12]) (by kernel_rfl) (by simp) ?_
                  refine AllReadyH.cons rfl (fun K hK => ?_) ?_
                  · have hp : y11.heap[p10]? = some (.cells (cellsOf zero32).toArray 23 (0, 0)) := by
                      have h := HZ10.out
                      have h := (HC8.out.block _ (lt_of_block h)).trans h
                      have h := (HC9.out.block _ (lt_of_block h)).trans h
                      have h := (HB11.out.block _ (lt_of_block h)).trans h
                      exact h
                    have hq : y11.heap[p11]? = some (.cells (cellsOf zero32).toArray 23 (0, 0)) := by
                      have h := HZ11.out
                      exact h
                    have HP2 := Lib.hid (pair_stores (d := x) (e := z) (show Below w5.heap.size w5 y11 from hHeld) hp hq HNE.out HGE10.out HGE11.out)
                    have HQ := Lib.hid ((setRow_other y11 p10 p11 (cellsOf x).toArray HNE.out.symm).trans hq)
                    have hb : Below w5.heap.size w5 y11 := hHeld
                    have b12 : Below w5.heap.size w5 (y11.setRow p10 (cellsOf x).toArray) := hb.trans (((but_setRow _ p10 _).mono hb.size).below HGE10.out)
                    have HB12 := Lib.hid b12
                    clear hq b12 hb
                    rw [if_pos (by rfl)]
                    refine wp_store_row 23 _ _ rfl p10 (cellsOf x).toArray rfl rfl 23 (cellsOf zero32).toArray hp SZX.out HZX.out (all_oneCell_toArray (cellsOf_one x)) ?_
                    clear hp
                    refine hK.out _ _ (by (try dsimp only); exact HB12.out) (fun hHeld => ?_)
                    clear hK K
                    refine wpAnyH_ready (rs := [13]) (by kernel_rfl) (by simp) ?_
                    refine AllReadyH.cons rfl (fun K hK => ?_) ?_
                    · rw [if_pos (by rfl)]
                      refine wp_store_row 23 _ _ rfl p11 (cellsOf z).toArray rfl rfl 23 (cellsOf zero32).toArray HQ.out SZZ.out HZZ.out (all_oneCell_toArray (cellsOf_one z)) ?_
                      refine hK.out _ _ (by (try dsimp only); exact HP2.out.below) (fun hHeld => ?_)
                      clear hK K
                      refine wpAnyH_done (by kernel_rfl) ?_ _
                      clear hHeld
                      go_wp2_with fail
                      go_meet
                      exact ⟨p10, p11, rfl, rfl, HP2.out⟩
                    exact AllReadyH.nil
                  exact AllReadyH.nil
                exact AllReadyH.nil
              refine AllReadyH.cons rfl (fun K hK => ?_) ?_
              · refine step_alloc_gen (d := 10) rfl (by rfl) 23 rfl zero32 Tryd.zeroSum ?_
                intro p11 y11 hg11 hz11 hb11
                have HZ11 := Lib.hid hz11
                have HB11 := Lib.hid hb11
                have HGE11 : Hid (w5.heap.size ≤ p11) := Lib.hid (Nat.le_trans (Below.size hHeld) hg11)
                have HNE : Hid (p10 ≠ p11) := Lib.hid (by
                  have h := HZ10.out
                  have h := (HC8.out.block _ (lt_of_block h)).trans h
                  have := lt_of_block h
                  omega)
                clear hg11 hz11 hb11
                refine hK.out _ _ (by (try dsimp only); exact Below.trans hHeld (HB11.out.mono (Below.size hHeld))) (fun hHeld => ?_)
                clear hK K
                refine wpAnyH_ready (rs := [9]) (by kernel_rfl) (by simp) ?_
                refine AllReadyH.cons rfl (fun K hK => ?_) ?_
                · go_simp
                  go_wp2_with ((go_at_call 9; (with_reducible refine (HSH.out _ (HK5.out.below hHeld)).mono ?_); rintro e x9 ⟨rfl, hb9⟩; have HC9 := Lib.hid hb9; clear hb9))
                  refine hK.out _ _ (by (try dsimp only); exact Below.trans hHeld (HC9.out.mono (Below.size hHeld))) (fun hHeld => ?_)
                  clear hK K
                  refine wpAnyH_ready (rs := [12]) (by kernel_rfl) (by simp) ?_
                  refine AllReadyH.cons rfl (fun K hK => ?_) ?_
                  · have hp : x9.heap[p10]? = some (.cells (cellsOf zero32).toArray 23 (0, 0)) := by
                      have h := HZ10.out
                      have h := (HC8.out.block _ (lt_of_block h)).trans h
                      have h := (HB11.out.block _ (lt_of_block h)).trans h
                      have h := (HC9.out.block _ (lt_of_block h)).trans h
                      exact h
                    have hq : x9.heap[p11]? = some (.cells (cellsOf zero32).toArray 23 (0, 0)) := by
                      have h := HZ11.out
                      have h := (HC9.out.block _ (lt_of_block h)).trans h
                      exact h
                    have HP2 := Lib.hid (pair_stores (d := x) (e := z) (show Below w5.heap.size w5 x9 from hHeld) hp hq HNE.out HGE10.out HGE11.out)
                    have HQ := Lib.hid ((setRow_other x9 p10 p11 (cellsOf x).toArray HNE.out.symm).trans hq)
                    have hb : Below w5.heap.size w5 x9 := hHeld
                    have b12 : Below w5.heap.size w5 (x9.setRow p10 (cellsOf x).toArray) := hb.trans (((but_setRow _ p10 _).mono hb.size).below HGE10.out)
                    have HB12 := Lib.hid b12
                    clear hq b12 hb
                    rw [if_pos (by rfl)]
                    refine wp_store_row 23 _ _ rfl p10 (cellsOf x).toArray rfl rfl 23 (cellsOf zero32).toArray hp SZX.out HZX.out (all_oneCell_toArray (cellsOf_one x)) ?_
                    clear hp
                    refine hK.out _ _ (by (try dsimp only); exact HB12.out) (fun hHeld => ?_)
                    clear hK K
                    refine wpAnyH_ready (rs := [13]) (by kernel_rfl) (by simp) ?_
                    refine AllReadyH.cons rfl (fun K hK => ?_) ?_
                    · rw [if_pos (by rfl)]
                      refine wp_store_row 23 _ _ rfl p11 (cellsOf z).toArray rfl rfl 23 (cellsOf zero32).toArray HQ.out SZZ.out HZZ.out (all_oneCell_toArray (cellsOf_one z)) ?_
                      refine hK.out _ _ (by (try dsimp only); exact HP2.out.below) (fun hHeld => ?_)
                      clear hK K
                      refine wpAnyH_done (by kernel_rfl) ?_ _
                      clear hHeld
                      go_wp2_with fail
                      go_meet
                      exact ⟨p10, p11, rfl, rfl, HP2.out⟩
                    exact AllReadyH.nil
                  exact AllReadyH.nil
                exact AllReadyH.nil
              exact AllReadyH.nil
            refine AllReadyH.cons rfl (fun K hK => ?_) ?_
            · refine step_alloc_gen (d := 10) rfl (by rfl) 23 rfl zero32 Tryd.zeroSum ?_
              intro p11 y11 hg11 hz11 hb11
              have HZ11 := Lib.hid hz11
              have HB11 := Lib.hid hb11
              have HGE11 : Hid (w5.heap.size ≤ p11) := Lib.hid (Nat.le_trans (Below.size hHeld) hg11)
              have HNE : Hid (p10 ≠ p11) := Lib.hid (by
                have h := HZ10.out
                have := lt_of_block h
                omega)
              clear hg11 hz11 hb11
              refine hK.out _ _ (by (try dsimp only); exact Below.trans hHeld (HB11.out.mono (Below.size hHeld))) (fun hHeld => ?_)
              clear hK K
              refine wpAnyH_ready (rs := [8]) (by kernel_rfl) (by simp) ?_
              refine AllReadyH.cons rfl (fun K hK => ?_) ?_
              · go_simp
                go_wp2_with ((go_at_call 8; (with_reducible refine (HOTH.out _ (HK5.out.below hHeld)).mono ?_); rintro e x8 ⟨rfl, hb8⟩; have HC8 := Lib.hid hb8; clear hb8))
                refine hK.out _ _ (by (try dsimp only); exact Below.trans hHeld (HC8.out.mono (Below.size hHeld))) (fun hHeld => ?_)
                clear hK K
                refine wpAnyH_ready (rs := [9]) (by kernel_rfl) (by simp) ?_
                refine AllReadyH.cons rfl (fun K hK => ?_) ?_
                · go_simp
                  go_wp2_with ((go_at_call 9; (with_reducible refine (HSH.out _ (HK5.out.below hHeld)).mono ?_); rintro e x9 ⟨rfl, hb9⟩; have HC9 := Lib.hid hb9; clear hb9))
                  refine hK.out _ _ (by (try dsimp only); exact Below.trans hHeld (HC9.out.mono (Below.size hHeld))) (fun hHeld => ?_)
                  clear hK K
                  refine wpAnyH_ready (rs := [12]) (by kernel_rfl) (by simp) ?_
                  refine AllReadyH.cons rfl (fun K hK => ?_) ?_
                  · have hp : x9.heap[p10]? = some (.cells (cellsOf zero32).toArray 23 (0, 0)) := by
                      have h := HZ10.out
                      have h := (HB11.out.block _ (lt_of_block h)).trans h
                      have h := (HC8.out.block _ (lt_of_block h)).trans h
                      have h := (HC9.out.block _ (lt_of_block h)).trans h
                      exact h
                    have hq : x9.heap[p11]? = some (.cells (cellsOf zero32).toArray 23 (0, 0)) := by
                      have h := HZ11.out
                      have h := (HC8.out.block _ (lt_of_block h)).trans h
                      have h := (HC9.out.block _ (lt_of_block h)).trans h
                      exact h
                    have HP2 := Lib.hid (pair_stores (d := x) (e := z) (show Below w5.heap.size w5 x9 from hHeld) hp hq HNE.out HGE10.out HGE11.out)
                    have HQ := Lib.hid ((setRow_other x9 p10 p11 (cellsOf x).toArray HNE.out.symm).trans hq)
                    have hb : Below w5.heap.size w5 x9 := hHeld
                    have b12 : Below w5.heap.size w5 (x9.setRow p10 (cellsOf x).toArray) := hb.trans (((but_setRow _ p10 _).mono hb.size).below HGE10.out)
                    have HB12 := Lib.hid b12
                    clear hq b12 hb
                    rw [if_pos (by rfl)]
                    refine wp_store_row 23 _ _ rfl p10 (cellsOf x).toArray rfl rfl 23 (cellsOf zero32).toArray hp SZX.out HZX.out (all_oneCell_toArray (cellsOf_one x)) ?_
                    clear hp
                    refine hK.out _ _ (by (try dsimp only); exact HB12.out) (fun hHeld => ?_)
                    clear hK K
                    refine wpAnyH_ready (rs := [13]) (by kernel_rfl) (by simp) ?_
                    refine AllReadyH.cons rfl (fun K hK => ?_) ?_
                    · rw [if_pos (by rfl)]
                      refine wp_store_row 23 _ _ rfl p11 (cellsOf z).toArray rfl rfl 23 (cellsOf zero32).toArray HQ.out SZZ.out HZZ.out (all_oneCell_toArray (cellsOf_one z)) ?_
                      refine hK.out _ _ (by (try dsimp only); exact HP2.out.below) (fun hHeld => ?_)
                      clear hK K
                      refine wpAnyH_done (by kernel_rfl) ?_ _
                      clear hHeld
                      go_wp2_with fail
                      go_meet
                      exact ⟨p10, p11, rfl, rfl, HP2.out⟩
                    exact AllReadyH.nil
                  exact AllReadyH.nil
                exact AllReadyH.nil
              exact AllReadyH.nil
            exact AllReadyH.nil
          refine AllReadyH.cons rfl (fun K hK => ?_) ?_
          · refine step_alloc_gen (d := 10) rfl (by rfl) 23 rfl zero32 Tryd.zeroSum ?_
            intro p11 y11 hg11 hz11 hb11
            have HZ11 := Lib.hid hz11
            have HB11 := Lib.hid hb11
            have HGE11 : Hid (w5.heap.size ≤ p11) := Lib.hid (Nat.le_trans (Below.size hHeld) hg11)
            clear hg11 hz11 hb11
            refine hK.out _ _ (by (try dsimp only); exact Below.trans hHeld (HB11.out.mono (Below.size hHeld))) (fun hHeld => ?_)
            clear hK K
            refine wpAnyH_ready (rs := [8, 10]) (by kernel_rfl) (by simp) ?_
            refine AllReadyH.cons rfl (fun K hK => ?_) ?_
            · go_simp
              go_wp2_with ((go_at_call 8; (with_reducible refine (HOTH.out _ (HK5.out.below hHeld)).mono ?_); rintro e x8 ⟨rfl, hb8⟩; have HC8 := Lib.hid hb8; clear hb8))
              refine hK.out _ _ (by (try dsimp only); exact Below.trans hHeld (HC8.out.mono (Below.size hHeld))) (fun hHeld => ?_)
              clear hK K
              refine wpAnyH_ready (rs := [9, 10]) (by kernel_rfl) (by simp) ?_
              refine AllReadyH.cons rfl (fun K hK => ?_) ?_
              · go_simp
                go_wp2_with ((go_at_call 9; (with_reducible refine (HSH.out _ (HK5.out.below hHeld)).mono ?_); rintro e x9 ⟨rfl, hb9⟩; have HC9 := Lib.hid hb9; clear hb9))
                refine hK.out _ _ (by (try dsimp only); exact Below.trans hHeld (HC9.out.mono (Below.size hHeld))) (fun hHeld => ?_)
                clear hK K
                refine wpAnyH_ready (rs := [10]) (by kernel_rfl) (by simp) ?_
                refine AllReadyH.cons rfl (fun K hK => ?_) ?_
                · refine step_alloc_gen (d := 9) rfl (by rfl) 23 rfl zero32 Tryd.zeroSum ?_
                  intro p10 y10 hg10 hz10 hb10
                  have HZ10 := Lib.hid hz10
                  have HB10 := Lib.hid hb10
                  have HGE10 : Hid (w5.heap.size ≤ p10) := Lib.hid (Nat.le_trans (Below.size hHeld) hg10)
                  have HNE : Hid (p10 ≠ p11) := Lib.hid (by
                    have h := HZ11.out
                    have h := (HC8.out.block _ (lt_of_block h)).trans h
                    have h := (HC9.out.block _ (lt_of_block h)).trans h
                    have := lt_of_block h
                    omega)
                  clear hg10 hz10 hb10
                  refine hK.out _ _ (by (try dsimp only); exact Below.trans hHeld (HB10.out.mono (Below.size hHeld))) (fun hHeld => ?_)
                  clear hK K
                  refine wpAnyH_ready (rs := [12]) (by kernel_rfl) (by simp) ?_
                  refine AllReadyH.cons rfl (fun K hK => ?_) ?_
                  · have hp : y10.heap[p10]? = some (.cells (cellsOf zero32).toArray 23 (0, 0)) := by
                      have h := HZ10.out
                      exact h
                    have hq : y10.heap[p11]? = some (.cells (cellsOf zero32).toArray 23 (0, 0)) := by
                      have h := HZ11.out
                      have h := (HC8.out.block _ (lt_of_block h)).trans h
                      have h := (HC9.out.block _ (lt_of_block h)).trans h
                      have h := (HB10.out.block _ (lt_of_block h)).trans h
                      exact h
                    have HP2 := Lib.hid (pair_stores (d := x) (e := z) (show Below w5.heap.size w5 y10 from hHeld) hp hq HNE.out HGE10.out HGE11.out)
                    have HQ := Lib.hid ((setRow_other y10 p10 p11 (cellsOf x).toArray HNE.out.symm).trans hq)
                    have hb : Below w5.heap.size w5 y10 := hHeld
                    have b12 : Below w5.heap.size w5 (y10.setRow p10 (cellsOf x).toArray) := hb.trans (((but_setRow _ p10 _).mono hb.size).below HGE10.out)
                    have HB12 := Lib.hid b12
                    clear hq b12 hb
                    rw [if_pos (by rfl)]
                    refine wp_store_row 23 _ _ rfl p10 (cellsOf x).toArray rfl rfl 23 (cellsOf zero32).toArray hp SZX.out HZX.out (all_oneCell_toArray (cellsOf_one x)) ?_
                    clear hp
                    refine hK.out _ _ (by (try dsimp only); exact HB12.out) (fun hHeld => ?_)
                    clear hK K
                    refine wpAnyH_ready (rs := [13]) (by kernel_rfl) (by simp) ?_
                    refine AllReadyH.cons rfl (fun K hK => ?_) ?_
                    · rw [if_pos (by rfl)]
                      refine wp_store_row 23 _ _ rfl p11 (cellsOf z).toArray rfl rfl 23 (cellsOf zero32).toArray HQ.out SZZ.out HZZ.out (all_oneCell_toArray (cellsOf_one z)) ?_
                      refine hK.out _ _ (by (try dsimp only); exact HP2.out.below) (fun hHeld => ?_)
                      clear hK K
                      refine wpAnyH_done (by kernel_rfl) ?_ _
                      clear hHeld
                      go_wp2_with fail
                      go_meet
                      exact ⟨p10, p11, rfl, rfl, HP2.out⟩
                    exact AllReadyH.nil
                  exact AllReadyH.nil
                exact AllReadyH.nil
              refine AllReadyH.cons rfl (fun K hK => ?_) ?_
              · refine step_alloc_gen (d := 9) rfl (by rfl) 23 rfl zero32 Tryd.zeroSum ?_
                intro p10 y10 hg10 hz10 hb10
                have HZ10 := Lib.hid hz10
                have HB10 := Lib.hid hb10
                have HGE10 : Hid (w5.heap.size ≤ p10) := Lib.hid (Nat.le_trans (Below.size hHeld) hg10)
                have HNE : Hid (p10 ≠ p11) := Lib.hid (by
                  have h := HZ11.out
                  have h := (HC8.out.block _ (lt_of_block h)).trans h
                  have := lt_of_block h
                  omega)
                clear hg10 hz10 hb10
                refine hK.out _ _ (by (try dsimp only); exact Below.trans hHeld (HB10.out.mono (Below.size hHeld))) (fun hHeld => ?_)
                clear hK K
                refine wpAnyH_ready (rs := [9]) (by kernel_rfl) (by simp) ?_
                refine AllReadyH.cons rfl (fun K hK => ?_) ?_
                · go_simp
                  go_wp2_with ((go_at_call 9; (with_reducible refine (HSH.out _ (HK5.out.below hHeld)).mono ?_); rintro e x9 ⟨rfl, hb9⟩; have HC9 := Lib.hid hb9; clear hb9))
                  refine hK.out _ _ (by (try dsimp only); exact Below.trans hHeld (HC9.out.mono (Below.size hHeld))) (fun hHeld => ?_)
                  clear hK K
                  refine wpAnyH_ready (rs := [12]) (by kernel_rfl) (by simp) ?_
                  refine AllReadyH.cons rfl (fun K hK => ?_) ?_
                  · have hp : x9.heap[p10]? = some (.cells (cellsOf zero32).toArray 23 (0, 0)) := by
                      have h := HZ10.out
                      have h := (HC9.out.block _ (lt_of_block h)).trans h
                      exact h
                    have hq : x9.heap[p11]? = some (.cells (cellsOf zero32).toArray 23 (0, 0)) := by
                      have h := HZ11.out
                      have h := (HC8.out.block _ (lt_of_block h)).trans h
                      have h := (HB10.out.block _ (lt_of_block h)).trans h
                      have h := (HC9.out.block _ (lt_of_block h)).trans h
                      exact h
                    have HP2 := Lib.hid (pair_stores (d := x) (e := z) (show Below w5.heap.size w5 x9 from hHeld) hp hq HNE.out HGE10.out HGE11.out)
                    have HQ := Lib.hid ((setRow_other x9 p10 p11 (cellsOf x).toArray HNE.out.symm).trans hq)
                    have hb : Below w5.heap.size w5 x9 := hHeld
                    have b12 : Below w5.heap.size w5 (x9.setRow p10 (cellsOf x).toArray) := hb.trans (((but_setRow _ p10 _).mono hb.size).below HGE10.out)
                    have HB12 := Lib.hid b12
                    clear hq b12 hb
                    rw [if_pos (by rfl)]
                    refine wp_store_row 23 _ _ rfl p10 (cellsOf x).toArray rfl rfl 23 (cellsOf zero32).toArray hp SZX.out HZX.out (all_oneCell_toArray (cellsOf_one x)) ?_
                    clear hp
                    refine hK.out _ _ (by (try dsimp only); exact HB12.out) (fun hHeld => ?_)
                    clear hK K
                    refine wpAnyH_ready (rs := [13]) (by kernel_rfl) (by simp) ?_
                    refine AllReadyH.cons rfl (fun K hK => ?_) ?_
                    · rw [if_pos (by rfl)]
                      refine wp_store_row 23 _ _ rfl p11 (cellsOf z).toArray rfl rfl 23 (cellsOf zero32).toArray HQ.out SZZ.out HZZ.out (all_oneCell_toArray (cellsOf_one z)) ?_
                      refine hK.out _ _ (by (try dsimp only); exact HP2.out.below) (fun hHeld => ?_)
                      clear hK K
                      refine wpAnyH_done (by kernel_rfl) ?_ _
                      clear hHeld
                      go_wp2_with fail
                      go_meet
                      exact ⟨p10, p11, rfl, rfl, HP2.out⟩
                    exact AllReadyH.nil
                  exact AllReadyH.nil
                exact AllReadyH.nil
              exact AllReadyH.nil
            refine AllReadyH.cons rfl (fun K hK => ?_) ?_
            · refine step_alloc_gen (d := 9) rfl (by rfl) 23 rfl zero32 Tryd.zeroSum ?_
              intro p10 y10 hg10 hz10 hb10
              have HZ10 := Lib.hid hz10
              have HB10 := Lib.hid hb10
              have HGE10 : Hid (w5.heap.size ≤ p10) := Lib.hid (Nat.le_trans (Below.size hHeld) hg10)
              have HNE : Hid (p10 ≠ p11) := Lib.hid (by
                have h := HZ11.out
                have := lt_of_block h
                omega)
              clear hg10 hz10 hb10
              refine hK.out _ _ (by (try dsimp only); exact Below.trans hHeld (HB10.out.mono (Below.size hHeld))) (fun hHeld => ?_)
              clear hK K
              refine wpAnyH_ready (rs := [8]) (by kernel_rfl) (by simp) ?_
              refine AllReadyH.cons rfl (fun K hK => ?_) ?_
              · go_simp
                go_wp2_with ((go_at_call 8; (with_reducible refine (HOTH.out _ (HK5.out.below hHeld)).mono ?_); rintro e x8 ⟨rfl, hb8⟩; have HC8 := Lib.hid hb8; clear hb8))
                refine hK.out _ _ (by (try dsimp only); exact Below.trans hHeld (HC8.out.mono (Below.size hHeld))) (fun hHeld => ?_)
                clear hK K
                refine wpAnyH_ready (rs := [9]) (by kernel_rfl) (by simp) ?_
                refine AllReadyH.cons rfl (fun K hK => ?_) ?_
                · go_simp
                  go_wp2_with ((go_at_call 9; (with_reducible refine (HSH.out _ (HK5.out.below hHeld)).mono ?_); rintro e x9 ⟨rfl, hb9⟩; have HC9 := Lib.hid hb9; clear hb9))
                  refine hK.out _ _ (by (try dsimp only); exact Below.trans hHeld (HC9.out.mono (Below.size hHeld))) (fun hHeld => ?_)
                  clear hK K
                  refine wpAnyH_ready (rs := [12]) (by kernel_rfl) (by simp) ?_
                  refine AllReadyH.cons rfl (fun K hK => ?_) ?_
                  · have hp : x9.heap[p10]? = some (.cells (cellsOf zero32).toArray 23 (0, 0)) := by
                      have h := HZ10.out
                      have h := (HC8.out.block _ (lt_of_block h)).trans h
                      have h := (HC9.out.block _ (lt_of_block h)).trans h
                      exact h
                    have hq : x9.heap[p11]? = some (.cells (cellsOf zero32).toArray 23 (0, 0)) := by
                      have h := HZ11.out
                      have h := (HB10.out.block _ (lt_of_block h)).trans h
                      have h := (HC8.out.block _ (lt_of_block h)).trans h
                      have h := (HC9.out.block _ (lt_of_block h)).trans h
                      exact h
                    have HP2 := Lib.hid (pair_stores (d := x) (e := z) (show Below w5.heap.size w5 x9 from hHeld) hp hq HNE.out HGE10.out HGE11.out)
                    have HQ := Lib.hid ((setRow_other x9 p10 p11 (cellsOf x).toArray HNE.out.symm).trans hq)
                    have hb : Below w5.heap.size w5 x9 := hHeld
                    have b12 : Below w5.heap.size w5 (x9.setRow p10 (cellsOf x).toArray) := hb.trans (((but_setRow _ p10 _).mono hb.size).below HGE10.out)
                    have HB12 := Lib.hid b12
                    clear hq b12 hb
                    rw [if_pos (by rfl)]
                    refine wp_store_row 23 _ _ rfl p10 (cellsOf x).toArray rfl rfl 23 (cellsOf zero32).toArray hp SZX.out HZX.out (all_oneCell_toArray (cellsOf_one x)) ?_
                    clear hp
                    refine hK.out _ _ (by (try dsimp only); exact HB12.out) (fun hHeld => ?_)
                    clear hK K
                    refine wpAnyH_ready (rs := [13]) (by kernel_rfl) (by simp) ?_
                    refine AllReadyH.cons rfl (fun K hK => ?_) ?_
                    · rw [if_pos (by rfl)]
                      refine wp_store_row 23 _ _ rfl p11 (cellsOf z).toArray rfl rfl 23 (cellsOf zero32).toArray HQ.out SZZ.out HZZ.out (all_oneCell_toArray (cellsOf_one z)) ?_
                      refine hK.out _ _ (by (try dsimp only); exact HP2.out.below) (fun hHeld => ?_)
                      clear hK K
                      refine wpAnyH_done (by kernel_rfl) ?_ _
                      clear hHeld
                      go_wp2_with fail
                      go_meet
                      exact ⟨p10, p11, rfl, rfl, HP2.out⟩
                    exact AllReadyH.nil
                  exact AllReadyH.nil
                exact AllReadyH.nil
              exact AllReadyH.nil
            exact AllReadyH.nil
          exact AllReadyH.nil
        refine AllReadyH.cons rfl (fun K hK => ?_) ?_
        · refine step_alloc_gen (d := 9) rfl (by rfl) 23 rfl zero32 Tryd.zeroSum ?_
          intro p10 y10 hg10 hz10 hb10
          have HZ10 := Lib.hid hz10
          have HB10 := Lib.hid hb10
          have HGE10 : Hid (w5.heap.size ≤ p10) := Lib.hid (Nat.le_trans (Below.size hHeld) hg10)
          clear hg10 hz10 hb10
          refine hK.out _ _ (by (try dsimp only); exact Below.trans hHeld (HB10.out.mono (Below.size hHeld))) (fun hHeld => ?_)
          clear hK K
          refine wpAnyH_ready (rs := [3, 11]) (by kernel_rfl) (by simp) ?_
          refine AllReadyH.cons rfl (fun K hK => ?_) ?_
          · go_simp
            go_wp2_with ((go_at_call 8; (with_reducible refine (HSEC.out _ (HK5.out.below hHeld)).mono ?_); rintro e x3 ⟨rfl, hb3⟩; have HC3 := Lib.hid hb3; clear hb3))
            refine hK.out _ _ (by (try dsimp only); exact Below.trans hHeld (HC3.out.mono (Below.size hHeld))) (fun hHeld => ?_)
            clear hK K
            refine wpAnyH_ready (rs := [8, 11]) (by kernel_rfl) (by simp) ?_
            refine AllReadyH.cons rfl (fun K hK => ?_) ?_
            · go_simp
              go_wp2_with ((go_at_call 8; (with_reducible refine (HOTH.out _ (HK5.out.below hHeld)).mono ?_); rintro e x8 ⟨rfl, hb8⟩; have HC8 := Lib.hid hb8; clear hb8))
              refine hK.out _ _ (by (try dsimp only); exact Below.trans hHeld (HC8.out.mono (Below.size hHeld))) (fun hHeld => ?_)
              clear hK K
              refine wpAnyH_ready (rs := [9, 11]) (by kernel_rfl) (by simp) ?_
              refine AllReadyH.cons rfl (fun K hK => ?_) ?_
              · go_simp
                go_wp2_with ((go_at_call 9; (with_reducible refine (HSH.out _ (HK5.out.below hHeld)).mono ?_); rintro e x9 ⟨rfl, hb9⟩; have HC9 := Lib.hid hb9; clear hb9))
                refine hK.out _ _ (by (try dsimp only); exact Below.trans hHeld (HC9.out.mono (Below.size hHeld))) (fun hHeld => ?_)
                clear hK K
                refine wpAnyH_ready (rs := [11]) (by kernel_rfl) (by simp) ?_
                refine AllReadyH.cons rfl (fun K hK => ?_) ?_
                · refine step_alloc_gen (d := 10) rfl (by rfl) 23 rfl zero32 Tryd.zeroSum ?_
                  intro p11 y11 hg11 hz11 hb11
                  have HZ11 := Lib.hid hz11
                  have HB11 := Lib.hid hb11
                  have HGE11 : Hid (w5.heap.size ≤ p11) := Lib.hid (Nat.le_trans (Below.size hHeld) hg11)
                  have HNE : Hid (p10 ≠ p11) := Lib.hid (by
                    have h := HZ10.out
                    have h := (HC3.out.block _ (lt_of_block h)).trans h
                    have h := (HC8.out.block _ (lt_of_block h)).trans h
                    have h := (HC9.out.block _ (lt_of_block h)).trans h
                    have := lt_of_block h
                    omega)
                  clear hg11 hz11 hb11
                  refine hK.out _ _ (by (try dsimp only); exact Below.trans hHeld (HB11.out.mono (Below.size hHeld))) (fun hHeld => ?_)
                  clear hK K
                  refine wpAnyH_ready (rs := [12]) (by kernel_rfl) (by simp) ?_
                  refine AllReadyH.cons rfl (fun K hK => ?_) ?_
                  · have hp : y11.heap[p10]? = some (.cells (cellsOf zero32).toArray 23 (0, 0)) := by
                      have h := HZ10.out
                      have h := (HC3.out.block _ (lt_of_block h)).trans h
                      have h := (HC8.out.block _ (lt_of_block h)).trans h
                      have h := (HC9.out.block _ (lt_of_block h)).trans h
                      have h := (HB11.out.block _ (lt_of_block h)).trans h
                      exact h
                    have hq : y11.heap[p11]? = some (.cells (cellsOf zero32).toArray 23 (0, 0)) := by
                      have h := HZ11.out
                      exact h
                    have HP2 := Lib.hid (pair_stores (d := x) (e := z) (show Below w5.heap.size w5 y11 from hHeld) hp hq HNE.out HGE10.out HGE11.out)
                    have HQ := Lib.hid ((setRow_other y11 p10 p11 (cellsOf x).toArray HNE.out.symm).trans hq)
                    have hb : Below w5.heap.size w5 y11 := hHeld
                    have b12 : Below w5.heap.size w5 (y11.setRow p10 (cellsOf x).toArray) := hb.trans (((but_setRow _ p10 _).mono hb.size).below HGE10.out)
                    have HB12 := Lib.hid b12
                    clear hq b12 hb
                    rw [if_pos (by rfl)]
                    refine wp_store_row 23 _ _ rfl p10 (cellsOf x).toArray rfl rfl 23 (cellsOf zero32).toArray hp SZX.out HZX.out (all_oneCell_toArray (cellsOf_one x)) ?_
                    clear hp
                    refine hK.out _ _ (by (try dsimp only); exact HB12.out) (fun hHeld => ?_)
                    clear hK K
                    refine wpAnyH_ready (rs := [13]) (by kernel_rfl) (by simp) ?_
                    refine AllReadyH.cons rfl (fun K hK => ?_) ?_
                    · rw [if_pos (by rfl)]
                      refine wp_store_row 23 _ _ rfl p11 (cellsOf z).toArray rfl rfl 23 (cellsOf zero32).toArray HQ.out SZZ.out HZZ.out (all_oneCell_toArray (cellsOf_one z)) ?_
                      refine hK.out _ _ (by (try dsimp only); exact HP2.out.below) (fun hHeld => ?_)
                      clear hK K
                      refine wpAnyH_done (by kernel_rfl) ?_ _
                      clear hHeld
                      go_wp2_with fail
                      go_meet
                      exact ⟨p10, p11, rfl, rfl, HP2.out⟩
                    exact AllReadyH.nil
                  exact AllReadyH.nil
                exact AllReadyH.nil
              refine AllReadyH.cons rfl (fun K hK => ?_) ?_
              · refine step_alloc_gen (d := 10) rfl (by rfl) 23 rfl zero32 Tryd.zeroSum ?_
                intro p11 y11 hg11 hz11 hb11
                have HZ11 := Lib.hid hz11
                have HB11 := Lib.hid hb11
                have HGE11 : Hid (w5.heap.size ≤ p11) := Lib.hid (Nat.le_trans (Below.size hHeld) hg11)
                have HNE : Hid (p10 ≠ p11) := Lib.hid (by
                  have h := HZ10.out
                  have h := (HC3.out.block _ (lt_of_block h)).trans h
                  have h := (HC8.out.block _ (lt_of_block h)).trans h
                  have := lt_of_block h
                  omega)
                clear hg11 hz11 hb11
                refine hK.out _ _ (by (try dsimp only); exact Below.trans hHeld (HB11.out.mono (Below.size hHeld))) (fun hHeld => ?_)
                clear hK K
                refine wpAnyH_ready (rs := [9]) (by kernel_rfl) (by simp) ?_
                refine AllReadyH.cons rfl (fun K hK => ?_) ?_
                · go_simp
                  go_wp2_with ((go_at_call 9; (with_reducible refine (HSH.out _ (HK5.out.below hHeld)).mono ?_); rintro e x9 ⟨rfl, hb9⟩; have HC9 := Lib.hid hb9; clear hb9))
                  refine hK.out _ _ (by (try dsimp only); exact Below.trans hHeld (HC9.out.mono (Below.size hHeld))) (fun hHeld => ?_)
                  clear hK K
                  refine wpAnyH_ready (rs := [12]) (by kernel_rfl) (by simp) ?_
                  refine AllReadyH.cons rfl (fun K hK => ?_) ?_
                  · have hp : x9.heap[p10]? = some (.cells (cellsOf zero32).toArray 23 (0, 0)) := by
                      have h := HZ10.out
                      have h := (HC3.out.block _ (lt_of_block h)).trans h
                      have h := (HC8.out.block _ (lt_of_block h)).trans h
                      have h := (HB11.out.block _ (lt_of_block h)).trans h
                      have h := (HC9.out.block _ (lt_of_block h)).trans h
                      exact h
                    have hq : x9.heap[p11]? = some (.cells (cellsOf zero32).toArray 23 (0, 0)) := by
                      have h := HZ11.out
                      have h := (HC9.out.block _ (lt_of_block h)).trans h
                      exact h
                    have HP2 := Lib.hid (pair_stores (d := x) (e := z) (show Below w5.heap.size w5 x9 from hHeld) hp hq HNE.out HGE10.out HGE11.out)
                    have HQ := Lib.hid ((setRow_other x9 p10 p11 (cellsOf x).toArray HNE.out.symm).trans hq)
                    have hb : Below w5.heap.size w5 x9 := hHeld
                    have b12 : Below w5.heap.size w5 (x9.setRow p10 (cellsOf x).toArray) := hb.trans (((but_setRow _ p10 _).mono hb.size).below HGE10.out)
                    have HB12 := Lib.hid b12
                    clear hq b12 hb
                    rw [if_pos (by rfl)]
                    refine wp_store_row 23 _ _ rfl p10 (cellsOf x).toArray rfl rfl 23 (cellsOf zero32).toArray hp SZX.out HZX.out (all_oneCell_toArray (cellsOf_one x)) ?_
                    clear hp
                    refine hK.out _ _ (by (try dsimp only); exact HB12.out) (fun hHeld => ?_)
                    clear hK K
                    refine wpAnyH_ready (rs := [13]) (by kernel_rfl) (by simp) ?_
                    refine AllReadyH.cons rfl (fun K hK => ?_) ?_
                    · rw [if_pos (by rfl)]
                      refine wp_store_row 23 _ _ rfl p11 (cellsOf z).toArray rfl rfl 23 (cellsOf zero32).toArray HQ.out SZZ.out HZZ.out (all_oneCell_toArray (cellsOf_one z)) ?_
                      refine hK.out _ _ (by (try dsimp only); exact HP2.out.below) (fun hHeld => ?_)
                      clear hK K
                      refine wpAnyH_done (by kernel_rfl) ?_ _
                      clear hHeld
                      go_wp2_with fail
                      go_meet
                      exact ⟨p10, p11, rfl, rfl, HP2.out⟩
                    exact AllReadyH.nil
                  exact AllReadyH.nil
                exact AllReadyH.nil
              exact AllReadyH.nil
            refine AllReadyH.cons rfl (fun K hK => ?_) ?_
            · refine step_alloc_gen (d := 10) rfl (by rfl) 23 rfl zero32 Tryd.zeroSum ?_
              intro p11 y11 hg11 hz11 hb11
              have HZ11 := Lib.hid hz11
              have HB11 := Lib.hid hb11
              have HGE11 : Hid (w5.heap.size ≤ p11) := Lib.hid (Nat.le_trans (Below.size hHeld) hg11)
              have HNE : Hid (p10 ≠ p11) := Lib.hid (by
                have h := HZ10.out
                have h := (HC3.out.block _ (lt_of_block h)).trans h
                have := lt_of_block h
                omega)
              clear hg11 hz11 hb11
              refine hK.out _ _ (by (try dsimp only); exact Below.trans hHeld (HB11.out.mono (Below.size hHeld))) (fun hHeld => ?_)
              clear hK K
              refine wpAnyH_ready (rs := [8]) (by kernel_rfl) (by simp) ?_
              refine AllReadyH.cons rfl (fun K hK => ?_) ?_
              · go_simp
                go_wp2_with ((go_at_call 8; (with_reducible refine (HOTH.out _ (HK5.out.below hHeld)).mono ?_); rintro e x8 ⟨rfl, hb8⟩; have HC8 := Lib.hid hb8; clear hb8))
                refine hK.out _ _ (by (try dsimp only); exact Below.trans hHeld (HC8.out.mono (Below.size hHeld))) (fun hHeld => ?_)
                clear hK K
                refine wpAnyH_ready (rs := [9]) (by kernel_rfl) (by simp) ?_
                refine AllReadyH.cons rfl (fun K hK => ?_) ?_
                · go_simp
                  go_wp2_with ((go_at_call 9; (with_reducible refine (HSH.out _ (HK5.out.below hHeld)).mono ?_); rintro e x9 ⟨rfl, hb9⟩; have HC9 := Lib.hid hb9; clear hb9))
                  refine hK.out _ _ (by (try dsimp only); exact Below.trans hHeld (HC9.out.mono (Below.size hHeld))) (fun hHeld => ?_)
                  clear hK K
                  refine wpAnyH_ready (rs := [12]) (by kernel_rfl) (by simp) ?_
                  refine AllReadyH.cons rfl (fun K hK => ?_) ?_
                  · have hp : x9.heap[p10]? = some (.cells (cellsOf zero32).toArray 23 (0, 0)) := by
                      have h := HZ10.out
                      have h := (HC3.out.block _ (lt_of_block h)).trans h
                      have h := (HB11.out.block _ (lt_of_block h)).trans h
                      have h := (HC8.out.block _ (lt_of_block h)).trans h
                      have h := (HC9.out.block _ (lt_of_block h)).trans h
                      exact h
                    have hq : x9.heap[p11]? = some (.cells (cellsOf zero32).toArray 23 (0, 0)) := by
                      have h := HZ11.out
                      have h := (HC8.out.block _ (lt_of_block h)).trans h
                      have h := (HC9.out.block _ (lt_of_block h)).trans h
                      exact h
                    have HP2 := Lib.hid (pair_stores (d := x) (e := z) (show Below w5.heap.size w5 x9 from hHeld) hp hq HNE.out HGE10.out HGE11.out)
                    have HQ := Lib.hid ((setRow_other x9 p10 p11 (cellsOf x).toArray HNE.out.symm).trans hq)
                    have hb : Below w5.heap.size w5 x9 := hHeld
                    have b12 : Below w5.heap.size w5 (x9.setRow p10 (cellsOf x).toArray) := hb.trans (((but_setRow _ p10 _).mono hb.size).below HGE10.out)
                    have HB12 := Lib.hid b12
                    clear hq b12 hb
                    rw [if_pos (by rfl)]
                    refine wp_store_row 23 _ _ rfl p10 (cellsOf x).toArray rfl rfl 23 (cellsOf zero32).toArray hp SZX.out HZX.out (all_oneCell_toArray (cellsOf_one x)) ?_
                    clear hp
                    refine hK.out _ _ (by (try dsimp only); exact HB12.out) (fun hHeld => ?_)
                    clear hK K
                    refine wpAnyH_ready (rs := [13]) (by kernel_rfl) (by simp) ?_
                    refine AllReadyH.cons rfl (fun K hK => ?_) ?_
                    · rw [if_pos (by rfl)]
                      refine wp_store_row 23 _ _ rfl p11 (cellsOf z).toArray rfl rfl 23 (cellsOf zero32).toArray HQ.out SZZ.out HZZ.out (all_oneCell_toArray (cellsOf_one z)) ?_
                      refine hK.out _ _ (by (try dsimp only); exact HP2.out.below) (fun hHeld => ?_)
                      clear hK K
                      refine wpAnyH_done (by kernel_rfl) ?_ _
                      clear hHeld
                      go_wp2_with fail
                      go_meet
                      exact ⟨p10, p11, rfl, rfl, HP2.out⟩
                    exact AllReadyH.nil
                  exact AllReadyH.nil
                exact AllReadyH.nil
              exact AllReadyH.nil
            exact AllReadyH.nil
          refine AllReadyH.cons rfl (fun K hK => ?_) ?_
          · refine step_alloc_gen (d := 10) rfl (by rfl) 23 rfl zero32 Tryd.zeroSum ?_
            intro p11 y11 hg11 hz11 hb11
            have HZ11 := Lib.hid hz11
            have HB11 := Lib.hid hb11
            have HGE11 : Hid (w5.heap.size ≤ p11) := Lib.hid (Nat.le_trans (Below.size hHeld) hg11)
            have HNE : Hid (p10 ≠ p11) := Lib.hid (by
              have h := HZ10.out
              have := lt_of_block h
              omega)
            clear hg11 hz11 hb11
            refine hK.out _ _ (by (try dsimp only); exact Below.trans hHeld (HB11.out.mono (Below.size hHeld))) (fun hHeld => ?_)
            clear hK K
            refine wpAnyH_ready (rs := [3]) (by kernel_rfl) (by simp) ?_
            refine AllReadyH.cons rfl (fun K hK => ?_) ?_
            · go_simp
              go_wp2_with ((go_at_call 8; (with_reducible refine (HSEC.out _ (HK5.out.below hHeld)).mono ?_); rintro e x3 ⟨rfl, hb3⟩; have HC3 := Lib.hid hb3; clear hb3))
              refine hK.out _ _ (by (try dsimp only); exact Below.trans hHeld (HC3.out.mono (Below.size hHeld))) (fun hHeld => ?_)
              clear hK K
              refine wpAnyH_ready (rs := [8]) (by kernel_rfl) (by simp) ?_
              refine AllReadyH.cons rfl (fun K hK => ?_) ?_
              · go_simp
                go_wp2_with ((go_at_call 8; (with_reducible refine (HOTH.out _ (HK5.out.below hHeld)).mono ?_); rintro e x8 ⟨rfl, hb8⟩; have HC8 := Lib.hid hb8; clear hb8))
                refine hK.out _ _ (by (try dsimp only); exact Below.trans hHeld (HC8.out.mono (Below.size hHeld))) (fun hHeld => ?_)
                clear hK K
                refine wpAnyH_ready (rs := [9]) (by kernel_rfl) (by simp) ?_
                refine AllReadyH.cons rfl (fun K hK => ?_) ?_
                · go_simp
                  go_wp2_with ((go_at_call 9; (with_reducible refine (HSH.out _ (HK5.out.below hHeld)).mono ?_); rintro e x9 ⟨rfl, hb9⟩; have HC9 := Lib.hid hb9; clear hb9))
                  refine hK.out _ _ (by (try dsimp only); exact Below.trans hHeld (HC9.out.mono (Below.size hHeld))) (fun hHeld => ?_)
                  clear hK K
                  refine wpAnyH_ready (rs := [12]) (by kernel_rfl) (by simp) ?_
                  refine AllReadyH.cons rfl (fun K hK => ?_) ?_
                  · have hp : x9.heap[p10]? = some (.cells (cellsOf zero32).toArray 23 (0, 0)) := by
                      have h := HZ10.out
                      have h := (HB11.out.block _ (lt_of_block h)).trans h
                      have h := (HC3.out.block _ (lt_of_block h)).trans h
                      have h := (HC8.out.block _ (lt_of_block h)).trans h
                      have h := (HC9.out.block _ (lt_of_block h)).trans h
                      exact h
                    have hq : x9.heap[p11]? = some (.cells (cellsOf zero32).toArray 23 (0, 0)) := by
                      have h := HZ11.out
                      have h := (HC3.out.block _ (lt_of_block h)).trans h
                      have h := (HC8.out.block _ (lt_of_block h)).trans h
                      have h := (HC9.out.block _ (lt_of_block h)).trans h
                      exact h
                    have HP2 := Lib.hid (pair_stores (d := x) (e := z) (show Below w5.heap.size w5 x9 from hHeld) hp hq HNE.out HGE10.out HGE11.out)
                    have HQ := Lib.hid ((setRow_other x9 p10 p11 (cellsOf x).toArray HNE.out.symm).trans hq)
                    have hb : Below w5.heap.size w5 x9 := hHeld
                    have b12 : Below w5.heap.size w5 (x9.setRow p10 (cellsOf x).toArray) := hb.trans (((but_setRow _ p10 _).mono hb.size).below HGE10.out)
                    have HB12 := Lib.hid b12
                    clear hq b12 hb
                    rw [if_pos (by rfl)]
                    refine wp_store_row 23 _ _ rfl p10 (cellsOf x).toArray rfl rfl 23 (cellsOf zero32).toArray hp SZX.out HZX.out (all_oneCell_toArray (cellsOf_one x)) ?_
                    clear hp
                    refine hK.out _ _ (by (try dsimp only); exact HB12.out) (fun hHeld => ?_)
                    clear hK K
                    refine wpAnyH_ready (rs := [13]) (by kernel_rfl) (by simp) ?_
                    refine AllReadyH.cons rfl (fun K hK => ?_) ?_
                    · rw [if_pos (by rfl)]
                      refine wp_store_row 23 _ _ rfl p11 (cellsOf z).toArray rfl rfl 23 (cellsOf zero32).toArray HQ.out SZZ.out HZZ.out (all_oneCell_toArray (cellsOf_one z)) ?_
                      refine hK.out _ _ (by (try dsimp only); exact HP2.out.below) (fun hHeld => ?_)
                      clear hK K
                      refine wpAnyH_done (by kernel_rfl) ?_ _
                      clear hHeld
                      go_wp2_with fail
                      go_meet
                      exact ⟨p10, p11, rfl, rfl, HP2.out⟩
                    exact AllReadyH.nil
                  exact AllReadyH.nil
                exact AllReadyH.nil
              exact AllReadyH.nil
            exact AllReadyH.nil
          exact AllReadyH.nil
        refine AllReadyH.cons rfl (fun K hK => ?_) ?_
        · refine step_alloc_gen (d := 10) rfl (by rfl) 23 rfl zero32 Tryd.zeroSum ?_
          intro p11 y11 hg11 hz11 hb11
          have HZ11 := Lib.hid hz11
          have HB11 := Lib.hid hb11
          have HGE11 : Hid (w5.heap.size ≤ p11) := Lib.hid (Nat.le_trans (Below.size hHeld) hg11)
          clear hg11 hz11 hb11
          refine hK.out _ _ (by (try dsimp only); exact Below.trans hHeld (HB11.out.mono (Below.size hHeld))) (fun hHeld => ?_)
          clear hK K
          refine wpAnyH_ready (rs := [3, 10]) (by kernel_rfl) (by simp) ?_
          refine AllReadyH.cons rfl (fun K hK => ?_) ?_
          · go_simp
            go_wp2_with ((go_at_call 8; (with_reducible refine (HSEC.out _ (HK5.out.below hHeld)).mono ?_); rintro e x3 ⟨rfl, hb3⟩; have HC3 := Lib.hid hb3; clear hb3))
            refine hK.out _ _ (by (try dsimp only); exact Below.trans hHeld (HC3.out.mono (Below.size hHeld))) (fun hHeld => ?_)
            clear hK K
            refine wpAnyH_ready (rs := [8, 10]) (by kernel_rfl) (by simp) ?_
            refine AllReadyH.cons rfl (fun K hK => ?_) ?_
            · go_simp
              go_wp2_with ((go_at_call 8; (with_reducible refine (HOTH.out _ (HK5.out.below hHeld)).mono ?_); rintro e x8 ⟨rfl, hb8⟩; have HC8 := Lib.hid hb8; clear hb8))
              refine hK.out _ _ (by (try dsimp only); exact Below.trans hHeld (HC8.out.mono (Below.size hHeld))) (fun hHeld => ?_)
              clear hK K
              refine wpAnyH_ready (rs := [9, 10]) (by kernel_rfl) (by simp) ?_
              refine AllReadyH.cons rfl (fun K hK => ?_) ?_
              · go_simp
                go_wp2_with ((go_at_call 9; (with_reducible refine (HSH.out _ (HK5.out.below hHeld)).mono ?_); rintro e x9 ⟨rfl, hb9⟩; have HC9 := Lib.hid hb9; clear hb9))
                refine hK.out _ _ (by (try dsimp only); exact Below.trans hHeld (HC9.out.mono (Below.size hHeld))) (fun hHeld => ?_)
                clear hK K
                refine wpAnyH_ready (rs := [10]) (by kernel_rfl) (by simp) ?_
                refine AllReadyH.cons rfl (fun K hK => ?_) ?_
                · refine step_alloc_gen (d := 9) rfl (by rfl) 23 rfl zero32 Tryd.zeroSum ?_
                  intro p10 y10 hg10 hz10 hb10
                  have HZ10 := Lib.hid hz10
                  have HB10 := Lib.hid hb10
                  have HGE10 : Hid (w5.heap.size ≤ p10) := Lib.hid (Nat.le_trans (Below.size hHeld) hg10)
                  have HNE : Hid (p10 ≠ p11) := Lib.hid (by
                    have h := HZ11.out
                    have h := (HC3.out.block _ (lt_of_block h)).trans h
                    have h := (HC8.out.block _ (lt_of_block h)).trans h
                    have h := (HC9.out.block _ (lt_of_block h)).trans h
                    have := lt_of_block h
                    omega)
                  clear hg10 hz10 hb10
                  refine hK.out _ _ (by (try dsimp only); exact Below.trans hHeld (HB10.out.mono (Below.size hHeld))) (fun hHeld => ?_)
                  clear hK K
                  refine wpAnyH_ready (rs := [12]) (by kernel_rfl) (by simp) ?_
                  refine AllReadyH.cons rfl (fun K hK => ?_) ?_
                  · have hp : y10.heap[p10]? = some (.cells (cellsOf zero32).toArray 23 (0, 0)) := by
                      have h := HZ10.out
                      exact h
                    have hq : y10.heap[p11]? = some (.cells (cellsOf zero32).toArray 23 (0, 0)) := by
                      have h := HZ11.out
                      have h := (HC3.out.block _ (lt_of_block h)).trans h
                      have h := (HC8.out.block _ (lt_of_block h)).trans h
                      have h := (HC9.out.block _ (lt_of_block h)).trans h
                      have h := (HB10.out.block _ (lt_of_block h)).trans h
                      exact h
                    have HP2 := Lib.hid (pair_stores (d := x) (e := z) (show Below w5.heap.size w5 y10 from hHeld) hp hq HNE.out HGE10.out HGE11.out)
                    have HQ := Lib.hid ((setRow_other y10 p10 p11 (cellsOf x).toArray HNE.out.symm).trans hq)
                    have hb : Below w5.heap.size w5 y10 := hHeld
                    have b12 : Below w5.heap.size w5 (y10.setRow p10 (cellsOf x).toArray) := hb.trans (((but_setRow _ p10 _).mono hb.size).below HGE10.out)
                    have HB12 := Lib.hid b12
                    clear hq b12 hb
                    rw [if_pos (by rfl)]
                    refine wp_store_row 23 _ _ rfl p10 (cellsOf x).toArray rfl rfl 23 (cellsOf zero32).toArray hp SZX.out HZX.out (all_oneCell_toArray (cellsOf_one x)) ?_
                    clear hp
                    refine hK.out _ _ (by (try dsimp only); exact HB12.out) (fun hHeld => ?_)
                    clear hK K
                    refine wpAnyH_ready (rs := [13]) (by kernel_rfl) (by simp) ?_
                    refine AllReadyH.cons rfl (fun K hK => ?_) ?_
                    · rw [if_pos (by rfl)]
                      refine wp_store_row 23 _ _ rfl p11 (cellsOf z).toArray rfl rfl 23 (cellsOf zero32).toArray HQ.out SZZ.out HZZ.out (all_oneCell_toArray (cellsOf_one z)) ?_
                      refine hK.out _ _ (by (try dsimp only); exact HP2.out.below) (fun hHeld => ?_)
                      clear hK K
                      refine wpAnyH_done (by kernel_rfl) ?_ _
                      clear hHeld
                      go_wp2_with fail
                      go_meet
                      exact ⟨p10, p11, rfl, rfl, HP2.out⟩
                    exact AllReadyH.nil
                  exact AllReadyH.nil
                exact AllReadyH.nil
              refine AllReadyH.cons rfl (fun K hK => ?_) ?_
              · refine step_alloc_gen (d := 9) rfl (by rfl) 23 rfl zero32 Tryd.zeroSum ?_
                intro p10 y10 hg10 hz10 hb10
                have HZ10 := Lib.hid hz10
                have HB10 := Lib.hid hb10
                have HGE10 : Hid (w5.heap.size ≤ p10) := Lib.hid (Nat.le_trans (Below.size hHeld) hg10)
                have HNE : Hid (p10 ≠ p11) := Lib.hid (by
                  have h := HZ11.out
                  have h := (HC3.out.block _ (lt_of_block h)).trans h
                  have h := (HC8.out.block _ (lt_of_block h)).trans h
                  have := lt_of_block h
                  omega)
                clear hg10 hz10 hb10
                refine hK.out _ _ (by (try dsimp only); exact Below.trans hHeld (HB10.out.mono (Below.size hHeld))) (fun hHeld => ?_)
                clear hK K
                refine wpAnyH_ready (rs := [9]) (by kernel_rfl) (by simp) ?_
                refine AllReadyH.cons rfl (fun K hK => ?_) ?_
                · go_simp
                  go_wp2_with ((go_at_call 9; (with_reducible refine (HSH.out _ (HK5.out.below hHeld)).mono ?_); rintro e x9 ⟨rfl, hb9⟩; have HC9 := Lib.hid hb9; clear hb9))
                  refine hK.out _ _ (by (try dsimp only); exact Below.trans hHeld (HC9.out.mono (Below.size hHeld))) (fun hHeld => ?_)
                  clear hK K
                  refine wpAnyH_ready (rs := [12]) (by kernel_rfl) (by simp) ?_
                  refine AllReadyH.cons rfl (fun K hK => ?_) ?_
                  · have hp : x9.heap[p10]? = some (.cells (cellsOf zero32).toArray 23 (0, 0)) := by
                      have h := HZ10.out
                      have h := (HC9.out.block _ (lt_of_block h)).trans h
                      exact h
                    have hq : x9.heap[p11]? = some (.cells (cellsOf zero32).toArray 23 (0, 0)) := by
                      have h := HZ11.out
                      have h := (HC3.out.block _ (lt_of_block h)).trans h
                      have h := (HC8.out.block _ (lt_of_block h)).trans h
                      have h := (HB10.out.block _ (lt_of_block h)).trans h
                      have h := (HC9.out.block _ (lt_of_block h)).trans h
                      exact h
                    have HP2 := Lib.hid (pair_stores (d := x) (e := z) (show Below w5.heap.size w5 x9 from hHeld) hp hq HNE.out HGE10.out HGE11.out)
                    have HQ := Lib.hid ((setRow_other x9 p10 p11 (cellsOf x).toArray HNE.out.symm).trans hq)
                    have hb : Below w5.heap.size w5 x9 := hHeld
                    have b12 : Below w5.heap.size w5 (x9.setRow p10 (cellsOf x).toArray) := hb.trans (((but_setRow _ p10 _).mono hb.size).below HGE10.out)
                    have HB12 := Lib.hid b12
                    clear hq b12 hb
                    rw [if_pos (by rfl)]
                    refine wp_store_row 23 _ _ rfl p10 (cellsOf x).toArray rfl rfl 23 (cellsOf zero32).toArray hp SZX.out HZX.out (all_oneCell_toArray (cellsOf_one x)) ?_
                    clear hp
                    refine hK.out _ _ (by (try dsimp only); exact HB12.out) (fun hHeld => ?_)
                    clear hK K
                    refine wpAnyH_ready (rs := [13]) (by kernel_rfl) (by simp) ?_
                    refine AllReadyH.cons rfl (fun K hK => ?_) ?_
                    · rw [if_pos (by rfl)]
                      refine wp_store_row 23 _ _ rfl p11 (cellsOf z).toArray rfl rfl 23 (cellsOf zero32).toArray HQ.out SZZ.out HZZ.out (all_oneCell_toArray (cellsOf_one z)) ?_
                      refine hK.out _ _ (by (try dsimp only); exact HP2.out.below) (fun hHeld => ?_)
                      clear hK K
                      refine wpAnyH_done (by kernel_rfl) ?_ _
                      clear hHeld
                      go_wp2_with fail
                      go_meet
                      exact ⟨p10, p11, rfl, rfl, HP2.out⟩
                    exact AllReadyH.nil
                  exact AllReadyH.nil
                exact AllReadyH.nil
              exact AllReadyH.nil
            refine AllReadyH.cons rfl (fun K hK => ?_) ?_
            · refine step_alloc_gen (d := 9) rfl (by rfl) 23 rfl zero32 Tryd.zeroSum ?_
              intro p10 y10 hg10 hz10 hb10
              have HZ10 := Lib.hid hz10
              have HB10 := Lib.hid hb10
              have HGE10 : Hid (w5.heap.size ≤ p10) := Lib.hid (Nat.le_trans (Below.size hHeld) hg10)
              have HNE : Hid (p10 ≠ p11) := Lib.hid (by
                have h := HZ11.out
                have h := (HC3.out.block _ (lt_of_block h)).trans h
                have := lt_of_block h
                omega)
              clear hg10 hz10 hb10
              refine hK.out _ _ (by (try dsimp only); exact Below.trans hHeld (HB10.out.mono (Below.size hHeld))) (fun hHeld => ?_)
              clear hK K
              refine wpAnyH_ready (rs := [8]) (by kernel_rfl) (by simp) ?_
              refine AllReadyH.cons rfl (fun K hK => ?_) ?_
              · go_simp
                go_wp2_with ((go_at_call 8; (with_reducible refine (HOTH.out _ (HK5.out.below hHeld)).mono ?_); rintro e x8 ⟨rfl, hb8⟩; have HC8 := Lib.hid hb8; clear hb8))
                refine hK.out _ _ (by (try dsimp only); exact Below.trans hHeld (HC8.out.mono (Below.size hHeld))) (fun hHeld => ?_)
                clear hK K
                refine wpAnyH_ready (rs := [9]) (by kernel_rfl) (by simp) ?_
                refine AllReadyH.cons rfl (fun K hK => ?_) ?_
                · go_simp
                  go_wp2_with ((go_at_call 9; (with_reducible refine (HSH.out _ (HK5.out.below hHeld)).mono ?_); rintro e x9 ⟨rfl, hb9⟩; have HC9 := Lib.hid hb9; clear hb9))
                  refine hK.out _ _ (by (try dsimp only); exact Below.trans hHeld (HC9.out.mono (Below.size hHeld))) (fun hHeld => ?_)
                  clear hK K
                  refine wpAnyH_ready (rs := [12]) (by kernel_rfl) (by simp) ?_
                  refine AllReadyH.cons rfl (fun K hK => ?_) ?_
                  · have hp : x9.heap[p10]? = some (.cells (cellsOf zero32).toArray 23 (0, 0)) := by
                      have h := HZ10.out
                      have h := (HC8.out.block _ (lt_of_block h)).trans h
                      have h := (HC9.out.block _ (lt_of_block h)).trans h
                      exact h
                    have hq : x9.heap[p11]? = some (.cells (cellsOf zero32).toArray 23 (0, 0)) := by
                      have h := HZ11.out
                      have h := (HC3.out.block _ (lt_of_block h)).trans h
                      have h := (HB10.out.block _ (lt_of_block h)).trans h
                      have h := (HC8.out.block _ (lt_of_block h)).trans h
                      have h := (HC9.out.block _ (lt_of_block h)).trans h
                      exact h
                    have HP2 := Lib.hid (pair_stores (d := x) (e := z) (show Below w5.heap.size w5 x9 from hHeld) hp hq HNE.out HGE10.out HGE11.out)
                    have HQ := Lib.hid ((setRow_other x9 p10 p11 (cellsOf x).toArray HNE.out.symm).trans hq)
                    have hb : Below w5.heap.size w5 x9 := hHeld
                    have b12 : Below w5.heap.size w5 (x9.setRow p10 (cellsOf x).toArray) := hb.trans (((but_setRow _ p10 _).mono hb.size).below HGE10.out)
                    have HB12 := Lib.hid b12
                    clear hq b12 hb
                    rw [if_pos (by rfl)]
                    refine wp_store_row 23 _ _ rfl p10 (cellsOf x).toArray rfl rfl 23 (cellsOf zero32).toArray hp SZX.out HZX.out (all_oneCell_toArray (cellsOf_one x)) ?_
                    clear hp
                    refine hK.out _ _ (by (try dsimp only); exact HB12.out) (fun hHeld => ?_)
                    clear hK K
                    refine wpAnyH_ready (rs := [13]) (by kernel_rfl) (by simp) ?_
                    refine AllReadyH.cons rfl (fun K hK => ?_) ?_
                    · rw [if_pos (by rfl)]
                      refine wp_store_row 23 _ _ rfl p11 (cellsOf z).toArray rfl rfl 23 (cellsOf zero32).toArray HQ.out SZZ.out HZZ.out (all_oneCell_toArray (cellsOf_one z)) ?_
                      refine hK.out _ _ (by (try dsimp only); exact HP2.out.below) (fun hHeld => ?_)
                      clear hK K
                      refine wpAnyH_done (by kernel_rfl) ?_ _
                      clear hHeld
                      go_wp2_with fail
                      go_meet
                      exact ⟨p10, p11, rfl, rfl, HP2.out⟩
                    exact AllReadyH.nil
                  exact AllReadyH.nil
                exact AllReadyH.nil
              exact AllReadyH.nil
            exact AllReadyH.nil
          refine AllReadyH.cons rfl (fun K hK => ?_) ?_
          · refine step_alloc_gen (d := 9) rfl (by rfl) 23 rfl zero32 Tryd.zeroSum ?_
            intro p10 y10 hg10 hz10 hb10
            have HZ10 := Lib.hid hz10
            have HB10 := Lib.hid hb10
            have HGE10 : Hid (w5.heap.size ≤ p10) := Lib.hid (Nat.le_trans (Below.size hHeld) hg10)
            have HNE : Hid (p10 ≠ p11) := Lib.hid (by
              have h := HZ11.out
              have := lt_of_block h
              omega)
            clear hg10 hz10 hb10
            refine hK.out _ _ (by (try dsimp only); exact Below.trans hHeld (HB10.out.mono (Below.size hHeld))) (fun hHeld => ?_)
            clear hK K
            refine wpAnyH_ready (rs := [3]) (by kernel_rfl) (by simp) ?_
            refine AllReadyH.cons rfl (fun K hK => ?_) ?_
            · go_simp
              go_wp2_with ((go_at_call 8; (with_reducible refine (HSEC.out _ (HK5.out.below hHeld)).mono ?_); rintro e x3 ⟨rfl, hb3⟩; have HC3 := Lib.hid hb3; clear hb3))
              refine hK.out _ _ (by (try dsimp only); exact Below.trans hHeld (HC3.out.mono (Below.size hHeld))) (fun hHeld => ?_)
              clear hK K
              refine wpAnyH_ready (rs := [8]) (by kernel_rfl) (by simp) ?_
              refine AllReadyH.cons rfl (fun K hK => ?_) ?_
              · go_simp
                go_wp2_with ((go_at_call 8; (with_reducible refine (HOTH.out _ (HK5.out.below hHeld)).mono ?_); rintro e x8 ⟨rfl, hb8⟩; have HC8 := Lib.hid hb8; clear hb8))
                refine hK.out _ _ (by (try dsimp only); exact Below.trans hHeld (HC8.out.mono (Below.size hHeld))) (fun hHeld => ?_)
                clear hK K
                refine wpAnyH_ready (rs := [9]) (by kernel_rfl) (by simp) ?_
                refine AllReadyH.cons rfl (fun K hK => ?_) ?_
                · go_simp
                  go_wp2_with ((go_at_call 9; (with_reducible refine (HSH.out _ (HK5.out.below hHeld)).mono ?_); rintro e x9 ⟨rfl, hb9⟩; have HC9 := Lib.hid hb9; clear hb9))
                  refine hK.out _ _ (by (try dsimp only); exact Below.trans hHeld (HC9.out.mono (Below.size hHeld))) (fun hHeld => ?_)
                  clear hK K
                  refine wpAnyH_ready (rs := [12]) (by kernel_rfl) (by simp) ?_
                  refine AllReadyH.cons rfl (fun K hK => ?_) ?_
                  · have hp : x9.heap[p10]? = some (.cells (cellsOf zero32).toArray 23 (0, 0)) := by
                      have h := HZ10.out
                      have h := (HC3.out.block _ (lt_of_block h)).trans h
                      have h := (HC8.out.block _ (lt_of_block h)).trans h
                      have h := (HC9.out.block _ (lt_of_block h)).trans h
                      exact h
                    have hq : x9.heap[p11]? = some (.cells (cellsOf zero32).toArray 23 (0, 0)) := by
                      have h := HZ11.out
                      have h := (HB10.out.block _ (lt_of_block h)).trans h
                      have h := (HC3.out.block _ (lt_of_block h)).trans h
                      have h := (HC8.out.block _ (lt_of_block h)).trans h
                      have h := (HC9.out.block _ (lt_of_block h)).trans h
                      exact h
                    have HP2 := Lib.hid (pair_stores (d := x) (e := z) (show Below w5.heap.size w5 x9 from hHeld) hp hq HNE.out HGE10.out HGE11.out)
                    have HQ := Lib.hid ((setRow_other x9 p10 p11 (cellsOf x).toArray HNE.out.symm).trans hq)
                    have hb : Below w5.heap.size w5 x9 := hHeld
                    have b12 : Below w5.heap.size w5 (x9.setRow p10 (cellsOf x).toArray) := hb.trans (((but_setRow _ p10 _).mono hb.size).below HGE10.out)
                    have HB12 := Lib.hid b12
                    clear hq b12 hb
                    rw [if_pos (by rfl)]
                    refine wp_store_row 23 _ _ rfl p10 (cellsOf x).toArray rfl rfl 23 (cellsOf zero32).toArray hp SZX.out HZX.out (all_oneCell_toArray (cellsOf_one x)) ?_
                    clear hp
                    refine hK.out _ _ (by (try dsimp only); exact HB12.out) (fun hHeld => ?_)
                    clear hK K
                    refine wpAnyH_ready (rs := [13]) (by kernel_rfl) (by simp) ?_
                    refine AllReadyH.cons rfl (fun K hK => ?_) ?_
                    · rw [if_pos (by rfl)]
                      refine wp_store_row 23 _ _ rfl p11 (cellsOf z).toArray rfl rfl 23 (cellsOf zero32).toArray HQ.out SZZ.out HZZ.out (all_oneCell_toArray (cellsOf_one z)) ?_
                      refine hK.out _ _ (by (try dsimp only); exact HP2.out.below) (fun hHeld => ?_)
                      clear hK K
                      refine wpAnyH_done (by kernel_rfl) ?_ _
                      clear hHeld
                      go_wp2_with fail
                      go_meet
                      exact ⟨p10, p11, rfl, rfl, HP2.out⟩
                    exact AllReadyH.nil
                  exact AllReadyH.nil
                exact AllReadyH.nil
              exact AllReadyH.nil
            exact AllReadyH.nil
          exact AllReadyH.nil
        exact AllReadyH.nil
      case rest =>
        obtain ⟨p, q, rfl, rfl, hp2⟩ := hcut
        have hrx : Row wc (some ⟨p, 0, none⟩) 32 32 x := row_all hp2.first 32 HXL.out.symm (by omega)
        have hrz : Row wc (some ⟨q, 0, none⟩) 32 32 z := row_all hp2.next 32 HZL.out.symm (by omega)
        have hac := HA5.out.more hp2.below
        have hne : ∀ k, Value.ownBlock (.slice ag F cg) = some k → k < q := fun k e => Nat.lt_of_lt_of_le (HA5.out.right.old k e) hp2.geNext
        have HAC := Lib.hid hac
        have HRX := Lib.hid hrx
        have HRZ := Lib.hid hrz
        have HNE := Lib.hid hne
        clear hp2 hrx hrz hac hne
        go_upto_region 9 with (at_builtin; refine wpList_append_row_at _ rfl _ _ 24 rfl w3.heap.size i0 Tryd.underlying24 HI.out hz0 hz1 hz2 (.slice ag F cg) X F HLF.out rfl HAC.out.right.own p 0 32 32 x rfl HRX.out (by omega) HAC.out.left.below.size ?_; intro a11 c11 w11 ho11 hg11 hl11)
        have HA11 := Lib.hid (HAC.out.swap.grown ho11 hg11 hl11)
        have HZ11 := Lib.hid (HRZ.out.grown hg11 HNE.out)
        have HL11 : Hid ((X ++ x).length = F + 32) := Lib.hid (by rw [List.length_append, HLF.out, HXL.out])
        clear ho11 hg11 hl11
        go_upto_region 10 with (at_builtin; refine wpList_append_row_at _ rfl _ _ 24 rfl w3.heap.size i0 Tryd.underlying24 HI.out hz0 hz1 hz2 (.slice a11 (F + 32) c11) (X ++ x) (F + 32) HL11.out rfl HA11.out.left.own q 0 32 32 z rfl HZ11.out (by omega) HA11.out.left.below.size ?_; intro a12 c12 w12 ho12 hg12 hl12)
        have ha12 := (HA11.out.grown ho12 hg12 hl12).swap
        rw [← HN.out] at ha12
        have HA12 := Lib.hid ha12
        clear ho12 hg12 hl12 ha12
        go_wp2_with fail
        go_loopw [5, 11] (fun u k wr => ∃ m : Nat, m ≤ 2 ∧ k = .int .i64 m ∧ Both w3 u (allTo s j ++ pairTo s j m) (.slice a12 (F + 32 + 32) c12) (signTo s T (j + 1)) wr) (fun _ k _ => 2 - (intOf k).toNat)
        case atStart => exact ⟨0, Nat.zero_le _, rfl, by rw [pairTo_zero, List.append_nil, ← HYY.out]; exact HA12.out⟩
        case round =>
          obtain ⟨m, hm, rfl, hin⟩ := hrel
          by_cases hm2 : m < 2
          · have f2 : (m : Int) < 2 := by omega
            obtain ⟨x2, y2, hx2, hy2, hnext2, hsec2, hsh2⟩ := HPAIR.out j m hj64 hm2
            obtain ⟨G, hG⟩ : ∃ G, G = allTo s j ++ pairTo s j m := ⟨_, rfl⟩
            have hnext3 : allTo s j ++ pairTo s j (m + 1) = G ++ y2 := by rw [hnext2, hG, List.append_assoc]
            have hlen2 : G.length = j * 64 + m * 32 := by rw [hG, List.length_append, allTo_len, pairTo_len]
            rw [← hG] at hin
            obtain ⟨F2, hF2⟩ : ∃ F2, F2 = G.length := ⟨_, rfl⟩
            have hF24 : F2 ≤ 4096 := by omega
            obtain ⟨a2, c2, rfl⟩ := hin.left.shape hF2.symm
            have SZY2 := Lib.hid (size_of hy2)
            have HZY2 := Lib.hid (zero_of hy2)
            have HYL2 := Lib.hid hy2
            have HN2 := Lib.hid hnext3
            have HSEC2 := Lib.hid hsec2
            have HSH2 := Lib.hid hsh2
            have HLF2 := Lib.hid hF2.symm
            have HIN := Lib.hid hin
            have HG2 := Lib.hid ((hin.left.below.block _ (lt_of_block H3.out)).trans H3.out)
            have HK2 := Lib.hid (HK3.out.below hin.left.below)
            clear hx2 hy2 hnext2 hnext3 hsec2 hsh2 hG hlen2 hF2 hin
            go_wp2_with (refine wpList_load_row rfl 23 _ rfl g rfl 23 (cellsOf s).toArray (0, 0) _ HG2.out Tryd.underlying23 rfl SZ.out ?_)
            refine (HSEC2.out _ HK2.out).mono ?_
            rintro e v3 ⟨rfl, hb3⟩
            have HI3 := Lib.hid (HIN.out.more hb3)
            have HKV := Lib.hid (HK2.out.below hb3)
            clear hb3
            go_wp2_with fail
            refine (HSH2.out _ HKV.out).mono ?_
            rintro e v4 ⟨rfl, hb4⟩
            have HI4 := Lib.hid (HI3.out.more hb4)
            clear hb4
            go_upto_region 14 with (refine wpList_store_row rfl 23 _ _ rfl v4.heap.size (cellsOf y2).toArray rfl rfl 23 (cellsOf zero32).toArray (heap_alloc_new _ _) SZY2.out HZY2.out (all_oneCell_toArray (cellsOf_one y2)) ?_)
            rw [← zero32_is, laySum_is]
            have hi5 := HI4.out.more (laySum_self v4 y2)
            have hr5 := laySum_row v4 HYL2.out
            revert hi5 hr5
            generalize laySum v4 y2 = v5
            generalize v4.heap.size = q2
            intro hi5 hr5
            have HI5 := Lib.hid hi5
            have HR5 := Lib.hid hr5
            clear hi5 hr5
            try simp only [Act.put]
            go_upto_region 12 with (at_builtin; refine wpList_append_row_at _ rfl _ _ 24 rfl w3.heap.size i0 Tryd.underlying24 HI.out hz0 hz1 hz2 (.slice a2 F2 c2) G F2 HLF2.out rfl HI5.out.left.own q2 0 32 32 y2 rfl HR5.out (by omega) HI5.out.left.below.size ?_; intro a6 c6 w6 ho6 hg6 hl6; have HU6 := Lib.hid (HI5.out.grown ho6 hg6 hl6); clear ho6 hg6 hl6)
            go_wp2_with fail
            go_roundw
            case rel => first | exact ⟨m + 1, by omega, by go_num, by rw [HN2.out]; exact HU6.out⟩ | ((repeat apply Exists.intro); exact ⟨⟨m + 1, by omega, by go_num, by rw [HN2.out]; exact HU6.out⟩, rfl⟩)
            case measure => simp [intOf]; omega
          · have f2 : ¬ ((m : Int) < 2) := by omega
            have hm' : m = 2 := by omega
            rw [hm', ← allTo_pair] at hin
            have HIN := Lib.hid hin
            clear hin hm'
            go_wp2_with fail
            go_roundw
            case rel => first | exact ⟨j + 1, by omega, by go_num, HIN.out⟩ | ((repeat apply Exists.intro); exact ⟨⟨j + 1, by omega, by go_num, HIN.out⟩, rfl⟩)
            case measure => simp [intOf]; omega
    · have f1 : ¬ ((j : Int) < 64) := by omega
      have hj' : j = 64 := by omega
      rw [hj'] at hat
      obtain ⟨aa, ca, rfl⟩ := hat.left.shape HAL.out
      obtain ⟨ag, cg, rfl⟩ := hat.right.shape HSL.out
      have HAT := Lib.hid hat
      clear hat hj'
      go_wp2_with fail
      have b5 : Below wr.heap.size wr (wr.alloc (.cells #[.slice aa 4096 ca] 24)) := (Below.refl _ _).alloc (Nat.le_refl _) _
      refine (HJ.out _ aa ca _ (HAT.out.left.row.below b5) ((HK3.out.below HAT.out.left.below).below b5) (heap_alloc_new _ _)).mono ?_
      rintro e w5 ⟨rfl, hb5⟩
      have HA5 := Lib.hid (HAT.out.more (b5.trans (hb5.mono b5.size)))
      clear b5 hb5
      go_upto_region 16 with (refine wpList_store_row rfl 23 _ _ rfl w5.heap.size (cellsOf key).toArray rfl rfl 23 (cellsOf zero32).toArray (heap_alloc_new _ _) SZK.out HZK.out (all_oneCell_toArray (cellsOf_one key)) ?_)
      rw [← zero32_is, laySum_is]
      have h6 := laySum_heap w5 key
      have ha6 := HA5.out.more (laySum_self w5 key)
      revert h6 ha6
      generalize laySum w5 key = w6
      generalize w5.heap.size = p
      intro h6 ha6
      have HA6 := Lib.hid ha6
      have H6 := Lib.hid h6
      have HG6 := Lib.hid ((ha6.left.below.block _ (lt_of_block H3.out)).trans H3.out)
      have HK6 := Lib.hid (HK3.out.below ha6.left.below)
      have HR6 := Lib.hid (HR3.out.below ha6.left.below)
      clear h6 ha6
      try simp only [Act.put]
      go_wp2_with (refine wpList_load_row rfl 23 _ rfl g rfl 23 (cellsOf s).toArray (0, 0) _ HG6.out Tryd.underlying23 rfl SZ.out ?_)
      refine (HSG.out _ HR6.out HK6.out).mono ?_
      rintro e w7 ⟨ab, cb, rfl, hr7, hb7⟩
      have HB7 := Lib.hid hb7
      have HR7 := Lib.hid hr7
      clear hr7 hb7
      go_wp2_with fail
      refine (HBK.out _ ab cb (HR6.out.below HB7.out) HR7.out (HK6.out.below HB7.out)).mono ?_
      rintro e w8 ⟨rfl, hb8⟩
      have HB8 := Lib.hid (HB7.out.trans (hb8.mono HB7.out.size))
      have HR8 := Lib.hid (HR7.out.below hb8)
      clear hb8
      go_upto_region 18 with (refine wpList_store_row rfl 23 _ _ rfl w8.heap.size (cellsOf key).toArray rfl rfl 23 (cellsOf zero32).toArray (heap_alloc_new _ _) SZK.out HZK.out (all_oneCell_toArray (cellsOf_one key)) ?_)
      rw [← zero32_is, laySum_is]
      have h9 := laySum_heap w8 key
      have b9 := HB8.out.trans ((laySum_self w8 key).mono HB8.out.size)
      have hr9 := HR8.out.below (laySum_self w8 key)
      revert h9 b9 hr9
      generalize laySum w8 key = w9
      generalize w8.heap.size = q
      intro h9 b9 hr9
      have ha9 := HA6.out.more b9
      have hp9 := (b9.block _ (lt_of_block H6.out)).trans H6.out
      have hg9 := (b9.block _ (lt_of_block HG6.out)).trans HG6.out
      have HQ := Lib.hid (range_of h9)
      have HP := Lib.hid (range_of hp9)
      have HG := Lib.hid (range_of hg9)
      have hltq := lt_of_block h9
      have hltp := lt_of_block hp9
      have hltg := lt_of_block hg9
      have HB9 := Lib.hid ha9.left.below
      have HK9 := Lib.hid (HK6.out.below b9)
      have HRT := Lib.hid (HR6.out.below b9)
      have HRG := Lib.hid hr9
      have HRS := Lib.hid ha9.right.row
      clear h9 b9 hr9 ha9 hp9 hg9
      obtain ⟨bs, hbs⟩ : ∃ bs : ByteArray, ByteArray.mk (signTo s T 64).toArray = bs := ⟨_, rfl⟩
      have HBS := Lib.hid hbs
      clear hbs
      try simp only [Act.put]
      refine wp_region_held_drew (S := fun w' => Below w9.heap.size w9 w') (by kernel_rfl) (below_drew (Below.refl _ _)) (fun hHeld => ?_)
      refine take_at (i := 0) rfl rfl (by kernel_rfl) (by kernel_rfl) (by kernel_rfl) (fun _ _ _ h => h) (yieldsIf_load_mid (by rfl) _ _ rfl g 0 rfl (cellsOf s) _ (fun w0 hSw => rangeAt_below HG.out hltg hSw) Tryd.underlying23 rfl SZ.out) (by assumption) ?_
      simp only [List.setIfInBounds_toArray, List.set_cons_zero, List.set_cons_succ]
      refine take_at (i := 2) rfl rfl (by kernel_rfl) (by kernel_rfl) (by kernel_rfl) (fun _ _ _ h => h) (yieldsIf_load_mid (by rfl) _ _ rfl p 0 rfl (cellsOf key) _ (fun w0 hSw => rangeAt_below HP.out hltp hSw) Tryd.underlying23 rfl SZK.out) (by assumption) ?_
      simp only [List.setIfInBounds_toArray, List.set_cons_zero, List.set_cons_succ]
      refine wpAnyH_ready (rs := [1]) (by kernel_rfl) (by simp) ?_
      refine AllReadyH.cons rfl (fun K hK => ?_) ?_
      · go_simp
        go_wp2_with ((go_at_call 13; (with_reducible refine (HPU.out _ (HK9.out.below hHeld)).mono ?_); rintro e x1 ⟨rfl, hb1⟩; have HC1 := Lib.hid hb1; clear hb1))
        refine hK.out _ _ (by (try dsimp only); exact Below.trans hHeld (HC1.out.mono (Below.size hHeld))) (fun hHeld => ?_)
        clear hK K
        refine take_at (i := 3) rfl rfl (by kernel_rfl) (by kernel_rfl) (by kernel_rfl) (fun _ _ _ h => h) (yields_eql (by rfl) rfl rfl rfl HKL.out HKL.out true (by simp)) (by assumption) ?_
        simp only [List.setIfInBounds_toArray, List.set_cons_zero, List.set_cons_succ]
        refine take_at (i := 4) (v := ?_) rfl rfl (by kernel_rfl) (by kernel_rfl) (by kernel_rfl) (fun _ _ _ h => h) (Or.inl ⟨by rfl, ?_⟩) (by assumption) ?_
        rotate_left
        · intro w0 hSw; (try dsimp only at hSw); first | (go_simp; done) | (go_simp; with_reducible rfl)
        simp only [List.setIfInBounds_toArray, List.set_cons_zero, List.set_cons_succ]
        refine take_at (i := 5) (v := ?_) rfl rfl (by kernel_rfl) (by kernel_rfl) (by kernel_rfl) (fun _ _ _ h => h) (Or.inl ⟨by rfl, ?_⟩) (by assumption) ?_
        rotate_left
        · intro w0 hSw; (try dsimp only at hSw); first | (go_simp; done) | (go_simp; with_reducible rfl)
        simp only [List.setIfInBounds_toArray, List.set_cons_zero, List.set_cons_succ]
        refine take_at (i := 6) rfl rfl (by kernel_rfl) (by kernel_rfl) (by kernel_rfl) (fun _ _ _ h => h) (yields_conv (by rfl) rfl rfl HBS.out (fun w0 hSw => HRG.out.below hSw)) (by assumption) ?_
        simp only [List.setIfInBounds_toArray, List.set_cons_zero, List.set_cons_succ]
        refine take_at (i := 7) (v := ?_) rfl rfl (by kernel_rfl) (by kernel_rfl) (by kernel_rfl) (fun _ _ _ h => h) (Or.inl ⟨by rfl, ?_⟩) (by assumption) ?_
        rotate_left
        · intro w0 hSw; (try dsimp only at hSw); first | (go_simp; done) | (go_simp; with_reducible rfl)
        simp only [List.setIfInBounds_toArray, List.set_cons_zero, List.set_cons_succ]
        refine take_at (i := 8) rfl rfl (by kernel_rfl) (by kernel_rfl) (by kernel_rfl) (fun _ _ _ h => h) (yields_conv (by rfl) rfl rfl HBS.out (fun w0 hSw => HRS.out.below hSw)) (by assumption) ?_
        simp only [List.setIfInBounds_toArray, List.set_cons_zero, List.set_cons_succ]
        refine take_at (i := 9) (v := ?_) rfl rfl (by kernel_rfl) (by kernel_rfl) (by kernel_rfl) (fun _ _ _ h => h) (Or.inl ⟨by rfl, ?_⟩) (by assumption) ?_
        rotate_left
        · intro w0 hSw; (try dsimp only at hSw); first | (go_simp; done) | (go_simp; with_reducible rfl)
        simp only [List.setIfInBounds_toArray, List.set_cons_zero, List.set_cons_succ]
        refine take_at (i := 10) (v := ?_) rfl rfl (by kernel_rfl) (by kernel_rfl) (by kernel_rfl) (fun _ _ _ h => h) (Or.inl ⟨by rfl, ?_⟩) (by assumption) ?_
        rotate_left
        · intro w0 hSw; (try dsimp only at hSw); first | (go_simp; done) | (go_simp; with_reducible rfl)
        simp only [List.setIfInBounds_toArray, List.set_cons_zero, List.set_cons_succ]
        refine take_at (i := 11) (v := ?_) rfl rfl (by kernel_rfl) (by kernel_rfl) (by kernel_rfl) (fun _ _ _ h => h) (Or.inl ⟨by rfl, ?_⟩) (by assumption) ?_
        rotate_left
        · intro w0 hSw; (try dsimp only at hSw); first | (go_simp; done) | (go_simp; with_reducible rfl)
        simp only [List.setIfInBounds_toArray, List.set_cons_zero, List.set_cons_succ]
        refine take_at (i := 12) rfl rfl (by kernel_rfl) (by kernel_rfl) (by kernel_rfl) (fun _ _ _ h => h) (yieldsIf_load_mid (by rfl) _ _ rfl q 0 rfl (cellsOf key) _ (fun w0 hSw => rangeAt_below HQ.out hltq hSw) Tryd.underlying23 rfl SZK.out) (by assumption) ?_
        simp only [List.setIfInBounds_toArray, List.set_cons_zero, List.set_cons_succ]
        refine take_at (i := 13) rfl rfl (by kernel_rfl) (by kernel_rfl) (by kernel_rfl) (fun _ _ _ h => h) (yieldsIf_load_mid (by rfl) _ _ rfl p 0 rfl (cellsOf key) _ (fun w0 hSw => rangeAt_below HP.out hltp hSw) Tryd.underlying23 rfl SZK.out) (by assumption) ?_
        simp only [List.setIfInBounds_toArray, List.set_cons_zero, List.set_cons_succ]
        refine take_at (i := 14) rfl rfl (by kernel_rfl) (by kernel_rfl) (by kernel_rfl) (fun _ _ _ h => h) (yields_eql (by rfl) rfl rfl rfl HKL.out HKL.out true (by simp)) (by assumption) ?_
        simp only [List.setIfInBounds_toArray, List.set_cons_zero, List.set_cons_succ]
        refine take_at (i := 15) (v := ?_) rfl rfl (by kernel_rfl) (by kernel_rfl) (by kernel_rfl) (fun _ _ _ h => h) (Or.inl ⟨by rfl, ?_⟩) (by assumption) ?_
        rotate_left
        · intro w0 hSw; (try dsimp only at hSw); first | (go_simp; done) | (go_simp; with_reducible rfl)
        simp only [List.setIfInBounds_toArray, List.set_cons_zero, List.set_cons_succ]
        refine take_at (i := 16) (v := ?_) rfl rfl (by kernel_rfl) (by kernel_rfl) (by kernel_rfl) (fun _ _ _ h => h) (Or.inl ⟨by rfl, ?_⟩) (by assumption) ?_
        rotate_left
        · intro w0 hSw; (try dsimp only at hSw); first | (go_simp; done) | (go_simp; with_reducible rfl)
        simp only [List.setIfInBounds_toArray, List.set_cons_zero, List.set_cons_succ]
        refine take_at (i := 17) (v := ?_) rfl rfl (by kernel_rfl) (by kernel_rfl) (by kernel_rfl) (fun _ _ _ h => h) (Or.inl ⟨by rfl, ?_⟩) (by assumption) ?_
        rotate_left
        · intro w0 hSw; (try dsimp only at hSw); first | (go_simp; done) | (go_simp; with_reducible rfl)
        simp only [List.setIfInBounds_toArray, List.set_cons_zero, List.set_cons_succ]
        refine take_at (i := 18) (v := ?_) rfl rfl (by kernel_rfl) (by kernel_rfl) (by kernel_rfl) (fun _ _ _ h => h) (Or.inl ⟨by rfl, ?_⟩) (by assumption) ?_
        rotate_left
        · intro w0 hSw; (try dsimp only at hSw); first | (go_simp; done) | (go_simp; with_reducible rfl)
        simp only [List.setIfInBounds_toArray, List.set_cons_zero, List.set_cons_succ]
        refine take_at (i := 19) (v := ?_) rfl rfl (by kernel_rfl) (by kernel_rfl) (by kernel_rfl) (fun _ _ _ h => h) (Or.inl ⟨by rfl, ?_⟩) (by assumption) ?_
        rotate_left
        · intro w0 hSw; (try dsimp only at hSw); first | (go_simp; done) | (go_simp; with_reducible rfl)
        simp only [List.setIfInBounds_toArray, List.set_cons_zero, List.set_cons_succ]
        refine take_at (i := 20) (v := ?_) rfl rfl (by kernel_rfl) (by kernel_rfl) (by kernel_rfl) (fun _ _ _ h => h) (Or.inl ⟨by rfl, ?_⟩) (by assumption) ?_
        rotate_left
        · intro w0 hSw; (try dsimp only at hSw); first | (go_simp; done) | (go_simp; with_reducible rfl)
        simp only [List.setIfInBounds_toArray, List.set_cons_zero, List.set_cons_succ]
        refine take_at (i := 21) rfl rfl (by kernel_rfl) (by kernel_rfl) (by kernel_rfl) (fun _ _ _ h => h) (yieldsIf_load_mid (by rfl) _ _ rfl p 0 rfl (cellsOf key) _ (fun w0 hSw => rangeAt_below HP.out hltp hSw) Tryd.underlying23 rfl SZK.out) (by assumption) ?_
        simp only [List.setIfInBounds_toArray, List.set_cons_zero, List.set_cons_succ]
        refine take_at (i := 22) (v := ?_) rfl rfl (by kernel_rfl) (by kernel_rfl) (by kernel_rfl) (fun _ _ _ h => h) (Or.inl ⟨by rfl, ?_⟩) (by assumption) ?_
        rotate_left
        · intro w0 hSw; (try dsimp only at hSw); first | (go_simp; done) | (go_simp; with_reducible rfl)
        simp only [List.setIfInBounds_toArray, List.set_cons_zero, List.set_cons_succ]
        refine take_at (i := 23) (v := ?_) rfl rfl (by kernel_rfl) (by kernel_rfl) (by kernel_rfl) (fun _ _ _ h => h) (Or.inl ⟨by rfl, ?_⟩) (by assumption) ?_
        rotate_left
        · intro w0 hSw; (try dsimp only at hSw); first | (go_simp; done) | (go_simp; with_reducible rfl)
        simp only [List.setIfInBounds_toArray, List.set_cons_zero, List.set_cons_succ]
        refine wpAnyH_ready (rs := [24]) (by kernel_rfl) (by simp) ?_
        refine AllReadyH.cons rfl (fun K hK => ?_) ?_
        · go_simp
          go_wp2_with ((go_at_call 14; (with_reducible refine (HVE.out _ ab cb (HRT.out.below hHeld) (HRG.out.below hHeld) (HK9.out.below hHeld)).mono ?_); rintro e x24 ⟨rfl, hb24⟩; have HC24 := Lib.hid hb24; clear hb24))
          refine hK.out _ _ (by (try dsimp only); exact Below.trans hHeld (HC24.out.mono (Below.size hHeld))) (fun hHeld => ?_)
          clear hK K
          refine take_at (i := 25) (v := ?_) rfl rfl (by kernel_rfl) (by kernel_rfl) (by kernel_rfl) (fun _ _ _ h => h) (Or.inl ⟨by rfl, ?_⟩) (by assumption) ?_
          rotate_left
          · intro w0 hSw; (try dsimp only at hSw); first | (go_simp; done) | (go_simp; with_reducible rfl)
          simp only [List.setIfInBounds_toArray, List.set_cons_zero, List.set_cons_succ]
          refine take_at (i := 26) (v := ?_) rfl rfl (by kernel_rfl) (by kernel_rfl) (by kernel_rfl) (fun _ _ _ h => h) (Or.inl ⟨by rfl, ?_⟩) (by assumption) ?_
          rotate_left
          · intro w0 hSw; (try dsimp only at hSw); first | (go_simp; done) | (go_simp; with_reducible rfl)
          simp only [List.setIfInBounds_toArray, List.set_cons_zero, List.set_cons_succ]
          refine take_at (i := 27) (v := ?_) rfl rfl (by kernel_rfl) (by kernel_rfl) (by kernel_rfl) (fun _ _ _ h => h) (Or.inl ⟨by rfl, ?_⟩) (by assumption) ?_
          rotate_left
          · intro w0 hSw; (try dsimp only at hSw); first | (go_simp; done) | (go_simp; with_reducible rfl)
          simp only [List.setIfInBounds_toArray, List.set_cons_zero, List.set_cons_succ]
          refine take_at (i := 29) (v := ?_) rfl rfl (by kernel_rfl) (by kernel_rfl) (by kernel_rfl) (fun _ _ _ h => h) (Or.inl ⟨by rfl, ?_⟩) (by assumption) ?_
          rotate_left
          · intro w0 hSw; (try dsimp only at hSw); first | (go_simp; done) | (go_simp; with_reducible rfl)
          simp only [List.setIfInBounds_toArray, List.set_cons_zero, List.set_cons_succ]
          refine wpAnyH_ready (rs := [28, 30]) (by kernel_rfl) (by simp) ?_
          refine AllReadyH.cons rfl (fun K hK => ?_) ?_
          · go_simp
            go_wp2_with ((go_at_call 15; (with_reducible refine (HDG.out _ (HRT.out.below hHeld) (HK9.out.below hHeld)).mono ?_); rintro e x28 ⟨rfl, hb28⟩; have HC28 := Lib.hid hb28; clear hb28))
            refine hK.out _ _ (by (try dsimp only); exact Below.trans hHeld (HC28.out.mono (Below.size hHeld))) (fun hHeld => ?_)
            clear hK K
            refine wpAnyH_ready (rs := [30]) (by kernel_rfl) (by simp) ?_
            refine AllReadyH.cons rfl (fun K hK => ?_) ?_
            · refine step_buildRow_gen (d := 96) rfl (by rfl) rfl rfl ?_
              intro p30 y30 hg30 hz30 hb30
              have HZ30 := Lib.hid hz30
              have HB30 := Lib.hid hb30
              clear hg30 hz30 hb30
              refine hK.out _ _ (by (try dsimp only); exact Below.trans hHeld (HB30.out.mono (Below.size hHeld))) (fun hHeld => ?_)
              clear hK K
              refine wpAnyH_ready (rs := [31]) (by kernel_rfl) (by simp) ?_
              refine AllReadyH.cons rfl (fun K hK => ?_) ?_
              · have hz31 := HZ30.out
                have HZ31 := Lib.hid hz31
                clear hz31
                go_simp
                go_wp2_with ((go_at_call 10; (with_reducible refine (HJD.out _ p30 (HRT.out.below hHeld) (HK9.out.below hHeld) HZ31.out).mono ?_); rintro e x31 ⟨rfl, hb31⟩; have HC31 := Lib.hid hb31; clear hb31))
                refine hK.out _ _ (by (try dsimp only); exact Below.trans hHeld (HC31.out.mono (Below.size hHeld))) (fun hHeld => ?_)
                clear hK K
                refine take_at (i := 32) rfl rfl (by kernel_rfl) (by kernel_rfl) (by kernel_rfl) (fun _ _ _ h => h) (yields_eql (by rfl) rfl rfl rfl HDL.out HDL.out true (by simp)) (by assumption) ?_
                simp only [List.setIfInBounds_toArray, List.set_cons_zero, List.set_cons_succ]
                refine take_at (i := 33) (v := ?_) rfl rfl (by kernel_rfl) (by kernel_rfl) (by kernel_rfl) (fun _ _ _ h => h) (Or.inl ⟨by rfl, ?_⟩) (by assumption) ?_
                rotate_left
                · intro w0 hSw; (try dsimp only at hSw); first | (go_simp; done) | (go_simp; with_reducible rfl)
                simp only [List.setIfInBounds_toArray, List.set_cons_zero, List.set_cons_succ]
                refine take_at (i := 34) (v := ?_) rfl rfl (by kernel_rfl) (by kernel_rfl) (by kernel_rfl) (fun _ _ _ h => h) (Or.inl ⟨by rfl, ?_⟩) (by assumption) ?_
                rotate_left
                · intro w0 hSw; (try dsimp only at hSw); first | (go_simp; done) | (go_simp; with_reducible rfl)
                simp only [List.setIfInBounds_toArray, List.set_cons_zero, List.set_cons_succ]
                refine wpAnyH_ready (rs := [35]) (by kernel_rfl) (by simp) ?_
                refine AllReadyH.cons rfl (fun K hK => ?_) ?_
                · go_simp
                  go_wp2_with ((go_at_call 16; (with_reducible refine (HAW.out _ (HK9.out.below hHeld)).mono ?_); rintro e x35 ⟨rfl, hb35⟩; have HC35 := Lib.hid hb35; clear hb35))
                  refine hK.out _ _ (by (try dsimp only); exact Below.trans hHeld (HC35.out.mono (Below.size hHeld))) (fun hHeld => ?_)
                  clear hK K
                  refine take_at (i := 36) (v := ?_) rfl rfl (by kernel_rfl) (by kernel_rfl) (by kernel_rfl) (fun _ _ _ h => h) (Or.inl ⟨by rfl, ?_⟩) (by assumption) ?_
                  rotate_left
                  · intro w0 hSw; (try dsimp only at hSw); first | (go_simp; done) | (go_simp; with_reducible rfl)
                  simp only [List.setIfInBounds_toArray, List.set_cons_zero, List.set_cons_succ]
                  refine take_at (i := 37) (v := ?_) rfl rfl (by kernel_rfl) (by kernel_rfl) (by kernel_rfl) (fun _ _ _ h => h) (Or.inl ⟨by rfl, ?_⟩) (by assumption) ?_
                  rotate_left
                  · intro w0 hSw; (try dsimp only at hSw); first | (go_simp; done) | (go_simp; with_reducible rfl)
                  simp only [List.setIfInBounds_toArray, List.set_cons_zero, List.set_cons_succ]
                  refine wpAnyH_done (by kernel_rfl) ?_ _
                  have HE := Lib.hid (show Below w9.heap.size w9 x35 from hHeld)
                  go_wp2_with fail
                  go_ret
                  have b10 := HB3.out.trans (HB9.out.mono HB3.out.size)
                  exact ⟨rfl, b10.trans (HE.out.mono b10.size)⟩
                exact AllReadyH.nil
              exact AllReadyH.nil
            exact AllReadyH.nil
          refine AllReadyH.cons rfl (fun K hK => ?_) ?_
          · refine step_buildRow_gen (d := 96) rfl (by rfl) rfl rfl ?_
            intro p30 y30 hg30 hz30 hb30
            have HZ30 := Lib.hid hz30
            have HB30 := Lib.hid hb30
            clear hg30 hz30 hb30
            refine hK.out _ _ (by (try dsimp only); exact Below.trans hHeld (HB30.out.mono (Below.size hHeld))) (fun hHeld => ?_)
            clear hK K
            refine wpAnyH_ready (rs := [28]) (by kernel_rfl) (by simp) ?_
            refine AllReadyH.cons rfl (fun K hK => ?_) ?_
            · go_simp
              go_wp2_with ((go_at_call 15; (with_reducible refine (HDG.out _ (HRT.out.below hHeld) (HK9.out.below hHeld)).mono ?_); rintro e x28 ⟨rfl, hb28⟩; have HC28 := Lib.hid hb28; clear hb28))
              refine hK.out _ _ (by (try dsimp only); exact Below.trans hHeld (HC28.out.mono (Below.size hHeld))) (fun hHeld => ?_)
              clear hK K
              refine wpAnyH_ready (rs := [31]) (by kernel_rfl) (by simp) ?_
              refine AllReadyH.cons rfl (fun K hK => ?_) ?_
              · have hz31 := (HC28.out.block _ (lt_of_block HZ30.out)).trans HZ30.out
                have HZ31 := Lib.hid hz31
                clear hz31
                go_simp
                go_wp2_with ((go_at_call 10; (with_reducible refine (HJD.out _ p30 (HRT.out.below hHeld) (HK9.out.below hHeld) HZ31.out).mono ?_); rintro e x31 ⟨rfl, hb31⟩; have HC31 := Lib.hid hb31; clear hb31))
                refine hK.out _ _ (by (try dsimp only); exact Below.trans hHeld (HC31.out.mono (Below.size hHeld))) (fun hHeld => ?_)
                clear hK K
                refine take_at (i := 32) rfl rfl (by kernel_rfl) (by kernel_rfl) (by kernel_rfl) (fun _ _ _ h => h) (yields_eql (by rfl) rfl rfl rfl HDL.out HDL.out true (by simp)) (by assumption) ?_
                simp only [List.setIfInBounds_toArray, List.set_cons_zero, List.set_cons_succ]
                refine take_at (i := 33) (v := ?_) rfl rfl (by kernel_rfl) (by kernel_rfl) (by kernel_rfl) (fun _ _ _ h => h) (Or.inl ⟨by rfl, ?_⟩) (by assumption) ?_
                rotate_left
                · intro w0 hSw; (try dsimp only at hSw); first | (go_simp; done) | (go_simp; with_reducible rfl)
                simp only [List.setIfInBounds_toArray, List.set_cons_zero, List.set_cons_succ]
                refine take_at (i := 34) (v := ?_) rfl rfl (by kernel_rfl) (by kernel_rfl) (by kernel_rfl) (fun _ _ _ h => h) (Or.inl ⟨by rfl, ?_⟩) (by assumption) ?_
                rotate_left
                · intro w0 hSw; (try dsimp only at hSw); first | (go_simp; done) | (go_simp; with_reducible rfl)
                simp only [List.setIfInBounds_toArray, List.set_cons_zero, List.set_cons_succ]
                refine wpAnyH_ready (rs := [35]) (by kernel_rfl) (by simp) ?_
                refine AllReadyH.cons rfl (fun K hK => ?_) ?_
                · go_simp
                  go_wp2_with ((go_at_call 16; (with_reducible refine (HAW.out _ (HK9.out.below hHeld)).mono ?_); rintro e x35 ⟨rfl, hb35⟩; have HC35 := Lib.hid hb35; clear hb35))
                  refine hK.out _ _ (by (try dsimp only); exact Below.trans hHeld (HC35.out.mono (Below.size hHeld))) (fun hHeld => ?_)
                  clear hK K
                  refine take_at (i := 36) (v := ?_) rfl rfl (by kernel_rfl) (by kernel_rfl) (by kernel_rfl) (fun _ _ _ h => h) (Or.inl ⟨by rfl, ?_⟩) (by assumption) ?_
                  rotate_left
                  · intro w0 hSw; (try dsimp only at hSw); first | (go_simp; done) | (go_simp; with_reducible rfl)
                  simp only [List.setIfInBounds_toArray, List.set_cons_zero, List.set_cons_succ]
                  refine take_at (i := 37) (v := ?_) rfl rfl (by kernel_rfl) (by kernel_rfl) (by kernel_rfl) (fun _ _ _ h => h) (Or.inl ⟨by rfl, ?_⟩) (by assumption) ?_
                  rotate_left
                  · intro w0 hSw; (try dsimp only at hSw); first | (go_simp; done) | (go_simp; with_reducible rfl)
                  simp only [List.setIfInBounds_toArray, List.set_cons_zero, List.set_cons_succ]
                  refine wpAnyH_done (by kernel_rfl) ?_ _
                  have HE := Lib.hid (show Below w9.heap.size w9 x35 from hHeld)
                  go_wp2_with fail
                  go_ret
                  have b10 := HB3.out.trans (HB9.out.mono HB3.out.size)
                  exact ⟨rfl, b10.trans (HE.out.mono b10.size)⟩
                exact AllReadyH.nil
              exact AllReadyH.nil
            exact AllReadyH.nil
          exact AllReadyH.nil
        exact AllReadyH.nil
      exact AllReadyH.nil
end Go.Proofs.YtjmdkgjfcfnbiaaDoor
