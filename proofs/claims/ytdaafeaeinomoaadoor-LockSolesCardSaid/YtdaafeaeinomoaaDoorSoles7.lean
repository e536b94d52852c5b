/- LockSoles, walked. -/
import Derived.Test.YtdaafeaeinomoaaDoorLaw7Same
import Derived.Test.YtdaafeaeinomoaaDoorAwake7
namespace Go.Proofs.YtdaafeaeinomoaaDoor
open Go.RowKit

theorem sole_more {key : Int} {x : PWay} (h : x.ks.length ≠ 1) : soleW key [x] = false := by
  have : ¬ x.ks = [key] := fun e => h (by rw [e]; rfl)
  simp [soleW, this]
theorem sole_key {key z : Int} {x : PWay} (hk : x.ks = [z]) (h : z ≠ key) : soleW key [x] = false := by simp [soleW, hk, h]
theorem sole_hash {key : Int} {x : PWay} (h : decide (x.h = zero32) = false) : soleW key [x] = false := by simp only [soleW, h, Bool.false_and, Bool.and_false]
theorem sole_after {key : Int} {x : PWay} (h : ¬ x.after = 0) : soleW key [x] = false := by simp [soleW, h]
theorem sole_wait {key : Int} {x : PWay} (h : ¬ x.wait = 0) : soleW key [x] = false := by simp [soleW, h]
theorem sole_all {key z : Int} {x : PWay} (hk : x.ks = [z]) (h : z = key) (h1 : decide (x.h = zero32) = true) (h2 : x.after = 0) (h3 : x.wait = 0) : soleW key [x] = true := by simp only [soleW, hk, h, h1, h2, h3]; simp
theorem sole_len {key : Int} {xs : List PWay} (h : xs.length ≠ 1) : soleW key xs = false := by
  match xs with
  | [] => rfl
  | [x] => exact absurd rfl h
  | x :: y :: l => rfl
set_option linter.unusedSimpArgs false in
set_option maxRecDepth 100000 in
set_option maxHeartbeats 12800000 in
theorem solesLaw_walk {w : World} {m key amount : Int} {a : Option Addr} {n c : Nat} {xs : List PWay} (h : Ways w a n c xs) (hf : Fits key) (hk : KsAt w) :
    Calls Tryd.prog 5 #[.agg #[.int .i64 m, .slice a n c], .int .i64 key, .int .i64 amount] w fun e w' => e = .returned (.bool true) ∧ Below w.heap.size w w' := by
  have hn63 : (n : Int) ≤ 9223372036854775807 := by have h1 := h.2.1; have h2 := h.2.2.1; unfold maxLen at h2; omega
  have b1 : Below w.heap.size w (w.alloc (.cells #[.int .i64 m, .slice a n c] 38)) := (Below.refl _ _).alloc (Nat.le_refl _) _
  have h1 := heap_alloc_new w (.cells #[.int .i64 m, .slice a n c] 38)
  have H1 := Lib.hid (h.below b1)
  have HK1 := Lib.hid (hk.below b1)
  have HF := Lib.hid hf
  clear h hk hf
  go_enter Tryd.func5, Tryd.ntmps5
  go_upto_region 1 with (fail)
  revert b1 h1 H1 HK1
  generalize (w.alloc (.cells #[.int .i64 m, .slice a n c] 38)) = w1
  obtain ⟨g, hg⟩ : ∃ g, g = w.heap.size := ⟨_, rfl⟩
  rw [← hg]
  intro b1 h1 H1 HK1
  rw [hg] at b1
  have HB1 := Lib.hid b1
  have hltg := lt_of_block h1
  have RG1 := Lib.hid (range_of (cs := [.int .i64 m, .slice a n c]) h1)
  clear b1 h1 hg
  go_wp2_with (first | (refine wpList_load_mid rfl 38 _ rfl g 0 rfl [.int .i64 m, .slice a n c] _ RG1.out Tryd.underlying38 rfl (by kernel_rfl) ?_) | fail)
  refine (small_law H1.out).mono ?_
  rintro e w2 ⟨rfl, hb2⟩
  generalize fewW xs = r
  have HB2 := Lib.hid (HB1.out.trans (hb2.mono HB1.out.size))
  have HK2 := Lib.hid (HK1.out.below hb2)
  have H2 := Lib.hid (H1.out.below hb2)
  have hrg := rangeAt_below RG1.out hltg hb2
  have RG2 := Lib.hid hrg
  have hltg2 : g < w2.heap.size := Nat.lt_of_lt_of_le hltg hb2.size
  have c1 : w2.cell? ⟨g, 1, none⟩ = some (.slice a n c) := hrg 1 _ rfl
  clear hrg hb2 RG1 hltg H1 HK1
  cases r
  · go_wp2_with (first | (go_at_call 9; (with_reducible refine (awake_any HK2.out).mono ?_); rintro e w3 ⟨rfl, hb3⟩; have HB3 := Lib.hid hb3; clear hb3) | fail)
    go_ret
    exact ⟨rfl, HB2.out.trans (HB3.out.mono HB2.out.size)⟩
  · obtain ⟨R, hR⟩ : ∃ R, soleW key xs = R := ⟨_, rfl⟩
    have HR := Lib.hid hR
    clear hR
    obtain ⟨E, hE⟩ : ∃ E, ((n : Int) == 1) = E := ⟨_, rfl⟩
    go_upto_if 18 with (fail)
    have HE := Lib.hid hE
    have C1 := Lib.hid c1
    clear hE c1
    go_cut [7] from 8 to 83 (fun u w' => u = .bool R ∧ Below w2.heap.size w2 w')
    case first =>
      cases E
      · have hR : R = false := by
          have hl := H2.out.1
          have := HE.out
          rw [← HR.out]
          exact sole_len (fun e => by simp at this; omega)
        subst hR
        go_wp2_with fail
        go_meet
        exact ⟨rfl, Below.refl _ _⟩
      · obtain rfl : n = 1 := by have := HE.out; simp at this; omega
        obtain ⟨x, rfl⟩ : ∃ x, xs = [x] := List.length_eq_one_iff.1 H2.out.1
        obtain ⟨b1, o1, rfl, hltb, hc1⟩ := H2.out.2.2.2.2.2 (by omega)
        have hrx : w2.rangeAt b1 o1 x.cells := by
          have := hc1 0 (by omega)
          rw [Nat.zero_mul, Nat.add_zero] at this
          exact this
        have hx : WayIn w2 x := H2.out.way (j := 0) (by omega)
        have RX := Lib.hid hrx
        have SX := Lib.hid (way_size hx.sum)
        have AX := Lib.hid (way_sizeA hx.sum)
        have ZX := Lib.hid (way_zero hx.sum)
        have SXH := Lib.hid (sumLen hx.sum)
        have HX := Lib.hid hx
        have c1 := C1.out
        clear hc1 hrx hx H2 HE
        go_upto_region 6 with (first | (refine wpList_load_mid rfl 26 _ rfl b1 o1 rfl x.cells _ RX.out Tryd.underlying26 rfl SX.out ?_) | (refine wpList_store_row rfl 26 _ _ rfl w2.heap.size x.cells.toArray rfl rfl 26 noWay.cells.toArray (heap_alloc_new _ _) AX.out ZX.out (all_oneCell_toArray x.cells_one) ?_) | fail)
        rw [← noWay_is, layWay_is]
        have h5 := layWay_heap w2 x
        have b5 := layWay_self w2 x
        have hw5 := HX.out.below b5
        revert h5 b5 hw5
        generalize layWay w2 x = w5
        obtain ⟨q, hq⟩ : ∃ q, q = w2.heap.size := ⟨_, rfl⟩
        rw [← hq]
        intro h5 b5 hw5
        rw [hq] at b5
        have B5 := Lib.hid b5
        have hr5 := range_of h5
        have d0 := way_keys hr5
        have d2 := way_after HX.out.sum hr5
        have d3 := way_wait HX.out.sum hr5
        have hrh := way_sum HX.out.sum hr5
        rw [Nat.zero_add] at d2 d3 hrh
        have RXH := Lib.hid hrh
        clear c1 hr5 h5 b5 hq hrh RX
        try simp only [Act.put]
        obtain ⟨r2, hr2⟩ : ∃ r, decide (x.h = zero32) = r := ⟨_, rfl⟩
        have q2 : ∀ W : World, (Op.equalIn 10000 24 (.agg (cellsOf x.h).toArray) (.agg (cellsOf zero32).toArray)).run Tryd.prog W = .ok r2 W := fun W => by rw [← hr2]; exact run_eqSums _ _ HX.out.sum zero32_len W
        rw [zero32_is] at q2
        have HR2 := Lib.hid hr2
        clear hr2
        by_cases hk1 : x.n = 1
        · rw [hk1] at d0
          obtain ⟨z, hz⟩ : ∃ z, x.ks = [z] := List.length_eq_one_iff.1 (by rw [hw5.keys.1, hk1])
          obtain ⟨b3, o3, e3, _, hc3⟩ := hw5.keys.2.2.2.2.2 (by omega)
          have cz := hc3 0 (by omega)
          rw [hz, Nat.add_zero] at cz
          replace cz : w5.cell? ⟨b3, o3, none⟩ = some (.int .i64 z) := cz
          rw [e3] at d0
          have HZ := Lib.hid hz
          clear hk1 hz e3 hc3 hw5
          by_cases hzk : z = key
          · have hzb : (z == key) = true := by simp [hzk]
            have HZK := Lib.hid hzk
            clear hzk
            cases r2
            · have hR : R = false := by rw [← HR.out]; exact sole_hash HR2.out
              subst hR
              go_wp2_with (first | (refine wpList_mid_wanted (by rfl) 24 _ rfl q 1 rfl (cellsOf x.h) _ RXH.out Tryd.underlying24 rfl SXH.out ?_) | fail)
              go_meet
              exact ⟨rfl, B5.out⟩
            · by_cases ha : x.after = 0
              · have hab : (x.after == 0) = true := by simp [ha]
                have HA := Lib.hid ha
                clear ha
                by_cases hw : x.wait = 0
                · have hwb : (x.wait == 0) = true := by simp [hw]
                  have hR : R = true := by rw [← HR.out]; exact sole_all HZ.out HZK.out HR2.out HA.out hw
                  subst hR
                  clear hw
                  go_wp2_with (first | (refine wpList_mid_wanted (by rfl) 24 _ rfl q 1 rfl (cellsOf x.h) _ RXH.out Tryd.underlying24 rfl SXH.out ?_) | fail)
                  go_meet
                  exact ⟨rfl, B5.out⟩
                · have hwb : (x.wait == 0) = false := by simp [hw]
                  have hR : R = false := by rw [← HR.out]; exact sole_wait hw
                  subst hR
                  clear hw
                  go_wp2_with (first | (refine wpList_mid_wanted (by rfl) 24 _ rfl q 1 rfl (cellsOf x.h) _ RXH.out Tryd.underlying24 rfl SXH.out ?_) | fail)
                  go_meet
                  exact ⟨rfl, B5.out⟩
              · have hab : (x.after == 0) = false := by simp [ha]
                have hR : R = false := by rw [← HR.out]; exact sole_after ha
                subst hR
                clear ha
                go_wp2_with (first | (refine wpList_mid_wanted (by rfl) 24 _ rfl q 1 rfl (cellsOf x.h) _ RXH.out Tryd.underlying24 rfl SXH.out ?_) | fail)
                go_meet
                exact ⟨rfl, B5.out⟩
          · have hzb : (z == key) = false := by simp [hzk]
            have hR : R = false := by rw [← HR.out]; exact sole_key HZ.out hzk
            subst hR
            clear hzk
            go_wp2_with fail
            go_meet
            exact ⟨rfl, B5.out⟩
        · have hkb : ((x.n : Int) == 1) = false := by simp; omega
          have hR : R = false := by
            rw [← HR.out]
            exact sole_more (fun e => hk1 (by rw [← hw5.keys.1, e]))
          subst hR
          clear hk1 hw5
          go_wp2_with fail
          go_meet
          exact ⟨rfl, B5.out⟩
    case rest =>
      obtain ⟨rfl, hbc⟩ := hcut
      have HBC := Lib.hid (HB2.out.trans (hbc.mono HB2.out.size))
      have HKC := Lib.hid (HK2.out.below hbc)
      have HC := Lib.hid (H2.out.below hbc)
      have RGC := Lib.hid (rangeAt_below RG2.out hltg2 hbc)
      have hltgc : g < wc.heap.size := Nat.lt_of_lt_of_le hltg2 hbc.size
      clear hbc C1 HE
      go_wp2_with fail
      refine (to_any key amount _ HF.out).mono ?_
      rintro e w7 ⟨a7, b7, rfl, hw7, hb7⟩
      have HW7 := Lib.hid hw7
      have HB7 := Lib.hid hb7
      clear hw7 hb7
      go_upto_region 8 with (fail)
      have b8 : Below w7.heap.size w7 (w7.alloc (.cells #[.int .i64 amount, .slice a7 1 1] 38)) := (Below.refl _ _).alloc (Nat.le_refl _) _
      have h8 := heap_alloc_new w7 (.cells #[.int .i64 amount, .slice a7 1 1] 38)
      revert b8 h8
      generalize (w7.alloc (.cells #[.int .i64 amount, .slice a7 1 1] 38)) = w8
      obtain ⟨q, hq⟩ : ∃ q, q = w7.heap.size := ⟨_, rfl⟩
      rw [← hq]
      intro b8 h8
      rw [hq] at b8
      clear hq
      have b78 := HB7.out.trans (b8.mono HB7.out.size)
      have hltg8 : g < w8.heap.size := Nat.lt_of_lt_of_le hltgc b78.size
      have hltq := lt_of_block h8
      have RG8 := Lib.hid (rangeAt_below RGC.out hltgc b78)
      have RQ8 := Lib.hid (range_of (cs := [.int .i64 amount, .slice a7 1 1]) h8)
      have HW8 := Lib.hid (HW7.out.below b8)
      have HB8 := Lib.hid (HBC.out.trans (b78.mono HBC.out.size))
      have HK8 := Lib.hid (HKC.out.below b78)
      have HC8 := Lib.hid (HC.out.below b78)
      clear b8 h8 b78 hltgc RGC HW7 HC HKC HBC HB7 RG2 HB2 HK2 H2 hltg2
      go_wp2_with (first | (refine wpList_load_mid rfl 38 _ rfl g 0 rfl [.int .i64 m, .slice a n c] _ RG8.out Tryd.underlying38 rfl (by kernel_rfl) ?_) | fail)
      refine (lockSole_any HC8.out HF.out).mono ?_
      rintro e w9 ⟨he, hb9⟩
      have he : e = .returned (.bool R) := by rw [he, HR.out]
      subst he
      have hltq9 : q < w9.heap.size := Nat.lt_of_lt_of_le hltq hb9.size
      have hrq := rangeAt_below RQ8.out hltq hb9
      have RQ9 := Lib.hid hrq
      have k0 : w9.cell? ⟨q, 0, none⟩ = some (.int .i64 amount) := hrq 0 _ rfl
      have k1 : w9.cell? ⟨q, 1, none⟩ = some (.slice a7 1 1) := hrq 1 _ rfl
      have HW9 := Lib.hid (HW8.out.below hb9)
      have HB9 := Lib.hid (HB8.out.trans (hb9.mono HB8.out.size))
      have HK9 := Lib.hid (HK8.out.below hb9)
      clear hb9 hrq RQ8 RG8 HW8 HB8 HK8 HC8 hltq hltg8
      go_wp2_with (first | (refine wpList_mid_wanted (by rfl) 38 _ rfl q 0 rfl [.int .i64 amount, .slice a7 1 1] _ RQ9.out Tryd.underlying38 rfl (by kernel_rfl) ?_) | fail)
      obtain ⟨x, hx⟩ : ∃ x : PWay, x = ⟨some ⟨w9.heap.size, 0, none⟩, 1, 1, [key], zero32, 0, 0⟩ := ⟨_, rfl⟩
      have hxc : x.cells.toArray = #[.slice (some ⟨w9.heap.size, 0, none⟩) 1 1, .int .u8 0, .int .u8 0, .int .u8 0, .int .u8 0, .int .u8 0, .int .u8 0, .int .u8 0, .int .u8 0, .int .u8 0, .int .u8 0, .int .u8 0, .int .u8 0, .int .u8 0, .int .u8 0, .int .u8 0, .int .u8 0, .int .u8 0, .int .u8 0, .int .u8 0, .int .u8 0, .int .u8 0, .int .u8 0, .int .u8 0, .int .u8 0, .int .u8 0, .int .u8 0, .int .u8 0, .int .u8 0, .int .u8 0, .int .u8 0, .int .u8 0, .int .u8 0, .int .i64 0, .int .i64 0] := by rw [hx]; rfl
      rw [← hxc]
      have b10 : Below w9.heap.size w9 ((w9.alloc (.cells #[.int .i64 key] 3)).alloc (.cells x.cells.toArray 26)) := ((Below.refl _ _).alloc (Nat.le_refl _) _).alloc (by simp) _
      have hlit : Ways ((w9.alloc (.cells #[.int .i64 key] 3)).alloc (.cells x.cells.toArray 26)) (some ⟨w9.heap.size + 1, 0, none⟩) 1 1 [x] := by
        refine ways_one (t := 26) (fr := (0, 0)) (heap_alloc_at _ _ _ (by simp)) ?_
        rw [hx]
        refine ⟨numbers_one (t := 3) (fr := (0, 0)) ?_ HF.out, zero32_len, ?_, ?_⟩
        · rw [heap_alloc_old _ _ (by simp)]
          exact heap_alloc_new _ _
        · show Fits 0
          constructor <;> decide
        · show Fits 0
          constructor <;> decide
      have ha : alikeWs [⟨b7, 1, 1, [key], zero32, 0, 0⟩] [x] = true := by rw [hx]; simp [alikeWs, alikeW]
      refine (same_law (m := amount) (m' := amount) (HW9.out.below b10) hlit).mono ?_
      rintro e w11 ⟨he, hb11⟩
      have he : e = .returned (.bool true) := by rw [he, ha, decide_eq_true rfl]; rfl
      subst he
      have hb12 := b10.trans (hb11.mono b10.size)
      have HB12 := Lib.hid (HB9.out.trans (hb12.mono HB9.out.size))
      have HK12 := Lib.hid (HK9.out.below hb12)
      clear hx hxc b10 hlit ha hb11 hb12 k0 k1
      go_wp2_with (first | (go_at_call 9; (with_reducible refine (awake_any HK12.out).mono ?_); rintro e w13 ⟨rfl, hb13⟩; have HB13 := Lib.hid hb13; clear hb13) | fail)
      go_ret
      exact ⟨rfl, HB12.out.trans (HB13.out.mono HB12.out.size)⟩
end Go.Proofs.YtdaafeaeinomoaaDoor
