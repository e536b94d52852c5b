/- What the document's own 'climb' comes to: the root that a path leads to. -/
import Derived.Test.YtmbfpopfabjodaaDoorHelpers
import Derived.Test.YtmbfpopfabjodaaDoorCheck
namespace Go.Proofs.YtmbfpopfabjodaaDoor
open Go.RowKit

/-- What climb tells: where the path leads, and whether it does. -/
def Climbed (w : World) (R : Option (List UInt8)) (e : Ending) (w' : World) : Prop :=
  ∃ (now : List UInt8) (b : Bool), e = .returned (.tuple #[.agg (cellsOf now).toArray, .bool b]) ∧ now.length = 32 ∧ (b = true → R = some now) ∧ (b = false → R = none) ∧ Below w.heap.size w w'
/-- A climb under way. -/
def Climbing (w1 : World) (q : Nat) (p : List (List UInt8)) (R : Option (List UInt8)) (x y z u : Value) (wr : World) : Prop :=
  ∃ (d i n k it : Nat) (now : List UInt8), x = .int .i64 i ∧ y = .int .i64 n ∧ z = .int .i64 k ∧ u = .int .i64 it ∧ i < n ∧ n ≤ 2 ^ d ∧ n ≤ 4096 ∧ k ≤ p.length ∧ it + d ≤ 12 ∧ now.length = 32 ∧
    wr.heap[q]? = some (.cells (cellsOf now).toArray 24 (0, 0)) ∧ Below w1.heap.size w1 wr ∧ ascend pairSum d now i n (p.drop k) = R
theorem drop_none {p : List (List UInt8)} {k : Nat} (h : p.length ≤ k) : p.drop k = [] := List.drop_of_length_le h
theorem drop_empty {p : List (List UInt8)} {k : Nat} : (p.drop k).isEmpty = decide (p.length ≤ k) := by
  by_cases h : p.length ≤ k
  · rw [drop_none h]; simp [h]
  · cases e : p.drop k with
    | nil => exact absurd (List.drop_eq_nil_iff.1 e) h
    | cons x y => simp [h]
set_option linter.unusedSimpArgs false in
set_option maxRecDepth 100000 in
set_option maxHeartbeats 3200000 in
theorem climb_any {w : World} {s : List UInt8} {a : Option Addr} {m c : Nat} {p : List (List UInt8)} (i n : Nat) (hi : i < n) (hn : n ≤ 4096) (hs : s.length = 32) (hm : m ≤ 1000) (h : Sums w a m c p) (hk : KsAt w) :
    Calls Tryd.prog 16 #[.agg (cellsOf s).toArray, .int .i64 (i : Int), .int .i64 (n : Int), .slice a m c] w fun e w' => Climbed w (ascend pairSum 12 (leafSum s) i n p) e w' := by
  obtain ⟨l, hl, hll, hlf⟩ : ∃ l, leafSum s = l ∧ l.length = 32 ∧ ∀ W : World, KsAt W → Calls Tryd.prog 11 #[.agg (cellsOf s).toArray] W fun e w' => e = .returned (.agg (cellsOf l).toArray) ∧ Below W.heap.size W w' := ⟨_, rfl, leafSum_len s, fun W hW => leaf_law hs hW⟩
  rw [hl]
  obtain ⟨R, hR⟩ : ∃ R, R = ascend pairSum 12 l i n p := ⟨_, rfl⟩
  rw [← hR]
  have szs : (Tryd.prog.info? 24).map (·.size) = some (cellsOf s).toArray.size := by rw [List.size_toArray, cellsOf_len, hs]; exact Tryd.size24
  have szl : (Tryd.prog.info? 24).map (·.size) = some (cellsOf l).toArray.size := by rw [List.size_toArray, cellsOf_len, hll]; exact Tryd.size24
  have hz : (cellsOf zero32).toArray.size = (cellsOf l).toArray.size := by rw [List.size_toArray, List.size_toArray, cellsOf_len, cellsOf_len, hll]; rfl
  have hm63 : m ≤ 9223372036854775807 := by omega
  have H := Lib.hid h
  have HK := Lib.hid hk
  have HI := Lib.hid hi
  have HN := Lib.hid hn
  have HM := Lib.hid hm
  have HSL := Lib.hid hs
  have HLL := Lib.hid hll
  have HLF := Lib.hid hlf
  have HRR := Lib.hid hR
  have SZS := Lib.hid szs
  have SZL := Lib.hid szl
  have HZ := Lib.hid hz
  clear h hk hs hl hll hlf hR szs szl hz hi hn hm hm63
  go_enter Tryd.func16, Tryd.ntmps16
  go_upto_region 1 with (fail)
  rw [← zero32_is]
  have b1 : Below w.heap.size w ((w.alloc (.cells (cellsOf s).toArray 24)).alloc (.cells (cellsOf zero32).toArray 24)) := ((Below.refl _ _).alloc (Nat.le_refl _) _).alloc (by simp) _
  have h1 : ((w.alloc (.cells (cellsOf s).toArray 24)).alloc (.cells (cellsOf zero32).toArray 24)).heap[w.heap.size]? = some (.cells (cellsOf s).toArray 24 (0, 0)) := by
    rw [heap_alloc_old _ _ (by simp), heap_alloc_new]
  have h2 : ((w.alloc (.cells (cellsOf s).toArray 24)).alloc (.cells (cellsOf zero32).toArray 24)).heap[w.heap.size + 1]? = some (.cells (cellsOf zero32).toArray 24 (0, 0)) := heap_alloc_at _ _ _ (by simp)
  revert b1 h1 h2
  generalize ((w.alloc (.cells (cellsOf s).toArray 24)).alloc (.cells (cellsOf zero32).toArray 24)) = w1
  obtain ⟨g, hg⟩ : ∃ g, g = w.heap.size := ⟨_, rfl⟩
  rw [← hg]
  intro b1 h1 h2
  rw [hg] at b1
  have HG := Lib.hid hg
  have HB1 := Lib.hid b1
  have H1 := Lib.hid h1
  have H2 := Lib.hid h2
  clear b1 h1 h2 hg
  go_wp2_with (first | (refine wpList_load_row rfl 24 _ rfl g rfl 24 (cellsOf s).toArray (0, 0) _ H1.out Tryd.underlying24 rfl SZS.out ?_) | fail)
  refine (HLF.out _ (HK.out.below HB1.out)).mono ?_
  rintro e w2 ⟨rfl, hb2⟩
  have HB2 := Lib.hid hb2
  clear hb2
  go_wp2_with (refine wpList_store_row rfl 24 _ _ rfl w2.heap.size (cellsOf l).toArray rfl rfl 24 (cellsOf zero32).toArray (heap_alloc_new _ _) SZL.out HZ.out (all_oneCell_toArray (cellsOf_one l)) ?_)
  rw [← zero32_is]
  have b3 : Below w1.heap.size w1 ((w2.alloc (.cells (cellsOf zero32).toArray 24)).setRow w2.heap.size (cellsOf l).toArray) := by
    have b : Below w1.heap.size w1 (w2.alloc (.cells (cellsOf zero32).toArray 24)) := HB2.out.alloc HB2.out.size _
    exact b.trans (((but_setRow _ w2.heap.size _).mono b.size).below HB2.out.size)
  have h3 : ((w2.alloc (.cells (cellsOf zero32).toArray 24)).setRow w2.heap.size (cellsOf l).toArray).heap[w2.heap.size]? = some (.cells (cellsOf l).toArray 24 (0, 0)) := setRow_heap _ _ _ _ _ _ (heap_alloc_new _ _)
  revert b3 h3
  generalize ((w2.alloc (.cells (cellsOf zero32).toArray 24)).setRow w2.heap.size (cellsOf l).toArray) = w3
  obtain ⟨q, hq⟩ : ∃ q, q = w2.heap.size := ⟨_, rfl⟩
  rw [← hq]
  intro b3 h3
  have hq1 : w1.heap.size ≤ q := by rw [hq]; exact HB2.out.size
  have HWQ := Lib.hid hq1
  have H5 := Lib.hid (H.out.below HB1.out)
  have hcl : Climbing w1 q p R (.int .i64 (i : Int)) (.int .i64 (n : Int)) (.int .i64 0) (.int .i64 0) w3 := ⟨12, i, n, 0, 0, l, rfl, rfl, rfl, rfl, HI.out, HN.out, HN.out, Nat.zero_le _, by omega, HLL.out, h3, b3, by rw [List.drop_zero]; exact HRR.out.symm⟩
  have HCL := Lib.hid hcl
  clear b3 h3 hq hq1 hcl
  go_loopw [1, 2, 11, 12] (fun x y z u wr => Climbing w1 q p R x y z u wr) (fun _ y _ _ _ => manyOf y)
  case atStart => exact HCL.out
  case round =>
    obtain ⟨d, i, n, k, it, now, rfl, rfl, rfl, rfl, hin, hnd, hn, hkp, hit, hnl, hgq, hb, hR⟩ := hrel
    rw [H5.out.len] at hkp
    have HNL := Lib.hid hnl
    have HGQ := Lib.hid hgq
    have HB := Lib.hid hb
    have HRA := Lib.hid hR
    have HIN := Lib.hid hin
    have HND := Lib.hid hnd
    have HN4 := Lib.hid hn
    have HIT := Lib.hid hit
    have HKP := Lib.hid hkp
    have szn : (Tryd.prog.info? 24).map (·.size) = some (cellsOf now).toArray.size := by rw [List.size_toArray, cellsOf_len, hnl]; exact Tryd.size24
    have SZN := Lib.hid szn
    have hz8 : (cellsOf zero32).toArray.size = (cellsOf now).toArray.size := by rw [List.size_toArray, List.size_toArray, cellsOf_len, cellsOf_len, hnl]; rfl
    have HZ8 := Lib.hid hz8
    have HG8 := Lib.hid ((hb.block _ (lt_of_block H2.out)).trans H2.out)
    have i0 : (0 : Int) ≤ (i : Int) := by omega
    have i1 : (i : Int) < 4096 := by omega
    have n1 : (n : Int) ≤ 4096 := by omega
    have n0 : (0 : Int) < (n : Int) := by omega
    have k1 : (k : Int) ≤ 1000 := by have := HM.out; omega
    have t1 : (it : Int) ≤ 12 := by omega
    have hdiv : (i : Int) / 2 = ((i / 2 : Nat) : Int) := by omega
    have hn2 : ((n : Int) + 1) / 2 = (((n + 1) / 2 : Nat) : Int) := by omega
    have hbes : (i : Int) + 1 - 2 * ((i : Int) % 2) = ((beside i : Nat) : Int) := by unfold beside; omega
    have HDIV := Lib.hid hdiv
    have HN2 := Lib.hid hn2
    have HBES := Lib.hid hbes
    have hlen := H5.out.len
    have HLEN := Lib.hid hlen
    clear hnl hgq hb hR hnd hn HCL szn hz8 hdiv hn2 hbes hlen hit hkp HI HN HRR H
    by_cases hn1 : n ≤ 1
    · have h1 : ¬ ((1 : Int) < (n : Int)) := by omega
      have he := ascend_end (d := d) (i := i) (now := now) (left := p.drop k) hn1
      rw [HRA.out, drop_empty, HLEN.out] at he
      have HE := Lib.hid he
      clear he hn1 hin
      have t2 : ((it : Int) < 13) := by omega
      go_wp2_with (first | (refine wpList_load_row rfl 24 _ rfl q rfl 24 (cellsOf now).toArray (0, 0) _ HGQ.out Tryd.underlying24 rfl SZN.out ?_) | (refine wpList_store_row rfl 24 _ _ rfl (g + 1) (cellsOf now).toArray rfl rfl 24 (cellsOf zero32).toArray HG8.out SZN.out HZ8.out (all_oneCell_toArray (cellsOf_one now)) ?_))
      refine bodyPost_ret (results_cell_then rfl _ _ (g + 1) 24 (cellsOf now).toArray (0, 0) _ (.bool ((k : Int) == (m : Int))) rfl rfl (setRow_heap wr (g + 1) _ _ 24 _ HG8.out) Tryd.underlying24 rfl SZN.out) rfl ⟨now, _, rfl, HNL.out, (fun h => by rw [HE.out, if_pos (by have := beq_iff_eq.1 h; simp; omega)]), (fun h => by rw [HE.out, if_neg (by have := HKP.out; have := beq_eq_false_iff_ne.1 h; simp; omega)]), ?_⟩
      have b7 : Below w.heap.size w wr := HB1.out.trans (HB.out.mono HB1.out.size)
      exact b7.trans (((but_setRow _ (g + 1) _).mono b7.size).below (by rw [HG.out]; omega))
    · have h1 : (1 : Int) < (n : Int) := by omega
      have t2 : ((it : Int) < 13) := by omega
      obtain ⟨d, rfl⟩ : ∃ d', d = d' + 1 := by
        cases d with
        | zero => have := HND.out; simp at this; omega
        | succ d => exact ⟨d, rfl⟩
      by_cases hbn : beside i < n
      · have b0 : (i : Int) + 1 - 2 * ((i : Int) % 2) < (n : Int) := by rw [HBES.out]; omega
        by_cases hkm : m ≤ k
        · have hkm' : m = k := by have := HKP.out; omega
          have k0 : (m : Int) ≤ (k : Int) := by omega
          have he : ascend pairSum (d + 1) now i n (p.drop k) = none := by rw [drop_none (by rw [HLEN.out]; exact hkm)]; exact ascend_lack hn1 hbn
          rw [HRA.out] at he
          have HE := Lib.hid he
          clear he hbn hn1 hkm hkm' hin
          go_wp2_with (first | (refine wpList_load_row rfl 24 _ rfl q rfl 24 (cellsOf now).toArray (0, 0) _ HGQ.out Tryd.underlying24 rfl SZN.out ?_) | (refine wpList_store_row rfl 24 _ _ rfl (g + 1) (cellsOf now).toArray rfl rfl 24 (cellsOf zero32).toArray HG8.out SZN.out HZ8.out (all_oneCell_toArray (cellsOf_one now)) ?_))
          refine bodyPost_ret (results_cell_then rfl _ _ (g + 1) 24 (cellsOf now).toArray (0, 0) _ (.bool false) rfl rfl (setRow_heap wr (g + 1) _ _ 24 _ HG8.out) Tryd.underlying24 rfl SZN.out) rfl ⟨now, _, rfl, HNL.out, (fun h => by cases h), (fun _ => HE.out), ?_⟩
          have b7 : Below w.heap.size w wr := HB1.out.trans (HB.out.mono HB1.out.size)
          exact b7.trans (((but_setRow _ (g + 1) _).mono b7.size).below (by rw [HG.out]; omega))
        · have hkm2 : k < m := by omega
          have k0 : ¬ ((m : Int) ≤ (k : Int)) := by omega
          obtain ⟨b, off, rfl, hlt, hcells⟩ := H5.out.2.2.2.2.2 (by omega)
          have hrt := hcells k hkm2
          have htl := H5.out.each hkm2
          obtain ⟨t, het⟩ : ∃ t, p.getD k [] = t := ⟨_, rfl⟩
          rw [het] at hrt htl
          have hst := ascend_step (d := d) (now := now) (left := p.drop k) hn1 hbn (by rw [List.length_drop, HLEN.out]; omega) (t := t) (by rw [← het]; simp [List.getD])
          rw [HRA.out, List.drop_drop] at hst
          have szt : (Tryd.prog.info? 24).map (·.size) = some (cellsOf t).length := by rw [cellsOf_len, htl]; exact Tryd.size24
          have HRT := Lib.hid hrt
          have SZT := Lib.hid szt
          clear hcells hrt het szt hbn hkm
          by_cases hev : i % 2 = 0
          · have e2 : (i : Int) % 2 = 0 := by omega
            obtain ⟨jo, hjo', hjl, hpr⟩ : ∃ jo, joinOf i now t = jo ∧ jo.length = 32 ∧ ∀ W : World, KsAt W → Calls Tryd.prog 22 #[.int .u8 2, .agg (cellsOf now).toArray, .agg (cellsOf t).toArray] W fun e w' => e = .returned (.agg (cellsOf jo).toArray) ∧ Below W.heap.size W w' := ⟨_, rfl, joinOf_len _ _ _, fun W hW => by unfold joinOf; rw [if_pos hev]; exact pair_any 2 2 rfl HNL.out htl hW⟩
            rw [hjo'] at hst
            have szj : (Tryd.prog.info? 24).map (·.size) = some (cellsOf jo).toArray.size := by rw [List.size_toArray, cellsOf_len, hjl]; exact Tryd.size24
            have hzj : (cellsOf now).toArray.size = (cellsOf jo).toArray.size := by rw [List.size_toArray, List.size_toArray, cellsOf_len, cellsOf_len, hjl, HNL.out]
            have HRN := Lib.hid hst.symm
            have HJL := Lib.hid hjl
            have HPR := Lib.hid hpr
            have SZJ := Lib.hid szj
            have HZJ := Lib.hid hzj
            clear htl hst hjo' hjl hpr szj hzj hin hev
            go_wp2_with fail
            refine wp_region_held_drew (S := fun w' => Below w1.heap.size w1 w') (by kernel_rfl) (below_drew HB.out) (fun hHeld => ?_)
            refine take_at (i := 1) (v := ?_) rfl rfl (by kernel_rfl) (by kernel_rfl) (by kernel_rfl) (fun _ _ _ h => h) (Or.inl ⟨by rfl, ?_⟩) (by assumption) ?_
            rotate_left
            · intro w0 hSw; (try dsimp only at hSw); first | (go_simp; done) | (go_simp; with_reducible rfl)
            simp only [List.setIfInBounds_toArray, List.set_cons_zero, List.set_cons_succ]
            refine take_at (i := 2) (v := ?_) rfl rfl (by kernel_rfl) (by kernel_rfl) (by kernel_rfl) (fun _ _ _ h => h) (Or.inl ⟨by rfl, ?_⟩) (by assumption) ?_
            rotate_left
            · intro w0 hSw; (try dsimp only at hSw); first | (go_simp; done) | (go_simp; with_reducible rfl)
            simp only [List.setIfInBounds_toArray, List.set_cons_zero, List.set_cons_succ]
            refine take_at (i := 3) (v := ?_) rfl rfl (by kernel_rfl) (by kernel_rfl) (by kernel_rfl) (fun _ _ _ h => h) (Or.inl ⟨by rfl, ?_⟩) (by assumption) ?_
            rotate_left
            · intro w0 hSw; (try dsimp only at hSw); first | (go_simp; done) | (go_simp; with_reducible rfl)
            simp only [List.setIfInBounds_toArray, List.set_cons_zero, List.set_cons_succ]
            refine take_at (i := 4) rfl rfl (by kernel_rfl) (by kernel_rfl) (by kernel_rfl) (fun _ _ _ h => h) (yieldsIf_load_mid (by rfl) _ _ rfl b (off + k * 32) rfl (cellsOf t) _ (fun w0 hSw => rangeAt_below HRT.out hlt hSw) Tryd.underlying24 rfl SZT.out) (by assumption) ?_
            simp only [List.setIfInBounds_toArray, List.set_cons_zero, List.set_cons_succ]
            refine wpAnyH_ready (rs := [0]) (by kernel_rfl) (by simp) ?_
            refine AllReadyH.cons rfl (fun K hK => ?_) ?_
            · rw [if_pos (by rfl)]
              refine wp_load_row 24 _ rfl q rfl 24 (cellsOf now).toArray (0, 0) _ HGQ.out Tryd.underlying24 rfl SZN.out ?_
              refine hK.out _ _ (by (try dsimp only); exact hHeld) (fun hHeld => ?_)
              clear hK K
              refine wpAnyH_ready (rs := [5]) (by kernel_rfl) (by simp) ?_
              refine AllReadyH.cons rfl (fun K hK => ?_) ?_
              · go_simp
                go_wp2_with ((go_at_call 22; (with_reducible refine (HPR.out _ ((HK.out.below HB1.out).below hHeld)).mono ?_); rintro e w5 ⟨rfl, hb5⟩; have HB5 := Lib.hid hb5; clear hb5))
                refine hK.out _ _ (by (try dsimp only); exact Below.trans hHeld (HB5.out.mono (Below.size hHeld))) (fun hHeld => ?_)
                clear hK K
                refine wpAnyH_ready (rs := [6]) (by kernel_rfl) (by simp) ?_
                refine AllReadyH.cons rfl (fun K hK => ?_) ?_
                · have hq5 := (HB5.out.block q (lt_of_block HGQ.out)).trans HGQ.out
                  have HQ5 := Lib.hid hq5
                  have b6 : Below w1.heap.size w1 (w5.setRow q (cellsOf jo).toArray) := by
                    have b5 : Below w1.heap.size w1 w5 := hHeld
                    exact b5.trans (((but_setRow _ q _).mono b5.size).below HWQ.out)
                  have HB6 := Lib.hid b6
                  have HQ6 := Lib.hid (setRow_heap w5 q _ (cellsOf jo).toArray 24 _ HQ5.out)
                  clear hq5 b6
                  rw [if_pos (by rfl)]
                  refine wp_store_row 24 _ _ rfl q (cellsOf jo).toArray rfl rfl 24 (cellsOf now).toArray HQ5.out SZJ.out HZJ.out (all_oneCell_toArray (cellsOf_one jo)) ?_
                  refine hK.out _ _ (by (try dsimp only); exact HB6.out) (fun hHeld => ?_)
                  clear hK K
                  refine wpAnyH_done (by kernel_rfl) ?_ _
                  have hcl : Climbing w1 q p R (.int .i64 ((i / 2 : Nat) : Int)) (.int .i64 (((n + 1) / 2 : Nat) : Int)) (.int .i64 ((k : Int) + 1)) (.int .i64 ((it : Int) + 1)) (w5.setRow q (cellsOf jo).toArray) := ⟨d, i / 2, (n + 1) / 2, k + 1, it + 1, jo, rfl, rfl, by go_num, by go_num, (half_lt HIN.out hn1).1, by have := HND.out; rw [Nat.pow_succ] at this; omega, by have := HN4.out; omega, by rw [HLEN.out]; have := HKP.out; omega, by have := HIT.out; omega, HJL.out, HQ6.out, HB6.out, HRN.out⟩
                  have HCL := Lib.hid hcl
                  clear hcl
                  go_wp2_with fail
                  go_roundw
                  case rel => exact (by first | (rw [HDIV.out, HN2.out]; exact HCL.out) | (rw [HDIV.out]; exact HCL.out))
                  case measure => simp [manyOf]; omega
                exact AllReadyH.nil
              exact AllReadyH.nil
            exact AllReadyH.nil
          · have e2 : (i : Int) % 2 = 1 := by omega
            obtain ⟨jo, hjo', hjl, hpr⟩ : ∃ jo, joinOf i now t = jo ∧ jo.length = 32 ∧ ∀ W : World, KsAt W → Calls Tryd.prog 22 #[.int .u8 2, .agg (cellsOf t).toArray, .agg (cellsOf now).toArray] W fun e w' => e = .returned (.agg (cellsOf jo).toArray) ∧ Below W.heap.size W w' := ⟨_, rfl, joinOf_len _ _ _, fun W hW => by unfold joinOf; rw [if_neg hev]; exact pair_any 2 2 rfl htl HNL.out hW⟩
            rw [hjo'] at hst
            have szj : (Tryd.prog.info? 24).map (·.size) = some (cellsOf jo).toArray.size := by rw [List.size_toArray, cellsOf_len, hjl]; exact Tryd.size24
            have hzj : (cellsOf now).toArray.size = (cellsOf jo).toArray.size := by rw [List.size_toArray, List.size_toArray, cellsOf_len, cellsOf_len, hjl, HNL.out]
            have HRN := Lib.hid hst.symm
            have HJL := Lib.hid hjl
            have HPR := Lib.hid hpr
            have SZJ := Lib.hid szj
            have HZJ := Lib.hid hzj
            clear htl hst hjo' hjl hpr szj hzj hin hev
            go_wp2_with fail
            refine wp_region_held_drew (S := fun w' => Below w1.heap.size w1 w') (by kernel_rfl) (below_drew HB.out) (fun hHeld => ?_)
            refine take_at (i := 0) (v := ?_) rfl rfl (by kernel_rfl) (by kernel_rfl) (by kernel_rfl) (fun _ _ _ h => h) (Or.inl ⟨by rfl, ?_⟩) (by assumption) ?_
            rotate_left
            · intro w0 hSw; (try dsimp only at hSw); first | (go_simp; done) | (go_simp; with_reducible rfl)
            simp only [List.setIfInBounds_toArray, List.set_cons_zero, List.set_cons_succ]
            refine take_at (i := 1) (v := ?_) rfl rfl (by kernel_rfl) (by kernel_rfl) (by kernel_rfl) (fun _ _ _ h => h) (Or.inl ⟨by rfl, ?_⟩) (by assumption) ?_
            rotate_left
            · intro w0 hSw; (try dsimp only at hSw); first | (go_simp; done) | (go_simp; with_reducible rfl)
            simp only [List.setIfInBounds_toArray, List.set_cons_zero, List.set_cons_succ]
            refine take_at (i := 2) (v := ?_) rfl rfl (by kernel_rfl) (by kernel_rfl) (by kernel_rfl) (fun _ _ _ h => h) (Or.inl ⟨by rfl, ?_⟩) (by assumption) ?_
            rotate_left
            · intro w0 hSw; (try dsimp only at hSw); first | (go_simp; done) | (go_simp; with_reducible rfl)
            simp only [List.setIfInBounds_toArray, List.set_cons_zero, List.set_cons_succ]
            refine take_at (i := 3) rfl rfl (by kernel_rfl) (by kernel_rfl) (by kernel_rfl) (fun _ _ _ h => h) (yieldsIf_load_mid (by rfl) _ _ rfl b (off + k * 32) rfl (cellsOf t) _ (fun w0 hSw => rangeAt_below HRT.out hlt hSw) Tryd.underlying24 rfl SZT.out) (by assumption) ?_
            simp only [List.setIfInBounds_toArray, List.set_cons_zero, List.set_cons_succ]
            refine wpAnyH_ready (rs := [4]) (by kernel_rfl) (by simp) ?_
            refine AllReadyH.cons rfl (fun K hK => ?_) ?_
            · rw [if_pos (by rfl)]
              refine wp_load_row 24 _ rfl q rfl 24 (cellsOf now).toArray (0, 0) _ HGQ.out Tryd.underlying24 rfl SZN.out ?_
              refine hK.out _ _ (by (try dsimp only); exact hHeld) (fun hHeld => ?_)
              clear hK K
              refine wpAnyH_ready (rs := [5]) (by kernel_rfl) (by simp) ?_
              refine AllReadyH.cons rfl (fun K hK => ?_) ?_
              · go_simp
                go_wp2_with ((go_at_call 22; (with_reducible refine (HPR.out _ ((HK.out.below HB1.out).below hHeld)).mono ?_); rintro e w5 ⟨rfl, hb5⟩; have HB5 := Lib.hid hb5; clear hb5))
                refine hK.out _ _ (by (try dsimp only); exact Below.trans hHeld (HB5.out.mono (Below.size hHeld))) (fun hHeld => ?_)
                clear hK K
                refine wpAnyH_ready (rs := [6]) (by kernel_rfl) (by simp) ?_
                refine AllReadyH.cons rfl (fun K hK => ?_) ?_
                · have hq5 := (HB5.out.block q (lt_of_block HGQ.out)).trans HGQ.out
                  have HQ5 := Lib.hid hq5
                  have b6 : Below w1.heap.size w1 (w5.setRow q (cellsOf jo).toArray) := by
                    have b5 : Below w1.heap.size w1 w5 := hHeld
                    exact b5.trans (((but_setRow _ q _).mono b5.size).below HWQ.out)
                  have HB6 := Lib.hid b6
                  have HQ6 := Lib.hid (setRow_heap w5 q _ (cellsOf jo).toArray 24 _ HQ5.out)
                  clear hq5 b6
                  rw [if_pos (by rfl)]
                  refine wp_store_row 24 _ _ rfl q (cellsOf jo).toArray rfl rfl 24 (cellsOf now).toArray HQ5.out SZJ.out HZJ.out (all_oneCell_toArray (cellsOf_one jo)) ?_
                  refine hK.out _ _ (by (try dsimp only); exact HB6.out) (fun hHeld => ?_)
                  clear hK K
                  refine wpAnyH_done (by kernel_rfl) ?_ _
                  have hcl : Climbing w1 q p R (.int .i64 ((i / 2 : Nat) : Int)) (.int .i64 (((n + 1) / 2 : Nat) : Int)) (.int .i64 ((k : Int) + 1)) (.int .i64 ((it : Int) + 1)) (w5.setRow q (cellsOf jo).toArray) := ⟨d, i / 2, (n + 1) / 2, k + 1, it + 1, jo, rfl, rfl, by go_num, by go_num, (half_lt HIN.out hn1).1, by have := HND.out; rw [Nat.pow_succ] at this; omega, by have := HN4.out; omega, by rw [HLEN.out]; have := HKP.out; omega, by have := HIT.out; omega, HJL.out, HQ6.out, HB6.out, HRN.out⟩
                  have HCL := Lib.hid hcl
                  clear hcl
                  go_wp2_with fail
                  go_roundw
                  case rel => exact (by first | (rw [HDIV.out, HN2.out]; exact HCL.out) | (rw [HDIV.out]; exact HCL.out))
                  case measure => simp [manyOf]; omega
                exact AllReadyH.nil
              exact AllReadyH.nil
            exact AllReadyH.nil
      · have b0 : ¬ ((i : Int) + 1 - 2 * ((i : Int) % 2) < (n : Int)) := by rw [HBES.out]; omega
        have he := ascend_skip (d := d) (now := now) (left := p.drop k) hn1 hbn
        rw [HRA.out] at he
        have hcl : Climbing w1 q p R (.int .i64 ((i / 2 : Nat) : Int)) (.int .i64 (((n + 1) / 2 : Nat) : Int)) (.int .i64 (k : Int)) (.int .i64 ((it : Int) + 1)) wr := ⟨d, i / 2, (n + 1) / 2, k, it + 1, now, rfl, rfl, rfl, by go_num, (half_lt HIN.out hn1).1, by have := HND.out; rw [Nat.pow_succ] at this; omega, by have := HN4.out; omega, by rw [HLEN.out]; have := HKP.out; omega, by have := HIT.out; omega, HNL.out, HGQ.out, HB.out, he.symm⟩
        have HCL := Lib.hid hcl
        clear he hcl hbn hin
        go_wp2_with fail
        go_roundw
        case rel => exact (by first | (rw [HDIV.out, HN2.out]; exact HCL.out) | (rw [HDIV.out]; exact HCL.out))
        case measure => simp [manyOf]; omega
end Go.Proofs.YtmbfpopfabjodaaDoor
