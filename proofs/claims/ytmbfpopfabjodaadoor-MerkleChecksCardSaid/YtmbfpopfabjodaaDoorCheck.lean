/- What 'Check' comes to: whether a path leads to a root. -/
import Derived.Test.YtmbfpopfabjodaaDoorRoot
namespace Go.Proofs.YtmbfpopfabjodaaDoor
open Go.RowKit

set_option maxRecDepth 100000 in
set_option maxHeartbeats 1600000 in
theorem check_out {w : World} {r s : List UInt8} {a : Option Addr} {k c : Nat} (i n : Int) (h : 4096 < n ∨ i < 0 ∨ n ≤ i) :
    Calls Tryd.prog 15 #[.agg (cellsOf r).toArray, .agg (cellsOf s).toArray, .int .i64 i, .int .i64 n, .slice a k c] w fun e w' => e = .returned (.bool false) ∧ Below w.heap.size w w' := by
  have b1 : Below w.heap.size w ((w.alloc (.cells (cellsOf r).toArray 24)).alloc (.cells (cellsOf s).toArray 24)) := ((Below.refl _ _).alloc (Nat.le_refl _) _).alloc (by simp) _
  have HB := Lib.hid b1
  clear b1
  by_cases h1 : 4096 < n
  · clear h
    go_enter Tryd.func15, Tryd.ntmps15
    go_wp2_with fail
    go_ret
    exact ⟨rfl, HB.out⟩
  · have h2 : i < 0 ∨ n ≤ i := by omega
    have HI := Lib.hid h2
    clear h h2
    go_enter Tryd.func15, Tryd.ntmps15
    go_wp2_with (go_at_call 17; refine (isPlace_no i n HI.out _).mono ?_; rintro e w' ⟨rfl, rfl⟩)
    go_ret
    exact ⟨rfl, HB.out⟩

/-- A path under way up: from w on, over the block g. -/
def WayUp (w : World) (g : Nat) (R : Option (List UInt8)) (x y v : Value) (wr : World) : Prop :=
  ∃ (d i n k c : Nat) (a : Option Addr) (left : List (List UInt8)) (now : List UInt8), x = .int .i64 i ∧ y = .int .i64 n ∧ v = .slice a k c ∧ i < n ∧ n ≤ 2 ^ d ∧ n ≤ 4096 ∧ Sums w a k c left ∧ now.length = 32 ∧
    wr.heap[g]? = some (.cells (cellsOf now).toArray 24 (0, 0)) ∧ w.heap.size ≤ g ∧ Below w.heap.size w wr ∧ ascend pairSum d now i n left = R
def manyOf : Value → Nat
  | .int _ n => n.toNat
  | _ => 0
theorem ascend_end {d n i : Nat} {now : List UInt8} {left : List (List UInt8)} (h : n ≤ 1) : ascend pairSum d now i n left = if left.isEmpty then some now else none := by
  cases d with
  | zero => rfl
  | succ d => unfold ascend; rw [if_pos h]
theorem ascend_step {d n i : Nat} {now t : List UInt8} {left : List (List UInt8)} (h : ¬ n ≤ 1) (hb : beside i < n) (hl : 0 < left.length) (ht : left.getD 0 [] = t) : ascend pairSum (d + 1) now i n left = ascend pairSum d (joinOf i now t) (i / 2) ((n + 1) / 2) (left.drop 1) := by
  cases left with
  | nil => cases hl
  | cons x q =>
    have hx : x = t := ht
    subst hx
    conv => lhs; unfold ascend
    rw [if_neg h, if_pos hb]
    rfl
theorem ascend_skip {d n i : Nat} {now : List UInt8} {left : List (List UInt8)} (h : ¬ n ≤ 1) (hb : ¬ beside i < n) : ascend pairSum (d + 1) now i n left = ascend pairSum d now (i / 2) ((n + 1) / 2) left := by
  conv => lhs; unfold ascend
  rw [if_neg h, if_neg hb]
theorem ascend_lack {d n i : Nat} {now : List UInt8} (h : ¬ n ≤ 1) (hb : beside i < n) : ascend pairSum (d + 1) now i n [] = none := by
  unfold ascend
  rw [if_neg h, if_pos hb]

set_option linter.unusedSimpArgs false in
set_option maxRecDepth 100000 in
set_option maxHeartbeats 3200000 in
theorem check_in {w : World} {r s : List UInt8} {a : Option Addr} {k c : Nat} {p : List (List UInt8)} (i n : Nat) (hi : i < n) (hn : n ≤ 4096) (hr : r.length = 32) (hs : s.length = 32) (h : Sums w a k c p) (hk : KsAt w) :
    Calls Tryd.prog 15 #[.agg (cellsOf r).toArray, .agg (cellsOf s).toArray, .int .i64 (i : Int), .int .i64 (n : Int), .slice a k c] w fun e w' => e = .returned (.bool (decide (ascend pairSum 12 (leafSum s) i n p = some r))) ∧ Below w.heap.size w w' := by
  obtain ⟨l, hl, hll, hlf⟩ : ∃ l, leafSum s = l ∧ l.length = 32 ∧ ∀ W : World, KsAt W → Calls Tryd.prog 10 #[.agg (cellsOf s).toArray] W fun e w' => e = .returned (.agg (cellsOf l).toArray) ∧ Below W.heap.size W w' := ⟨_, rfl, leafSum_len s, fun W hW => leaf_of hs hW⟩
  rw [hl]
  obtain ⟨R, hR⟩ : ∃ R, R = ascend pairSum 12 l i n p := ⟨_, rfl⟩
  rw [← hR]
  have szs : (Tryd.prog.info? 24).map (·.size) = some (cellsOf s).toArray.size := by rw [List.size_toArray, cellsOf_len, hs]; exact Tryd.size24
  have szr : (Tryd.prog.info? 24).map (·.size) = some (cellsOf r).toArray.size := by rw [List.size_toArray, cellsOf_len, hr]; exact Tryd.size24
  have szl : (Tryd.prog.info? 24).map (·.size) = some (cellsOf l).toArray.size := by rw [List.size_toArray, cellsOf_len, hll]; exact Tryd.size24
  have hz : (cellsOf zero32).toArray.size = (cellsOf l).toArray.size := by rw [List.size_toArray, List.size_toArray, cellsOf_len, cellsOf_len, hll]; rfl
  have H := Lib.hid h
  have HK := Lib.hid hk
  have HI := Lib.hid hi
  have HN := Lib.hid hn
  have HRL := Lib.hid hr
  have HLL := Lib.hid hll
  have HLF := Lib.hid hlf
  have HRR := Lib.hid hR
  have SZS := Lib.hid szs
  have SZR := Lib.hid szr
  have SZL := Lib.hid szl
  have HZ := Lib.hid hz
  have n0 : ¬ (4096 < (n : Int)) := by omega
  clear h hk hr hs hl hll hlf hR szs szr szl hz hi hn
  go_enter Tryd.func15, Tryd.ntmps15
  go_upto_region 1 with (fail)
  have b1 : Below w.heap.size w ((w.alloc (.cells (cellsOf r).toArray 24)).alloc (.cells (cellsOf s).toArray 24)) := ((Below.refl _ _).alloc (Nat.le_refl _) _).alloc (by simp) _
  have h1 : ((w.alloc (.cells (cellsOf r).toArray 24)).alloc (.cells (cellsOf s).toArray 24)).heap[w.heap.size]? = some (.cells (cellsOf r).toArray 24 (0, 0)) := by
    rw [heap_alloc_old _ _ (by simp), heap_alloc_new]
  have h2 : ((w.alloc (.cells (cellsOf r).toArray 24)).alloc (.cells (cellsOf s).toArray 24)).heap[w.heap.size + 1]? = some (.cells (cellsOf s).toArray 24 (0, 0)) := heap_alloc_at _ _ _ (by simp)
  revert b1 h1 h2
  generalize ((w.alloc (.cells (cellsOf r).toArray 24)).alloc (.cells (cellsOf s).toArray 24)) = w1
  obtain ⟨g, hg⟩ : ∃ g, g = w.heap.size := ⟨_, rfl⟩
  rw [← hg]
  intro b1 h1 h2
  rw [hg] at b1
  have HG := Lib.hid hg
  have HB1 := Lib.hid b1
  have H1 := Lib.hid h1
  have H2 := Lib.hid h2
  clear b1 h1 h2 hg
  go_wp2_with (first | (go_at_call 17; (with_reducible refine (isPlace_yes i n HI.out _).mono ?_); rintro e w' ⟨rfl, rfl⟩) | (refine wpList_load_row rfl 24 _ rfl (g + 1) rfl 24 (cellsOf s).toArray (0, 0) _ H2.out Tryd.underlying24 rfl SZS.out ?_) | fail)
  refine (HLF.out _ (HK.out.below HB1.out)).mono ?_
  rintro e w2 ⟨rfl, hb2⟩
  have HB2 := Lib.hid hb2
  clear hb2
  go_wp2_with (refine wpList_store_row rfl 24 _ _ rfl w2.heap.size (cellsOf l).toArray rfl rfl 24 (cellsOf zero32).toArray (heap_alloc_new _ _) SZL.out HZ.out (all_oneCell_toArray (cellsOf_one l)) ?_)
  rw [← zero32_is]
  have b3 : Below w1.heap.size w1 ((w2.alloc (.cells (cellsOf zero32).toArray 24)).setRow w2.heap.size (cellsOf l).toArray) := by
    have b : Below w1.heap.size w1 (w2.alloc (.cells (cellsOf zero32).toArray 24)) := HB2.out.alloc HB2.out.size _
    exact b.trans (((but_setRow _ w2.heap.size _).mono b.size).below HB2.out.size)
  have h3 : ((w2.alloc (.cells (cellsOf zero32).toArray 24)).setRow w2.heap.size (cellsOf l).toArray).heap[w2.heap.size]? = some (.cells (cellsOf l).toArray 24 (0, 0)) := setRow_heap _ _ _ _ _ _ (heap_alloc_new _ _)
  revert b3 h3
  generalize ((w2.alloc (.cells (cellsOf zero32).toArray 24)).setRow w2.heap.size (cellsOf l).toArray) = w3
  obtain ⟨q, hq⟩ : ∃ q, q = w2.heap.size := ⟨_, rfl⟩
  rw [← hq]
  intro b3 h3
  have hq1 : w1.heap.size ≤ q := by rw [hq]; exact HB2.out.size
  have HR5 : Hid (w1.heap[g]? = some (.cells (cellsOf r).toArray 24 (0, 0))) := H1
  have hwu : WayUp w1 q R (.int .i64 (i : Int)) (.int .i64 (n : Int)) (.slice a k c) w3 := ⟨12, i, n, k, c, a, p, l, rfl, rfl, rfl, HI.out, HN.out, HN.out, H.out.below HB1.out, HLL.out, h3, hq1, b3, HRR.out.symm⟩
  have HWU := Lib.hid hwu
  clear b3 h3 hq hq1 hwu n0
  go_loopw [2, 3, 12] (fun x y v wr => WayUp w1 q R x y v wr) (fun _ y _ _ => manyOf y)
  case atStart => exact HWU.out
  case round =>
    obtain ⟨d, i, n, k, c, a, left, now, rfl, rfl, rfl, hin, hnd, hn, hs, hnl, hg, hwq, hb, hR⟩ := hrel
    have HS := Lib.hid hs
    have HNL := Lib.hid hnl
    have HGQ := Lib.hid hg
    have HWQ := Lib.hid hwq
    have HB := Lib.hid hb
    have HRA := Lib.hid hR
    have HIN := Lib.hid hin
    have HND := Lib.hid hnd
    have HN4 := Lib.hid hn
    have szn : (Tryd.prog.info? 24).map (·.size) = some (cellsOf now).toArray.size := by rw [List.size_toArray, cellsOf_len, hnl]; exact Tryd.size24
    have SZN := Lib.hid szn
    have hbs := beside_any i (by omega)
    have HBS := Lib.hid hbs
    have hps := pairs_any n (by omega)
    have HPS := Lib.hid hps
    have HR6 := Lib.hid ((hb.block _ (lt_of_block HR5.out)).trans HR5.out)
    have i0 : (0 : Int) ≤ (i : Int) := by omega
    have i1 : (i : Int) < 4096 := by omega
    have hn2 : ((n : Int) + 1) / 2 = (((n + 1) / 2 : Nat) : Int) := by omega
    have HN2 := Lib.hid hn2
    clear hn2
    have hdiv : (i : Int) / 2 = ((i / 2 : Nat) : Int) := by omega
    have HDIV := Lib.hid hdiv
    clear hs hnl hg hwq hb hR hin hnd hn HWU szn hbs hps hdiv HI HN HRR H
    by_cases hn1 : n ≤ 1
    · have h1 : ¬ ((1 : Int) < (n : Int)) := by omega
      have he := ascend_end (d := d) (i := i) (now := now) (left := left) hn1
      rw [HRA.out] at he
      have HE := Lib.hid he
      clear he hn1
      by_cases hk0 : k = 0
      · subst hk0
        have q1 : ∀ W : World, (Op.equalIn 10000 24 (.agg (cellsOf now).toArray) (.agg (cellsOf r).toArray)).run Tryd.prog W = .ok (decide (now = r)) W := fun W => run_eqSums now r HNL.out HRL.out W
        go_wp2_with (first | (refine wpList_load_wanted (by rfl) 24 _ rfl q rfl 24 (cellsOf now).toArray (0, 0) _ HGQ.out Tryd.underlying24 rfl SZN.out ?_) | (refine wpList_load_wanted (by rfl) 24 _ rfl g rfl 24 (cellsOf r).toArray (0, 0) _ HR6.out Tryd.underlying24 rfl SZR.out ?_))
        go_ret
        have hl : left = [] := List.eq_nil_of_length_eq_zero HS.out.len
        have he := HE.out
        rw [hl] at he
        refine ⟨?_, HB1.out.trans (HB.out.mono HB1.out.size)⟩
        rw [he]
        show Ending.returned (.bool (decide (now = r))) = Ending.returned (.bool (decide (some now = some r)))
        congr 2
        rw [decide_eq_decide]
        exact ⟨fun h => by rw [h], fun h => Option.some.inj h⟩
      · have k0 : ¬ ((k : Int) = 0) := by omega
        go_wp2_with fail
        go_ret
        have hl : left.isEmpty = false := by
          cases hle : left with
          | nil => have := HS.out.len; rw [hle] at this; exact absurd this.symm hk0
          | cons x y => rfl
        have he := HE.out
        rw [hl] at he
        refine ⟨?_, HB1.out.trans (HB.out.mono HB1.out.size)⟩
        rw [he]
        rfl
    · have h1 : (1 : Int) < (n : Int) := by omega
      obtain ⟨d, rfl⟩ : ∃ d', d = d' + 1 := by
        cases d with
        | zero => have := HND.out; simp at this; omega
        | succ d => exact ⟨d, rfl⟩
      by_cases hbn : beside i < n
      · have b0 : ¬ ((n : Int) ≤ ((beside i : Nat) : Int)) := by omega
        by_cases hk0 : k = 0
        · subst hk0
          have hl : left = [] := List.eq_nil_of_length_eq_zero HS.out.len
          have he : ascend pairSum (d + 1) now i n left = none := by rw [hl]; exact ascend_lack hn1 hbn
          rw [HRA.out] at he
          have HE := Lib.hid he
          clear hl he hbn hn1
          go_wp2_with (go_at_call 20; (with_reducible refine (HBS.out _).mono ?_); rintro e w' ⟨rfl, rfl⟩)
          go_ret
          refine ⟨?_, HB1.out.trans (HB.out.mono HB1.out.size)⟩
          rw [HE.out]
          rfl
        · obtain ⟨b, off, rfl, hlt, hcells⟩ := HS.out.2.2.2.2.2 (by omega)
          have hrt := hcells 0 (by omega)
          have htl := HS.out.each (j := 0) (by omega)
          obtain ⟨t, het⟩ : ∃ t, left.getD 0 [] = t := ⟨_, rfl⟩
          rw [het] at hrt htl
          rw [Nat.zero_mul, Nat.add_zero] at hrt
          have hst := ascend_step (d := d) (now := now) hn1 hbn (by rw [HS.out.len]; omega) het
          rw [HRA.out] at hst
          have hib : i < 4611686018427387904 := by have := HIN.out; have := HN4.out; omega
          obtain ⟨jo, hjo', hjl, hjo⟩ : ∃ jo, joinOf i now t = jo ∧ jo.length = 32 ∧ ∀ W : World, KsAt W → Calls Tryd.prog 25 #[.agg (cellsOf now).toArray, .agg (cellsOf t).toArray, .int .i64 (i : Int)] W fun e w' => e = .returned (.agg (cellsOf jo).toArray) ∧ Below W.heap.size W w' := ⟨_, rfl, joinOf_len _ _ _, fun W hW => joined_any i hib HNL.out htl hW⟩
          rw [hjo'] at hst
          have szt : (Tryd.prog.info? 24).map (·.size) = some (cellsOf t).length := by rw [cellsOf_len, htl]; exact Tryd.size24
          have szj : (Tryd.prog.info? 24).map (·.size) = some (cellsOf jo).toArray.size := by rw [List.size_toArray, cellsOf_len, hjl]; exact Tryd.size24
          have hzj : (cellsOf now).toArray.size = (cellsOf jo).toArray.size := by rw [List.size_toArray, List.size_toArray, cellsOf_len, cellsOf_len, hjl, HNL.out]
          have HRT := Lib.hid hrt
          have HRN := Lib.hid hst.symm
          have HJL := Lib.hid hjl
          have HJO := Lib.hid hjo
          have SZT := Lib.hid szt
          have SZJ := Lib.hid szj
          have HZJ := Lib.hid hzj
          obtain ⟨a2, ha2⟩ : ∃ a2, (if c = 1 then some ⟨b, off, none⟩ else (some ⟨b, off, none⟩ : Option Addr).map (·.add (1 * 32))) = a2 := ⟨_, rfl⟩
          have HA2 := Lib.hid ha2
          clear ha2
          have k0 : ¬ ((k : Int) = 0) := by omega
          have hk1 : 0 < k := by omega
          clear hcells hrt htl het hst hjo' hjl hjo szt szj hzj hib hbn
          go_wp2_with (go_at_call 20; (with_reducible refine (HBS.out _).mono ?_); rintro e w' ⟨rfl, rfl⟩)
          refine wp_region_held_drew (S := fun w' => Below w1.heap.size w1 w') (by kernel_rfl) (below_drew HB.out) (fun hHeld => ?_)
          refine take_at (i := 1) (v := ?_) rfl rfl (by kernel_rfl) (by kernel_rfl) (by kernel_rfl) (fun _ _ _ h => h) (Or.inl ⟨by rfl, ?_⟩) (by assumption) ?_
          rotate_left
          · intro w0 hSw; (try dsimp only at hSw); first | (go_simp; done) | (go_simp; with_reducible rfl)
          simp only [List.setIfInBounds_toArray, List.set_cons_zero, List.set_cons_succ]
          refine take_at (i := 2) (v := ?_) rfl rfl (by kernel_rfl) (by kernel_rfl) (by kernel_rfl) (fun _ _ _ h => h) (Or.inl ⟨by rfl, ?_⟩) (by assumption) ?_
          rotate_left
          · intro w0 hSw; (try dsimp only at hSw); first | (go_simp; done) | (go_simp; with_reducible rfl)
          simp only [List.setIfInBounds_toArray, List.set_cons_zero, List.set_cons_succ]
          refine take_at (i := 3) rfl rfl (by kernel_rfl) (by kernel_rfl) (by kernel_rfl) (fun _ _ _ h => h) (yieldsIf_load_mid (by rfl) _ _ rfl b off rfl (cellsOf t) _ (fun w0 hSw => rangeAt_below HRT.out hlt hSw) Tryd.underlying24 rfl SZT.out) (by assumption) ?_
          simp only [List.setIfInBounds_toArray, List.set_cons_zero, List.set_cons_succ]
          refine take_at (i := 4) (v := ?_) rfl rfl (by kernel_rfl) (by kernel_rfl) (by kernel_rfl) (fun _ _ _ h => h) (Or.inl ⟨by rfl, ?_⟩) (by assumption) ?_
          rotate_left
          · intro w0 hSw; (try dsimp only at hSw); first | (go_simp; done) | (go_simp; with_reducible rfl)
          simp only [List.setIfInBounds_toArray, List.set_cons_zero, List.set_cons_succ]
          refine take_at (i := 6) (v := ?_) rfl rfl (by kernel_rfl) (by kernel_rfl) (by kernel_rfl) (fun _ _ _ h => h) (Or.inl ⟨by rfl, ?_⟩) (by assumption) ?_
          rotate_left
          · intro w0 hSw; (try dsimp only at hSw); first | (go_simp; done) | (go_simp; with_reducible rfl)
          simp only [List.setIfInBounds_toArray, List.set_cons_zero, List.set_cons_succ]
          refine take_at (i := 7) (v := .slice a2 (k - 1) (c - 1)) rfl rfl (by kernel_rfl) (by kernel_rfl) (by kernel_rfl) (fun _ _ _ h => h) (by rw [← HA2.out]; exact yields_from (A := 1) (by rfl) rfl rfl rfl (by omega)) (by assumption) ?_
          simp only [List.setIfInBounds_toArray, List.set_cons_zero, List.set_cons_succ]
          refine wpAnyH_ready (rs := [0]) (by kernel_rfl) (by simp) ?_
          refine AllReadyH.cons rfl (fun K hK => ?_) ?_
          · rw [if_pos (by rfl)]
            refine wp_load_row 24 _ rfl q rfl 24 (cellsOf now).toArray (0, 0) _ HGQ.out Tryd.underlying24 rfl SZN.out ?_
            refine hK.out _ _ (by (try dsimp only); exact hHeld) (fun hHeld => ?_)
            clear hK K
            refine wpAnyH_ready (rs := [5]) (by kernel_rfl) (by simp) ?_
            refine AllReadyH.cons rfl (fun K hK => ?_) ?_
            · go_simp
              go_wp2_with ((go_at_call 25; (with_reducible refine (HJO.out _ ((HK.out.below HB1.out).below hHeld)).mono ?_); rintro e w5 ⟨rfl, hb5⟩; have HB5 := Lib.hid hb5; clear hb5))
              refine hK.out _ _ (by (try dsimp only); exact Below.trans hHeld (HB5.out.mono (Below.size hHeld))) (fun hHeld => ?_)
              clear hK K
              refine wpAnyH_ready (rs := [8]) (by kernel_rfl) (by simp) ?_
              refine AllReadyH.cons rfl (fun K hK => ?_) ?_
              · have hq5 := (HB5.out.block q (lt_of_block HGQ.out)).trans HGQ.out
                have HQ5 := Lib.hid hq5
                have b6 : Below w1.heap.size w1 (w5.setRow q (cellsOf jo).toArray) := by
                  have b5 : Below w1.heap.size w1 w5 := hHeld
                  exact b5.trans (((but_setRow _ q _).mono b5.size).below HWQ.out)
                have HB6 := Lib.hid b6
                have HQ6 := Lib.hid (setRow_heap w5 q _ (cellsOf jo).toArray 24 _ HQ5.out)
                clear hq5 b6
                rw [if_pos (by rfl)]
                refine wp_store_row 24 _ _ rfl q (cellsOf jo).toArray rfl rfl 24 (cellsOf now).toArray HQ5.out SZJ.out HZJ.out (all_oneCell_toArray (cellsOf_one jo)) ?_
                refine hK.out _ _ (by (try dsimp only); exact HB6.out) (fun hHeld => ?_)
                clear hK K
                refine take_at (i := 9) (v := ?_) rfl rfl (by kernel_rfl) (by kernel_rfl) (by kernel_rfl) (fun _ _ _ h => h) (Or.inl ⟨by rfl, ?_⟩) (by assumption) ?_
                rotate_left
                · intro w0 hSw; (try dsimp only at hSw); first | (go_simp; done) | (go_simp; with_reducible rfl)
                simp only [List.setIfInBounds_toArray, List.set_cons_zero, List.set_cons_succ]
                refine wpAnyH_done (by kernel_rfl) ?_ _
                have hwu : WayUp w1 q R (.int .i64 ((i / 2 : Nat) : Int)) (.int .i64 (((n + 1) / 2 : Nat) : Int)) (.slice a2 (k - 1) (c - 1)) (w5.setRow q (cellsOf jo).toArray) := ⟨d, i / 2, (n + 1) / 2, k - 1, c - 1, _, left.drop 1, jo, rfl, rfl, rfl, (half_lt HIN.out hn1).1, by have := HND.out; rw [Nat.pow_succ] at this; omega, by have := HN4.out; omega, (by have := HS.out.from (A := 1) (by omega); rw [HA2.out] at this; exact this), HJL.out, HQ6.out, HWQ.out, HB6.out, HRN.out⟩
                have HWU := Lib.hid hwu
                clear hwu
                go_wp2_with (go_at_call 24; (with_reducible refine (HPS.out _).mono ?_); rintro e w' ⟨rfl, rfl⟩)
                go_roundw
                case rel => exact (by first | (rw [HDIV.out, HN2.out]; exact HWU.out) | (rw [HDIV.out]; exact HWU.out))
                case measure => simp [manyOf]; omega
              exact AllReadyH.nil
            exact AllReadyH.nil
          exact AllReadyH.nil
      · have b0 : (n : Int) ≤ ((beside i : Nat) : Int) := by omega
        have he := ascend_skip (d := d) (now := now) (left := left) hn1 hbn
        rw [HRA.out] at he
        have hwu : WayUp w1 q R (.int .i64 ((i / 2 : Nat) : Int)) (.int .i64 (((n + 1) / 2 : Nat) : Int)) (.slice a k c) wr := ⟨d, i / 2, (n + 1) / 2, k, c, _, left, now, rfl, rfl, rfl, (half_lt HIN.out hn1).1, by have := HND.out; rw [Nat.pow_succ] at this; omega, by have := HN4.out; omega, HS.out, HNL.out, HGQ.out, HWQ.out, HB.out, he.symm⟩
        have HWU := Lib.hid hwu
        clear he hwu hbn
        go_wp2_with (first | (go_at_call 20; (with_reducible refine (HBS.out _).mono ?_); rintro e w' ⟨rfl, rfl⟩) | (go_at_call 24; (with_reducible refine (HPS.out _).mono ?_); rintro e w' ⟨rfl, rfl⟩))
        go_roundw
        case rel => exact (by first | (rw [HDIV.out, HN2.out]; exact HWU.out) | (rw [HDIV.out]; exact HWU.out))
        case measure => simp [manyOf]; omega
end Go.Proofs.YtmbfpopfabjodaaDoor
