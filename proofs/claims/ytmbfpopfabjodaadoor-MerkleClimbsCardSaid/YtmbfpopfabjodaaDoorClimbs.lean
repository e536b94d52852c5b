/- The walk of MerkleClimbs. -/
import Derived.Test.YtmbfpopfabjodaaDoorAwake3
namespace Go.Proofs.YtmbfpopfabjodaaDoor
open Go.RowKit

set_option linter.unusedSimpArgs false in
set_option maxRecDepth 100000 in
set_option maxHeartbeats 3200000 in
theorem climbs_out {w : World} {r s : List UInt8} {a : Option Addr} {k c : Nat} {p : List (List UInt8)} (i n : Int) (hr : r.length = 32) (hs : s.length = 32) (h : Sums w a k c p) (hk : KsAt w) (hout : i < 0 ∨ n ≤ i ∨ 4096 < n) :
    Calls Tryd.prog 5 #[.agg (cellsOf r).toArray, .agg (cellsOf s).toArray, .int .i64 i, .int .i64 n, .slice a k c] w fun e w' => e = .returned (.bool true) ∧ Below w.heap.size w w' := by
  have szs : (Tryd.prog.info? 24).map (·.size) = some (cellsOf s).toArray.size := by rw [List.size_toArray, cellsOf_len, hs]; exact Tryd.size24
  have szr : (Tryd.prog.info? 24).map (·.size) = some (cellsOf r).toArray.size := by rw [List.size_toArray, cellsOf_len, hr]; exact Tryd.size24
  have hco : ∀ (W : World), Calls Tryd.prog 15 #[.agg (cellsOf r).toArray, .agg (cellsOf s).toArray, .int .i64 i, .int .i64 n, .slice a (min k 40) c] W fun e w' => e = .returned (.bool false) ∧ Below W.heap.size W w' := fun W => check_out i n (by omega)
  have haw : ∀ (W : World), KsAt W → Calls Tryd.prog 12 #[] W fun e w' => e = .returned (.bool true) ∧ Below W.heap.size W w' := fun W hW => awake3_any hW
  have H := Lib.hid h
  have HK := Lib.hid hk
  have SZS := Lib.hid szs
  have SZR := Lib.hid szr
  have HCO := Lib.hid hco
  have HAW := Lib.hid haw
  clear h hk hr hs szs szr hco haw
  have cases : i < 0 ∨ (¬ i < 0 ∧ n ≤ i) ∨ (¬ i < 0 ∧ ¬ n ≤ i ∧ 4096 < n) := by omega
  clear hout
  rcases cases with c1 | ⟨c1, c2⟩ | ⟨c1, c2, c3⟩
  all_goals
    go_enter Tryd.func5, Tryd.ntmps5
    go_upto_region 1 with (fail)
    have b1 : Below w.heap.size w ((w.alloc (.cells (cellsOf r).toArray 24)).alloc (.cells (cellsOf s).toArray 24)) := ((Below.refl _ _).alloc (Nat.le_refl _) _).alloc (by simp) _
    have h1 : ((w.alloc (.cells (cellsOf r).toArray 24)).alloc (.cells (cellsOf s).toArray 24)).heap[w.heap.size]? = some (.cells (cellsOf r).toArray 24 (0, 0)) := by
      rw [heap_alloc_old _ _ (by simp), heap_alloc_new]
    have h2 : ((w.alloc (.cells (cellsOf r).toArray 24)).alloc (.cells (cellsOf s).toArray 24)).heap[w.heap.size + 1]? = some (.cells (cellsOf s).toArray 24 (0, 0)) := heap_alloc_at _ _ _ (by simp)
    have hf := few_any (H.out.below b1)
    revert b1 h1 h2 hf
    generalize ((w.alloc (.cells (cellsOf r).toArray 24)).alloc (.cells (cellsOf s).toArray 24)) = w1
    obtain ⟨g, hg⟩ : ∃ g, g = w.heap.size := ⟨_, rfl⟩
    rw [← hg]
    intro b1 h1 h2 hf
    rw [hg] at b1
    have HG := Lib.hid hg
    have HB1 := Lib.hid b1
    have H1 := Lib.hid h1
    have H2 := Lib.hid h2
    have HF := Lib.hid hf
    clear b1 h1 h2 hf hg
    go_wp2_with (first | (refine wpList_load_row rfl 24 _ rfl g rfl 24 (cellsOf r).toArray (0, 0) _ H1.out Tryd.underlying24 rfl SZR.out ?_) | (refine wpList_load_row rfl 24 _ rfl (g + 1) rfl 24 (cellsOf s).toArray (0, 0) _ H2.out Tryd.underlying24 rfl SZS.out ?_) | (go_at_call 6; (with_reducible refine (HF.out).mono ?_); rintro e w' ⟨rfl, _, rfl⟩) | fail)
    refine (HCO.out _).mono ?_
    rintro e w2 ⟨rfl, hb2⟩
    have HB2 := Lib.hid hb2
    clear hb2
    go_wp2_with fail
    refine (HAW.out _ ((HK.out.below HB1.out).below HB2.out)).mono ?_
    rintro e w3 ⟨rfl, hb3⟩
    have HB3 := Lib.hid hb3
    clear hb3
    go_wp2_with fail
    go_ret
    have b2 := HB1.out.trans (HB2.out.mono HB1.out.size)
    exact ⟨rfl, b2.trans (HB3.out.mono b2.size)⟩

set_option linter.unusedSimpArgs false in
set_option maxRecDepth 100000 in
set_option maxHeartbeats 3200000 in
theorem climbs_in {w : World} {r s : List UInt8} {a : Option Addr} {k c : Nat} {p : List (List UInt8)} (i n : Nat) (hr : r.length = 32) (hs : s.length = 32) (h : Sums w a k c p) (hk : KsAt w) (hi : i < n) (hn : n ≤ 4096) :
    Calls Tryd.prog 5 #[.agg (cellsOf r).toArray, .agg (cellsOf s).toArray, .int .i64 (i : Int), .int .i64 (n : Int), .slice a k c] w fun e w' => e = .returned (.bool true) ∧ Below w.heap.size w w' := by
  have szs : (Tryd.prog.info? 24).map (·.size) = some (cellsOf s).toArray.size := by rw [List.size_toArray, cellsOf_len, hs]; exact Tryd.size24
  have szr : (Tryd.prog.info? 24).map (·.size) = some (cellsOf r).toArray.size := by rw [List.size_toArray, cellsOf_len, hr]; exact Tryd.size24
  have haw : ∀ (W : World), KsAt W → Calls Tryd.prog 12 #[] W fun e w' => e = .returned (.bool true) ∧ Below W.heap.size W w' := fun W hW => awake3_any hW
  obtain ⟨R, hR⟩ : ∃ R, R = ascend pairSum 12 (leafSum s) i n (p.take 40) := ⟨_, rfl⟩
  have hck : ∀ (W : World) (q : List UInt8) (c' : Nat), q.length = 32 → Sums W a (min k 40) c' (p.take 40) → KsAt W → Calls Tryd.prog 15 #[.agg (cellsOf q).toArray, .agg (cellsOf s).toArray, .int .i64 (i : Int), .int .i64 (n : Int), .slice a (min k 40) c'] W fun e w' => e = .returned (.bool (decide (R = some q))) ∧ Below W.heap.size W w' := fun W q c' hq hS hW => by rw [hR]; exact check_in i n hi hn hq hs hS hW
  have hcl : ∀ (W : World) (c' : Nat), Sums W a (min k 40) c' (p.take 40) → KsAt W → Calls Tryd.prog 16 #[.agg (cellsOf s).toArray, .int .i64 (i : Int), .int .i64 (n : Int), .slice a (min k 40) c'] W fun e w' => Climbed W R e w' := fun W c' hS hW => by rw [hR]; exact climb_any i n hi hn hs (by omega) hS hW
  have H := Lib.hid h
  have HK := Lib.hid hk
  have HRL := Lib.hid hr
  have SZS := Lib.hid szs
  have SZR := Lib.hid szr
  have HAW := Lib.hid haw
  have HCK := Lib.hid hck
  have HCL := Lib.hid hcl
  have i0 : ¬ ((i : Int) < 0) := by omega
  have i1 : ¬ ((n : Int) ≤ (i : Int)) := by omega
  have n0 : ¬ (4096 < (n : Int)) := by omega
  clear h hk hr hs szs szr haw hR hck hcl hi hn
  go_enter Tryd.func5, Tryd.ntmps5
  go_upto_region 1 with (fail)
  have b1 : Below w.heap.size w ((w.alloc (.cells (cellsOf r).toArray 24)).alloc (.cells (cellsOf s).toArray 24)) := ((Below.refl _ _).alloc (Nat.le_refl _) _).alloc (by simp) _
  have h1 : ((w.alloc (.cells (cellsOf r).toArray 24)).alloc (.cells (cellsOf s).toArray 24)).heap[w.heap.size]? = some (.cells (cellsOf r).toArray 24 (0, 0)) := by
    rw [heap_alloc_old _ _ (by simp), heap_alloc_new]
  have h2 : ((w.alloc (.cells (cellsOf r).toArray 24)).alloc (.cells (cellsOf s).toArray 24)).heap[w.heap.size + 1]? = some (.cells (cellsOf s).toArray 24 (0, 0)) := heap_alloc_at _ _ _ (by simp)
  have hf := few_any (H.out.below b1)
  revert b1 h1 h2 hf
  generalize ((w.alloc (.cells (cellsOf r).toArray 24)).alloc (.cells (cellsOf s).toArray 24)) = w1
  obtain ⟨g, hg⟩ : ∃ g, g = w.heap.size := ⟨_, rfl⟩
  rw [← hg]
  intro b1 h1 h2 hf
  rw [hg] at b1
  have HG := Lib.hid hg
  have HB1 := Lib.hid b1
  have H1 := Lib.hid h1
  have H2 := Lib.hid h2
  have HF := Lib.hid hf
  clear b1 h1 h2 hf hg
  obtain ⟨G, hG⟩ : ∃ G, G = decide (R = some r) := ⟨_, rfl⟩
  have HGG := Lib.hid hG
  clear hG
  go_wp2_with (first | (go_at_call 6; (with_reducible refine (HF.out).mono ?_); rintro e w' ⟨rfl, hs1, rfl⟩; have HS1 := Lib.hid hs1; clear hs1) | (refine wpList_load_row rfl 24 _ rfl g rfl 24 (cellsOf r).toArray (0, 0) _ H1.out Tryd.underlying24 rfl SZR.out ?_) | (refine wpList_load_row rfl 24 _ rfl (g + 1) rfl 24 (cellsOf s).toArray (0, 0) _ H2.out Tryd.underlying24 rfl SZS.out ?_) | fail)
  refine (HCK.out _ r c HRL.out HS1.out (HK.out.below HB1.out)).mono ?_
  rintro e w2 ⟨rfl, hb2⟩
  rw [← HGG.out]
  have HB2 := Lib.hid hb2
  have H3 := Lib.hid ((hb2.block _ (lt_of_block H1.out)).trans H1.out)
  have H4 := Lib.hid ((hb2.block _ (lt_of_block H2.out)).trans H2.out)
  have HS2 := Lib.hid (HS1.out.below hb2)
  clear hb2
  go_wp2_with (first | (refine wpList_load_row rfl 24 _ rfl (g + 1) rfl 24 (cellsOf s).toArray (0, 0) _ H4.out Tryd.underlying24 rfl SZS.out ?_) | fail)
  refine (HCL.out _ c HS2.out ((HK.out.below HB1.out).below HB2.out)).mono ?_
  rintro e w3 ⟨now, b, rfl, hnl, hb1, hb0, hb3⟩
  have szn : (Tryd.prog.info? 24).map (·.size) = some (cellsOf now).toArray.size := by rw [List.size_toArray, cellsOf_len, hnl]; exact Tryd.size24
  have hz : (cellsOf zero32).toArray.size = (cellsOf now).toArray.size := by rw [List.size_toArray, List.size_toArray, cellsOf_len, cellsOf_len, hnl]; rfl
  have hfin : ∃ D : Bool, decide (now = r) = D := ⟨_, rfl⟩
  obtain ⟨D, hD⟩ := hfin
  have q1 : ∀ W : World, (Op.equalIn 10000 24 (.agg (cellsOf now).toArray) (.agg (cellsOf r).toArray)).run Tryd.prog W = .ok D W := fun W => by rw [← hD]; exact run_eqSums now r hnl HRL.out W
  have HD := Lib.hid hD
  have HNL := Lib.hid hnl
  have HBT := Lib.hid hb1
  have HBF := Lib.hid hb0
  have HB3 := Lib.hid hb3
  have SZN := Lib.hid szn
  have HZ := Lib.hid hz
  clear hnl hb1 hb0 hb3 szn hz hD
  go_upto_region 6 with (refine wpList_store_row rfl 24 _ _ rfl w3.heap.size (cellsOf now).toArray rfl rfl 24 (cellsOf zero32).toArray (heap_alloc_new _ _) SZN.out HZ.out (all_oneCell_toArray (cellsOf_one now)) ?_)
  rw [← zero32_is]
  have h5 : ((w3.alloc (.cells (cellsOf zero32).toArray 24)).setRow w3.heap.size (cellsOf now).toArray).heap[w3.heap.size]? = some (.cells (cellsOf now).toArray 24 (0, 0)) := setRow_heap _ _ _ _ _ _ (heap_alloc_new _ _)
  have b5 : Below w2.heap.size w2 ((w3.alloc (.cells (cellsOf zero32).toArray 24)).setRow w3.heap.size (cellsOf now).toArray) := by
    have b : Below w2.heap.size w2 (w3.alloc (.cells (cellsOf zero32).toArray 24)) := HB3.out.alloc HB3.out.size _
    exact b.trans (((but_setRow _ w3.heap.size _).mono b.size).below HB3.out.size)
  revert h5 b5
  generalize ((w3.alloc (.cells (cellsOf zero32).toArray 24)).setRow w3.heap.size (cellsOf now).toArray) = w4
  generalize w3.heap.size = q
  intro h5 b5
  have h6 := (b5.block _ (lt_of_block H3.out)).trans H3.out
  have h7 := (b5.block _ (lt_of_block H4.out)).trans H4.out
  have H5 := Lib.hid h5
  have H6 := Lib.hid h6
  have H7 := Lib.hid h7
  have HS4 := Lib.hid (HS2.out.below b5)
  have hb4 : Below w.heap.size w w4 := by
    have b2 := HB1.out.trans (HB2.out.mono HB1.out.size)
    exact b2.trans (b5.mono b2.size)
  have HB4 := Lib.hid hb4
  clear h5 b5 h6 h7 hb4
  try simp only [Act.put]
  cases b with
  | true =>
    have e1 := HBT.out rfl
    have hG2 : G = D := by
      rw [HGG.out, e1, ← HD.out, decide_eq_decide]
      exact ⟨fun h => Option.some.inj h, fun h => by rw [h]⟩
    have hck2 := HCK.out w4 now c HNL.out HS4.out (HK.out.below HB4.out)
    have e2 : decide (R = some now) = true := by rw [e1]; simp
    rw [e2] at hck2
    have HC2 := Lib.hid hck2
    subst hG2
    clear e1 hck2 e2 HGG HD
    cases G <;>
    · go_wp2_with (first | (refine wpList_load_wanted (by rfl) 24 _ rfl q rfl 24 (cellsOf now).toArray (0, 0) _ H5.out Tryd.underlying24 rfl SZN.out ?_) | (refine wpList_load_wanted (by rfl) 24 _ rfl g rfl 24 (cellsOf r).toArray (0, 0) _ H6.out Tryd.underlying24 rfl SZR.out ?_) | (refine wpList_load_wanted (by rfl) 24 _ rfl (g + 1) rfl 24 (cellsOf s).toArray (0, 0) _ H7.out Tryd.underlying24 rfl SZS.out ?_) | fail)
      refine HC2.out.mono ?_
      rintro e w5 ⟨rfl, hb5⟩
      have hb6 := HB4.out.trans (hb5.mono HB4.out.size)
      have HB6 := Lib.hid hb6
      clear hb5 hb6
      go_wp2_with fail
      refine (HAW.out _ (HK.out.below HB6.out)).mono ?_
      rintro e w6 ⟨rfl, hb7⟩
      have HB7 := Lib.hid hb7
      clear hb7
      go_wp2_with fail
      go_ret
      exact ⟨rfl, HB6.out.trans (HB7.out.mono HB6.out.size)⟩
  | false =>
    have e1 := HBF.out rfl
    have hG2 : G = false := by rw [HGG.out, e1]; rfl
    subst hG2
    clear e1 HGG
    go_wp2_with (first | (refine wpList_load_wanted (by rfl) 24 _ rfl q rfl 24 (cellsOf now).toArray (0, 0) _ H5.out Tryd.underlying24 rfl SZN.out ?_) | (refine wpList_load_wanted (by rfl) 24 _ rfl g rfl 24 (cellsOf r).toArray (0, 0) _ H6.out Tryd.underlying24 rfl SZR.out ?_) | fail)
    refine (HAW.out _ (HK.out.below HB4.out)).mono ?_
    rintro e w6 ⟨rfl, hb7⟩
    have HB7 := Lib.hid hb7
    clear hb7
    go_wp2_with fail
    go_ret
    exact ⟨rfl, HB4.out.trans (HB7.out.mono HB4.out.size)⟩
theorem climbs_walk {w : World} {r s : List UInt8} {a : Option Addr} {k c : Nat} {p : List (List UInt8)} (i n : Int) (hr : r.length = 32) (hs : s.length = 32) (h : Sums w a k c p) (hk : KsAt w) :
    Calls Tryd.prog 5 #[.agg (cellsOf r).toArray, .agg (cellsOf s).toArray, .int .i64 i, .int .i64 n, .slice a k c] w fun e w' => e = .returned (.bool true) ∧ Below w.heap.size w w' := by
  by_cases hout : i < 0 ∨ n ≤ i ∨ 4096 < n
  · exact climbs_out i n hr hs h hk hout
  · obtain ⟨I, rfl⟩ : ∃ I : Nat, i = I := ⟨i.toNat, by omega⟩
    obtain ⟨N, rfl⟩ : ∃ N : Nat, n = N := ⟨n.toNat, by omega⟩
    exact climbs_in I N hr hs h hk (by omega) (by omega)
end Go.Proofs.YtmbfpopfabjodaaDoor
