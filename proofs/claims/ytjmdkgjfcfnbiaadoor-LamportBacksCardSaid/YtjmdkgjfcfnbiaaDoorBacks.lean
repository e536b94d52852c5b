/- The walk of LamportBacks. -/
import Derived.Test.YtjmdkgjfcfnbiaaDoorAwake4
import Derived.Test.YtjmdkgjfcfnbiaaDoorTwo
namespace Go.Proofs.YtjmdkgjfcfnbiaaDoor
open Go.RowKit

/-- A piece of a row. -/
theorem piece_row {W : World} {b off m c C : Nat} {l : List UInt8} (h : Row W (some ⟨b, off, none⟩) m c l) (n : Nat) (hn : n * 32 + 32 ≤ m) (hC : 32 ≤ C) (hC2 : C ≤ maxLen) : Row W (some ⟨b, off + n * 32, none⟩) 32 C (piece l n) := by
  have hl := h.1
  obtain ⟨b', off', e, hlt, hc⟩ := h.2.2.2.2 (by omega)
  cases e
  refine ⟨piece_len (by omega), hC, hC2, (fun e => by cases e), fun _ => ⟨b, off + n * 32, rfl, hlt, fun j hj => ?_⟩⟩
  rw [Nat.add_assoc, hc (n * 32 + j) (by omega)]
  unfold piece
  simp [List.getD, hj]
theorem splice_all {α : Type} (z d : List α) (h : d.length = z.length) : splice z 0 d = d := by
  unfold splice
  rw [Nat.zero_add, List.drop_of_length_le (by omega)]
  simp
set_option linter.unusedSimpArgs false in
set_option maxRecDepth 100000 in
set_option maxHeartbeats 3200000 in
theorem backs_out {w : World} {a b : Option Addr} {n c m k : Nat} {l key : List UInt8} (h : Row w a n c l) (hkey : key.length = 32) (hk : KsAt w) (hm : m ≠ 4096) :
    Calls Tryd.prog 4 #[.slice a n c, .slice b m k, .agg (cellsOf key).toArray] w fun e w' => e = .returned (.bool true) ∧ Below w.heap.size w w' := by
  obtain ⟨z, hz, hzl, hback⟩ : ∃ z : List UInt8, zero32 = z ∧ z.length = 32 ∧ ∀ W : World, Calls Tryd.prog 12 #[.slice a (min n 200) c, .slice b m k] W fun e w' => e = .returned (.tuple #[.agg (cellsOf z).toArray, .int .i64 11]) ∧ Below W.heap.size W w' := ⟨zero32, rfl, rfl, fun W => back_out hm⟩
  have hver : ∀ W : World, Calls Tryd.prog 14 #[.agg (cellsOf key).toArray, .slice a (min n 200) c, .slice b m k] W fun e w' => e = .returned (.bool false) ∧ Below W.heap.size W w' := fun W => verify_out hm
  have haw : ∀ (W : World), KsAt W → Calls Tryd.prog 16 #[] W fun e w' => e = .returned (.bool true) ∧ Below W.heap.size W w' := fun W hW => awake4_any hW
  have q1 : ∀ W : World, (Op.equalIn 10000 23 (.agg (cellsOf z).toArray) (.agg (cellsOf zero32).toArray)).run Tryd.prog W = .ok true W := fun W => by rw [run_eqSums z zero32 hzl rfl W, hz]; simp
  rw [zero32_is] at q1
  have f1 : ¬ ((m : Int) = 4096) := by omega
  have SZ := Lib.hid (size_of hkey)
  have SZZ := Lib.hid (size_of hzl)
  have HZZ := Lib.hid (zero_of hzl)
  have HK := Lib.hid hk
  have HT := Lib.hid h
  have HBK := Lib.hid hback
  have HVE := Lib.hid hver
  have HAW := Lib.hid haw
  clear hk h hkey hz hzl hback hver haw hm
  go_enter Tryd.func4, Tryd.ntmps4
  go_upto_region 1 with (fail)
  have b1 : Below w.heap.size w (w.alloc (.cells (cellsOf key).toArray 23)) := (Below.refl _ _).alloc (Nat.le_refl _) _
  have h1 : (w.alloc (.cells (cellsOf key).toArray 23)).heap[w.heap.size]? = some (.cells (cellsOf key).toArray 23 (0, 0)) := heap_alloc_new _ _
  have hcut := cut_any (HT.out.below b1)
  revert b1 h1 hcut
  generalize (w.alloc (.cells (cellsOf key).toArray 23)) = w1
  obtain ⟨g, hg⟩ : ∃ g, g = w.heap.size := ⟨_, rfl⟩
  rw [← hg]
  intro b1 h1 hcut
  rw [hg] at b1
  have HB1 := Lib.hid b1
  have H1 := Lib.hid h1
  have HCUT := Lib.hid hcut
  clear b1 h1 hcut hg
  go_wp2_with (go_at_call 6; (with_reducible refine (HCUT.out).mono ?_); rintro e w' ⟨rfl, _, rfl⟩)
  refine (HBK.out _).mono ?_
  rintro e w2 ⟨rfl, hb2⟩
  have HB2 := Lib.hid (HB1.out.trans (hb2.mono HB1.out.size))
  have H2 := Lib.hid ((hb2.block _ (lt_of_block H1.out)).trans H1.out)
  clear hb2
  go_upto_region 3 with (refine wpList_store_row rfl 23 _ _ rfl w2.heap.size (cellsOf z).toArray rfl rfl 23 (cellsOf zero32).toArray (heap_alloc_new _ _) SZZ.out HZZ.out (all_oneCell_toArray (cellsOf_one z)) ?_)
  rw [← zero32_is, laySum_is]
  have h3 := laySum_heap w2 z
  have b3 := laySum_below z HB2.out
  have h4 := ((laySum_self w2 z).block _ (lt_of_block H2.out)).trans H2.out
  revert h3 b3 h4
  generalize laySum w2 z = w3
  generalize w2.heap.size = q
  intro h3 b3 h4
  have HB3 := Lib.hid b3
  have H3 := Lib.hid h3
  have H4 := Lib.hid h4
  clear h3 b3 h4
  try simp only [Act.put]
  go_wp2_with (first | (refine wpList_load_row rfl 23 _ rfl q rfl 23 (cellsOf z).toArray (0, 0) _ H3.out Tryd.underlying23 rfl SZZ.out ?_) | (refine wpList_load_wanted (by rfl) 23 _ rfl g rfl 23 (cellsOf key).toArray (0, 0) _ H4.out Tryd.underlying23 rfl SZ.out ?_) | fail)
  refine (HVE.out _).mono ?_
  rintro e w4 ⟨rfl, hb4⟩
  have HB4 := Lib.hid (HB3.out.trans (hb4.mono HB3.out.size))
  clear hb4
  go_wp2_with fail
  refine (HAW.out _ (HK.out.below HB4.out)).mono ?_
  rintro e w5 ⟨rfl, hb5⟩
  have HB5 := Lib.hid (HB4.out.trans (hb5.mono HB4.out.size))
  clear hb5
  go_wp2_with fail
  go_ret
  exact ⟨rfl, HB5.out⟩

set_option linter.unusedSimpArgs false in
set_option maxRecDepth 100000 in
set_option maxHeartbeats 6400000 in
theorem backs_in {w : World} {a b : Option Addr} {n c k : Nat} {l sig key : List UInt8} (h : Row w a n c l) (hsig : Row w b 4096 k sig) (hkey : key.length = 32) (hk : KsAt w) :
    Calls Tryd.prog 4 #[.slice a n c, .slice b 4096 k, .agg (cellsOf key).toArray] w fun e w' => e = .returned (.bool true) ∧ Below w.heap.size w w' := by
  obtain ⟨i0, hi, hz0, hz1, hz2⟩ := info_parts Tryd.bytes3
  have HI := Lib.hid hi
  obtain ⟨b, off, rfl, _, _⟩ := hsig.2.2.2.2 (by omega)
  have hsl : sig.length = 4096 := hsig.1
  have hk0 : 4096 ≤ k := hsig.2.1
  have hkm : k ≤ maxLen := hsig.2.2.1
  have hn : min n 200 ≤ 1000000 := by omega
  obtain ⟨T, hT⟩ : ∃ T, T = l.take 200 := ⟨_, rfl⟩
  have hstep : ∀ j : Nat, j < 64 → ∃ (t : Nat) (z o s : List UInt8), t < 2 ∧ piece sig (2 * j) = z ∧ piece sig (2 * j + 1) = o ∧ z.length = 32 ∧ o.length = 32 ∧ s.length = 32 ∧
      (t = 0 → backTo T sig (j + 1) = (backTo T sig j ++ s) ++ o) ∧ (¬ t = 0 → backTo T sig (j + 1) = (backTo T sig j ++ o) ++ s) ∧
      (∀ W : World, KsAt W → Calls Tryd.prog 9 #[.agg (cellsOf z).toArray] W fun e w' => e = .returned (.agg (cellsOf s).toArray) ∧ Below W.heap.size W w') ∧
      (∀ W : World, Row W a (min n 200) c T → KsAt W → Calls Tryd.prog 7 #[.slice a (min n 200) c, .int .i64 (j : Int)] W fun e w' => e = .returned (.int .i64 (t : Int)) ∧ Below W.heap.size W w') := fun j hj => by
    have ho : (piece sig (2 * j + 1)).length = 32 := piece_len (by omega)
    have hz : (piece sig (2 * j)).length = 32 := piece_len (by omega)
    exact ⟨bitAt (digestOf T) j, piece sig (2 * j), piece sig (2 * j + 1), shownOf (piece sig (2 * j)), bitAt_lt _ _, rfl, rfl, hz, ho, shownOf_len _, backTo_succ0 T sig j, backTo_succ1 T sig j, fun W hW => shown_law hz hW, fun W hr hW => bit_law j hj hr hn hW⟩
  have hlen : ∀ j : Nat, j ≤ 64 → (backTo T sig j).length = j * 64 := fun j hj => backTo_len (by omega)
  obtain ⟨r, D, hrl, hback, hver, hdec, hjoin⟩ : ∃ (r : List UInt8) (D : Bool), r.length = 32 ∧
      (∀ W : World, Row W a (min n 200) c T → Row W (some ⟨b, off, none⟩) 4096 k sig → KsAt W → Calls Tryd.prog 12 #[.slice a (min n 200) c, .slice (some ⟨b, off, none⟩) 4096 k] W fun e w' => e = .returned (.tuple #[.agg (cellsOf r).toArray, .int .i64 0]) ∧ Below W.heap.size W w') ∧
      (∀ W : World, Row W a (min n 200) c T → Row W (some ⟨b, off, none⟩) 4096 k sig → KsAt W → Calls Tryd.prog 14 #[.agg (cellsOf key).toArray, .slice a (min n 200) c, .slice (some ⟨b, off, none⟩) 4096 k] W fun e w' => e = .returned (.bool D) ∧ Below W.heap.size W w') ∧
      decide (key = r) = D ∧
      ∀ (W : World) (a : Option Addr) (c gg : Nat), Row W a 4096 c (backTo T sig 64) → KsAt W → W.heap[gg]? = some (.cells #[.slice a 4096 c] 24 (0, 0)) → Calls Tryd.prog 10 #[.int .u8 13, .slice (some ⟨gg, 0, none⟩) 1 1] W fun e w' => e = .returned (.agg (cellsOf r).toArray) ∧ Below W.heap.size W w' := by
    refine ⟨backOf T sig, _, backOf_len T sig, fun W h1 h2 hW => back_in h1 hn h2 hW, fun W h1 h2 hW => verify_in h1 hn h2 hkey hW _ rfl, ?_, fun W a c gg hr hW hg => join_any 13 13 rfl (rows2_one hg hr) hW ?_⟩
    · rw [decide_eq_decide]
      exact ⟨fun h => h.symm, fun h => h.symm⟩
    · have e : (backTo T sig 64).length = 4096 := hlen 64 (by omega)
      unfold partsOf partOf
      simp only [List.flatMap_cons, List.flatMap_nil, List.length_cons, List.length_append, four_len, List.length_nil, e]
      omega
  have haw : ∀ (W : World), KsAt W → Calls Tryd.prog 16 #[] W fun e w' => e = .returned (.bool true) ∧ Below W.heap.size W w' := fun W hW => awake4_any hW
  have SZ := Lib.hid (size_of hkey)
  have SZR := Lib.hid (size_of hrl)
  have HZR := Lib.hid (zero_of hrl)
  have HKL := Lib.hid hkey
  have HRL := Lib.hid hrl
  have HK := Lib.hid hk
  have HT := Lib.hid h
  have HTT := Lib.hid hT
  have HS := Lib.hid hsig
  have HSTEP := Lib.hid hstep
  have HLEN := Lib.hid hlen
  have HBK := Lib.hid hback
  have HVE := Lib.hid hver
  have HDEC := Lib.hid hdec
  have HJ := Lib.hid hjoin
  have HAW := Lib.hid haw
  have HKM := Lib.hid hkm
  clear hi hn hsl hkey hrl hk h hT hsig hstep hlen hback hver hdec hjoin haw hkm
  go_enter Tryd.func4, Tryd.ntmps4
  go_upto_region 1 with (fail)
  have b1 : Below w.heap.size w (w.alloc (.cells (cellsOf key).toArray 23)) := (Below.refl _ _).alloc (Nat.le_refl _) _
  have h1 : (w.alloc (.cells (cellsOf key).toArray 23)).heap[w.heap.size]? = some (.cells (cellsOf key).toArray 23 (0, 0)) := heap_alloc_new _ _
  have hcut := cut_any (HT.out.below b1)
  revert b1 h1 hcut
  generalize (w.alloc (.cells (cellsOf key).toArray 23)) = w1
  obtain ⟨g, hg⟩ : ∃ g, g = w.heap.size := ⟨_, rfl⟩
  rw [← hg]
  intro b1 h1 hcut
  rw [hg] at b1
  have HB1 := Lib.hid b1
  have H1 := Lib.hid h1
  have HCUT := Lib.hid hcut
  clear b1 h1 hcut hg
  go_wp2_with (go_at_call 6; (with_reducible refine (HCUT.out).mono ?_); rintro e w' ⟨rfl, hrow, rfl⟩; rw [← HTT.out] at hrow; have HROW := Lib.hid hrow; clear hrow)
  refine (HBK.out _ HROW.out (HS.out.below HB1.out) (HK.out.below HB1.out)).mono ?_
  rintro e w2 ⟨rfl, hb2⟩
  have HB2 := Lib.hid (HB1.out.trans (hb2.mono HB1.out.size))
  have H2 := Lib.hid ((hb2.block _ (lt_of_block H1.out)).trans H1.out)
  have HROW2 := Lib.hid (HROW.out.below hb2)
  clear hb2
  go_upto_region 3 with (refine wpList_store_row rfl 23 _ _ rfl w2.heap.size (cellsOf r).toArray rfl rfl 23 (cellsOf zero32).toArray (heap_alloc_new _ _) SZR.out HZR.out (all_oneCell_toArray (cellsOf_one r)) ?_)
  rw [← zero32_is, laySum_is]
  have h3 := laySum_heap w2 r
  have b3 := laySum_below r HB2.out
  have h4 := ((laySum_self w2 r).block _ (lt_of_block H2.out)).trans H2.out
  have hr3 := HROW2.out.below (laySum_self w2 r)
  revert h3 b3 h4 hr3
  generalize laySum w2 r = w3
  generalize w2.heap.size = q
  intro h3 b3 h4 hr3
  have HB3 := Lib.hid b3
  have H3 := Lib.hid h3
  have H4 := Lib.hid h4
  have HR3 := Lib.hid hr3
  have HS3 := Lib.hid (HS.out.below b3)
  have HK3 := Lib.hid (HK.out.below b3)
  clear h3 b3 h4 hr3
  try simp only [Act.put]
  go_wp2_with fail
  go_loopw [9, 10] (fun u i wr => ∃ j : Nat, j ≤ 64 ∧ i = .int .i64 j ∧ Under w3 u (backTo T sig j) wr) (fun _ i _ => 64 - (intOf i).toNat)
  case atStart => exact ⟨0, Nat.zero_le _, rfl, Under.none w3⟩
  case round =>
    obtain ⟨j, hj, rfl, hat⟩ := hrel
    by_cases hj64 : j < 64
    · have f1 : (j : Int) < 64 := by omega
      obtain ⟨t, z, o, s, ht, hz, ho, hzl, hol, hsl, hn0, hn1, hsh, hbit⟩ := HSTEP.out j hj64
      obtain ⟨X, hX⟩ : ∃ X, X = backTo T sig j := ⟨_, rfl⟩
      have hlen : X.length = j * 64 := by rw [hX]; exact HLEN.out j hj
      rw [← hX] at hat hn0 hn1
      obtain ⟨F, hF⟩ : ∃ F, F = X.length := ⟨_, rfl⟩
      have hF4 : F ≤ 4096 := by omega
      obtain ⟨a', c', rfl⟩ := hat.shape hF.symm
      have SZZ := Lib.hid (size_of hzl)
      have SZS := Lib.hid (size_of hsl)
      have HZS := Lib.hid (zero_of hsl)
      have HZL := Lib.hid hzl
      have HOL := Lib.hid hol
      have HSL := Lib.hid hsl
      have HZP := Lib.hid hz
      have HOP := Lib.hid ho
      have HN0 := Lib.hid hn0
      have HN1 := Lib.hid hn1
      have HSH := Lib.hid hsh
      have HBIT := Lib.hid hbit
      have HLF := Lib.hid hF.symm
      have HAT := Lib.hid hat
      have HT2 := Lib.hid ht
      clear hzl hol hsl hz ho hn0 hn1 hsh hbit hX hlen hF hat ht
      go_upto_region 10 with (fail)
      rw [← zero32_is]
      have hh5 : (wr.alloc (.cells (cellsOf zero32).toArray 23)).heap[wr.heap.size]? = some (.cells (cellsOf zero32).toArray 23 (0, 0)) := heap_alloc_new _ _
      have hb5 : Below wr.heap.size wr (wr.alloc (.cells (cellsOf zero32).toArray 23)) := (Below.refl _ _).alloc (Nat.le_refl _) _
      have hs5 : wr.heap.size < (wr.alloc (.cells (cellsOf zero32).toArray 23)).heap.size := by simp
      revert hh5 hb5 hs5
      generalize (wr.alloc (.cells (cellsOf zero32).toArray 23)) = w5
      obtain ⟨p, hp⟩ : ∃ p, p = wr.heap.size := ⟨_, rfl⟩
      rw [← hp]
      intro hh5 hb5 hs5
      rw [hp] at hb5
      have HA5 := Lib.hid (HAT.out.more hb5)
      have HH5 := Lib.hid hh5
      have HPP := Lib.hid (show wr.heap.size ≤ p by omega)
      have HNE : Hid (∀ k, Value.ownBlock (.slice a' F c') = some k → k < p) := Lib.hid (fun k e => by rw [hp]; exact HAT.out.old k e)
      have HSR : Hid (Row w5 (some ⟨b, off, none⟩) 4096 k sig) := Lib.hid (HS3.out.below HA5.out.below)
      have HB5 := Lib.hid hb5
      clear hh5 hb5 hp
      have hu := Tryd.underlying23
      obtain ⟨J, hJ⟩ : ∃ J, J = 64 * j := ⟨_, rfl⟩
      have eJ : 64 * (j : Int) = (J : Int) := by omega
      have hJ4 : J + 64 ≤ 4096 := by omega
      have e2 : J + 64 - (J + 32) = 32 := by omega
      have HE2 := Lib.hid e2
      have i1 : IntKind.i64.wrap (J : Int) = (J : Int) := IntWalk.i64_in _ (by omega)
      have i2 : IntKind.i64.wrap ((J : Int) + 32) = (J : Int) + 32 := IntWalk.i64_in _ (by omega)
      have hz5 : Row w5 (some ⟨b, off + J, none⟩) 32 (k - J) z := by
        have h := piece_row (C := k - J) HSR.out (2 * j) (by omega) (by omega) (by have := HKM.out; omega)
        rw [HZP.out, show 2 * j * 32 = J by omega] at h
        exact h
      have HZ5 := Lib.hid (hz5.below (below_drew (Below.refl _ _)))
      have HHD : Hid (w5.drew.heap[p]? = some (.cells (cellsOf zero32).toArray 23 (0, 0))) := HH5
      have HCN : Hid ((cellsOf z).length = Nat.min 32 32) := Lib.hid (by rw [cellsOf_len, HZL.out]; rfl)
      have HFT : Hid (0 + (cellsOf z).length ≤ (cellsOf zero32).length) := Lib.hid (by rw [cellsOf_len, cellsOf_len, HZL.out]; exact Nat.le_refl 32)
      have HJJ := Lib.hid hJ
      clear hz5 hJ
      refine wp_region_held_drew (S := fun _ => True) (by kernel_rfl) (trivial) (fun hHeld => ?_)
      refine take_at (i := 1) (v := ?_) rfl rfl (by kernel_rfl) (by kernel_rfl) (by kernel_rfl) (fun _ _ _ h => h) (Or.inl ⟨by rfl, ?_⟩) (by assumption) ?_
      rotate_left
      · intro w0 hSw; (try dsimp only at hSw); first | (go_simp; done) | (go_simp; with_reducible rfl)
      simp only [List.setIfInBounds_toArray, List.set_cons_zero, List.set_cons_succ]
      refine take_at (i := 2) (v := ?_) rfl rfl (by kernel_rfl) (by kernel_rfl) (by kernel_rfl) (fun _ _ _ h => h) (Or.inl ⟨by rfl, ?_⟩) (by assumption) ?_
      rotate_left
      · intro w0 hSw; (try dsimp only at hSw); first | (go_simp; done) | (go_simp; with_reducible rfl)
      simp only [List.setIfInBounds_toArray, List.set_cons_zero, List.set_cons_succ]
      refine take_at (i := 3) (v := ?_) rfl rfl (by kernel_rfl) (by kernel_rfl) (by kernel_rfl) (fun _ _ _ h => h) (Or.inl ⟨by rfl, ?_⟩) (by assumption) ?_
      rotate_left
      · intro w0 hSw; (try dsimp only at hSw); first | (go_simp; done) | (go_simp; with_reducible rfl)
      simp only [List.setIfInBounds_toArray, List.set_cons_zero, List.set_cons_succ]
      refine take_at (i := 4) (v := ?_) rfl rfl (by kernel_rfl) (by kernel_rfl) (by kernel_rfl) (fun _ _ _ h => h) (Or.inl ⟨by rfl, ?_⟩) (by assumption) ?_
      rotate_left
      · intro w0 hSw; (try dsimp only at hSw); first | (go_simp; done) | (go_simp; with_reducible rfl)
      simp only [List.setIfInBounds_toArray, List.set_cons_zero, List.set_cons_succ]
      refine take_at (i := 5) (v := ?_) rfl rfl (by kernel_rfl) (by kernel_rfl) (by kernel_rfl) (fun _ _ _ h => h) (Or.inl ⟨by rfl, ?_⟩) (by assumption) ?_
      rotate_left
      · intro w0 hSw; (try dsimp only at hSw); first | (go_simp; done) | (go_simp; with_reducible rfl)
      simp only [List.setIfInBounds_toArray, List.set_cons_zero, List.set_cons_succ]
      refine take_at (i := 6) (v := ?_) rfl rfl (by kernel_rfl) (by kernel_rfl) (by kernel_rfl) (fun _ _ _ h => h) (Or.inl ⟨by rfl, ?_⟩) (by assumption) ?_
      rotate_left
      · intro w0 hSw; (try dsimp only at hSw); first | (go_simp; done) | (go_simp; with_reducible rfl)
      simp only [List.setIfInBounds_toArray, List.set_cons_zero, List.set_cons_succ]
      refine take_at (i := 0) (v := ?_) rfl rfl (by kernel_rfl) (by kernel_rfl) (by kernel_rfl) (fun _ _ _ h => h) (Or.inl ⟨by rfl, ?_⟩) (by assumption) ?_
      rotate_left
      · intro w0 hSw; (try dsimp only at hSw); first | (go_simp; done) | (go_simp; with_reducible rfl)
      simp only [List.setIfInBounds_toArray, List.set_cons_zero, List.set_cons_succ]
      refine take_at (i := 7) rfl rfl (by kernel_rfl) (by kernel_rfl) (by kernel_rfl) (fun _ _ _ h => h) (yields_cut (A := J) (B := J + 32) (by rfl) rfl rfl rfl rfl (by rfl) (by rfl) (by omega) (by omega) (by omega) 32 (k - J) (by omega) rfl) (by assumption) ?_
      simp only [List.setIfInBounds_toArray, List.set_cons_zero, List.set_cons_succ]
      refine wpAnyH_ready (rs := [8]) (by kernel_rfl) (by simp) ?_
      refine AllReadyH.cons rfl (fun K hK => ?_) ?_
      · refine step_copy_but (by rfl) (.tmp 46) (.tmp 53) 24 24 (by rfl) 5 Tryd.underlying24 Tryd.size5 _ _ 32 32 32 (k - J) (by rfl) (by rfl) p 0 (cellsOf zero32) 23 HHD.out (cellsOf z) HCN.out (fun h0 => ⟨rfl, row_copy HZ5.out h0⟩) HFT.out (cellsOf_one _) ?_
        intro w6 hh6 hb6
        refine hK.out _ _ (by (try dsimp only); first | done | trivial) (fun hHeld => ?_)
        clear hK K
        refine wpAnyH_done (by kernel_rfl) ?_ _
        have hh7 := hh6.out
        rw [splice_all _ _ (by rw [cellsOf_len, cellsOf_len, HZL.out] <;> exact rfl)] at hh7
        have hb7 : But w5.heap.size p w5 w6 := (But.of (below_drew (Below.refl w5.heap.size w5))).trans hb6
        have hb8 : Below wr.heap.size wr w6 := HB5.out.trans ((hb7.mono HB5.out.size).below HPP.out)
        have HP6 := Lib.hid hh7
        have HA6 := Lib.hid (HAT.out.more hb8)
        have HLT6 := Lib.hid (lt_of_block hh7)
        clear hh6 hh7 hb6 hb7 hb8 hHeld HH5 HHD HZ5 HA5 HSR
        try simp only [Act.put]
        go_wp2_with (refine wpList_load_row rfl 23 _ rfl p rfl 23 (cellsOf z).toArray (0, 0) _ HP6.out Tryd.underlying23 rfl SZZ.out ?_)
        refine (HSH.out _ (HK3.out.below HA6.out.below)).mono ?_
        rintro e w8 ⟨rfl, hb8⟩
        have HA8 := Lib.hid (HA6.out.more hb8)
        clear hb8
        go_upto_region 12 with (refine wpList_store_row rfl 23 _ _ rfl w8.heap.size (cellsOf s).toArray rfl rfl 23 (cellsOf zero32).toArray (heap_alloc_new _ _) SZS.out HZS.out (all_oneCell_toArray (cellsOf_one s)) ?_)
        rw [← zero32_is, laySum_is]
        have ha9 := HA8.out.more (laySum_self w8 s)
        have hr9 := laySum_row w8 HSL.out
        have hne9 := HA8.out.old
        revert ha9 hr9 hne9
        generalize laySum w8 s = w9
        generalize w8.heap.size = q9
        intro ha9 hr9 hne9
        have HA9 := Lib.hid ha9
        have HR9 := Lib.hid hr9
        have HNE9 := Lib.hid hne9
        clear ha9 hr9 hne9 HNE
        try simp only [Act.put]
        go_wp2_with fail
        refine (HBIT.out _ (HR3.out.below HA9.out.below) (HK3.out.below HA9.out.below)).mono ?_
        rintro e w10 ⟨rfl, hb10⟩
        have HA10 := Lib.hid (HA9.out.more hb10)
        have HR10 := Lib.hid (HR9.out.below hb10)
        have ho10 : Row w10 (some ⟨b, off + (J + 32), none⟩) (J + 64 - (J + 32)) (k - (J + 32)) o := by
          rw [HE2.out]
          have h := piece_row (C := k - (J + 32)) (HS3.out.below HA10.out.below) (2 * j + 1) (by have := HJJ.out; omega) (by omega) (by have := HKM.out; omega)
          rw [HOP.out, show (2 * j + 1) * 32 = J + 32 by have := HJJ.out; omega] at h
          exact h
        have HO10 := Lib.hid ho10
        clear ho10 hb10
        have ht := HT2.out
        rcases (show t = 0 ∨ t = 1 by omega) with rfl | rfl
        · have HN := Lib.hid (HN0.out rfl)
          clear ht HN0 HN1
          go_upto_region 14 with (at_builtin; refine wpList_append_row _ rfl _ _ 24 rfl w3.heap.size i0 Tryd.underlying24 HI.out hz0 hz1 hz2 (.slice a' F c') X (F) HLF.out rfl HA10.out.own _ 32 _ s rfl HR10.out (by omega) HA10.out.below.size ?_; intro a11 c11 w11 ho11 hg11)
          have HA11 := Lib.hid (HA10.out.grown ho11 hg11)
          have HLF11 : Hid ((X ++ s).length = F + 32) := Lib.hid (by rw [List.length_append, HLF.out, HSL.out])
          have ho11r : Row w11 (some ⟨b, off + (J + 32), none⟩) (J + 64 - (J + 32)) (k - (J + 32)) o := by
            rw [HE2.out]
            have h := piece_row (C := k - (J + 32)) (HS3.out.below HA11.out.below) (2 * j + 1) (by have := HJJ.out; omega) (by omega) (by have := HKM.out; omega)
            rw [HOP.out, show (2 * j + 1) * 32 = J + 32 by have := HJJ.out; omega] at h
            exact h
          have HO11 := Lib.hid ho11r
          clear ho11r
          clear ho11 hg11
          go_upto_region 8 with (at_builtin; refine wpList_append_row _ rfl _ _ 24 rfl w3.heap.size i0 Tryd.underlying24 HI.out hz0 hz1 hz2 (.slice a11 (F + 32) c11) (X ++ s) (F + 32) HLF11.out rfl HA11.out.own _ (J + 64 - (J + 32)) _ o rfl HO11.out (by omega) HA11.out.below.size ?_; intro a12 c12 w12 ho12 hg12; rw [HE2.out] at ho12; (try rw [HE2.out]); have HA12 := Lib.hid (HA11.out.grown ho12 hg12); clear ho12 hg12)
          go_wp2_with fail
          go_roundw
          case rel => exact ⟨j + 1, by omega, by go_num, by rw [HN.out]; exact HA12.out⟩
          case measure => simp [intOf]; omega
        · have HN := Lib.hid (HN1.out (by omega))
          clear ht HN0 HN1
          go_upto_region 16 with (at_builtin; refine wpList_append_row _ rfl _ _ 24 rfl w3.heap.size i0 Tryd.underlying24 HI.out hz0 hz1 hz2 (.slice a' F c') X (F) HLF.out rfl HA10.out.own _ (J + 64 - (J + 32)) _ o rfl HO10.out (by omega) HA10.out.below.size ?_; intro a11 c11 w11 ho11 hg11; rw [HE2.out] at ho11; (try rw [HE2.out]))
          have HA11 := Lib.hid (HA10.out.grown ho11 hg11)
          have HLF11 : Hid ((X ++ o).length = F + 32) := Lib.hid (by rw [List.length_append, HLF.out, HOL.out])
          have HR11 := Lib.hid (HR10.out.grown hg11 HNE9.out)
          clear ho11 hg11
          go_wp2_with (at_builtin; refine wpList_append_row _ rfl _ _ 24 rfl w3.heap.size i0 Tryd.underlying24 HI.out hz0 hz1 hz2 (.slice a11 (F + 32) c11) (X ++ o) (F + 32) HLF11.out rfl HA11.out.own _ 32 _ s rfl HR11.out (by omega) HA11.out.below.size ?_; intro a12 c12 w12 ho12 hg12; have HA12 := Lib.hid (HA11.out.grown ho12 hg12); clear ho12 hg12)
          go_roundw
          case rel => exact ⟨j + 1, by omega, by go_num, by rw [HN.out]; exact HA12.out⟩
          case measure => simp [intOf]; omega
      exact AllReadyH.nil
    · have f1 : ¬ ((j : Int) < 64) := by omega
      have hj' : j = 64 := by omega
      rw [hj'] at hat
      obtain ⟨a', c', rfl⟩ := hat.shape (HLEN.out 64 (Nat.le_refl _))
      have HF := Lib.hid hat
      clear hat hj'
      go_wp2_with fail
      have b5 : Below wr.heap.size wr (wr.alloc (.cells #[.slice a' 4096 c'] 24)) := (Below.refl _ _).alloc (Nat.le_refl _) _
      refine (HJ.out _ a' c' _ (HF.out.row.below b5) ((HK3.out.below HF.out.below).below b5) (heap_alloc_new _ _)).mono ?_
      rintro e w5 ⟨rfl, hb5⟩
      have HB5 := Lib.hid (HF.out.below.trans ((b5.trans (hb5.mono b5.size)).mono HF.out.below.size))
      clear b5 hb5
      go_upto_region 18 with (refine wpList_store_row rfl 23 _ _ rfl w5.heap.size (cellsOf r).toArray rfl rfl 23 (cellsOf zero32).toArray (heap_alloc_new _ _) SZR.out HZR.out (all_oneCell_toArray (cellsOf_one r)) ?_)
      rw [← zero32_is, laySum_is]
      have h6 := laySum_heap w5 r
      have b6 := HB5.out.trans ((laySum_self w5 r).mono HB5.out.size)
      revert h6 b6
      generalize laySum w5 r = w6
      generalize w5.heap.size = p
      intro h6 b6
      have hq6 := (b6.block _ (lt_of_block H3.out)).trans H3.out
      have hg6 := (b6.block _ (lt_of_block H4.out)).trans H4.out
      have HQ := Lib.hid (range_of hq6)
      have HP := Lib.hid (range_of h6)
      have HG := Lib.hid (range_of hg6)
      have hltq := lt_of_block hq6
      have hltp := lt_of_block h6
      have hltg := lt_of_block hg6
      have HB6 := Lib.hid b6
      have HK6 := Lib.hid (HK3.out.below b6)
      have HR6 := Lib.hid (HR3.out.below b6)
      have HS6 := Lib.hid (HS3.out.below b6)
      clear h6 b6 hq6 hg6
      try simp only [Act.put]
      refine wp_region_held_drew (S := fun w' => Below w6.heap.size w6 w') (by kernel_rfl) (below_drew (Below.refl _ _)) (fun hHeld => ?_)
      refine take_at (i := 0) rfl rfl (by kernel_rfl) (by kernel_rfl) (by kernel_rfl) (fun _ _ _ h => h) (yieldsIf_load_mid (by rfl) _ _ rfl q 0 rfl (cellsOf r) _ (fun w0 hSw => rangeAt_below HQ.out hltq hSw) Tryd.underlying23 rfl SZR.out) (by assumption) ?_
      simp only [List.setIfInBounds_toArray, List.set_cons_zero, List.set_cons_succ]
      refine take_at (i := 1) rfl rfl (by kernel_rfl) (by kernel_rfl) (by kernel_rfl) (fun _ _ _ h => h) (yieldsIf_load_mid (by rfl) _ _ rfl p 0 rfl (cellsOf r) _ (fun w0 hSw => rangeAt_below HP.out hltp hSw) Tryd.underlying23 rfl SZR.out) (by assumption) ?_
      simp only [List.setIfInBounds_toArray, List.set_cons_zero, List.set_cons_succ]
      refine take_at (i := 2) rfl rfl (by kernel_rfl) (by kernel_rfl) (by kernel_rfl) (fun _ _ _ h => h) (yields_eql (by rfl) rfl rfl rfl HRL.out HRL.out true (by simp)) (by assumption) ?_
      simp only [List.setIfInBounds_toArray, List.set_cons_zero, List.set_cons_succ]
      refine take_at (i := 3) (v := ?_) rfl rfl (by kernel_rfl) (by kernel_rfl) (by kernel_rfl) (fun _ _ _ h => h) (Or.inl ⟨by rfl, ?_⟩) (by assumption) ?_
      rotate_left
      · intro w0 hSw; (try dsimp only at hSw); first | (go_simp; done) | (go_simp; with_reducible rfl)
      simp only [List.setIfInBounds_toArray, List.set_cons_zero, List.set_cons_succ]
      refine take_at (i := 4) (v := ?_) rfl rfl (by kernel_rfl) (by kernel_rfl) (by kernel_rfl) (fun _ _ _ h => h) (Or.inl ⟨by rfl, ?_⟩) (by assumption) ?_
      rotate_left
      · intro w0 hSw; (try dsimp only at hSw); first | (go_simp; done) | (go_simp; with_reducible rfl)
      simp only [List.setIfInBounds_toArray, List.set_cons_zero, List.set_cons_succ]
      refine take_at (i := 5) (v := ?_) rfl rfl (by kernel_rfl) (by kernel_rfl) (by kernel_rfl) (fun _ _ _ h => h) (Or.inl ⟨by rfl, ?_⟩) (by assumption) ?_
      rotate_left
      · intro w0 hSw; (try dsimp only at hSw); first | (go_simp; done) | (go_simp; with_reducible rfl)
      simp only [List.setIfInBounds_toArray, List.set_cons_zero, List.set_cons_succ]
      refine take_at (i := 6) (v := ?_) rfl rfl (by kernel_rfl) (by kernel_rfl) (by kernel_rfl) (fun _ _ _ h => h) (Or.inl ⟨by rfl, ?_⟩) (by assumption) ?_
      rotate_left
      · intro w0 hSw; (try dsimp only at hSw); first | (go_simp; done) | (go_simp; with_reducible rfl)
      simp only [List.setIfInBounds_toArray, List.set_cons_zero, List.set_cons_succ]
      refine take_at (i := 7) (v := ?_) rfl rfl (by kernel_rfl) (by kernel_rfl) (by kernel_rfl) (fun _ _ _ h => h) (Or.inl ⟨by rfl, ?_⟩) (by assumption) ?_
      rotate_left
      · intro w0 hSw; (try dsimp only at hSw); first | (go_simp; done) | (go_simp; with_reducible rfl)
      simp only [List.setIfInBounds_toArray, List.set_cons_zero, List.set_cons_succ]
      refine take_at (i := 8) rfl rfl (by kernel_rfl) (by kernel_rfl) (by kernel_rfl) (fun _ _ _ h => h) (yieldsIf_load_mid (by rfl) _ _ rfl g 0 rfl (cellsOf key) _ (fun w0 hSw => rangeAt_below HG.out hltg hSw) Tryd.underlying23 rfl SZ.out) (by assumption) ?_
      simp only [List.setIfInBounds_toArray, List.set_cons_zero, List.set_cons_succ]
      refine take_at (i := 9) (v := ?_) rfl rfl (by kernel_rfl) (by kernel_rfl) (by kernel_rfl) (fun _ _ _ h => h) (Or.inl ⟨by rfl, ?_⟩) (by assumption) ?_
      rotate_left
      · intro w0 hSw; (try dsimp only at hSw); first | (go_simp; done) | (go_simp; with_reducible rfl)
      simp only [List.setIfInBounds_toArray, List.set_cons_zero, List.set_cons_succ]
      refine take_at (i := 10) (v := ?_) rfl rfl (by kernel_rfl) (by kernel_rfl) (by kernel_rfl) (fun _ _ _ h => h) (Or.inl ⟨by rfl, ?_⟩) (by assumption) ?_
      rotate_left
      · intro w0 hSw; (try dsimp only at hSw); first | (go_simp; done) | (go_simp; with_reducible rfl)
      simp only [List.setIfInBounds_toArray, List.set_cons_zero, List.set_cons_succ]
      refine take_at (i := 12) rfl rfl (by kernel_rfl) (by kernel_rfl) (by kernel_rfl) (fun _ _ _ h => h) (yieldsIf_load_mid (by rfl) _ _ rfl g 0 rfl (cellsOf key) _ (fun w0 hSw => rangeAt_below HG.out hltg hSw) Tryd.underlying23 rfl SZ.out) (by assumption) ?_
      simp only [List.setIfInBounds_toArray, List.set_cons_zero, List.set_cons_succ]
      refine take_at (i := 13) rfl rfl (by kernel_rfl) (by kernel_rfl) (by kernel_rfl) (fun _ _ _ h => h) (yieldsIf_load_mid (by rfl) _ _ rfl p 0 rfl (cellsOf r) _ (fun w0 hSw => rangeAt_below HP.out hltp hSw) Tryd.underlying23 rfl SZR.out) (by assumption) ?_
      simp only [List.setIfInBounds_toArray, List.set_cons_zero, List.set_cons_succ]
      refine take_at (i := 14) rfl rfl (by kernel_rfl) (by kernel_rfl) (by kernel_rfl) (fun _ _ _ h => h) (yields_eql (by rfl) rfl rfl rfl HKL.out HRL.out D HDEC.out) (by assumption) ?_
      simp only [List.setIfInBounds_toArray, List.set_cons_zero, List.set_cons_succ]
      refine wpAnyH_ready (rs := [11]) (by kernel_rfl) (by simp) ?_
      refine AllReadyH.cons rfl (fun K hK => ?_) ?_
      · go_simp
        go_wp2_with ((go_at_call 14; (with_reducible refine (HVE.out _ (HR6.out.below hHeld) (HS6.out.below hHeld) (HK6.out.below hHeld)).mono ?_); rintro e x11 ⟨rfl, hb11⟩; have HC11 := Lib.hid hb11; clear hb11))
        refine hK.out _ _ (by (try dsimp only); exact Below.trans hHeld (HC11.out.mono (Below.size hHeld))) (fun hHeld => ?_)
        clear hK K
        refine take_at (i := 15) (v := ?_) rfl rfl (by kernel_rfl) (by kernel_rfl) (by kernel_rfl) (fun _ _ _ h => h) (Or.inl ⟨by rfl, ?_⟩) (by assumption) ?_
        rotate_left
        · intro w0 hSw; (try dsimp only at hSw); first | (go_simp; done) | (go_simp; with_reducible rfl)
        simp only [List.setIfInBounds_toArray, List.set_cons_zero, List.set_cons_succ]
        refine take_at (i := 16) (v := ?_) rfl rfl (by kernel_rfl) (by kernel_rfl) (by kernel_rfl) (fun _ _ _ h => h) (Or.inl ⟨by rfl, ?_⟩) (by assumption) ?_
        rotate_left
        · intro w0 hSw; (try dsimp only at hSw); first | (go_simp; done) | (go_simp; with_reducible rfl)
        simp only [List.setIfInBounds_toArray, List.set_cons_zero, List.set_cons_succ]
        refine take_at (i := 17) (v := ?_) rfl rfl (by kernel_rfl) (by kernel_rfl) (by kernel_rfl) (fun _ _ _ h => h) (Or.inl ⟨by rfl, ?_⟩) (by assumption) ?_
        rotate_left
        · intro w0 hSw; (try dsimp only at hSw); first | (go_simp; done) | (go_simp; with_reducible rfl)
        simp only [List.setIfInBounds_toArray, List.set_cons_zero, List.set_cons_succ]
        refine wpAnyH_ready (rs := [18]) (by kernel_rfl) (by simp) ?_
        refine AllReadyH.cons rfl (fun K hK => ?_) ?_
        · go_simp
          go_wp2_with ((go_at_call 16; (with_reducible refine (HAW.out _ (HK6.out.below hHeld)).mono ?_); rintro e x18 ⟨rfl, hb18⟩; have HC18 := Lib.hid hb18; clear hb18))
          refine hK.out _ _ (by (try dsimp only); exact Below.trans hHeld (HC18.out.mono (Below.size hHeld))) (fun hHeld => ?_)
          clear hK K
          refine take_at (i := 19) (v := ?_) rfl rfl (by kernel_rfl) (by kernel_rfl) (by kernel_rfl) (fun _ _ _ h => h) (Or.inl ⟨by rfl, ?_⟩) (by assumption) ?_
          rotate_left
          · intro w0 hSw; (try dsimp only at hSw); first | (go_simp; done) | (go_simp; with_reducible rfl)
          simp only [List.setIfInBounds_toArray, List.set_cons_zero, List.set_cons_succ]
          refine take_at (i := 20) (v := ?_) rfl rfl (by kernel_rfl) (by kernel_rfl) (by kernel_rfl) (fun _ _ _ h => h) (Or.inl ⟨by rfl, ?_⟩) (by assumption) ?_
          rotate_left
          · intro w0 hSw; (try dsimp only at hSw); first | (go_simp; done) | (go_simp; with_reducible rfl)
          simp only [List.setIfInBounds_toArray, List.set_cons_zero, List.set_cons_succ]
          refine wpAnyH_done (by kernel_rfl) ?_ _
          have HE := Lib.hid (show Below w6.heap.size w6 x18 from hHeld)
          go_wp2_with fail
          go_ret
          have b7 := HB3.out.trans (HB6.out.mono HB3.out.size)
          exact ⟨rfl, b7.trans (HE.out.mono b7.size)⟩
        exact AllReadyH.nil
      exact AllReadyH.nil
theorem backs_walk {w : World} {a b : Option Addr} {n c m k : Nat} {l sig key : List UInt8} (h : Row w a n c l) (hsig : Row w b m k sig) (hkey : key.length = 32) (hk : KsAt w) :
    Calls Tryd.prog 4 #[.slice a n c, .slice b m k, .agg (cellsOf key).toArray] w fun e w' => e = .returned (.bool true) ∧ Below w.heap.size w w' := by
  by_cases hm : m = 4096
  · subst hm
    exact backs_in h hsig hkey hk
  · exact backs_out h hkey hk hm
end Go.Proofs.YtjmdkgjfcfnbiaaDoor
