/- What Verify comes to. -/
import Derived.Test.YtjmdkgjfcfnbiaaDoorBack
namespace Go.Proofs.YtjmdkgjfcfnbiaaDoor
open Go.RowKit

set_option linter.unusedSimpArgs false in
set_option maxRecDepth 100000 in
set_option maxHeartbeats 3200000 in
theorem verify_in {w : World} {a b : Option Addr} {n c k : Nat} {l sig key : List UInt8} (h : Row w a n c l) (hn : n ≤ 1000000) (hsig : Row w b 4096 k sig) (hkey : key.length = 32) (hk : KsAt w) (D : Bool) (hD : decide (backOf l sig = key) = D) :
    Calls Tryd.prog 14 #[.agg (cellsOf key).toArray, .slice a n c, .slice b 4096 k] w fun e w' => e = .returned (.bool D) ∧ Below w.heap.size w w' := by
  obtain ⟨r, hr, hrl, hback⟩ : ∃ r, backOf l sig = r ∧ r.length = 32 ∧ ∀ W : World, Row W a n c l → Row W b 4096 k sig → KsAt W → Calls Tryd.prog 12 #[.slice a n c, .slice b 4096 k] W fun e w' => e = .returned (.tuple #[.agg (cellsOf r).toArray, .int .i64 0]) ∧ Below W.heap.size W w' :=
    ⟨_, rfl, backOf_len l sig, fun W h1 h2 hW => back_in h1 hn h2 hW⟩
  rw [hr] at hD
  have q1 : ∀ W : World, (Op.equalIn 10000 23 (.agg (cellsOf r).toArray) (.agg (cellsOf key).toArray)).run Tryd.prog W = .ok D W := fun W => by rw [← hD]; exact run_eqSums r key hrl hkey W
  have SZR := Lib.hid (size_of hrl)
  have HZR := Lib.hid (zero_of hrl)
  have SZY := Lib.hid (size_of hkey)
  have HK := Lib.hid hk
  have HT := Lib.hid h
  have HS := Lib.hid hsig
  have HBK := Lib.hid hback
  clear hr hrl hback hD hk h hsig hkey hn
  go_enter Tryd.func14, Tryd.ntmps14
  go_upto_region 1 with (fail)
  have b1 : Below w.heap.size w (w.alloc (.cells (cellsOf key).toArray 23)) := (Below.refl _ _).alloc (Nat.le_refl _) _
  have h1 : (w.alloc (.cells (cellsOf key).toArray 23)).heap[w.heap.size]? = some (.cells (cellsOf key).toArray 23 (0, 0)) := heap_alloc_new _ _
  revert b1 h1
  generalize (w.alloc (.cells (cellsOf key).toArray 23)) = w1
  obtain ⟨g, hg⟩ : ∃ g, g = w.heap.size := ⟨_, rfl⟩
  rw [← hg]
  intro b1 h1
  rw [hg] at b1
  have HB1 := Lib.hid b1
  have H1 := Lib.hid h1
  clear b1 h1 hg
  go_wp2_with fail
  refine (HBK.out _ (HT.out.below HB1.out) (HS.out.below HB1.out) (HK.out.below HB1.out)).mono ?_
  rintro e w2 ⟨rfl, hb2⟩
  have HB2 := Lib.hid (HB1.out.trans (hb2.mono HB1.out.size))
  have H2 := Lib.hid ((hb2.block _ (lt_of_block H1.out)).trans H1.out)
  clear hb2
  go_upto_region 2 with (refine wpList_store_row rfl 23 _ _ rfl w2.heap.size (cellsOf r).toArray rfl rfl 23 (cellsOf zero32).toArray (heap_alloc_new _ _) SZR.out HZR.out (all_oneCell_toArray (cellsOf_one r)) ?_)
  rw [← zero32_is, laySum_is]
  have h3 := laySum_heap w2 r
  have b3 := laySum_below r HB2.out
  have h4 := ((laySum_self w2 r).block _ (lt_of_block H2.out)).trans H2.out
  revert h3 b3 h4
  generalize laySum w2 r = w3
  generalize w2.heap.size = q
  intro h3 b3 h4
  have HB3 := Lib.hid b3
  have H3 := Lib.hid h3
  have H4 := Lib.hid h4
  clear h3 b3 h4
  try simp only [Act.put]
  cases D <;>
  · go_wp2_with (first | (refine wpList_load_wanted (by rfl) 23 _ rfl q rfl 23 (cellsOf r).toArray (0, 0) _ H3.out Tryd.underlying23 rfl SZR.out ?_) | (refine wpList_load_wanted (by rfl) 23 _ rfl g rfl 23 (cellsOf key).toArray (0, 0) _ H4.out Tryd.underlying23 rfl SZY.out ?_) | fail)
    go_ret
    exact ⟨rfl, HB3.out⟩
set_option linter.unusedSimpArgs false in
set_option maxRecDepth 100000 in
set_option maxHeartbeats 3200000 in
theorem verify_out {w : World} {a b : Option Addr} {n c m k : Nat} {key : List UInt8} (hm : m ≠ 4096) :
    Calls Tryd.prog 14 #[.agg (cellsOf key).toArray, .slice a n c, .slice b m k] w fun e w' => e = .returned (.bool false) ∧ Below w.heap.size w w' := by
  obtain ⟨r, hrl, hback⟩ : ∃ r : List UInt8, r.length = 32 ∧ ∀ W : World, Calls Tryd.prog 12 #[.slice a n c, .slice b m k] W fun e w' => e = .returned (.tuple #[.agg (cellsOf r).toArray, .int .i64 11]) ∧ Below W.heap.size W w' := ⟨zero32, rfl, fun W => back_out hm⟩
  have SZR := Lib.hid (size_of hrl)
  have HZR := Lib.hid (zero_of hrl)
  have HBK := Lib.hid hback
  clear hback hm hrl
  go_enter Tryd.func14, Tryd.ntmps14
  go_upto_region 1 with (fail)
  have b1 : Below w.heap.size w (w.alloc (.cells (cellsOf key).toArray 23)) := (Below.refl _ _).alloc (Nat.le_refl _) _
  revert b1
  generalize (w.alloc (.cells (cellsOf key).toArray 23)) = w1
  intro b1
  have HB1 := Lib.hid b1
  clear b1
  go_wp2_with fail
  refine (HBK.out _).mono ?_
  rintro e w2 ⟨rfl, hb2⟩
  have HB2 := Lib.hid (HB1.out.trans (hb2.mono HB1.out.size))
  clear hb2
  go_upto_region 2 with (refine wpList_store_row rfl 23 _ _ rfl w2.heap.size (cellsOf r).toArray rfl rfl 23 (cellsOf zero32).toArray (heap_alloc_new _ _) SZR.out HZR.out (all_oneCell_toArray (cellsOf_one r)) ?_)
  rw [← zero32_is, laySum_is]
  have b3 := laySum_below r HB2.out
  revert b3
  generalize laySum w2 r = w3
  generalize w2.heap.size = q
  intro b3
  have HB3 := Lib.hid b3
  clear b3
  try simp only [Act.put]
  go_wp2_with fail
  go_ret
  exact ⟨rfl, HB3.out⟩
end Go.Proofs.YtjmdkgjfcfnbiaaDoor
