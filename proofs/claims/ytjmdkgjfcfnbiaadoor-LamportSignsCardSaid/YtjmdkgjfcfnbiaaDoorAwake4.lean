/- What chapter 4's example comes to: true. -/
import Derived.Test.YtjmdkgjfcfnbiaaDoorVerify
import Derived.Test.YtjmdkgjfcfnbiaaDoorSign
import Derived.Test.YtjmdkgjfcfnbiaaDoorPublic
import Derived.Test.YtjmdkgjfcfnbiaaDoorKey
namespace Go.Proofs.YtjmdkgjfcfnbiaaDoor
open Go.RowKit

set_option linter.unusedSimpArgs false in
set_option maxRecDepth 100000 in
set_option maxHeartbeats 3200000 in
theorem awake4_any {w : World} (hk : KsAt w) : Calls Tryd.prog 16 #[] w fun e w' => e = .returned (.bool true) ∧ Below w.heap.size w w' := by
  obtain ⟨z, key, sig, hz, hzl, hkl, hsg, hpub, hver, hnot⟩ : ∃ z key sig : List UInt8, zero32 = z ∧ z.length = 32 ∧ key.length = 32 ∧
      (∀ W : World, KsAt W → Calls Tryd.prog 11 #[.agg (cellsOf z).toArray, .slice none 0 0] W fun e w' => Signed W sig e w') ∧
      (∀ W : World, KsAt W → Calls Tryd.prog 13 #[.agg (cellsOf z).toArray] W fun e w' => e = .returned (.agg (cellsOf key).toArray) ∧ Below W.heap.size W w') ∧
      (∀ (W : World) (a : Option Addr) (c : Nat), Row W a 4096 c sig → KsAt W → Calls Tryd.prog 14 #[.agg (cellsOf key).toArray, .slice none 0 0, .slice a 4096 c] W fun e w' => e = .returned (.bool true) ∧ Below W.heap.size W w') ∧
      (∀ (W : World) (a : Option Addr) (c : Nat), Row W a 4096 c sig → KsAt W → Calls Tryd.prog 14 #[.agg (cellsOf z).toArray, .slice none 0 0, .slice a 4096 c] W fun e w' => e = .returned (.bool false) ∧ Below W.heap.size W w') := by
    refine ⟨zero32, keyOf zero32, sigOf zero32 [], rfl, rfl, keyOf_len _, fun W hW => sign_any rfl (Row.nil W) (by omega) hW, fun W hW => public_any rfl hW,
      fun W a c hr hW => verify_in (Row.nil W) (by omega) hr (keyOf_len _) hW true ?_, fun W a c hr hW => verify_in (Row.nil W) (by omega) hr rfl hW false ?_⟩
    · rw [back_sig]
      exact decide_eq_true rfl
    · rw [back_sig]
      exact decide_eq_false keyZero_ne
  have SZ := Lib.hid (size_of hzl)
  have HK := Lib.hid hk
  have HZ := Lib.hid hz
  have HSG := Lib.hid hsg
  have HPU := Lib.hid hpub
  have HVE := Lib.hid hver
  have HNO := Lib.hid hnot
  clear hz hzl hkl hsg hpub hver hnot hk
  go_enter Tryd.func16, Tryd.ntmps16
  go_upto_region 2 with (fail)
  rw [← zero32_is, HZ.out]
  have b1 : Below w.heap.size w (w.alloc (.cells (cellsOf z).toArray 23)) := (Below.refl _ _).alloc (Nat.le_refl _) _
  have h1 : (w.alloc (.cells (cellsOf z).toArray 23)).heap[w.heap.size]? = some (.cells (cellsOf z).toArray 23 (0, 0)) := heap_alloc_new _ _
  revert b1 h1
  generalize (w.alloc (.cells (cellsOf z).toArray 23)) = w1
  obtain ⟨g, hg⟩ : ∃ g, g = w.heap.size := ⟨_, rfl⟩
  rw [← hg]
  intro b1 h1
  rw [hg] at b1
  have HB1 := Lib.hid b1
  have H1 := Lib.hid h1
  clear b1 h1 hg
  go_wp2_with (refine wpList_load_row rfl 23 _ rfl g rfl 23 (cellsOf z).toArray (0, 0) _ H1.out Tryd.underlying23 rfl SZ.out ?_)
  refine (HSG.out _ (HK.out.below HB1.out)).mono ?_
  rintro e w2 ⟨a, c, rfl, hr2, hb2⟩
  have HB2 := Lib.hid (HB1.out.trans (hb2.mono HB1.out.size))
  have H2 := Lib.hid ((hb2.block _ (lt_of_block H1.out)).trans H1.out)
  have HR2 := Lib.hid hr2
  clear hb2 hr2
  go_wp2_with (first | (refine wpList_load_wanted (by rfl) 23 _ rfl g rfl 23 (cellsOf z).toArray (0, 0) _ H2.out Tryd.underlying23 rfl SZ.out ?_) | fail)
  refine (HPU.out _ (HK.out.below HB2.out)).mono ?_
  rintro e w3 ⟨rfl, hb3⟩
  have HB3 := Lib.hid (HB2.out.trans (hb3.mono HB2.out.size))
  have H3 := Lib.hid ((hb3.block _ (lt_of_block H2.out)).trans H2.out)
  have HR3 := Lib.hid (HR2.out.below hb3)
  clear hb3
  go_wp2_with fail
  refine (HVE.out _ a c HR3.out (HK.out.below HB3.out)).mono ?_
  rintro e w4 ⟨rfl, hb4⟩
  have HB4 := Lib.hid (HB3.out.trans (hb4.mono HB3.out.size))
  have H4 := Lib.hid ((hb4.block _ (lt_of_block H3.out)).trans H3.out)
  have HR4 := Lib.hid (HR3.out.below hb4)
  clear hb4
  go_wp2_with (first | (refine wpList_load_wanted (by rfl) 23 _ rfl g rfl 23 (cellsOf z).toArray (0, 0) _ H4.out Tryd.underlying23 rfl SZ.out ?_) | fail)
  refine (HNO.out _ a c HR4.out (HK.out.below HB4.out)).mono ?_
  rintro e w5 ⟨rfl, hb5⟩
  have HB5 := Lib.hid (HB4.out.trans (hb5.mono HB4.out.size))
  clear hb5
  go_wp2_with fail
  go_ret
  exact ⟨rfl, HB5.out⟩
end Go.Proofs.YtjmdkgjfcfnbiaaDoor
