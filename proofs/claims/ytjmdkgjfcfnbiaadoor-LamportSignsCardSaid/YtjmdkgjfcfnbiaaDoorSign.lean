/- What Sign comes to: the signature. -/
import Derived.Test.YtjmdkgjfcfnbiaaDoorUnder
import Derived.Test.YtjmdkgjfcfnbiaaDoorSecret
import Derived.Test.YtjmdkgjfcfnbiaaDoorShown
import Derived.Test.YtjmdkgjfcfnbiaaDoorBits
namespace Go.Proofs.YtjmdkgjfcfnbiaaDoor
open Go.RowKit

/-- What Sign tells: a row that reads as the signature. -/
def Signed (w : World) (sig : List UInt8) (e : Ending) (w' : World) : Prop :=
  ∃ (a : Option Addr) (c : Nat), e = .returned (.slice a 4096 c) ∧ Row w' a 4096 c sig ∧ Below w.heap.size w w'
set_option linter.unusedSimpArgs false in
set_option maxRecDepth 100000 in
set_option maxHeartbeats 3200000 in
theorem sign_any {w : World} {s : List UInt8} {a : Option Addr} {n c : Nat} {l : List UInt8} (hs : s.length = 32) (h : Row w a n c l) (hn : n ≤ 1000000) (hk : KsAt w) :
    Calls Tryd.prog 11 #[.agg (cellsOf s).toArray, .slice a n c] w fun e w' => Signed w (sigOf s l) e w' := by
  obtain ⟨i0, hi, hz0, hz1, hz2⟩ := info_parts Tryd.bytes3
  have HI := Lib.hid hi
  obtain ⟨d, hd, hdl, hdig⟩ : ∃ d, digestOf l = d ∧ d.length = 32 ∧ ∀ W : World, Row W a n c l → KsAt W → Calls Tryd.prog 15 #[.slice a n c] W fun e w' => e = .returned (.agg (cellsOf d).toArray) ∧ Below W.heap.size W w' :=
    ⟨_, rfl, digestOf_len l, fun W hr hW => digest_any hr hn hW⟩
  have hstep : ∀ j : Nat, j < 64 → ∃ (b b' : Nat) (x y z : List UInt8), (1 : Int) - (b : Int) = (b' : Int) ∧ x.length = 32 ∧ y.length = 32 ∧ z.length = 32 ∧ signTo s l (j + 1) = (signTo s l j ++ x) ++ z ∧
      (∀ W : World, Calls Tryd.prog 23 #[.agg (cellsOf d).toArray, .int .i64 (j : Int)] W fun e w' => e = .returned (.int .i64 (b : Int)) ∧ Below W.heap.size W w') ∧
      (∀ W : World, KsAt W → Calls Tryd.prog 17 #[.agg (cellsOf s).toArray, .int .i64 (j : Int), .int .i64 (b : Int)] W fun e w' => e = .returned (.agg (cellsOf x).toArray) ∧ Below W.heap.size W w') ∧
      (∀ W : World, KsAt W → Calls Tryd.prog 17 #[.agg (cellsOf s).toArray, .int .i64 (j : Int), .int .i64 (b' : Int)] W fun e w' => e = .returned (.agg (cellsOf y).toArray) ∧ Below W.heap.size W w') ∧
      (∀ W : World, KsAt W → Calls Tryd.prog 18 #[.agg (cellsOf y).toArray] W fun e w' => e = .returned (.agg (cellsOf z).toArray) ∧ Below W.heap.size W w') := fun j hj => by
    have hb := bitAt_lt d j
    have hsucc := signTo_succ s l j
    rw [hd] at hsucc
    exact ⟨bitAt d j, 1 - bitAt d j, secretOf s j (bitAt d j), secretOf s j (1 - bitAt d j), shownOf (secretOf s j (1 - bitAt d j)), by omega, secretOf_len _ _ _, secretOf_len _ _ _, shownOf_len _, hsucc,
      fun W => bitOf_any j hj hdl, fun W hW => secret_at j _ hb hs hW, fun W hW => secret_at j _ (by omega) hs hW, fun W hW => shown_any (secretOf_len _ _ _) hW⟩
  have hall : signTo s l 64 = sigOf s l := rfl
  rw [← hall]
  have SZ := Lib.hid (size_of hs)
  have SZD := Lib.hid (size_of hdl)
  have HZD := Lib.hid (zero_of hdl)
  have HK := Lib.hid hk
  have HR := Lib.hid h
  have HST := Lib.hid hstep
  have HDG := Lib.hid hdig
  clear hi hs hk h hn hstep hd hdl hdig hall
  go_enter Tryd.func11, Tryd.ntmps11
  go_upto_region 1 with (fail)
  have b1 : Below w.heap.size w (w.alloc (.cells (cellsOf s).toArray 23)) := (Below.refl _ _).alloc (Nat.le_refl _) _
  have h1 : (w.alloc (.cells (cellsOf s).toArray 23)).heap[w.heap.size]? = some (.cells (cellsOf s).toArray 23 (0, 0)) := heap_alloc_new _ _
  revert b1 h1
  generalize (w.alloc (.cells (cellsOf s).toArray 23)) = w1
  obtain ⟨g, hg⟩ : ∃ g, g = w.heap.size := ⟨_, rfl⟩
  rw [← hg]
  intro b1 h1
  rw [hg] at b1
  have HB1 := Lib.hid b1
  have H1 := Lib.hid h1
  clear b1 h1 hg
  go_wp2_with fail
  refine (HDG.out _ (HR.out.below HB1.out) (HK.out.below HB1.out)).mono ?_
  rintro e w2 ⟨rfl, hb2⟩
  have HB2 := Lib.hid (HB1.out.trans (hb2.mono HB1.out.size))
  have H2 := Lib.hid ((hb2.block _ (lt_of_block H1.out)).trans H1.out)
  clear hb2
  go_upto_region 2 with (refine wpList_store_row rfl 23 _ _ rfl w2.heap.size (cellsOf d).toArray rfl rfl 23 (cellsOf zero32).toArray (heap_alloc_new _ _) SZD.out HZD.out (all_oneCell_toArray (cellsOf_one d)) ?_)
  rw [← zero32_is, laySum_is]
  have h3 := laySum_heap w2 d
  have b3 := laySum_below d HB2.out
  have h4 := ((laySum_self w2 d).block _ (lt_of_block H2.out)).trans H2.out
  revert h3 b3 h4
  generalize laySum w2 d = w3
  generalize w2.heap.size = q
  intro h3 b3 h4
  have HB3 := Lib.hid b3
  have H3 := Lib.hid h3
  have H4 := Lib.hid h4
  have HKW := Lib.hid (HK.out.below b3)
  clear h3 b3 h4
  try simp only [Act.put]
  go_upto_region 3 with (at_make; refine wpList_make_own _ rfl _ _ 24 rfl w3.heap.size 5 i0 _ 1 Tryd.underlying24 HI.out hz0 hz1 _ _ _ 4096 rfl rfl rfl (by rw [hz2]; omega) (by unfold maxLen; omega) (Nat.le_refl _) ?_; intro w4 hown hgrow)
  have HU := Lib.hid (Under.begun hown hgrow)
  clear hown hgrow
  go_wp2_with fail
  go_loopw [6, 14] (fun u i wr => ∃ j : Nat, j ≤ 64 ∧ i = .int .i64 j ∧ Under w3 u (signTo s l j) wr) (fun _ i _ => 64 - (intOf i).toNat)
  case atStart => exact ⟨0, Nat.zero_le _, rfl, HU.out⟩
  case round =>
    obtain ⟨j, hj, rfl, hat⟩ := hrel
    by_cases hj64 : j < 64
    · have f1 : (j : Int) < 64 := by omega
      obtain ⟨b, b', x, y, z, eb, hxl, hyl, hzl, hnext, hbit, hsec, hoth, hsh⟩ := HST.out j hj64
      obtain ⟨L, hL⟩ : ∃ L, L = signTo s l j := ⟨_, rfl⟩
      have hlen : L.length = j * 64 := by rw [hL]; exact signTo_len s l j
      rw [← hL] at hat hnext
      obtain ⟨F, hF⟩ : ∃ F, F = L.length := ⟨_, rfl⟩
      have hF4 : F ≤ 4096 := by omega
      obtain ⟨a', c', rfl⟩ := hat.shape hF.symm
      have SZX := Lib.hid (size_of hxl)
      have HZX := Lib.hid (zero_of hxl)
      have SZZ := Lib.hid (size_of hzl)
      have HZZ := Lib.hid (zero_of hzl)
      have HXL := Lib.hid hxl
      have HZL := Lib.hid hzl
      have HN := Lib.hid hnext
      have HBIT := Lib.hid hbit
      have HSEC := Lib.hid hsec
      have HOTH := Lib.hid hoth
      have HSH := Lib.hid hsh
      have HLF := Lib.hid hF.symm
      have HAT := Lib.hid hat
      have HD1 := Lib.hid ((hat.below.block _ (lt_of_block H3.out)).trans H3.out)
      clear hxl hyl hzl hnext hbit hsec hoth hsh hL hlen hF hat HU
      go_wp2_with (refine wpList_load_row rfl 23 _ rfl q rfl 23 (cellsOf d).toArray (0, 0) _ HD1.out Tryd.underlying23 rfl SZD.out ?_)
      refine (HBIT.out _).mono ?_
      rintro e w5 ⟨rfl, hb5⟩
      have HA5 := Lib.hid (HAT.out.more hb5)
      have HG5 := Lib.hid ((HA5.out.below.block _ (lt_of_block H4.out)).trans H4.out)
      clear hb5
      go_wp2_with (refine wpList_load_row rfl 23 _ rfl g rfl 23 (cellsOf s).toArray (0, 0) _ HG5.out Tryd.underlying23 rfl SZ.out ?_)
      refine (HSEC.out _ (HKW.out.below HA5.out.below)).mono ?_
      rintro e w6 ⟨rfl, hb6⟩
      have HA6 := Lib.hid (HA5.out.more hb6)
      clear hb6
      go_upto_region 8 with (refine wpList_store_row rfl 23 _ _ rfl w6.heap.size (cellsOf x).toArray rfl rfl 23 (cellsOf zero32).toArray (heap_alloc_new _ _) SZX.out HZX.out (all_oneCell_toArray (cellsOf_one x)) ?_)
      rw [← zero32_is, laySum_is]
      have ha7 := HA6.out.more (laySum_self w6 x)
      have hr7 := laySum_row w6 HXL.out
      revert ha7 hr7
      generalize laySum w6 x = w7
      generalize w6.heap.size = q7
      intro ha7 hr7
      have HA7 := Lib.hid ha7
      have HR7 := Lib.hid hr7
      have HG7 := Lib.hid ((ha7.below.block _ (lt_of_block H4.out)).trans H4.out)
      clear ha7 hr7
      try simp only [Act.put]
      go_wp2_with (refine wpList_load_row rfl 23 _ rfl g rfl 23 (cellsOf s).toArray (0, 0) _ HG7.out Tryd.underlying23 rfl SZ.out ?_)
      refine (HOTH.out _ (HKW.out.below HA7.out.below)).mono ?_
      rintro e w8 ⟨rfl, hb8⟩
      have HA8 := Lib.hid (HA7.out.more hb8)
      have HR8 := Lib.hid (HR7.out.below hb8)
      clear hb8
      go_wp2_with fail
      refine (HSH.out _ (HKW.out.below HA8.out.below)).mono ?_
      rintro e w9 ⟨rfl, hb9⟩
      have HA9 := Lib.hid (HA8.out.more hb9)
      have HR9 := Lib.hid (HR8.out.below hb9)
      clear hb9
      go_upto_region 9 with (refine wpList_store_row rfl 23 _ _ rfl w9.heap.size (cellsOf z).toArray rfl rfl 23 (cellsOf zero32).toArray (heap_alloc_new _ _) SZZ.out HZZ.out (all_oneCell_toArray (cellsOf_one z)) ?_)
      rw [← zero32_is, laySum_is]
      have ha10 := HA9.out.more (laySum_self w9 z)
      have hx10 := HR9.out.below (laySum_self w9 z)
      have hz10 := laySum_row w9 HZL.out
      have hne10 := HA9.out.old
      revert ha10 hx10 hz10 hne10
      generalize laySum w9 z = w10
      generalize w9.heap.size = q10
      intro ha10 hx10 hz10 hne10
      have HNE10 := Lib.hid hne10
      clear hne10
      have HA10 := Lib.hid ha10
      have HX10 := Lib.hid hx10
      have HZ10 := Lib.hid hz10
      clear ha10 hx10 hz10
      try simp only [Act.put]
      go_upto_region 10 with (at_builtin; refine wpList_append_row _ rfl _ _ 24 rfl w3.heap.size i0 Tryd.underlying24 HI.out hz0 hz1 hz2 (.slice a' F c') L F HLF.out rfl HA10.out.own _ 32 32 x rfl HX10.out (by omega) HA10.out.below.size ?_; intro a11 c11 w11 ho11 hg11)
      have HA11 := Lib.hid (HA10.out.grown ho11 hg11)
      have HZ11 := Lib.hid (HZ10.out.grown hg11 HNE10.out)
      have HLF11 : Hid ((L ++ x).length = F + 32) := Lib.hid (by rw [List.length_append, HLF.out, HXL.out])
      clear ho11 hg11
      go_wp2_with (at_builtin; refine wpList_append_row _ rfl _ _ 24 rfl w3.heap.size i0 Tryd.underlying24 HI.out hz0 hz1 hz2 (.slice a11 (F + 32) c11) (L ++ x) (F + 32) HLF11.out rfl HA11.out.own _ 32 32 z rfl HZ11.out (by omega) HA11.out.below.size ?_; intro a12 c12 w12 ho12 hg12; have HA12 := Lib.hid (HA11.out.grown ho12 hg12); clear ho12 hg12)
      go_roundw
      case rel => exact ⟨j + 1, by omega, by go_num, by rw [HN.out]; exact HA12.out⟩
      case measure => simp [intOf]; omega
    · have f1 : ¬ ((j : Int) < 64) := by omega
      have hj' : j = 64 := by omega
      rw [hj'] at hat
      obtain ⟨a', c', rfl⟩ := hat.shape (signTo_len s l 64)
      have HF := Lib.hid hat
      clear hat hj' HU
      go_wp2_with fail
      go_ret
      exact ⟨a', c', rfl, HF.out.row, HB3.out.trans (HF.out.below.mono HB3.out.size)⟩
end Go.Proofs.YtjmdkgjfcfnbiaaDoor
