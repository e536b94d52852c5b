/- TxReads, walked. -/
import Derived.Test.YtodbhopeknlgiaaGreatDoorAwake8
import Derived.Test.YtodbhopeknlgiaaGreatDoorLaw8Small
import Derived.Test.YtodbhopeknlgiaaGreatDoorLaw8Right
import Derived.Test.YtodbhopeknlgiaaGreatDoorMemory
namespace Go.Proofs.YtodbhopeknlgiaaGreatDoor
open Go.RowKit

set_option linter.unusedSimpArgs false in
set_option maxRecDepth 100000 in
set_option maxHeartbeats 12800000 in
theorem txReads_walk {w : World} {a : Option Addr} {n c : Nat} {b : List UInt8} {x : PTx} (h : Row w a n c b) (hx : TxIn w x) (hk : KsAt w) :
    Calls Tryz.prog 4 #[.slice a n c, .agg x.cells.toArray] w fun e w' => e = .returned (.bool true) ∧ Below w.heap.size w w' := by
  have hn63 : (n : Int) ≤ 9223372036854775807 := by have h1 := h.2.1; have h2 := h.2.2.1; unfold maxLen at h2; omega
  have b1 : Below w.heap.size w (w.alloc (.cells x.cells.toArray 31)) := (Below.refl _ _).alloc (Nat.le_refl _) _
  have h1 := heap_alloc_new w (.cells x.cells.toArray 31)
  have SX := Lib.hid (tx_size hx.op.root)
  have AX := Lib.hid (tx_sizeA hx.op.root)
  have H := Lib.hid h
  have HX := Lib.hid hx
  have HAW := Lib.hid (fun (W : World) (hW : Below w.heap.size w W) => awake8_any (hk.below hW))
  clear h hx hk
  go_enter Tryz.func4, Tryz.ntmps4
  go_upto_region 1 with (fail)
  revert b1 h1
  generalize (w.alloc (.cells x.cells.toArray 31)) = w1
  obtain ⟨g, hg⟩ : ∃ g, g = w.heap.size := ⟨_, rfl⟩
  rw [← hg]
  intro b1 h1
  rw [hg] at b1
  have HB1 := Lib.hid b1
  have HG := Lib.hid h1
  have hlt := lt_of_block h1
  have HX1 := Lib.hid (HX.out.below b1)
  have H1 := Lib.hid (H.out.below b1)
  have RX := Lib.hid (range_of h1)
  clear b1 h1 hg HX H
  by_cases h3 : n ≤ 3000
  rotate_left
  · have f1 : 3000 < (n : Int) := by omega
    go_wp2_with (first | (go_at_call 6; (with_reducible refine (HAW.out _ HB1.out).mono ?_); rintro e wz ⟨rfl, hbz⟩; have HBZ := Lib.hid hbz; clear hbz) | fail)
    go_ret
    exact ⟨rfl, HB1.out.trans (HBZ.out.mono HB1.out.size)⟩
  have f1 : ¬ 3000 < (n : Int) := by omega
  have HSM := Lib.hid (small8_law HX1.out)
  by_cases hs : smallT x = true
  rotate_left
  · rw [if_neg hs] at HSM
    clear hs
    go_wp2_with (first | (refine wpList_mid_wanted (by rfl) 31 _ rfl g 0 rfl x.cells _ RX.out Tryz.underlying31 rfl SX.out ?_) | fail)
    refine HSM.out.mono ?_
    rintro e w2 ⟨rfl, hb2⟩
    have HB2 := Lib.hid (HB1.out.trans (hb2.mono HB1.out.size))
    clear hb2 HSM
    go_wp2_with (first | (go_at_call 6; (with_reducible refine (HAW.out _ HB2.out).mono ?_); rintro e wz ⟨rfl, hbz⟩; have HBZ := Lib.hid hbz; clear hbz) | fail)
    go_ret
    exact ⟨rfl, HB2.out.trans (HBZ.out.mono HB2.out.size)⟩
  rw [if_pos hs] at HSM
  clear hs
  go_wp2_with (first | (refine wpList_mid_wanted (by rfl) 31 _ rfl g 0 rfl x.cells _ RX.out Tryz.underlying31 rfl SX.out ?_) | fail)
  refine HSM.out.mono ?_
  rintro e w2 ⟨rfl, hb2⟩
  have HB2 := Lib.hid (HB1.out.trans (hb2.mono HB1.out.size))
  have H2 := Lib.hid (H1.out.below hb2)
  have HX2 := Lib.hid (HX1.out.below hb2)
  have HG2 := Lib.hid ((hb2.block g hlt).trans HG.out)
  have hlt2 : g < w2.heap.size := Nat.lt_of_lt_of_le hlt hb2.size
  have HRD := Lib.hid (txRead_any H2.out (by omega))
  clear hb2 HSM H1 HX1 HG RX hlt HB1
  go_wp2_with fail
  refine HRD.out.mono ?_
  rintro e w3 ⟨y, E, rfl, hy, hb3, hE0, hE1⟩
  have HB3 := Lib.hid (HB2.out.trans (hb3.mono HB2.out.size))
  have H3 := Lib.hid (H2.out.below hb3)
  have HX3 := Lib.hid (HX2.out.below hb3)
  have HY3 := Lib.hid hy
  have HG3 := Lib.hid ((hb3.block g hlt2).trans HG2.out)
  have hlt3 : g < w3.heap.size := Nat.lt_of_lt_of_le hlt2 hb3.size
  have HE0 := Lib.hid hE0
  have HE1 := Lib.hid hE1
  have SY := Lib.hid (tx_size hy.op.root)
  have AY := Lib.hid (tx_sizeA hy.op.root)
  have ZY : Hid (noTx.cells.toArray.size = y.cells.toArray.size) := Lib.hid (by rw [List.size_toArray, List.size_toArray, PTx.len hy.op.root]; rfl)
  clear hb3 hy hE0 hE1 HRD H2 HX2 HG2 hlt2 HB2
  go_upto_region 4 with (first | (refine wpList_store_row rfl 31 _ _ rfl w3.heap.size y.cells.toArray rfl rfl 31 noTx.cells.toArray (heap_alloc_new _ _) AY.out ZY.out (all_oneCell_toArray y.one) ?_) | fail)
  rw [← noTx_is, layT_is]
  have h5 := layT_heap 31 noTx.cells w3 y.cells
  have b5 := layT_self 31 noTx.cells w3 y.cells
  revert h5 b5
  generalize layT 31 noTx.cells w3 y.cells = w4
  obtain ⟨g5, hg5⟩ : ∃ g5, g5 = w3.heap.size := ⟨_, rfl⟩
  rw [← hg5]
  intro h5 b5
  rw [hg5] at b5
  have H5 := Lib.hid h5
  have HB4 := Lib.hid (HB3.out.trans (b5.mono HB3.out.size))
  have H4 := Lib.hid (H3.out.below b5)
  have HX4 := Lib.hid (HX3.out.below b5)
  have HY4 := Lib.hid (HY3.out.below b5)
  have HGY := Lib.hid h5
  have HGX := Lib.hid ((b5.block g hlt3).trans HG3.out)
  have hltx : g < w4.heap.size := Nat.lt_of_lt_of_le hlt3 b5.size
  have hlty : g5 < w4.heap.size := lt_of_block h5
  have HBX := Lib.hid (txBytes_any HX4.out)
  clear h5 b5 hg5 HB3 H3 HX3 HY3 HG3 hlt3 ZY H5
  try simp only [Act.put]
  go_wp2_with (first | (refine wpList_load_row rfl 31 _ rfl g rfl 31 x.cells.toArray (0, 0) _ HGX.out Tryz.underlying31 rfl AX.out ?_) | fail)
  refine HBX.out.mono ?_
  rintro e w5 ⟨ao, no, co, rfl, hro, hb5⟩
  have HB5 := Lib.hid (HB4.out.trans (hb5.mono HB4.out.size))
  have H5 := Lib.hid (H4.out.below hb5)
  have HX5 := Lib.hid (HX4.out.below hb5)
  have HY5 := Lib.hid (HY4.out.below hb5)
  have HGX5 := Lib.hid ((hb5.block g hltx).trans HGX.out)
  have HGY5 := Lib.hid ((hb5.block g5 hlty).trans HGY.out)
  have hltx5 : g < w5.heap.size := Nat.lt_of_lt_of_le hltx hb5.size
  have hlty5 : g5 < w5.heap.size := Nat.lt_of_lt_of_le hlty hb5.size
  have HRO := Lib.hid hro
  clear hro hb5 HBX H4 HX4 HY4 HGX HGY hltx hlty HB4
  by_cases hE : E = 0
  rotate_left
  · have fE : (E != 0) = true := by simpa using hE
    obtain ⟨hyn, hbad⟩ := HE1.out hE
    subst hyn
    have q0 : w5.cell? ⟨g5, 0, none⟩ = some (.slice none 0 0) := range_of HGY5.out 0 _ rfl
    have q1 : w5.cell? ⟨g5, 1, none⟩ = some (.slice none 0 0) := range_of HGY5.out 1 _ rfl
    have q39 : w5.cell? ⟨g5, 39, none⟩ = some (.slice none 0 0) := range_of HGY5.out 39 _ rfl
    have q38 : w5.cell? ⟨g5, 38, none⟩ = some (.slice none 0 0) := range_of HGY5.out 38 _ rfl
    obtain ⟨so, hso⟩ : ∃ s : ByteArray, s = ⟨(packB x).toArray⟩ := ⟨_, rfl⟩
    obtain ⟨sb, hsb⟩ : ∃ s : ByteArray, s = ⟨b.toArray⟩ := ⟨_, rfl⟩
    have v1 := conv_row HRO.out
    have v2 := conv_row H5.out
    rw [← hso] at v1
    rw [← hsb] at v2
    by_cases hpb : packB x = b
    · have hsame : so = sb := by rw [hso, hsb, hpb]
      have hok : txOk x = false := by
        cases hk : txOk x with
        | false => rfl
        | true =>
          exfalso
          refine hbad x HX5.out.lens hk ?_
          unfold packB at hpb
          rw [if_pos hk] at hpb
          exact hpb
      have HRT := Lib.hid (right_law HX5.out)
      rw [hok] at HRT
      rw [hsame] at v1
      have RX := Lib.hid (range_of HGX5.out)
      clear hsame hok hso hsb hpb hbad hE HE0 HE1
      go_wp2_with (first | (refine wpList_mid_wanted (by rfl) 31 _ rfl g 0 rfl x.cells _ RX.out Tryz.underlying31 rfl SX.out ?_) | fail)
      refine HRT.out.mono ?_
      rintro e w6 ⟨rfl, hb6⟩
      have HB6 := Lib.hid (HB5.out.trans (hb6.mono HB5.out.size))
      clear hb6 HRT q0 q1 q38 q39 v1 v2
      go_wp2_with (first | (go_at_call 6; (with_reducible refine (HAW.out _ HB6.out).mono ?_); rintro e wz ⟨rfl, hbz⟩; have HBZ := Lib.hid hbz; clear hbz) | fail)
      go_ret
      exact ⟨rfl, HB6.out.trans (HBZ.out.mono HB6.out.size)⟩
    · have hne2 : ¬ so.toList = sb.toList := by
        rw [hso, hsb, ByteArray.toList_eq, ByteArray.toList_eq]
        exact hpb
      clear hso hsb hpb hbad hE HE0 HE1
      go_wp2_with (first | (go_at_call 6; (with_reducible refine (HAW.out _ HB5.out).mono ?_); rintro e wz ⟨rfl, hbz⟩; have HBZ := Lib.hid hbz; clear hbz) | fail)
      go_ret
      exact ⟨rfl, HB5.out.trans (HBZ.out.mono HB5.out.size)⟩
  · subst hE
    obtain ⟨hyk, hyb⟩ := HE0.out rfl
    have HBY := Lib.hid (txBytes_any HY5.out)
    rw [show packE y = 0 by unfold packE; rw [if_pos hyk], show packB y = b by unfold packB; rw [if_pos hyk]; exact hyb] at HBY
    have HRT := Lib.hid (fun (W : World) (hW : Below w5.heap.size w5 W) => right_law (HY5.out.below hW))
    rw [hyk] at HRT
    clear hyk hyb HE0 HE1
    go_wp2_with (first | (refine wpList_load_row rfl 31 _ rfl g5 rfl 31 y.cells.toArray (0, 0) _ HGY5.out Tryz.underlying31 rfl AY.out ?_) | fail)
    refine HBY.out.mono ?_
    rintro e w6 ⟨ay, ny, cy, rfl, hry, hb6⟩
    have HB6 := Lib.hid (HB5.out.trans (hb6.mono HB5.out.size))
    have HB56 := Lib.hid hb6
    have HGY6 := Lib.hid ((hb6.block g5 hlty5).trans HGY5.out)
    have HRY := Lib.hid hry
    have H6 := Lib.hid (H5.out.below hb6)
    clear hry hb6 HBY
    go_wp2_with (first | (refine wpList_load_row rfl 31 _ rfl g5 rfl 31 y.cells.toArray (0, 0) _ HGY6.out Tryz.underlying31 rfl AY.out ?_) | fail)
    refine (HRT.out _ HB56.out).mono ?_
    rintro e w7 ⟨rfl, hb7⟩
    have HB7 := Lib.hid (HB6.out.trans (hb7.mono HB6.out.size))
    obtain ⟨sb, hsb⟩ : ∃ s : ByteArray, s = ⟨b.toArray⟩ := ⟨_, rfl⟩
    have v1 := conv_row (HRY.out.below hb7)
    have v2 := conv_row (H6.out.below hb7)
    rw [← hsb] at v1 v2
    clear hb7 hsb HRT
    go_wp2_with (first | (go_at_call 6; (with_reducible refine (HAW.out _ HB7.out).mono ?_); rintro e wz ⟨rfl, hbz⟩; have HBZ := Lib.hid hbz; clear hbz) | fail)
    go_ret
    exact ⟨rfl, HB7.out.trans (HBZ.out.mono HB7.out.size)⟩
end Go.Proofs.YtodbhopeknlgiaaGreatDoor
