/- The statement's own example (law 8). -/
import Derived.Test.YtodbhopeknlgiaaGreatDoorTxSign1
namespace Go.Proofs.YtodbhopeknlgiaaGreatDoor
open Go.RowKit

theorem oneTx_is (a : Option Addr) (c : Nat) : (oneTx a c none 0 0 []).cells.toArray = #[.slice a 1 c, .slice none 0 0, .int .i64 0, .int .i64 0, .int .i64 0, .int .i64 0, .int .u8 0, .int .u8 0, .int .u8 0, .int .u8 0, .int .u8 0, .int .u8 0, .int .u8 0, .int .u8 0, .int .u8 0, .int .u8 0, .int .u8 0, .int .u8 0, .int .u8 0, .int .u8 0, .int .u8 0, .int .u8 0, .int .u8 0, .int .u8 0, .int .u8 0, .int .u8 0, .int .u8 0, .int .u8 0, .int .u8 0, .int .u8 0, .int .u8 0, .int .u8 0, .int .u8 0, .int .u8 0, .int .u8 0, .int .u8 0, .int .u8 0, .int .u8 0, .slice none 0 0, .slice none 0 0] := rfl
/-- Two transactions that may be, of the same bytes, say the same. -/
theorem txB_inj {x t : PTx} (hx : Lens x) (ht : Lens t) (h1 : txOk x = true) (h2 : txOk t = true) (h : txB x = txB t) : x.strip = t.strip := by
  have e1 := txR_put hx h1
  have e2 := txR_put ht h2
  rw [h, e2] at e1
  exact (Prod.mk.inj e1).1.symm
theorem frontB_strip (sh : Bool) (x : PTx) : frontB sh x.strip = frontB sh x := by
  show numB ((x.ins.map PIn.strip).length : Nat) ++ (insB sh (x.ins.map PIn.strip) ++ (numB ((x.outs.map POut.strip).length : Nat) ++ (outsB (x.outs.map POut.strip) ++ opB x.op.strip))) = _
  rw [insB_strip, outsB_strip, List.length_map, List.length_map]
  rfl
theorem txSum_front {x t : PTx} (h : frontB false x = frontB false t) : txSum x = txSum t := by unfold txSum; rw [h]
theorem txSum_alike {x t : PTx} (h : x.strip = t.strip) : txSum x = txSum t := txSum_front (by rw [← frontB_strip false x, ← frontB_strip false t, h])
/-- What the example's transaction is. -/
theorem one_facts {w : World} {y : PTx} {S : List UInt8} (hy : TxIn w y) (hs : y.strip = (oneTx none 0 none 0 0 [⟨5, S⟩]).strip) : txOk y = true ∧ y.signs = [⟨5, S⟩] ∧ y.sn = 1 ∧ (txB y).length ≤ 1000000 ∧ FrontFew false y ∧ txSum y = txSum (oneTx none 0 none 0 0 []) := by
  have hk : txOk y = true := by
    rw [← txOk_strip hy.lens, hs]
    rfl
  have h1 : y.signs = [⟨5, S⟩] := congrArg PTx.signs hs
  have h2 : y.sn = 1 := by
    have h9 := hy.signs.1
    rw [h1] at h9
    exact h9.symm
  have hf := frontOk true hy hk
  refine ⟨hk, h1, h2, ?_, frontOk false hy hk, ?_⟩
  · have h3 := hf.len
    have h4 := signsB_size (xs := y.signs) (fun z hz => (show SignIn z from hy.signs.2.2.2.2.1 z hz).sum)
    have h5 := numB_le (y.signs.length : Nat)
    have h6 : y.signs.length = 1 := by rw [h1]; rfl
    unfold txB
    rw [h6] at h4
    simp only [List.length_append]
    omega
  · exact txSum_front (by rw [← frontB_strip false y, hs]; rfl)
set_option linter.unusedSimpArgs false in
set_option maxRecDepth 100000 in
set_option maxHeartbeats 12800000 in
theorem awake8_any {w : World} (hk : KsAt w) : Calls Tryz.prog 6 #[] w fun e w' => e = .returned (.bool true) ∧ Below w.heap.size w w' := by
  obtain ⟨S, hS, hSl⟩ : ∃ S, txSum (oneTx none 0 none 0 0 []) = S ∧ S.length = 32 := ⟨_, rfl, txSum_len _⟩
  have HK := Lib.hid hk
  have HSG := Lib.hid (fun (W : World) (p q cq : Nat) (fr : Nat × Nat) (h1 : W.heap[p]? = some (.cells noIn.cells.toArray 58 fr)) (h2 : KsAt W) (h3 : Numbers W (some ⟨q, 0, none⟩) 1 cq [5]) => signed_one (S := S) (z := 5) (by rw [← hS]; exact txSum_front rfl) h1 h2 h3 (by constructor <;> decide))
  have HS := Lib.hid hS
  have HSL := Lib.hid hSl
  clear hS hSl hk
  go_enter Tryz.func6, Tryz.ntmps6
  go_wp2_with fail
  rw [← noIn_is, ← oneTx_is]
  have b1 : Below w.heap.size w ((w.alloc (.cells noIn.cells.toArray 58)).alloc (.cells #[.int .i64 5] 3)) := ((Below.refl _ _).alloc (Nat.le_refl _) _).alloc (by simp) _
  have hp : ((w.alloc (.cells noIn.cells.toArray 58)).alloc (.cells #[.int .i64 5] 3)).heap[w.heap.size]? = some (.cells noIn.cells.toArray 58 (0, 0)) := by rw [heap_alloc_old _ _ (by simp), heap_alloc_new]
  have hq : Numbers ((w.alloc (.cells noIn.cells.toArray 58)).alloc (.cells #[.int .i64 5] 3)) (some ⟨w.heap.size + 1, 0, none⟩) 1 1 [5] := numbers_one (heap_alloc_at _ _ _ (by simp)) (by constructor <;> decide)
  refine (HSG.out _ _ _ _ _ hp (HK.out.below b1) hq).mono ?_
  rintro e w2 ⟨y, rfl, hy, hys, hb2⟩
  have HB2 := Lib.hid (b1.trans (hb2.mono b1.size))
  obtain ⟨k1, k2, k3, k4, k5, k6⟩ := one_facts hy hys
  have HY := Lib.hid hy
  have K1 := Lib.hid k1
  have K2 := Lib.hid k2
  have K4 := Lib.hid k4
  have K6 := Lib.hid (k6.trans HS.out)
  have AY := Lib.hid (tx_sizeA hy.op.root)
  have SY := Lib.hid (tx_size hy.op.root)
  have ZY : Hid (noTx.cells.toArray.size = y.cells.toArray.size) := Lib.hid (by rw [List.size_toArray, List.size_toArray, PTx.len hy.op.root]; rfl)
  clear b1 hp hq hb2 hy hys k1 k2 k3 k4 k5 k6 HSG HS
  go_upto_region 2 with (first | (refine wpList_store_row rfl 31 _ _ rfl w2.heap.size y.cells.toArray rfl rfl 31 noTx.cells.toArray (heap_alloc_new _ _) AY.out ZY.out (all_oneCell_toArray y.one) ?_) | fail)
  rw [← noTx_is, layT_is]
  have h5 := layT_heap 31 noTx.cells w2 y.cells
  have b5 := layT_self 31 noTx.cells w2 y.cells
  revert h5 b5
  generalize layT 31 noTx.cells w2 y.cells = w3
  obtain ⟨g1, hg5⟩ : ∃ g5, g5 = w2.heap.size := ⟨_, rfl⟩
  rw [← hg5]
  intro h5 b5
  rw [hg5] at b5
  have H5 := Lib.hid h5
  have HB3 := Lib.hid (HB2.out.trans (b5.mono HB2.out.size))
  have H3 := Lib.hid (HY.out.below b5)
  have hlt1 : g1 < w3.heap.size := lt_of_block h5
  have HBY := Lib.hid (txBytes_any H3.out)
  rw [show packE y = 0 by unfold packE; rw [if_pos K1.out], show packB y = txB y by unfold packB; rw [if_pos K1.out]] at HBY
  have HG1 := Lib.hid h5
  clear h5 b5 hg5 HB2 HY H5
  try simp only [Act.put]
  go_wp2_with (first | (refine wpList_load_row rfl 31 _ rfl g1 rfl 31 y.cells.toArray (0, 0) _ HG1.out Tryz.underlying31 rfl AY.out ?_) | fail)
  refine HBY.out.mono ?_
  rintro e w4 ⟨ab, nb, cb, rfl, hrb, hb4⟩
  have HB4 := Lib.hid (HB3.out.trans (hb4.mono HB3.out.size))
  have HG14 := Lib.hid ((hb4.block g1 hlt1).trans HG1.out)
  have H4 := Lib.hid (H3.out.below hb4)
  have hlt4 : g1 < w4.heap.size := Nat.lt_of_lt_of_le hlt1 hb4.size
  have HRD := Lib.hid (txRead_any hrb (by rw [← hrb.1]; exact K4.out))
  clear hrb hb4 HBY HG1 H3 HB3 hlt1
  go_wp2_with fail
  refine HRD.out.mono ?_
  rintro e w5 ⟨x, E, rfl, hx, hb5, hE0, hE1⟩
  obtain rfl : E = 0 := Classical.byContradiction fun h => (hE1 h).2 y H4.out.lens K1.out rfl
  obtain ⟨hxk, hxb⟩ := hE0 rfl
  have hst := txB_inj hx.lens H4.out.lens hxk K1.out hxb
  have hxs : x.signs = [⟨5, S⟩] := (congrArg PTx.signs hst).trans K2.out
  have hxn : x.sn = 1 := by
    have h9 := hx.signs.1
    rw [hxs] at h9
    exact h9.symm
  have HXS : Hid (txSum x = S) := Lib.hid ((txSum_alike hst).trans K6.out)
  have HXF := Lib.hid (frontOk false hx hxk)
  have HXSG := Lib.hid hxs
  have HXN := Lib.hid hxn
  have HSMT : Hid ((txOk x && (txOk y && decide (txB x = txB y))) = true) := Lib.hid (by rw [hxk, K1.out, hxb]; simp)
  have HB5 := Lib.hid (HB4.out.trans (hb5.mono HB4.out.size))
  have HG15 := Lib.hid ((hb5.block g1 hlt4).trans HG14.out)
  have H5y := Lib.hid (H4.out.below hb5)
  have H5x := Lib.hid hx
  have hlt5 : g1 < w5.heap.size := Nat.lt_of_lt_of_le hlt4 hb5.size
  have AX := Lib.hid (tx_sizeA hx.op.root)
  have SX := Lib.hid (tx_size hx.op.root)
  have ZX : Hid (noTx.cells.toArray.size = x.cells.toArray.size) := Lib.hid (by rw [List.size_toArray, List.size_toArray, PTx.len hx.op.root]; rfl)
  clear hx hb5 hE0 hE1 hxk hxb hst hxs hxn HRD HG14 H4 hlt4 HB4
  go_upto_region 4 with (first | (refine wpList_store_row rfl 31 _ _ rfl w5.heap.size x.cells.toArray rfl rfl 31 noTx.cells.toArray (heap_alloc_new _ _) AX.out ZX.out (all_oneCell_toArray x.one) ?_) | fail)
  rw [← noTx_is, layT_is]
  have h5 := layT_heap 31 noTx.cells w5 x.cells
  have b5 := layT_self 31 noTx.cells w5 x.cells
  revert h5 b5
  generalize layT 31 noTx.cells w5 x.cells = w6
  obtain ⟨g4, hg5⟩ : ∃ g5, g5 = w5.heap.size := ⟨_, rfl⟩
  rw [← hg5]
  intro h5 b5
  rw [hg5] at b5
  have H5 := Lib.hid h5
  have HB6 := Lib.hid (HB5.out.trans (b5.mono HB5.out.size))
  have HX6 := Lib.hid (H5x.out.below b5)
  have HY6 := Lib.hid (H5y.out.below b5)
  have HGX : Hid (∀ W : World, Below w6.heap.size w6 W → W.rangeAt g4 0 x.cells) := Lib.hid (fun W hW => range_of ((hW.block g4 (lt_of_block h5)).trans h5))
  have hltg : g1 < w6.heap.size := Nat.lt_of_lt_of_le hlt5 b5.size
  have hg16 := (b5.block g1 hlt5).trans HG15.out
  have HGY : Hid (∀ W : World, Below w6.heap.size w6 W → W.rangeAt g1 0 y.cells) := Lib.hid (fun W hW => range_of ((hW.block g1 hltg).trans hg16))
  have HRN := Lib.hid (fun (W : World) => txRight_any (noTx_in W))
  rw [show txOk noTx = false by rfl] at HRN
  have HSM := Lib.hid (fun (W : World) (hW : Below w6.heap.size w6 W) => txSame_any (HX6.out.below hW) (HY6.out.below hW))
  rw [HSMT.out] at HSM
  have HKY : Hid (∀ W : World, Below w6.heap.size w6 W → Calls Tryz.prog 21 #[.agg x.cells.toArray] W fun e w' => ∃ (a : Option Addr) (c b o : Nat), e = .returned (.slice a 1 c) ∧ a = some ⟨b, o, none⟩ ∧ w'.cell? ⟨b, o, none⟩ = some (.int .i64 5) ∧ Below W.heap.size W w') := Lib.hid (fun W hW => (txKeys_any (HX6.out.below hW) ((HK.out.below HB6.out).below hW) HXF.out (by rw [HXN.out]; omega)).mono fun (e : Ending) w' ⟨a, n, c, h1, h2, h3⟩ => by
    rw [HXS.out, HXSG.out] at h2
    have hn : n = 1 := by
      have h9 := h2.1
      simp [keysBy] at h9
      exact h9.symm
    subst hn
    obtain ⟨b, o, ha, _, hc⟩ := h2.2.2.2.2.2 (by omega)
    have h9 : w'.cell? ⟨b, o, none⟩ = some (.int .i64 5) := by
      have h8 := hc 0 (by omega)
      rw [Nat.add_zero] at h8
      rw [h8]
      simp [keysBy]
    exact ⟨a, c, b, o, h1, ha, h9, h3⟩)
  clear h5 b5 hg5 hg16 hltg hlt5 HB5 HG15 H5x H5y HX6 HY6 HXS HXF HXSG HXN HSMT K1 K2 K4 K6 AX AY ZX ZY H5
  try simp only [Act.put]
  go_wp2_with fail
  rw [← noTx_is]
  refine (HRN.out _).mono ?_
  rintro e w7 ⟨rfl, hb7⟩
  have HB7 := Lib.hid hb7
  have RX7 := Lib.hid (HGX.out _ hb7)
  have RY7 := Lib.hid (HGY.out _ hb7)
  clear hb7 HRN
  go_wp2_with (first | (refine wpList_mid_wanted (by rfl) 31 _ rfl g4 0 rfl x.cells _ RX7.out Tryz.underlying31 rfl SX.out ?_) | (refine wpList_mid_wanted (by rfl) 31 _ rfl g1 0 rfl y.cells _ RY7.out Tryz.underlying31 rfl SY.out ?_) | fail)
  refine (HSM.out _ HB7.out).mono ?_
  rintro e w8 ⟨rfl, hb8⟩
  have HB8 := Lib.hid (HB7.out.trans (hb8.mono HB7.out.size))
  have RX8 := Lib.hid (HGX.out _ HB8.out)
  clear hb8 HSM RX7 RY7 HGY
  go_wp2_with (first | (refine wpList_mid_wanted (by rfl) 31 _ rfl g4 0 rfl x.cells _ RX8.out Tryz.underlying31 rfl SX.out ?_) | fail)
  refine (HKY.out _ HB8.out).mono ?_
  rintro e w9 ⟨a9, c9, b9, o9, rfl, rfl, _, hb9⟩
  have HB9 := Lib.hid (HB8.out.trans (hb9.mono HB8.out.size))
  have RX9 := Lib.hid (HGX.out _ HB9.out)
  clear hb9 RX8
  go_wp2_with (first | (refine wpList_mid_wanted (by rfl) 31 _ rfl g4 0 rfl x.cells _ RX9.out Tryz.underlying31 rfl SX.out ?_) | fail)
  refine (HKY.out _ HB9.out).mono ?_
  rintro e wa ⟨aa, ca, ba, oa, rfl, rfl, hca, hba⟩
  have HBA := Lib.hid (HB9.out.trans (hba.mono HB9.out.size))
  clear hba RX9 HKY
  go_wp2_with fail
  go_ret
  exact ⟨rfl, HB6.out.trans (HBA.out.mono HB6.out.size)⟩
end Go.Proofs.YtodbhopeknlgiaaGreatDoor
