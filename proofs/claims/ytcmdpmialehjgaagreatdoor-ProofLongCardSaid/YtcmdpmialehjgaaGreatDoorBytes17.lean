/- ProofBytes, walked over the contracts of what it calls. -/
import Derived.Test.YtcmdpmialehjgaaGreatDoorPrfRead
import Derived.Test.YtcmdpmialehjgaaGreatDoorPrfPut
import Derived.Test.YtcmdpmialehjgaaGreatDoorEqRec
import Derived.Test.YtcmdpmialehjgaaGreatDoorMemory
import Derived.Test.YtcmdpmialehjgaaGreatDoorWanted
import Derived.Deep.CutRange
namespace Go.Proofs.YtcmdpmialehjgaaGreatDoor
open Go.RowKit

/-- What Get tells. -/
def PrfOut (w0 : World) (b : List UInt8) (e : Ending) (w' : World) : Prop := ∃ sa sn sc ba bn bc, e = .returned (.tuple #[.agg (prfX b sa sn sc ba bn bc).cells.toArray, .int .i64 (prfE b)]) ∧ PrfIn w' (prfX b sa sn sc ba bn bc) ∧ Below w0.heap.size w0 w'
theorem putE_small {x : PPrf} {w : World} (h : PrfIn w x) (h1 : x.sn ≤ 300) (h2 : x.bn ≤ 300) : putE x = if recOk x.r = true then 0 else 1 := by
  unfold putE
  have h9 := prfB_len h.r h.commit
  have h8 := h.sig.1
  have h7 := h.blob.1
  rw [decide_eq_true (show x.sn ≤ 65536 by omega), decide_eq_true (show x.bn ≤ 65536 by omega), if_pos (show (prfB x).length ≤ 65536 by omega)]
  cases recOk x.r <;> rfl
theorem putE_read {b : List UInt8} {w : World} {sa : Option Addr} {sn sc : Nat} {ba : Option Addr} {bn bc : Nat} (h : prfE b = 0) (hi : PrfIn w (prfX b sa sn sc ba bn bc)) : putE (prfX b sa sn sc ba bn bc) = 0 := by
  have h1 := prf_again (sa := sa) (sn := sn) (sc := sc) (ba := ba) (bn := bn) (bc := bc) h
  have h2 := hi.sig.1
  have h3 := hi.blob.1
  have h4 := prf_lens b
  have h5 := (prfE_parts h).1
  have e1 : recOk (prfX b sa sn sc ba bn bc).r = true := by rw [prfX_ok h]; exact readX_ok _
  have e2 : (prfX b sa sn sc ba bn bc).sn ≤ 65536 := by rw [← h2, prfX_ok h]; exact h4.2.1
  have e3 : (prfX b sa sn sc ba bn bc).bn ≤ 65536 := by rw [← h3, prfX_ok h]; exact h4.2.2.1
  unfold putE
  rw [e1, decide_eq_true e2, decide_eq_true e3, h1, if_pos h5]
  rfl
set_option linter.unusedSimpArgs false in
set_option maxRecDepth 100000 in
set_option maxHeartbeats 25600000 in
theorem bytes17_walk {w : World} {p : PPrf} {ab : Option Addr} {nb cb : Nat} {l : List UInt8} (hp : PrfIn w p) (hl : Row w ab nb cb l)
    (haw : ∀ W : World, Below w.heap.size w W → Calls Tryz.prog 6 #[] W fun e w' => e = .returned (.bool true) ∧ Below W.heap.size W w')
    (hput : ∀ (W : World) (x : PPrf), PrfIn W x → Calls Tryz.prog 7 #[.agg x.cells.toArray] W (PutOut W x))
    (hget : ∀ (W : World) (a : Option Addr) (n c : Nat) (b : List UInt8), Row W a n c b → n ≤ 1000000 → Calls Tryz.prog 13 #[.slice a n c] W (PrfOut W b)) :
    Calls Tryz.prog 3 #[.agg p.cells.toArray, .slice ab nb cb] w fun e w' => e = .returned (.bool true) ∧ Below w.heap.size w w' := by
  have HX0 := Lib.hid hp
  have HLL0 := Lib.hid hl
  have HAW := Lib.hid haw
  skip
  have HPUT := Lib.hid hput
  have HPUT2 := Lib.hid hput
  have HGET := Lib.hid hget
  have n63 : (p.sn : Int) ≤ 9223372036854775807 := by have h1 := hp.sig.2.1; have h2 := hp.sig.2.2.1; unfold maxLen at h2; omega
  have b63 : (p.bn : Int) ≤ 9223372036854775807 := by have h1 := hp.blob.2.1; have h2 := hp.blob.2.2.1; unfold maxLen at h2; omega
  have l63 : (nb : Int) ≤ 9223372036854775807 := by have h1 := hl.2.1; have h2 := hl.2.2.1; unfold maxLen at h2; omega
  have HRI := Lib.hid hp.r
  have HCL := Lib.hid hp.commit
  have SZP := Lib.hid (prf_sizeA hp)
  have SZRC := Lib.hid (rec_size hp.r)
  have SXC := Lib.hid (sumLen17 hp.commit)
  have SZN : Hid ((Tryz.prog.info? 25).map (·.size) = some noRec.cells.length) := Lib.hid (rec_size noRec_in)
  clear hp hl haw hput hget
  go_enter Tryz.func3, Tryz.ntmps3
  go_upto_region 1 with (fail)
  have b1 : Below w.heap.size w (w.alloc (.cells p.cells.toArray 28)) := (Below.refl _ _).alloc (Nat.le_refl _) _
  have h1 := heap_alloc_new w (.cells p.cells.toArray 28)
  revert b1 h1
  generalize (w.alloc (.cells p.cells.toArray 28)) = w1
  obtain ⟨g, hg⟩ : ∃ g, g = w.heap.size := ⟨_, rfl⟩
  rw [← hg]
  intro b1 h1
  rw [hg] at b1
  have HB1 := Lib.hid b1
  have HG1 := Lib.hid h1
  have HGW : Hid (w.heap.size ≤ g) := Lib.hid (by omega)
  have HX1 := Lib.hid (HX0.out.below b1)
  have HL1 := Lib.hid (HLL0.out.below b1)
  have k1 : w1.cell? ⟨g, 67, none⟩ = some (.slice p.sa p.sn p.sc) := prf_sig HRI.out (range_of h1)
  have k2 : w1.cell? ⟨g, 68, none⟩ = some (.slice p.ba p.bn p.bc) := prf_blob HRI.out (range_of h1)
  clear b1 h1 hg
  by_cases e1 : 300 < (p.sn : Int)
  · go_wp2_with (first | (go_at_call 6; (with_reducible refine (HAW.out _ HB1.out).mono ?_); rintro e wz ⟨rfl, hb⟩; have HBZ := Lib.hid (bthen HB1.out hb); clear hb) | fail)
    go_ret
    exact ⟨rfl, HBZ.out⟩
  by_cases e2 : 300 < (p.bn : Int)
  · go_wp2_with (first | (go_at_call 6; (with_reducible refine (HAW.out _ HB1.out).mono ?_); rintro e wz ⟨rfl, hb⟩; have HBZ := Lib.hid (bthen HB1.out hb); clear hb) | fail)
    go_ret
    exact ⟨rfl, HBZ.out⟩
  by_cases e3 : 600 < (nb : Int)
  · go_wp2_with (first | (go_at_call 6; (with_reducible refine (HAW.out _ HB1.out).mono ?_); rintro e wz ⟨rfl, hb⟩; have HBZ := Lib.hid (bthen HB1.out hb); clear hb) | fail)
    go_ret
    exact ⟨rfl, HBZ.out⟩
  have hsn : p.sn ≤ 100000 := by omega
  have hbn : p.bn ≤ 100000 := by omega
  have HNB : Hid (nb ≤ 1000000) := Lib.hid (by omega)
  obtain ⟨V, hV⟩ : ∃ V, recOk p.r = V := ⟨_, rfl⟩
  have hPE := putE_small HX0.out (by omega) (by omega)
  rw [hV] at hPE
  obtain ⟨PB, hPB⟩ : ∃ b, prfB p = b := ⟨_, rfl⟩
  have hpl := prfB_len HRI.out HCL.out
  have hsl := HX0.out.sig.1
  have hbl := HX0.out.blob.1
  have hPBl : PB.length ≤ 1000 := by rw [← hPB]; omega
  have HRT : Hid (∀ W : World, Calls Tryz.prog 8 #[.agg p.r.cells.toArray] W fun e w' => e = .returned (.bool V) ∧ Below W.heap.size W w') := Lib.hid fun W => by rw [← hV]; exact recright_any W p.r
  have HGQ : Hid (∀ W : World, Row W ab nb cb l → Calls Tryz.prog 13 #[.slice ab nb cb] W (PrfOut W l)) := Lib.hid fun W hr => HGET.out W _ _ _ _ hr HNB.out
  obtain ⟨TT, hTT⟩ : ∃ TT, textB p.r = TT := ⟨_, rfl⟩
  have htl := textB_len HRI.out
  have TE := Lib.hid hTT
  have HTT : Hid (TT.length ≤ 91) := Lib.hid (by rw [← hTT]; exact htl)
  have HPP : Hid (∀ W : World, PrfIn W p → Calls Tryz.prog 7 #[.agg p.cells.toArray] W fun e w' => ∃ (a : Option Addr) (n c : Nat), e = .returned (.tuple #[.slice a n c, .int .i64 (if V = true then 0 else 1)]) ∧ Row w' a n c (if V = true then PB else []) ∧ Below W.heap.size W w') := Lib.hid fun W h => by
    refine (HPUT.out W p h).mono fun e w' h9 => ?_
    unfold PutOut at h9
    rw [hPE, hPB] at h9
    cases V
    · exact h9
    · exact h9
  have HBK : Hid (V = true → prfE PB = 0 ∧ ∀ sa sn sc ba bn bc, prfX PB sa sn sc ba bn bc = ⟨p.r, sa, sn, sc, p.sig, ba, bn, bc, p.blob, p.commit⟩) := Lib.hid fun h => by
    obtain ⟨q0, q1, q2, q3, q4⟩ := prf_back HRI.out HCL.out (by rw [hV]; exact h) (by omega) (by omega) (by rw [hPB]; omega)
    rw [hPB] at q0 q1 q2 q3 q4
    exact ⟨q0, fun sa sn sc ba bn bc => by rw [prfX_ok q0, q1, q2, q3, q4]⟩
  have HPBE := Lib.hid hPB
  have HPBL : Hid (PB.length ≤ 1000000) := Lib.hid (by omega)
  have HSL := Lib.hid hsl
  have HBL := Lib.hid hbl
  obtain ⟨sp, hsp⟩ : ∃ s : ByteArray, (⟨PB.toArray⟩ : ByteArray) = s := ⟨_, rfl⟩
  have HSP := Lib.hid hsp
  obtain ⟨sl, hsl2⟩ : ∃ s : ByteArray, (⟨l.toArray⟩ : ByteArray) = s := ⟨_, rfl⟩
  have HSLB := Lib.hid hsl2
  obtain ⟨sg, hsg⟩ : ∃ s : ByteArray, (⟨p.sig.toArray⟩ : ByteArray) = s := ⟨_, rfl⟩
  have HSG := Lib.hid hsg
  obtain ⟨sb, hsb⟩ : ∃ s : ByteArray, (⟨p.blob.toArray⟩ : ByteArray) = s := ⟨_, rfl⟩
  have HSB := Lib.hid hsb
  clear hV hPE hPB hpl hsl hbl hPBl hTT htl hsp hsl2 hsg hsb HPUT
  cases V
  · have HPQ : Hid (∀ W : World, PrfIn W p → Calls Tryz.prog 7 #[.agg p.cells.toArray] W fun e w' => ∃ (a : Option Addr) (n c : Nat), e = .returned (.tuple #[.slice a n c, .int .i64 1]) ∧ Row w' a n c [] ∧ Below W.heap.size W w') := Lib.hid fun W h => (HPP.out W h).mono fun e w' ⟨a, n, c, h1, h2, h3⟩ => ⟨a, n, c, by simpa using h1, by simpa using h2, h3⟩
    clear HPP HBK
    go_upto_region 4 with (first | (first | (refine wpList_load_row rfl 28 _ rfl g rfl 28 p.cells.toArray (0, 0) _ HG2.out Tryz.underlying28 rfl SZP.out ?_) | (refine wpList_load_row rfl 28 _ rfl g rfl 28 p.cells.toArray (0, 0) _ HG1.out Tryz.underlying28 rfl SZP.out ?_)) | (go_at_call 7; (with_reducible refine (HPQ.out _ HX1.out).mono ?_); rintro e w2 ⟨a2, n2, c2, rfl, hr2, hb⟩; have HB2 := Lib.hid (bthen HB1.out hb); have HG2 := Lib.hid (keep hb HG1.out); have HX2 := Lib.hid (HX1.out.below hb); have HL2 := Lib.hid (HL1.out.below hb); have HR2 := Lib.hid hr2; have RP2 := Lib.hid (prf_rec (range_of HG2.out)); clear hr2 hb) | fail)
    obtain rfl : n2 = 0 := by have h9 := HR2.out.1; simpa using h9.symm
    go_upto_region 12 with (first | (refine wpList_load_mid rfl 25 _ rfl g 0 rfl p.r.cells _ RP2.out Tryz.underlying25 rfl SZRC.out ?_) | (go_at_call 8; (with_reducible refine (HRT.out _).mono ?_); rintro e w3 ⟨rfl, hb⟩; have HB3 := Lib.hid (bthen HB2.out hb); have HG3 := Lib.hid (keep hb HG2.out); have HX3 := Lib.hid (HX2.out.below hb); have HL3 := Lib.hid (HL2.out.below hb); have HR3 := Lib.hid (HR2.out.below hb); clear hb) | fail)
    go_upto_region 13 with (first | (go_at_call 13; (with_reducible refine (HGQ.out _ HL3.out).mono ?_); rintro e wa ⟨sa3, sn3, sc3, ba3, bn3, bc3, rfl, hj, hb⟩; have HBA := Lib.hid (bthen HB3.out hb); have HLA := Lib.hid (HL3.out.below hb); obtain ⟨Y, hY⟩ : ∃ Y, prfX l sa3 sn3 sc3 ba3 bn3 bc3 = Y := ⟨_, rfl⟩; obtain ⟨F, hF⟩ : ∃ F, prfE l = F := ⟨_, rfl⟩; rw [hY] at hj ⊢; rw [hF]; have HJA := Lib.hid hj; have HYE := Lib.hid hY; have HFE := Lib.hid hF; have YL := Lib.hid (PPrf.len hj.r hj.commit); clear hj hb hY hF) | (refine wpList_var rfl rfl 28 rfl _ _ rfl noPrf.cells.toArray Tryz.infoPrf rfl Y.cells (fun _ => rfl) (fun _ => rfl) YL.out (PPrf.one _) ?_; intro q wb hq hh hb; go_frame; have HBB := Lib.hid (bthen HBA.out hb); have HLB := Lib.hid (HLA.out.below hb); have HJB := Lib.hid (HJA.out.below hb); have HQB := Lib.hid hh; clear hq hh hb) | fail)
    by_cases h0 : F = 0
    · have hPE2 : putE Y = 0 := by rw [← HYE.out]; exact putE_read (by rw [HFE.out]; exact h0) (by rw [HYE.out]; exact HJB.out)
      have hYB : prfB Y = l := by rw [← HYE.out]; exact prf_again (by rw [HFE.out]; exact h0)
      have HPY : Hid (∀ W : World, PrfIn W Y → Calls Tryz.prog 7 #[.agg Y.cells.toArray] W fun e w' => ∃ (a : Option Addr) (n c : Nat), e = .returned (.tuple #[.slice a n c, .int .i64 0]) ∧ Row w' a n c l ∧ Below W.heap.size W w') := Lib.hid fun W h => by
        refine (HPUT2.out W Y h).mono fun e w' h9 => ?_
        unfold PutOut at h9
        rw [hPE2, if_pos rfl, hYB] at h9
        exact h9
      have SZY := Lib.hid (prf_sizeA HJB.out)
      clear hPE2 hYB HYE HFE HPUT2
      subst h0
      have hb : ((0 : Int) != 0) = false := by decide
      have v1 := conv_row HLB.out
      rw [HSLB.out] at v1
      go_upto_region 16 with (first | (refine wpList_load_row rfl 28 _ rfl q rfl 28 Y.cells.toArray (0, 0) _ HQB.out Tryz.underlying28 rfl SZY.out ?_) | (go_at_call 7; (with_reducible refine (HPY.out _ HJB.out).mono ?_); rintro e wc ⟨a9, n9, c9, rfl, hr9, hb9⟩; have HBC := Lib.hid (bthen HBB.out hb9); have HLC := Lib.hid (HLB.out.below hb9); have HR9 := Lib.hid hr9; clear hr9 hb9) | fail)
      clear v1
      have v2 := conv_row HLC.out
      have v3 := conv_row HR9.out
      rw [HSLB.out] at v2 v3
      go_wp2_with (first | (go_at_call 6; (with_reducible refine (HAW.out _ HBC.out).mono ?_); rintro e wz ⟨rfl, hb⟩; have HBZ := Lib.hid (bthen HBC.out hb); clear hb) | fail)
      go_ret
      exact ⟨rfl, HBZ.out⟩
    · have hb : (F != 0) = true := by simpa using h0
      have hYn : Y = noPrf := by rw [← HYE.out]; exact prfX_no (by rw [HFE.out]; exact h0)
      subst hYn
      clear HYE HFE HPUT2
      have qz := fun W : World => run_eqRecs noRec noRec noRec_in noRec_in W
      rw [recEq_same] at qz
      have RN := Lib.hid (prf_rec (x := noPrf) (range_of HQB.out))
      have k3 : wb.cell? ⟨q, 67, none⟩ = some (.slice none 0 0) := prf_sig (x := noPrf) noRec_in (range_of HQB.out)
      have k4 : wb.cell? ⟨q, 68, none⟩ = some (.slice none 0 0) := prf_blob (x := noPrf) noRec_in (range_of HQB.out)
      go_wp2_with (first | (refine wpList_load_mid rfl 25 _ rfl q 0 rfl noRec.cells _ RN.out Tryz.underlying25 rfl SZN.out ?_) | (refine wpList_build10 rfl rfl (vs := []) (by rfl) build_rec0 ?_) | (go_at_call 6; (with_reducible refine (HAW.out _ HBB.out).mono ?_); rintro e wz ⟨rfl, hb⟩; have HBZ := Lib.hid (bthen HBB.out hb); clear hb) | fail)
      go_ret
      exact ⟨rfl, HBZ.out⟩
  · obtain ⟨hE1, hX1⟩ := HBK.out rfl
    have HPQ : Hid (∀ W : World, PrfIn W p → Calls Tryz.prog 7 #[.agg p.cells.toArray] W fun e w' => ∃ (a : Option Addr) (n c : Nat), e = .returned (.tuple #[.slice a n c, .int .i64 0]) ∧ Row w' a n c PB ∧ Below W.heap.size W w') := Lib.hid fun W h => (HPP.out W h).mono fun e w' ⟨a, n, c, h1, h2, h3⟩ => ⟨a, n, c, by simpa using h1, by simpa using h2, h3⟩
    clear HPP
    go_upto_region 8 with (first | (first | (refine wpList_load_row rfl 28 _ rfl g rfl 28 p.cells.toArray (0, 0) _ HG2.out Tryz.underlying28 rfl SZP.out ?_) | (refine wpList_load_row rfl 28 _ rfl g rfl 28 p.cells.toArray (0, 0) _ HG1.out Tryz.underlying28 rfl SZP.out ?_)) | (go_at_call 7; (with_reducible refine (HPQ.out _ HX1.out).mono ?_); rintro e w2 ⟨a2, n2, c2, rfl, hr2, hb⟩; have HB2 := Lib.hid (bthen HB1.out hb); have HG2 := Lib.hid (keep hb HG1.out); have HX2 := Lib.hid (HX1.out.below hb); have HL2 := Lib.hid (HL1.out.below hb); have HR2 := Lib.hid hr2; have RP2 := Lib.hid (prf_rec (range_of HG2.out)); clear hr2 hb) | (refine wpList_load_mid rfl 25 _ rfl g 0 rfl p.r.cells _ RP2.out Tryz.underlying25 rfl SZRC.out ?_) | (go_at_call 8; (with_reducible refine (HRT.out _).mono ?_); rintro e w3 ⟨rfl, hb⟩; have HB3 := Lib.hid (bthen HB2.out hb); have HG3 := Lib.hid (keep hb HG2.out); have HX3 := Lib.hid (HX2.out.below hb); have HL3 := Lib.hid (HL2.out.below hb); have HR3 := Lib.hid (HR2.out.below hb); clear hb) | fail)
    have b2 : Below w3.heap.size w3 (w3.alloc (.cells #[.pointer none, .int .i64 0] 36)) := (Below.refl _ _).alloc (Nat.le_refl _) _
    have h2 := heap_alloc_new w3 (.cells #[.pointer none, .int .i64 0] 36)
    revert b2 h2
    generalize (w3.alloc (.cells #[.pointer none, .int .i64 0] 36)) = w4
    obtain ⟨pb, hpb⟩ : ∃ pb, pb = w3.heap.size := ⟨_, rfl⟩
    rw [← hpb]
    intro b2 h2
    rw [hpb] at b2
    have HB4 := Lib.hid (bthen HB3.out b2)
    have HG := Lib.hid (keep b2 HG3.out)
    have HGL := Lib.hid (lt_of_block HG.out)
    have HGN : Hid (g ≠ pb) := Lib.hid (by have := lt_of_block HG3.out; omega)
    have HPG : Hid (w.heap.size ≤ pb) := Lib.hid (by have := HB3.out.size; omega)
    have HSN : Hid (0 < p.sn → ∀ y, p.sa = some y → y.block ≠ pb) := Lib.hid fun h0 y e => by
      have h9 := row_under17 HX0.out.sig h0 y e
      have h8 := HPG.out
      omega
    have HBN : Hid (0 < p.bn → ∀ y, p.ba = some y → y.block ≠ pb) := Lib.hid fun h0 y e => by
      have h9 := row_under17 HX0.out.blob h0 y e
      have h8 := HPG.out
      omega
    have HLN : Hid (0 < nb → ∀ y, ab = some y → y.block ≠ pb) := Lib.hid fun h0 y e => by
      have h9 := row_under17 HLL0.out h0 y e
      have h8 := HPG.out
      omega
    have HON : Hid (0 < n2 → ∀ y, a2 = some y → y.block ≠ pb) := Lib.hid fun h0 y e => by
      have h9 := row_under17 HR3.out h0 y e
      omega
    have HQS := Lib.hid (HX3.out.sig.below b2)
    have HQB := Lib.hid (HX3.out.blob.below b2)
    have HL4 := Lib.hid (HL3.out.below b2)
    have HR4 := Lib.hid (HR3.out.below b2)
    have HPB : Hid (w4.drew.heap[pb]? = some (.cells #[.pointer none, .int .i64 0] 36 (0, 0))) := Lib.hid h2
    clear b2 h2 hpb k1 k2 e1 e2 e3 HB1 HG1 HX1 HL1 HB2 HG2 HX2 HL2 HR2 RP2 HB3 HG3 HX3 HL3 HR3 HX0 HLL0 HRT HPQ
    refine wp_region_held_drew (S := fun w' => But (w4).heap.size pb w4 w') (by kernel_rfl) (by have h9 := But.refl (w4).heap.size pb w4; exact ⟨h9.os, h9.tape, h9.output, h9.size, h9.block⟩) (fun hHeld => ?_)
    refine tkP 0 rfl rfl ?_
    refine tkA 1 rfl rfl (yieldsIf_load_mid (by rfl) _ _ rfl g 0 rfl p.r.cells _ (fun w0 hSw => prf_rec (range_of (But.heap hSw HG.out HGL.out HGN.out))) Tryz.underlying25 rfl SZRC.out) ?_
    refine tkP 4 rfl rfl ?_
    refine tkA 5 rfl rfl (yields_cell (by rfl) rfl rfl (b := g) (o := 67) (fun w0 hSw => prf_sig HRI.out (range_of (But.heap hSw HG.out HGL.out HGN.out))) Tryz.isAgg26) ?_
    refine tkP 7 rfl rfl ?_
    refine tkA 8 rfl rfl (yields_cell (by rfl) rfl rfl (b := g) (o := 68) (fun w0 hSw => prf_blob HRI.out (range_of (But.heap hSw HG.out HGL.out HGN.out))) Tryz.isAgg26) ?_
    refine tkP 10 rfl rfl ?_
    refine tkA 11 rfl rfl (yieldsIf_load_mid (by rfl) _ _ rfl g 69 rfl (cellsOf p.commit) _ (fun w0 hSw => prf_commit HRI.out (range_of (But.heap hSw HG.out HGL.out HGN.out))) Tryz.underlying23 rfl SXC.out) ?_
    refine tkR 2 rfl (fun K hK => ?_)
    go_simp
    go_wp2_with ((go_at_call 10; (with_reducible refine (text_any HRI.out).mono ?_); rintro e v1 ⟨a1, n1, c1, rfl, hr1, _, hb1⟩; have HR1 := Lib.hid hr1; have HV1 := Lib.hid hb1; clear hr1 hb1))
    have HPv1 : Hid (PenAt v1 v1.heap.size pb []) := Lib.hid (.inl ⟨keep HV1.out HPB.out, rfl⟩)
    have HQS1 := Lib.hid ((HQS.out.below (below_drew (Below.refl _ _))).below HV1.out)
    have HQB1 := Lib.hid ((HQB.out.below (below_drew (Below.refl _ _))).below HV1.out)
    have HZ1 : Hid ((w4).heap.size ≤ v1.heap.size) := Lib.hid HV1.out.size
    rw [TE.out] at HR1
    have HN1 : Hid (n1 ≤ 1000000) := Lib.hid (by have h9 := HR1.out.1; have h8 := HTT.out; omega)
    refine hK.out _ _ (by (try dsimp only); exact But.trans hHeld (But.of HV1.out)) (fun hHeld => ?_)
    clear hK K
    refine tkR 3 rfl (fun K hK => ?_)
    go_simp
    go_wp2_with ((go_at_call 9; (with_reducible refine (ptext_at _ HR1.out HPv1.out (Nat.le_refl _) (row_under17 HR1.out) HN1.out (Nat.zero_le _)).mono ?_); rintro e v2 ⟨rfl, hp, hb⟩; have HPv2 := Lib.hid hp; have HVv2 := Lib.hid hb; clear hp hb))
    have HQS2 := Lib.hid (HQS1.out.but HVv2.out (fun h0 b off e => HSN.out h0 _ e))
    have HZ2 : Hid (v1.heap.size ≤ v2.heap.size) := Lib.hid HVv2.out.size
    refine hK.out _ _ (by (try dsimp only); exact But.trans hHeld (But.mono HVv2.out HZ1.out)) (fun hHeld => ?_)
    clear hK K
    refine tkR 6 rfl (fun K hK => ?_)
    go_simp
    go_wp2_with ((go_at_call 9; (with_reducible refine (ptext_at _ HQS2.out HPv2.out HZ2.out (row_under17 HQS1.out) (by omega) (by have h9 := (numB_len ((TT.length : Nat) : Int)).2; have h8 := (numB_len ((p.sig.length : Nat) : Int)).2; have h7 := (numB_len ((p.blob.length : Nat) : Int)).2; have h6 := HTT.out; have h5 := HSL.out; have h4 := HBL.out; have h3 := HCL.out; simp only [List.length_append, List.length_nil]; omega)).mono ?_); rintro e v3 ⟨rfl, hp, hb⟩; have HPv3 := Lib.hid hp; have HVv3 := Lib.hid hb; clear hp hb))
    have HVB := Lib.hid (HVv2.out.trans HVv3.out)
    have HQB3 := Lib.hid (HQB1.out.but HVB.out (fun h0 b off e => HBN.out h0 _ e))
    have HZ3 : Hid (v1.heap.size ≤ v3.heap.size) := Lib.hid HVB.out.size
    refine hK.out _ _ (by (try dsimp only); exact But.trans hHeld (But.mono HVv3.out HZ1.out)) (fun hHeld => ?_)
    clear hK K
    refine tkR 9 rfl (fun K hK => ?_)
    go_simp
    go_wp2_with ((go_at_call 9; (with_reducible refine (ptext_at _ HQB3.out HPv3.out HZ3.out (row_under17 HQB1.out) (by omega) (by have h9 := (numB_len ((TT.length : Nat) : Int)).2; have h8 := (numB_len ((p.sig.length : Nat) : Int)).2; have h7 := (numB_len ((p.blob.length : Nat) : Int)).2; have h6 := HTT.out; have h5 := HSL.out; have h4 := HBL.out; have h3 := HCL.out; simp only [List.length_append, List.length_nil]; omega)).mono ?_); rintro e v4 ⟨rfl, hp, hb⟩; have HPv4 := Lib.hid hp; have HVv4 := Lib.hid hb; clear hp hb))
    have HZ4 : Hid (v1.heap.size ≤ v4.heap.size) := Lib.hid (Nat.le_trans HZ3.out HVv4.out.size)
    refine hK.out _ _ (by (try dsimp only); exact But.trans hHeld (But.mono HVv4.out HZ1.out)) (fun hHeld => ?_)
    clear hK K
    refine tkR 12 rfl (fun K hK => ?_)
    go_simp
    go_wp2_with ((go_at_call 11; (with_reducible refine (psum_at _ HCL.out HPv4.out HZ4.out (by have h9 := (numB_len ((TT.length : Nat) : Int)).2; have h8 := (numB_len ((p.sig.length : Nat) : Int)).2; have h7 := (numB_len ((p.blob.length : Nat) : Int)).2; have h6 := HTT.out; have h5 := HSL.out; have h4 := HBL.out; have h3 := HCL.out; simp only [List.length_append, List.length_nil]; omega)).mono ?_); rintro e v5 ⟨rfl, hp, hb⟩; have HPv5 := Lib.hid hp; have HVv5 := Lib.hid hb; clear hp hb))
    have HZ5 : Hid (v1.heap.size ≤ v5.heap.size) := Lib.hid (Nat.le_trans HZ4.out HVv5.out.size)
    refine hK.out _ _ (by (try dsimp only); exact But.trans hHeld (But.mono HVv5.out HZ1.out)) (fun hHeld => ?_)
    clear hK K
    refine tkR 13 rfl (fun K hK => ?_)
    go_simp
    go_wp2_with ((go_at_call 12; (with_reducible refine (bytes_any HPv5.out (by have h9 := (numB_len ((TT.length : Nat) : Int)).2; have h8 := (numB_len ((p.sig.length : Nat) : Int)).2; have h7 := (numB_len ((p.blob.length : Nat) : Int)).2; have h6 := HTT.out; have h5 := HSL.out; have h4 := HBL.out; have h3 := HCL.out; simp only [List.length_append, List.length_nil]; omega)).mono ?_); rintro e v6 ⟨a6, n6, c6, rfl, hr6, hf6, hb6⟩; have HR6 := Lib.hid hr6; have HF6 := Lib.hid hf6; have HV6 := Lib.hid hb6; clear hr6 hf6 hb6))
    rw [← prfB_pen TE.out] at HR6
    refine hK.out _ _ (by (try dsimp only); exact But.trans hHeld (But.of (HV6.out.mono (Nat.le_trans HZ1.out HZ5.out)))) (fun hHeld => ?_)
    clear hK K
    refine tkP 14 rfl rfl ?_
    refine wpAnyH_done (by kernel_rfl) ?_ _
    have HB5 : Hid (Below w.heap.size w v6) := Lib.hid (HB4.out.trans (But.below (But.mono hHeld HB4.out.size) HPG.out))
    have HG5 := Lib.hid (But.heap hHeld HG.out HGL.out HGN.out)
    have HL5 := Lib.hid (HL4.out.but hHeld (fun h0 b off e => HLN.out h0 _ e))
    have HR5 := Lib.hid (HR4.out.but hHeld (fun h0 b off e => HON.out h0 _ e))
    have HX5 : Hid (PrfIn v6 p) := Lib.hid ⟨HRI.out, HQS.out.but hHeld (fun h0 b off e => HSN.out h0 _ e), HQB.out.but hHeld (fun h0 b off e => HBN.out h0 _ e), HCL.out⟩
    have HW5 : Hid (Row v6 a6 n6 c6 PB) := Lib.hid (by rw [← HPBE.out]; exact HR6.out)
    clear hHeld HR6 HF6 HB4 HG HGL HGN HPG HSN HBN HLN HON HQS HQB HL4 HR4 HPB HR1 HV1 HPv1 HQS1 HQB1 HN1 HPv2 HVv2 HQS2 HZ2 HPv3 HVv3 HVB HQB3 HZ3 HPv4 HVv4 HZ4 HPv5 HVv5 HV6
    have HGP : Hid (∀ W : World, Row W a2 n2 c2 PB → Calls Tryz.prog 13 #[.slice a2 n2 c2] W (PrfOut W PB)) := Lib.hid fun W hr => HGET.out W _ _ _ _ hr (by have h9 := hr.1; have h8 := HPBL.out; omega)
    go_upto_region 10 with (first | (go_at_call 13; (with_reducible refine (HGP.out _ HR5.out).mono ?_); rintro e w6 ⟨sa2, sn2, sc2, ba2, bn2, bc2, rfl, hj, hb⟩; have HB6 := Lib.hid (bthen HB5.out hb); have HG6 := Lib.hid (keep hb HG5.out); have HX6 := Lib.hid (HX5.out.below hb); have HL6 := Lib.hid (HL5.out.below hb); have HR6 := Lib.hid (HR5.out.below hb); have HW6 := Lib.hid (HW5.out.below hb); rw [hE1, hX1 sa2 sn2 sc2 ba2 bn2 bc2]; rw [hX1 sa2 sn2 sc2 ba2 bn2 bc2] at hj; have HJ6 := Lib.hid hj; have JL := Lib.hid (PPrf.len hj.r hj.commit); clear hj hb) | (refine wpList_var rfl rfl 28 rfl _ _ rfl noPrf.cells.toArray Tryz.infoPrf rfl (PPrf.mk p.r sa2 sn2 sc2 p.sig ba2 bn2 bc2 p.blob p.commit).cells (fun _ => rfl) (fun _ => rfl) JL.out (PPrf.one _) ?_; intro q7 w7 hq hh hb; go_frame; have HB7 := Lib.hid (bthen HB6.out hb); have HG7 := Lib.hid (keep hb HG6.out); have HX7 := Lib.hid (HX6.out.below hb); have HL7 := Lib.hid (HL6.out.below hb); have HR7 := Lib.hid (HR6.out.below hb); have HW7 := Lib.hid (HW6.out.below hb); have HJ7 := Lib.hid (HJ6.out.below hb); have HQ7 := Lib.hid hh; clear hq hh hb) | fail)
    clear HB5 HG5 HX5 HL5 HR5 HW5 HB6 HG6 HX6 HL6 HR6 HW6 HJ6 HGET HGP hE1 hX1
    go_cut [110] from 66 to 110 (fun u w' => u = .bool false ∧ w7 = w')
    case first =>
      have qe := fun W : World => run_eqRecs p.r p.r HRI.out HRI.out W
      rw [recEq_same] at qe
      have qs := fun W : World => run_eqSums p.commit p.commit HCL.out HCL.out W
      rw [decide_eq_true (rfl : p.commit = p.commit)] at qs
      have v1 := conv_row HR7.out
      have v2 := conv_row HW7.out
      rw [HSP.out] at v1 v2
      have v3 := conv_row HX7.out.sig
      have v4 := conv_row HJ7.out.sig
      dsimp only at v4
      rw [HSG.out] at v3 v4
      have v5 := conv_row HX7.out.blob
      have v6 := conv_row HJ7.out.blob
      dsimp only at v6
      rw [HSB.out] at v5 v6
      have k1 : w7.cell? ⟨g, 67, none⟩ = some (.slice p.sa p.sn p.sc) := prf_sig HRI.out (range_of HG7.out)
      have k2 : w7.cell? ⟨g, 68, none⟩ = some (.slice p.ba p.bn p.bc) := prf_blob HRI.out (range_of HG7.out)
      have k3 : w7.cell? ⟨q7, 67, none⟩ = some (.slice sa2 sn2 sc2) := prf_sig (x := PPrf.mk p.r sa2 sn2 sc2 p.sig ba2 bn2 bc2 p.blob p.commit) HRI.out (range_of HQ7.out)
      have k4 : w7.cell? ⟨q7, 68, none⟩ = some (.slice ba2 bn2 bc2) := prf_blob (x := PPrf.mk p.r sa2 sn2 sc2 p.sig ba2 bn2 bc2 p.blob p.commit) HRI.out (range_of HQ7.out)
      have R1 := Lib.hid (prf_rec (range_of HG7.out))
      have R2 := Lib.hid (prf_rec (x := PPrf.mk p.r sa2 sn2 sc2 p.sig ba2 bn2 bc2 p.blob p.commit) (range_of HQ7.out))
      have R3 := Lib.hid (prf_commit HRI.out (range_of HG7.out))
      have R4 := Lib.hid (prf_commit (x := PPrf.mk p.r sa2 sn2 sc2 p.sig ba2 bn2 bc2 p.blob p.commit) HRI.out (range_of HQ7.out))
      go_wp2_with (first | (refine wpList_mid_wanted (by rfl) 25 _ rfl q7 0 rfl p.r.cells _ R2.out Tryz.underlying25 rfl SZRC.out ?_) | (refine wpList_mid_wanted (by rfl) 25 _ rfl g 0 rfl p.r.cells _ R1.out Tryz.underlying25 rfl SZRC.out ?_) | (refine wpList_mid_wanted (by rfl) 23 _ rfl q7 69 rfl (cellsOf p.commit) _ R4.out Tryz.underlying23 rfl SXC.out ?_) | (refine wpList_mid_wanted (by rfl) 23 _ rfl g 69 rfl (cellsOf p.commit) _ R3.out Tryz.underlying23 rfl SXC.out ?_) | fail)
      go_meet
      exact ⟨rfl, rfl⟩
    case rest =>
      obtain ⟨rfl, rfl⟩ := hcut
      clear HG7 HX7 HR7 HW7 HJ7 HQ7
      go_upto_region 12 with (fail)
      go_upto_region 13 with (first | (go_at_call 13; (with_reducible refine (HGQ.out _ HL7.out).mono ?_); rintro e wa ⟨sa3, sn3, sc3, ba3, bn3, bc3, rfl, hj, hb⟩; have HBA := Lib.hid (bthen HB7.out hb); have HLA := Lib.hid (HL7.out.below hb); obtain ⟨Y, hY⟩ : ∃ Y, prfX l sa3 sn3 sc3 ba3 bn3 bc3 = Y := ⟨_, rfl⟩; obtain ⟨F, hF⟩ : ∃ F, prfE l = F := ⟨_, rfl⟩; rw [hY] at hj ⊢; rw [hF]; have HJA := Lib.hid hj; have HYE := Lib.hid hY; have HFE := Lib.hid hF; have YL := Lib.hid (PPrf.len hj.r hj.commit); clear hj hb hY hF) | (refine wpList_var rfl rfl 28 rfl _ _ rfl noPrf.cells.toArray Tryz.infoPrf rfl Y.cells (fun _ => rfl) (fun _ => rfl) YL.out (PPrf.one _) ?_; intro q wb hq hh hb; go_frame; have HBB := Lib.hid (bthen HBA.out hb); have HLB := Lib.hid (HLA.out.below hb); have HJB := Lib.hid (HJA.out.below hb); have HQB := Lib.hid hh; clear hq hh hb) | fail)
      by_cases h0 : F = 0
      · have hPE2 : putE Y = 0 := by rw [← HYE.out]; exact putE_read (by rw [HFE.out]; exact h0) (by rw [HYE.out]; exact HJB.out)
        have hYB : prfB Y = l := by rw [← HYE.out]; exact prf_again (by rw [HFE.out]; exact h0)
        have HPY : Hid (∀ W : World, PrfIn W Y → Calls Tryz.prog 7 #[.agg Y.cells.toArray] W fun e w' => ∃ (a : Option Addr) (n c : Nat), e = .returned (.tuple #[.slice a n c, .int .i64 0]) ∧ Row w' a n c l ∧ Below W.heap.size W w') := Lib.hid fun W h => by
          refine (HPUT2.out W Y h).mono fun e w' h9 => ?_
          unfold PutOut at h9
          rw [hPE2, if_pos rfl, hYB] at h9
          exact h9
        have SZY := Lib.hid (prf_sizeA HJB.out)
        clear hPE2 hYB HYE HFE HPUT2
        subst h0
        have hb : ((0 : Int) != 0) = false := by decide
        have v1 := conv_row HLB.out
        rw [HSLB.out] at v1
        go_upto_region 16 with (first | (refine wpList_load_row rfl 28 _ rfl q rfl 28 Y.cells.toArray (0, 0) _ HQB.out Tryz.underlying28 rfl SZY.out ?_) | (go_at_call 7; (with_reducible refine (HPY.out _ HJB.out).mono ?_); rintro e wc ⟨a9, n9, c9, rfl, hr9, hb9⟩; have HBC := Lib.hid (bthen HBB.out hb9); have HLC := Lib.hid (HLB.out.below hb9); have HR9 := Lib.hid hr9; clear hr9 hb9) | fail)
        clear v1
        have v2 := conv_row HLC.out
        have v3 := conv_row HR9.out
        rw [HSLB.out] at v2 v3
        go_wp2_with (first | (go_at_call 6; (with_reducible refine (HAW.out _ HBC.out).mono ?_); rintro e wz ⟨rfl, hb⟩; have HBZ := Lib.hid (bthen HBC.out hb); clear hb) | fail)
        go_ret
        exact ⟨rfl, HBZ.out⟩
      · have hb : (F != 0) = true := by simpa using h0
        have hYn : Y = noPrf := by rw [← HYE.out]; exact prfX_no (by rw [HFE.out]; exact h0)
        subst hYn
        clear HYE HFE HPUT2
        have qz := fun W : World => run_eqRecs noRec noRec noRec_in noRec_in W
        rw [recEq_same] at qz
        have RN := Lib.hid (prf_rec (x := noPrf) (range_of HQB.out))
        have k3 : wb.cell? ⟨q, 67, none⟩ = some (.slice none 0 0) := prf_sig (x := noPrf) noRec_in (range_of HQB.out)
        have k4 : wb.cell? ⟨q, 68, none⟩ = some (.slice none 0 0) := prf_blob (x := noPrf) noRec_in (range_of HQB.out)
        go_wp2_with (first | (refine wpList_load_mid rfl 25 _ rfl q 0 rfl noRec.cells _ RN.out Tryz.underlying25 rfl SZN.out ?_) | (refine wpList_build10 rfl rfl (vs := []) (by rfl) build_rec0 ?_) | (go_at_call 6; (with_reducible refine (HAW.out _ HBB.out).mono ?_); rintro e wz ⟨rfl, hb⟩; have HBZ := Lib.hid (bthen HBB.out hb); clear hb) | fail)
        go_ret
        exact ⟨rfl, HBZ.out⟩
end Go.Proofs.YtcmdpmialehjgaaGreatDoor
