/- Law 8's front: a transaction's front is written. -/
import Derived.Test.YtodbhopeknlgiaaGreatDoorTxBytes
namespace Go.Proofs.YtodbhopeknlgiaaGreatDoor
open Go.RowKit

/-- Bytes that are told. -/
def TellsB (w : World) (l : List UInt8) (e : Ending) (w' : World) : Prop := ∃ (a : Option Addr) (n c : Nat), e = .returned (.slice a n c) ∧ Row w' a n c l ∧ Below w.heap.size w w'
set_option linter.unusedSimpArgs false in
set_option maxRecDepth 100000 in
set_option maxHeartbeats 25600000 in
theorem front_law {w : World} {x : PTx} {sh : Bool} (h : TxIn w x) (hi : x.inn ≤ 1000) (ho : x.on ≤ 1000) (hpre : ∀ y ∈ x.ins, y.pre.length ≤ 100000) (hout : ∀ y ∈ x.outs, y.ws.length ≤ 1000 ∧ ∀ z ∈ y.ws, z.ks.length ≤ 1000) (hd : x.op.data.length ≤ 100000) (hl : (frontB sh x).length ≤ 900000) :
    Calls Tryz.prog 13 #[.agg x.cells.toArray, .bool sh] w fun e w' => TellsB w (frontB sh x) e w' := by
  have b1 : Below w.heap.size w (w.alloc (.cells x.cells.toArray 31)) := (Below.refl _ _).alloc (Nat.le_refl _) _
  have hrg := range_of (heap_alloc_new w (.cells x.cells.toArray 31))
  have hltg := lt_of_block (heap_alloc_new w (.cells x.cells.toArray 31))
  have H1 := Lib.hid (h.below b1)
  have HPR := Lib.hid hpre
  have HOU := Lib.hid hout
  have HL := Lib.hid hl
  have hdn : x.op.n ≤ 100000 := by rw [← h.op.data.1]; exact hd
  clear h hpre hout hl hd
  go_enter Tryz.func13, Tryz.ntmps13
  go_upto_region 1 with (fail)
  revert b1 hrg hltg H1
  generalize (w.alloc (.cells x.cells.toArray 31)) = w1
  obtain ⟨g, hg⟩ : ∃ g, g = w.heap.size := ⟨_, rfl⟩
  rw [← hg]
  intro b1 hrg hltg H1
  rw [hg] at b1
  have HB1 := Lib.hid b1
  have RX := Lib.hid hrg
  clear hrg hg b1
  go_upto_region 2 with (fail)
  have b2 : Below w1.heap.size w1 (w1.alloc (.cells #[.pointer none, .int .i64 0] 45)) := (Below.refl _ _).alloc (Nat.le_refl _) _
  have h2 := heap_alloc_new w1 (.cells #[.pointer none, .int .i64 0] 45)
  revert b2 h2
  generalize (w1.alloc (.cells #[.pointer none, .int .i64 0] 45)) = w2
  obtain ⟨pb, hpb⟩ : ∃ pb, pb = w1.heap.size := ⟨_, rfl⟩
  rw [← hpb]
  intro b2 h2
  have hgp : g < pb := by rw [hpb]; exact hltg
  have hz2 : pb ≤ w2.heap.size := by rw [hpb]; exact b2.size
  have HP2 : Hid (PenAt w2 pb pb []) := Lib.hid (.inl ⟨h2, rfl⟩)
  have HB2 := Lib.hid b2
  have HPBE := Lib.hid hpb
  have HB1 : Hid (Below w.heap.size w w1) := HB1
  have c0 : w2.cell? ⟨g, 0, none⟩ = some (.slice x.ia x.inn x.ic) := tx_ins (rangeAt_below RX.out hltg (by rw [← HPBE.out]; exact HB2.out))
  have hin63 : (x.inn : Int) ≤ 9223372036854775807 := by omega
  have HLI : Hid ((0 : Nat) + 9 ≤ 140737488355328) := Lib.hid (by omega)
  -- below the pen all is as in w1
  have OLD : Hid (∀ W : World, Below pb w1 W → TxIn W x ∧ W.rangeAt g 0 x.cells) := Lib.hid (fun W hW => by rw [HPBE.out] at hW; exact ⟨H1.out.below hW, rangeAt_below RX.out hltg hW⟩)
  have OW : Hid (∀ y ∈ x.outs, OldWs pb pb y.n y.a y.ws) := Lib.hid (fun y hy => (H1.out.outs.2.2.2.2.1 y hy).ws.oldWs (by rw [HPBE.out]; exact Nat.le_refl _) (by rw [HPBE.out]; exact Nat.le_refl _))
  have HOR : Hid (∀ {a : Option Addr} {n c : Nat} {l : List UInt8}, Row w1 a n c l → 0 < n → ∀ ad, a = some ad → ad.block < pb) := Lib.hid (fun hr h0 ad e => by
    obtain ⟨b, off, e2, hlt, _⟩ := hr.2.2.2.2 h0
    rw [e] at e2
    cases e2
    rw [HPBE.out]
    exact hlt)
  have OLDR : Hid (∀ {W : World} {a : Option Addr} {n c : Nat} {l : List UInt8}, Row w1 a n c l → Below pb w1 W → Row W a n c l) := Lib.hid (fun hr hW => by rw [HPBE.out] at hW; exact hr.below hW)
  have HB1s : Hid (w1.heap.size = pb) := Lib.hid hpb.symm
  clear b2 h2 hpb hltg
  go_wp2_with fail
  refine (pnum_typed (x.inn : Int) HP2.out hz2 HLI.out hin63).mono ?_
  rintro e w3 ⟨rfl, hp3, hb3, _⟩
  rw [List.nil_append] at hp3
  have HP3 := Lib.hid hp3
  have HB3 : Hid (Below pb w1 w3) := Lib.hid (HB2.out.trans (hb3.below (Nat.le_refl _)))
  clear c0 hp3 hb3 HP2 HB2
  go_wp2_with fail
  go_loopw [6] (fun i wr => ∃ k : Nat, k ≤ x.inn ∧ i = .int .i64 k ∧ PenAt wr pb pb (numB (x.inn : Int) ++ insB sh (x.ins.take k)) ∧ Below pb w1 wr) (fun i _ => x.inn - (intOf i).toNat)
  case atStart => exact ⟨0, Nat.zero_le _, rfl, by have h9 := HP3.out; simpa [insB] using h9, HB3.out⟩
  case round =>
    obtain ⟨k, hk, rfl, hpk, hbk⟩ := hrel
    have HPK := Lib.hid hpk
    have HBK := Lib.hid hbk
    have hbzr : pb ≤ wr.heap.size := Nat.le_trans (by rw [HB1s.out]; exact Nat.le_refl _) hbk.size
    obtain ⟨htx, hrx0⟩ := OLD.out wr hbk
    have c0 : wr.cell? ⟨g, 0, none⟩ = some (.slice x.ia x.inn x.ic) := tx_ins hrx0
    clear hpk HP3 HB3
    by_cases hkn : k < x.inn
    · have f1 : (k : Int) < (x.inn : Int) := by omega
      have f0 : (0 : Int) ≤ (k : Int) := by omega
      have ft : ((k : Int)).toNat = k := by omega
      have hkl : k < x.ins.length := by rw [H1.out.ins.1]; exact hkn
      obtain ⟨b1, o1, e1, hltb, hc1⟩ := htx.ins.2.2.2.2.2 (by omega)
      have hrx : wr.rangeAt b1 (o1 + k * 35) (x.ins.getD k noIn).cells := hc1 k hkn
      have hym : x.ins.getD k noIn ∈ x.ins := H1.out.ins.mem hkn
      have hy1 : InIn w1 (x.ins.getD k noIn) := H1.out.ins.get hkn
      have hpy := HPR.out _ hym
      have hnx := insB_take sh hkl
      have hll := insB_le sh (xs := x.ins) (k := k + 1)
      rw [hnx] at hll
      revert hrx hym hy1 hpy hnx hll
      generalize x.ins.getD k noIn = y
      intro hrx hym hy1 hpy hnx hll
      obtain ⟨P, hP⟩ : ∃ P, P = numB (x.inn : Int) ++ insB sh (x.ins.take k) := ⟨_, rfl⟩
      have HNX : Hid (numB (x.inn : Int) ++ insB sh (x.ins.take (k + 1)) = P ++ inB sh y) := Lib.hid (by rw [hnx, hP]; simp only [List.append_assoc])
      have HLW : Hid ((P ++ (y.tx ++ (numB y.place ++ (numB y.way ++ [])))).length + 109 ≤ 1000000) := Lib.hid (by
        have h9 := HL.out
        unfold frontB at h9
        rw [H1.out.ins.1] at h9
        rw [hP]
        unfold inB at hll
        simp only [List.length_append] at h9 hll ⊢
        simp only [List.length_nil]
        omega)
      rw [← hP] at HPK
      have RY := Lib.hid hrx
      have STX := Lib.hid (sumLen hy1.tx)
      have SY : Hid ((Tryz.prog.info? 58).map (·.size) = some y.cells.length) := Lib.hid (by rw [PIn.len hy1.tx]; exact Tryz.sizeIn)
      have AY : Hid ((Tryz.prog.info? 58).map (·.size) = some y.cells.toArray.size) := Lib.hid (by rw [List.size_toArray]; exact SY.out)
      have ZY : Hid (noIn.cells.toArray.size = y.cells.toArray.size) := Lib.hid (by rw [List.size_toArray, List.size_toArray, PIn.len hy1.tx]; rfl)
      have HTX := Lib.hid hy1.tx
      have HFP : Hid (y.place ≤ 9223372036854775807) := Lib.hid hy1.place.2
      have HFW : Hid (y.way ≤ 9223372036854775807) := Lib.hid hy1.way.2
      have HPRE : Hid (Row w1 y.a y.n y.c y.pre) := Lib.hid hy1.pre
      have HPB := Lib.hid (HOR.out hy1.pre)
      have hyn : y.n ≤ 100000 := by rw [← hy1.pre.1]; exact hpy
      rw [e1] at c0
      clear hc1 hrx hym hy1 hpy hnx hll hP hkl e1 htx hrx0 hbk
      go_upto_region 7 with (first | (refine wpList_load_mid rfl 58 _ rfl b1 (o1 + k * 35) rfl y.cells _ RY.out Tryz.underlying58 rfl SY.out ?_) | (refine wpList_store_row rfl 58 _ _ rfl wr.heap.size y.cells.toArray rfl rfl 58 noIn.cells.toArray (heap_alloc_new _ _) AY.out ZY.out (all_oneCell_toArray y.one) ?_) | fail)
      clear c0
      rw [← noIn_is, layT_is]
      have h5 := layT_heap 58 noIn.cells wr y.cells
      have b5 := layT_self 58 noIn.cells wr y.cells
      revert h5 b5
      generalize layT 58 noIn.cells wr y.cells = w5
      obtain ⟨g5, hg5⟩ : ∃ g5, g5 = wr.heap.size := ⟨_, rfl⟩
      rw [← hg5]
      intro h5 b5
      rw [hg5] at b5
      have H5 := Lib.hid h5
      have hbz5 : pb ≤ w5.heap.size := Nat.le_trans hbzr b5.size
      have HPEN0 : Hid (PenAt w5.drew pb pb P) := Lib.hid ((HPK.out.below hbzr b5).below hbz5 (below_drew (Below.refl _ _)))
      have HBW : Hid (Below pb w1 w5) := Lib.hid (HBK.out.trans (b5.mono hbzr))
      clear h5 b5 hg5 HPK RY
      try simp only [Act.put]
      refine wp_region_held_drew (S := fun w' => PStep pb pb w5 w') (by kernel_rfl) (⟨But.of (below_drew (Below.refl _ _)), fun _ _ _ _ _ _ _ _ => rfl⟩) (fun hHeld => ?_)
      refine take_at (i := 0) (v := ?_) rfl rfl (by kernel_rfl) (by kernel_rfl) (by kernel_rfl) (fun _ _ _ h => h) (Or.inl ⟨by rfl, ?_⟩) (by assumption) ?_
      rotate_left
      · intro w0 hSw; (try dsimp only at hSw); first | (go_simp; done) | (go_simp; with_reducible rfl)
      simp only [List.setIfInBounds_toArray, List.set_cons_zero, List.set_cons_succ]
      refine take_at (i := 1) (v := ?_) rfl rfl (by kernel_rfl) (by kernel_rfl) (by kernel_rfl) (fun _ _ _ h => h) (Or.inl ⟨by rfl, ?_⟩) (by assumption) ?_
      rotate_left
      · intro w0 hSw; (try dsimp only at hSw); first | (go_simp; done) | (go_simp; with_reducible rfl)
      simp only [List.setIfInBounds_toArray, List.set_cons_zero, List.set_cons_succ]
      refine take_at (i := 2) rfl rfl (by kernel_rfl) (by kernel_rfl) (by kernel_rfl) (fun _ _ _ h => h) (yieldsIf_load_mid (by rfl) _ _ rfl g5 0 rfl (cellsOf y.tx) _ (fun w0 hSw => in_tx (range_of (kept_in hSw.2 H5.out))) Tryz.underlying25 rfl STX.out) (by assumption) ?_
      simp only [List.setIfInBounds_toArray, List.set_cons_zero, List.set_cons_succ]
      refine take_at (i := 4) (v := ?_) rfl rfl (by kernel_rfl) (by kernel_rfl) (by kernel_rfl) (fun _ _ _ h => h) (Or.inl ⟨by rfl, ?_⟩) (by assumption) ?_
      rotate_left
      · intro w0 hSw; (try dsimp only at hSw); first | (go_simp; done) | (go_simp; with_reducible rfl)
      simp only [List.setIfInBounds_toArray, List.set_cons_zero, List.set_cons_succ]
      refine take_at (i := 5) (v := ?_) rfl rfl (by kernel_rfl) (by kernel_rfl) (by kernel_rfl) (fun _ _ _ h => h) (Or.inl ⟨by rfl, ?_⟩) (by assumption) ?_
      rotate_left
      · intro w0 hSw; (try dsimp only at hSw); first | (go_simp; done) | (go_simp; with_reducible rfl)
      simp only [List.setIfInBounds_toArray, List.set_cons_zero, List.set_cons_succ]
      refine take_at (i := 6) rfl rfl (by kernel_rfl) (by kernel_rfl) (by kernel_rfl) (fun _ _ _ h => h) (yields_cell (by rfl) rfl rfl (b := g5) (o := 32) (fun w0 hSw => in_at HTX.out (range_of (kept_in hSw.2 H5.out))) Tryz.isAgg3) (by assumption) ?_
      simp only [List.setIfInBounds_toArray, List.set_cons_zero, List.set_cons_succ]
      refine take_at (i := 8) (v := ?_) rfl rfl (by kernel_rfl) (by kernel_rfl) (by kernel_rfl) (fun _ _ _ h => h) (Or.inl ⟨by rfl, ?_⟩) (by assumption) ?_
      rotate_left
      · intro w0 hSw; (try dsimp only at hSw); first | (go_simp; done) | (go_simp; with_reducible rfl)
      simp only [List.setIfInBounds_toArray, List.set_cons_zero, List.set_cons_succ]
      refine take_at (i := 9) rfl rfl (by kernel_rfl) (by kernel_rfl) (by kernel_rfl) (fun _ _ _ h => h) (yields_cell (by rfl) rfl rfl (b := g5) (o := 33) (fun w0 hSw => in_way HTX.out (range_of (kept_in hSw.2 H5.out))) Tryz.isAgg3) (by assumption) ?_
      simp only [List.setIfInBounds_toArray, List.set_cons_zero, List.set_cons_succ]
      refine wpAnyH_ready (rs := [3]) (by kernel_rfl) (by simp) ?_
      refine AllReadyH.cons rfl (fun K hK => ?_) ?_
      · have HZw5drew : Hid (pb ≤ (w5.drew).heap.size) := Lib.hid (Nat.le_trans hbz5 hHeld.1.size)
        have hHbw5drew : Hid (But pb pb w5 (w5.drew)) := Lib.hid hHeld.1
        go_simp
        go_wp2_with ((go_at_call 17; (with_reducible refine (psum_typed _ HTX.out HPEN0.out HZw5drew.out (by have h0 := HLW.out; simp only [List.length_append] at h0 ⊢; omega)).mono ?_); rintro e y3 ⟨rfl, hp, hb, hk⟩; have HPy3 := Lib.hid hp; have HSy3 : Hid (PStep pb pb _ y3) := Lib.hid ⟨hb, hk⟩; clear hp hb hk))
        refine hK.out _ _ (by (try dsimp only); exact ⟨hHeld.1.trans HSy3.out.1, hHeld.2.trans HSy3.out.2⟩) (fun hHeld => ?_)
        clear hK K
        refine wpAnyH_ready (rs := [7]) (by kernel_rfl) (by simp) ?_
        refine AllReadyH.cons rfl (fun K hK => ?_) ?_
        · have HZy3 : Hid (pb ≤ (y3).heap.size) := Lib.hid (Nat.le_trans hbz5 hHeld.1.size)
          have hHby3 : Hid (But pb pb w5 (y3)) := Lib.hid hHeld.1
          go_simp
          go_wp2_with ((go_at_call 16; (with_reducible refine (pnum_typed y.place HPy3.out HZy3.out (by have h0 := HLW.out; simp only [List.length_append] at h0 ⊢; omega) HFP.out).mono ?_); rintro e y7 ⟨rfl, hp, hb, hk⟩; have HPy7 := Lib.hid hp; have HSy7 : Hid (PStep pb pb _ y7) := Lib.hid ⟨hb, hk⟩; clear hp hb hk))
          refine hK.out _ _ (by (try dsimp only); exact ⟨hHeld.1.trans HSy7.out.1, hHeld.2.trans HSy7.out.2⟩) (fun hHeld => ?_)
          clear hK K
          refine wpAnyH_ready (rs := [10]) (by kernel_rfl) (by simp) ?_
          refine AllReadyH.cons rfl (fun K hK => ?_) ?_
          · have HZy7 : Hid (pb ≤ (y7).heap.size) := Lib.hid (Nat.le_trans hbz5 hHeld.1.size)
            have hHby7 : Hid (But pb pb w5 (y7)) := Lib.hid hHeld.1
            go_simp
            go_wp2_with ((go_at_call 16; (with_reducible refine (pnum_typed y.way HPy7.out HZy7.out (by have h0 := HLW.out; simp only [List.length_append] at h0 ⊢; omega) HFW.out).mono ?_); rintro e y10 ⟨rfl, hp, hb, hk⟩; have HPy10 := Lib.hid hp; have HSy10 : Hid (PStep pb pb _ y10) := Lib.hid ⟨hb, hk⟩; clear hp hb hk))
            refine hK.out _ _ (by (try dsimp only); exact ⟨hHeld.1.trans HSy10.out.1, hHeld.2.trans HSy10.out.2⟩) (fun hHeld => ?_)
            clear hK K
            refine wpAnyH_done (by kernel_rfl) ?_ _
            have HST := Lib.hid (show PStep pb pb w5 y10 from hHeld)
            clear hHeld
            have HBY := Lib.hid (HBW.out.trans (HST.out.1.below (Nat.le_refl _)))
            have c34 : y10.cell? ⟨g5, 34, none⟩ = some (.slice y.a y.n y.c) := by have h9 := in_pre HTX.out (range_of (kept_in HST.out.2 H5.out)); rw [Nat.zero_add] at h9; exact h9
            have hz10 : pb ≤ y10.heap.size := Nat.le_trans hbz5 HST.out.1.size
            have HPR := Lib.hid (OLDR.out HPRE.out HBY.out)
            cases sh
            · have HPE : Hid (PenAt y10 pb pb (numB (x.inn : Int) ++ insB false (x.ins.take (k + 1)))) := Lib.hid (by have h9 := HPy10.out; rw [HNX.out]; unfold inB; simpa using h9)
              go_wp2_with fail
              go_roundw
              case rel => exact ⟨k + 1, by omega, by go_num, HPE.out, HBY.out⟩
              case measure => simp [intOf]; omega
            · go_wp2_with fail
              refine (ptext_typed _ HPR.out HPy10.out hz10 HPB.out (by omega) (by have h0 := HLW.out; simp only [List.length_append] at h0 ⊢; omega)).mono ?_
              rintro e y11 ⟨rfl, hp, hb, _⟩
              have HPE : Hid (PenAt y11 pb pb (numB (x.inn : Int) ++ insB true (x.ins.take (k + 1)))) := Lib.hid (by rw [HNX.out]; unfold inB; simpa using hp)
              have HB11 := Lib.hid (HBY.out.trans (hb.below (Nat.le_refl _)))
              clear hp hb c34
              go_wp2_with fail
              go_roundw
              case rel => exact ⟨k + 1, by omega, by go_num, HPE.out, HB11.out⟩
              case measure => simp [intOf]; omega
          exact AllReadyH.nil
        exact AllReadyH.nil
      exact AllReadyH.nil
    · obtain rfl : k = x.inn := by omega
      have f1 : ¬ ((x.inn : Int) < (x.inn : Int)) := by omega
      have htk : x.ins.take x.inn = x.ins := List.take_of_length_le (by rw [H1.out.ins.1]; exact Nat.le_refl _)
      obtain ⟨Q, hQ⟩ : ∃ Q, Q = numB (x.inn : Int) ++ insB sh x.ins := ⟨_, rfl⟩
      rw [htk, ← hQ] at HPK
      have HQD := Lib.hid hQ
      have HLQ : Hid (Q.length + (9 + (outsB x.outs).length + (opB x.op).length) ≤ 900009) := Lib.hid (by
        have h9 := HL.out
        unfold frontB at h9
        rw [H1.out.ins.1] at h9
        rw [hQ]
        have h8 := (numB_len (x.outs.length : Nat)).1
        simp only [List.length_append] at h9 ⊢
        omega)
      have c1 : wr.cell? ⟨g, 1, none⟩ = some (.slice x.oa x.on x.oc) := by have h9 := tx_outs hrx0; rw [Nat.zero_add] at h9; exact h9
      have ho63 : (x.on : Int) ≤ 9223372036854775807 := by omega
      have HLQ9 : Hid (Q.length + 9 ≤ 140737488355328) := Lib.hid (by have := HLQ.out; omega)
      clear htk hQ htx hrx0 hbk
      go_wp2_with fail
      refine (pnum_typed (x.on : Int) HPK.out hbzr HLQ9.out ho63).mono ?_
      rintro e w4 ⟨rfl, hp4, hb4, _⟩
      have HP4 := Lib.hid hp4
      have HB4 : Hid (Below pb w1 w4) := Lib.hid (HBK.out.trans (hb4.below (Nat.le_refl _)))
      clear c0 c1 hp4 hb4 HPK HBK hbzr
      go_wp2_with fail
      go_loopw [8] (fun i wr => ∃ k : Nat, k ≤ x.on ∧ i = .int .i64 k ∧ PenAt wr pb pb (Q ++ numB (x.on : Int) ++ outsB (x.outs.take k)) ∧ Below pb w1 wr) (fun i _ => x.on - (intOf i).toNat)
      case atStart => exact ⟨0, Nat.zero_le _, rfl, by have h9 := HP4.out; simpa [outsB] using h9, HB4.out⟩
      case round =>
        obtain ⟨k, hk, rfl, hpk, hbk⟩ := hrel
        have HPK := Lib.hid hpk
        have HBK := Lib.hid hbk
        have hbzr : pb ≤ wr.heap.size := Nat.le_trans (by rw [HB1s.out]; exact Nat.le_refl _) hbk.size
        obtain ⟨htx, hrx0⟩ := OLD.out wr hbk
        have c1 : wr.cell? ⟨g, 1, none⟩ = some (.slice x.oa x.on x.oc) := by have h9 := tx_outs hrx0; rw [Nat.zero_add] at h9; exact h9
        clear hpk HP4 HB4
        by_cases hkn : k < x.on
        · have f1 : (k : Int) < (x.on : Int) := by omega
          have f0 : (0 : Int) ≤ (k : Int) := by omega
          have ft : ((k : Int)).toNat = k := by omega
          have hkl : k < x.outs.length := by rw [H1.out.outs.1]; exact hkn
          obtain ⟨b1, o1, e1, hltb, hc1⟩ := htx.outs.2.2.2.2.2 (by omega)
          have hrx : wr.rangeAt b1 (o1 + k * 2) [.int .i64 (x.outs.getD k noOut).m, .slice (x.outs.getD k noOut).a (x.outs.getD k noOut).n (x.outs.getD k noOut).c] := hc1 k hkn
          have hym : x.outs.getD k noOut ∈ x.outs := H1.out.outs.mem hkn
          have hyr : OutIn wr (x.outs.getD k noOut) := htx.outs.get hkn
          have how := OW.out _ hym
          obtain ⟨hy1, hy2⟩ := HOU.out _ hym
          have hnx := outsB_take hkl
          have hll := outsB_le (xs := x.outs) (k := k + 1)
          rw [hnx] at hll
          revert hrx hym hyr how hy1 hy2 hnx hll
          generalize x.outs.getD k noOut = y
          intro hrx hym hyr how hy1 hy2 hnx hll
          obtain ⟨P, hP⟩ : ∃ P, P = Q ++ numB (x.on : Int) ++ outsB (x.outs.take k) := ⟨_, rfl⟩
          have HNX : Hid (Q ++ numB (x.on : Int) ++ outsB (x.outs.take (k + 1)) = P ++ outB y.m y.ws) := Lib.hid (by rw [hnx, hP]; simp only [List.append_assoc])
          have HLW : Hid (P.length + (outB y.m y.ws).length ≤ 1000000) := Lib.hid (by
            have h9 := HLQ.out
            have h8 := (numB_len (x.on : Int)).2
            rw [hP]
            simp only [List.length_append] at h9 hll ⊢
            omega)
          rw [← hP] at HPK
          have hyn : y.n ≤ 1000 := by rw [← hyr.ws.1]; exact hy1
          have RY := Lib.hid hrx
          have HPT := Lib.hid (lockPut_at (B := pb) (pb := pb) (l := P) (m := y.m) hyr.ws how HPK.out hbzr hyr.m hyn hy2 HLW.out)
          rw [e1] at c1
          clear hc1 hrx hym hyr how hy1 hy2 hnx hll hP hkl e1 htx hrx0
          go_wp2_with (first | (refine wpList_load_mid rfl 61 _ rfl b1 (o1 + k * 2) rfl [.int .i64 y.m, .slice y.a y.n y.c] _ RY.out Tryz.underlying61 rfl Tryz.sizeOut ?_) | fail)
          refine HPT.out.mono ?_
          rintro e w5 ⟨rfl, hp5, hb5, _⟩
          have HPE : Hid (PenAt w5 pb pb (Q ++ numB (x.on : Int) ++ outsB (x.outs.take (k + 1)))) := Lib.hid (by rw [HNX.out]; exact hp5)
          have HB5 := Lib.hid (HBK.out.trans (hb5.below (Nat.le_refl _)))
          clear hp5 hb5 hbk c1
          go_wp2_with fail
          go_roundw
          case rel => exact ⟨k + 1, by omega, by go_num, HPE.out, HB5.out⟩
          case measure => simp [intOf]; omega
        · obtain rfl : k = x.on := by omega
          have f1 : ¬ ((x.on : Int) < (x.on : Int)) := by omega
          have htk : x.outs.take x.on = x.outs := List.take_of_length_le (by rw [H1.out.outs.1]; exact Nat.le_refl _)
          obtain ⟨P, hP⟩ : ∃ P, P = Q ++ numB (x.on : Int) ++ outsB x.outs := ⟨_, rfl⟩
          rw [htk, ← hP] at HPK
          have HFR : Hid (frontB sh x = P ++ opB x.op) := Lib.hid (by unfold frontB; rw [hP, HQD.out, H1.out.ins.1, H1.out.outs.1]; simp only [List.append_assoc])
          have HOPB : Hid (opB x.op = numB x.op.kind ++ (numB x.op.tower ++ (numB x.op.channel ++ (numB x.op.amount ++ (x.op.root ++ (numB (x.op.data.length : Nat) ++ x.op.data)))))) := Lib.hid rfl
          have HLW : Hid ((P ++ (numB x.op.kind ++ (numB x.op.tower ++ (numB x.op.channel ++ (numB x.op.amount ++ x.op.root))))).length + 9 ≤ 1000000) := Lib.hid (by
            have h9 := HL.out
            rw [HFR.out, HOPB.out] at h9
            simp only [List.length_append] at h9 ⊢
            omega)
          have hop := H1.out.op
          have hro := tx_op hrx0
          rw [Nat.zero_add] at hro
          have RO := Lib.hid hro
          have HOP := Lib.hid hop
          have HOK : Hid (x.op.kind ≤ 9223372036854775807) := Lib.hid hop.kind.2
          have HOT : Hid (x.op.tower ≤ 9223372036854775807) := Lib.hid hop.tower.2
          have HOC : Hid (x.op.channel ≤ 9223372036854775807) := Lib.hid hop.channel.2
          have HOA : Hid (x.op.amount ≤ 9223372036854775807) := Lib.hid hop.amount.2
          have HRT := Lib.hid hop.root
          have SRT := Lib.hid (sumLen hop.root)
          have HDB := Lib.hid (HOR.out hop.data)
          have SO : Hid ((Tryz.prog.info? 28).map (·.size) = some x.op.cells.length) := Lib.hid (by rw [POp.len hop.root]; exact Tryz.sizeOp)
          have AO : Hid ((Tryz.prog.info? 28).map (·.size) = some x.op.cells.toArray.size) := Lib.hid (by rw [List.size_toArray]; exact SO.out)
          have ZO : Hid (noOp.cells.toArray.size = x.op.cells.toArray.size) := Lib.hid (by rw [List.size_toArray, List.size_toArray, POp.len hop.root]; rfl)
          clear htk hP hop hro htx hrx0 hbk
          go_upto_region 16 with (first | (refine wpList_load_mid rfl 28 _ rfl g 2 rfl x.op.cells _ RO.out Tryz.underlying28 rfl SO.out ?_) | (refine wpList_store_row rfl 28 _ _ rfl wr.heap.size x.op.cells.toArray rfl rfl 28 noOp.cells.toArray (heap_alloc_new _ _) AO.out ZO.out (all_oneCell_toArray x.op.one) ?_) | fail)
          clear c1
          rw [← noOp_is, layT_is]
          have h5 := layT_heap 28 noOp.cells wr x.op.cells
          have b5 := layT_self 28 noOp.cells wr x.op.cells
          revert h5 b5
          generalize layT 28 noOp.cells wr x.op.cells = w5
          obtain ⟨g5, hg5⟩ : ∃ g5, g5 = wr.heap.size := ⟨_, rfl⟩
          rw [← hg5]
          intro h5 b5
          rw [hg5] at b5
          have H5 := Lib.hid h5
          have hbz5 : pb ≤ w5.heap.size := Nat.le_trans hbzr b5.size
          have HPEN0 : Hid (PenAt w5.drew pb pb P) := Lib.hid ((HPK.out.below hbzr b5).below hbz5 (below_drew (Below.refl _ _)))
          have HBW : Hid (Below pb w1 w5) := Lib.hid (HBK.out.trans (b5.mono hbzr))
          clear h5 b5 hg5 HPK RO
          try simp only [Act.put]
          refine wp_region_held_drew (S := fun w' => PStep pb pb w5 w') (by kernel_rfl) (⟨But.of (below_drew (Below.refl _ _)), fun _ _ _ _ _ _ _ _ => rfl⟩) (fun hHeld => ?_)
          refine take_at (i := 0) (v := ?_) rfl rfl (by kernel_rfl) (by kernel_rfl) (by kernel_rfl) (fun _ _ _ h => h) (Or.inl ⟨by rfl, ?_⟩) (by assumption) ?_
          rotate_left
          · intro w0 hSw; (try dsimp only at hSw); first | (go_simp; done) | (go_simp; with_reducible rfl)
          simp only [List.setIfInBounds_toArray, List.set_cons_zero, List.set_cons_succ]
          refine take_at (i := 1) rfl rfl (by kernel_rfl) (by kernel_rfl) (by kernel_rfl) (fun _ _ _ h => h) (yields_cell (by rfl) rfl rfl (b := g5) (o := 0) (fun w0 hSw => op_kind (range_of (kept_op hSw.2 H5.out))) Tryz.isAgg3) (by assumption) ?_
          simp only [List.setIfInBounds_toArray, List.set_cons_zero, List.set_cons_succ]
          refine take_at (i := 3) (v := ?_) rfl rfl (by kernel_rfl) (by kernel_rfl) (by kernel_rfl) (fun _ _ _ h => h) (Or.inl ⟨by rfl, ?_⟩) (by assumption) ?_
          rotate_left
          · intro w0 hSw; (try dsimp only at hSw); first | (go_simp; done) | (go_simp; with_reducible rfl)
          simp only [List.setIfInBounds_toArray, List.set_cons_zero, List.set_cons_succ]
          refine take_at (i := 4) rfl rfl (by kernel_rfl) (by kernel_rfl) (by kernel_rfl) (fun _ _ _ h => h) (yields_cell (by rfl) rfl rfl (b := g5) (o := 1) (fun w0 hSw => op_tower (range_of (kept_op hSw.2 H5.out))) Tryz.isAgg3) (by assumption) ?_
          simp only [List.setIfInBounds_toArray, List.set_cons_zero, List.set_cons_succ]
          refine take_at (i := 6) (v := ?_) rfl rfl (by kernel_rfl) (by kernel_rfl) (by kernel_rfl) (fun _ _ _ h => h) (Or.inl ⟨by rfl, ?_⟩) (by assumption) ?_
          rotate_left
          · intro w0 hSw; (try dsimp only at hSw); first | (go_simp; done) | (go_simp; with_reducible rfl)
          simp only [List.setIfInBounds_toArray, List.set_cons_zero, List.set_cons_succ]
          refine take_at (i := 7) rfl rfl (by kernel_rfl) (by kernel_rfl) (by kernel_rfl) (fun _ _ _ h => h) (yields_cell (by rfl) rfl rfl (b := g5) (o := 2) (fun w0 hSw => op_channel (range_of (kept_op hSw.2 H5.out))) Tryz.isAgg3) (by assumption) ?_
          simp only [List.setIfInBounds_toArray, List.set_cons_zero, List.set_cons_succ]
          refine take_at (i := 9) (v := ?_) rfl rfl (by kernel_rfl) (by kernel_rfl) (by kernel_rfl) (fun _ _ _ h => h) (Or.inl ⟨by rfl, ?_⟩) (by assumption) ?_
          rotate_left
          · intro w0 hSw; (try dsimp only at hSw); first | (go_simp; done) | (go_simp; with_reducible rfl)
          simp only [List.setIfInBounds_toArray, List.set_cons_zero, List.set_cons_succ]
          refine take_at (i := 10) rfl rfl (by kernel_rfl) (by kernel_rfl) (by kernel_rfl) (fun _ _ _ h => h) (yields_cell (by rfl) rfl rfl (b := g5) (o := 3) (fun w0 hSw => op_amount (range_of (kept_op hSw.2 H5.out))) Tryz.isAgg2) (by assumption) ?_
          simp only [List.setIfInBounds_toArray, List.set_cons_zero, List.set_cons_succ]
          refine take_at (i := 12) (v := ?_) rfl rfl (by kernel_rfl) (by kernel_rfl) (by kernel_rfl) (fun _ _ _ h => h) (Or.inl ⟨by rfl, ?_⟩) (by assumption) ?_
          rotate_left
          · intro w0 hSw; (try dsimp only at hSw); first | (go_simp; done) | (go_simp; with_reducible rfl)
          simp only [List.setIfInBounds_toArray, List.set_cons_zero, List.set_cons_succ]
          refine take_at (i := 13) rfl rfl (by kernel_rfl) (by kernel_rfl) (by kernel_rfl) (fun _ _ _ h => h) (yieldsIf_load_mid (by rfl) _ _ rfl g5 4 rfl (cellsOf x.op.root) _ (fun w0 hSw => op_root (range_of (kept_op hSw.2 H5.out))) Tryz.underlying25 rfl SRT.out) (by assumption) ?_
          simp only [List.setIfInBounds_toArray, List.set_cons_zero, List.set_cons_succ]
          refine take_at (i := 15) (v := ?_) rfl rfl (by kernel_rfl) (by kernel_rfl) (by kernel_rfl) (fun _ _ _ h => h) (Or.inl ⟨by rfl, ?_⟩) (by assumption) ?_
          rotate_left
          · intro w0 hSw; (try dsimp only at hSw); first | (go_simp; done) | (go_simp; with_reducible rfl)
          simp only [List.setIfInBounds_toArray, List.set_cons_zero, List.set_cons_succ]
          refine take_at (i := 16) rfl rfl (by kernel_rfl) (by kernel_rfl) (by kernel_rfl) (fun _ _ _ h => h) (yields_cell (by rfl) rfl rfl (b := g5) (o := 36) (fun w0 hSw => op_data HRT.out (range_of (kept_op hSw.2 H5.out))) Tryz.isAgg26) (by assumption) ?_
          simp only [List.setIfInBounds_toArray, List.set_cons_zero, List.set_cons_succ]
          refine wpAnyH_ready (rs := [2]) (by kernel_rfl) (by simp) ?_
          refine AllReadyH.cons rfl (fun K hK => ?_) ?_
          · have HZw5drew : Hid (pb ≤ (w5.drew).heap.size) := Lib.hid (Nat.le_trans hbz5 hHeld.1.size)
            have hHbw5drew : Hid (But pb pb w5 (w5.drew)) := Lib.hid hHeld.1
            go_simp
            go_wp2_with ((go_at_call 16; (with_reducible refine (pnum_typed x.op.kind HPEN0.out HZw5drew.out (by have h0 := HLW.out; simp only [List.length_append] at h0 ⊢; omega) HOK.out).mono ?_); rintro e y2 ⟨rfl, hp, hb, hk⟩; have HPy2 := Lib.hid hp; have HSy2 : Hid (PStep pb pb _ y2) := Lib.hid ⟨hb, hk⟩; clear hp hb hk))
            refine hK.out _ _ (by (try dsimp only); exact ⟨hHeld.1.trans HSy2.out.1, hHeld.2.trans HSy2.out.2⟩) (fun hHeld => ?_)
            clear hK K
            refine wpAnyH_ready (rs := [5]) (by kernel_rfl) (by simp) ?_
            refine AllReadyH.cons rfl (fun K hK => ?_) ?_
            · have HZy2 : Hid (pb ≤ (y2).heap.size) := Lib.hid (Nat.le_trans hbz5 hHeld.1.size)
              have hHby2 : Hid (But pb pb w5 (y2)) := Lib.hid hHeld.1
              go_simp
              go_wp2_with ((go_at_call 16; (with_reducible refine (pnum_typed x.op.tower HPy2.out HZy2.out (by have h0 := HLW.out; simp only [List.length_append] at h0 ⊢; omega) HOT.out).mono ?_); rintro e y5 ⟨rfl, hp, hb, hk⟩; have HPy5 := Lib.hid hp; have HSy5 : Hid (PStep pb pb _ y5) := Lib.hid ⟨hb, hk⟩; clear hp hb hk))
              refine hK.out _ _ (by (try dsimp only); exact ⟨hHeld.1.trans HSy5.out.1, hHeld.2.trans HSy5.out.2⟩) (fun hHeld => ?_)
              clear hK K
              refine wpAnyH_ready (rs := [8]) (by kernel_rfl) (by simp) ?_
              refine AllReadyH.cons rfl (fun K hK => ?_) ?_
              · have HZy5 : Hid (pb ≤ (y5).heap.size) := Lib.hid (Nat.le_trans hbz5 hHeld.1.size)
                have hHby5 : Hid (But pb pb w5 (y5)) := Lib.hid hHeld.1
                go_simp
                go_wp2_with ((go_at_call 16; (with_reducible refine (pnum_typed x.op.channel HPy5.out HZy5.out (by have h0 := HLW.out; simp only [List.length_append] at h0 ⊢; omega) HOC.out).mono ?_); rintro e y8 ⟨rfl, hp, hb, hk⟩; have HPy8 := Lib.hid hp; have HSy8 : Hid (PStep pb pb _ y8) := Lib.hid ⟨hb, hk⟩; clear hp hb hk))
                refine hK.out _ _ (by (try dsimp only); exact ⟨hHeld.1.trans HSy8.out.1, hHeld.2.trans HSy8.out.2⟩) (fun hHeld => ?_)
                clear hK K
                refine wpAnyH_ready (rs := [11]) (by kernel_rfl) (by simp) ?_
                refine AllReadyH.cons rfl (fun K hK => ?_) ?_
                · have HZy8 : Hid (pb ≤ (y8).heap.size) := Lib.hid (Nat.le_trans hbz5 hHeld.1.size)
                  have hHby8 : Hid (But pb pb w5 (y8)) := Lib.hid hHeld.1
                  go_simp
                  go_wp2_with ((go_at_call 16; (with_reducible refine (pnum_typed x.op.amount HPy8.out HZy8.out (by have h0 := HLW.out; simp only [List.length_append] at h0 ⊢; omega) HOA.out).mono ?_); rintro e y11 ⟨rfl, hp, hb, hk⟩; have HPy11 := Lib.hid hp; have HSy11 : Hid (PStep pb pb _ y11) := Lib.hid ⟨hb, hk⟩; clear hp hb hk))
                  refine hK.out _ _ (by (try dsimp only); exact ⟨hHeld.1.trans HSy11.out.1, hHeld.2.trans HSy11.out.2⟩) (fun hHeld => ?_)
                  clear hK K
                  refine wpAnyH_ready (rs := [14]) (by kernel_rfl) (by simp) ?_
                  refine AllReadyH.cons rfl (fun K hK => ?_) ?_
                  · have HZy11 : Hid (pb ≤ (y11).heap.size) := Lib.hid (Nat.le_trans hbz5 hHeld.1.size)
                    have hHby11 : Hid (But pb pb w5 (y11)) := Lib.hid hHeld.1
                    go_simp
                    go_wp2_with ((go_at_call 17; (with_reducible refine (psum_typed _ HRT.out HPy11.out HZy11.out (by have h0 := HLW.out; simp only [List.length_append] at h0 ⊢; omega)).mono ?_); rintro e y14 ⟨rfl, hp, hb, hk⟩; have HPy14 := Lib.hid hp; have HSy14 : Hid (PStep pb pb _ y14) := Lib.hid ⟨hb, hk⟩; clear hp hb hk))
                    refine hK.out _ _ (by (try dsimp only); exact ⟨hHeld.1.trans HSy14.out.1, hHeld.2.trans HSy14.out.2⟩) (fun hHeld => ?_)
                    clear hK K
                    refine wpAnyH_ready (rs := [17]) (by kernel_rfl) (by simp) ?_
                    refine AllReadyH.cons rfl (fun K hK => ?_) ?_
                    · have HZy14 : Hid (pb ≤ (y14).heap.size) := Lib.hid (Nat.le_trans hbz5 hHeld.1.size)
                      have hHby14 : Hid (But pb pb w5 (y14)) := Lib.hid hHeld.1
                      go_simp
                      go_wp2_with ((go_at_call 33; (with_reducible refine (ptext_typed _ (OLDR.out HOP.out.data (HBW.out.trans ((hHby14.out).below (Nat.le_refl _)))) HPy14.out HZy14.out HDB.out (by omega) (by have h0 := HLW.out; simp only [List.length_append] at h0 ⊢; omega)).mono ?_); rintro e y17 ⟨rfl, hp, hb, hk⟩; have HPy17 := Lib.hid hp; have HSy17 : Hid (PStep pb pb _ y17) := Lib.hid ⟨hb, hk⟩; clear hp hb hk))
                      refine hK.out _ _ (by (try dsimp only); exact ⟨hHeld.1.trans HSy17.out.1, hHeld.2.trans HSy17.out.2⟩) (fun hHeld => ?_)
                      clear hK K
                      refine wpAnyH_done (by kernel_rfl) ?_ _
                      have HST := Lib.hid (show PStep pb pb w5 y17 from hHeld)
                      clear hHeld
                      have HBY := Lib.hid (HBW.out.trans (HST.out.1.below (Nat.le_refl _)))
                      have HPF : Hid (PenAt y17 pb pb (frontB sh x)) := Lib.hid (by have h9 := HPy17.out; rw [HFR.out, HOPB.out]; simpa only [List.append_assoc] using h9)
                      have HFL : Hid ((frontB sh x).length ≤ 140737488355328) := Lib.hid (by have := HL.out; omega)
                      go_wp2_with fail
                      refine (bytes_any HPF.out HFL.out).mono ?_
                      rintro e w8 ⟨a8, n8, c8, rfl, hr, _, hb8⟩
                      have HR8 := Lib.hid hr
                      have HB8 := Lib.hid (HB1.out.trans ((HBY.out.trans (hb8.mono (Nat.le_trans hbz5 HST.out.1.size))).mono (by rw [← HB1s.out]; exact HB1.out.size)))
                      clear hr hb8
                      go_wp2_with fail
                      go_ret
                      exact ⟨a8, n8, c8, rfl, HR8.out, HB8.out⟩
                    exact AllReadyH.nil
                  exact AllReadyH.nil
                exact AllReadyH.nil
              exact AllReadyH.nil
            exact AllReadyH.nil
          exact AllReadyH.nil
end Go.Proofs.YtodbhopeknlgiaaGreatDoor
