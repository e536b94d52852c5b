/- ReceiptBytes, walked. -/
import Derived.Test.YtfccmiohnjhkoaaAwake12
import Derived.Test.YtfccmiohnjhkoaaEqRec
import Derived.Test.YtfccmiohnjhkoaaMemory
import Derived.Deep.CutRange
namespace Go.Proofs.Ytfccmiohnjhkoaa
open Go.RowKit

theorem getS_len (b : List UInt8) : (getS b).length ≤ 65536 := by
  unfold getS
  split
  · have h : (((getQ b).1.length : Nat) : Int) ≤ 65536 := textR_len (s := (getT b).2) (m := 65536) (by omega)
    omega
  · simp
theorem signedB_len {x : PRec} (hx : RecIn x) (q : List UInt8) : (signedB x q).length ≤ 109 + q.length := by
  have h1 := textB_len hx
  have h2 := (numB_len (((textB x).length : Nat) : Int)).2
  have h3 := (numB_len ((q.length : Nat) : Int)).2
  simp only [signedB, List.length_append]
  omega
theorem row_none {w : World} {a : Option Addr} {n c : Nat} (h : Row w a n c []) : n = 0 := by
  have h1 := h.1
  simpa using h1.symm
set_option linter.unusedSimpArgs false in
set_option maxRecDepth 100000 in
set_option maxHeartbeats 6400000 in
theorem bytes12_walk {w : World} {x : PRec} {a ab : Option Addr} {n c nb cb : Nat} {q l : List UInt8} (hx : RecIn x) (h : Row w a n c q) (hl : Row w ab nb cb l) :
    Calls Try.prog 4 #[.agg (sigCells x a n c).toArray, .slice ab nb cb] w fun e w' => e = .returned (.bool true) ∧ Below w.heap.size w w' := by
  have hn63 : (n : Int) ≤ 9223372036854775807 := by have h1 := h.2.1; have h2 := h.2.2.1; unfold maxLen at h2; omega
  have hb63 : (nb : Int) ≤ 9223372036854775807 := by have h1 := hl.2.1; have h2 := hl.2.2.1; unfold maxLen at h2; omega
  have HAW := Lib.hid awake12_any
  have HX := Lib.hid hx
  have H := Lib.hid h
  have HLL0 := Lib.hid hl
  have SLX := Lib.hid (rec_size hx)
  have SLN := Lib.hid (rec_size noRec_in)
  clear hx h hl
  go_enter Try.func4, Try.ntmps4
  go_upto_region 1 with (fail)
  have b1 : Below w.heap.size w (w.alloc (.cells (sigCells x a n c).toArray 35)) := (Below.refl _ _).alloc (Nat.le_refl _) _
  have h1 := heap_alloc_new w (.cells (sigCells x a n c).toArray 35)
  revert b1 h1
  generalize (w.alloc (.cells (sigCells x a n c).toArray 35)) = w1
  obtain ⟨g, hg⟩ : ∃ g, g = w.heap.size := ⟨_, rfl⟩
  rw [← hg]
  intro b1 h1
  rw [hg] at b1
  have k0 := rec_after HX.out (range_of h1)
  have HB1 := Lib.hid b1
  have H1 := Lib.hid h1
  have HGW : Hid (w.heap.size ≤ g) := Lib.hid (by omega)
  clear h1 b1 hg
  by_cases hn : n ≤ 300
  rotate_left
  · have f1 : 300 < (n : Int) := by omega
    go_wp2_with (first | (go_at_call 10; (with_reducible refine (HAW.out _).mono ?_); rintro e wz ⟨rfl, hb⟩; have HBZ := Lib.hid hb; clear hb) | fail)
    go_ret
    exact ⟨rfl, bthen HB1.out HBZ.out⟩
  by_cases hm : nb ≤ 300
  rotate_left
  · have f1 : ¬ 300 < (n : Int) := by omega
    have f2 : 300 < (nb : Int) := by omega
    go_wp2_with (first | (go_at_call 10; (with_reducible refine (HAW.out _).mono ?_); rintro e wz ⟨rfl, hb⟩; have HBZ := Lib.hid hb; clear hb) | fail)
    go_ret
    exact ⟨rfl, bthen HB1.out HBZ.out⟩
  have f1 : ¬ 300 < (n : Int) := by omega
  have f2 : ¬ 300 < (nb : Int) := by omega
  have hn6 : n ≤ 1000000 := by omega
  have htl := textB_len HX.out
  have hsl := signedB_len HX.out q
  have hql := H.out.1
  have hll := HLL0.out.1
  obtain ⟨TT, hTT⟩ : ∃ r, textB x = r := ⟨_, rfl⟩
  obtain ⟨SB, hSB⟩ : ∃ r, signedB x q = r := ⟨_, rfl⟩
  obtain ⟨R, hR⟩ : ∃ r, recOk x = r := ⟨_, rfl⟩
  have HTL : Hid (TT.length ≤ 91) := Lib.hid (by rw [← hTT]; exact htl)
  have TE := Lib.hid hTT
  have OUT : Hid (SB = ([] ++ (numB (TT.length : Nat) ++ TT)) ++ (numB (q.length : Nat) ++ q)) := Lib.hid (by rw [← hSB]; unfold signedB; rw [hTT]; simp [List.append_assoc])
  obtain ⟨X1, hX1⟩ : ∃ r, getX SB = r := ⟨_, rfl⟩
  obtain ⟨E1, hE1⟩ : ∃ r, getE SB = r := ⟨_, rfl⟩
  obtain ⟨S1, hS1⟩ : ∃ r, getS SB = r := ⟨_, rfl⟩
  obtain ⟨X2, hX2⟩ : ∃ r, getX l = r := ⟨_, rfl⟩
  obtain ⟨E2, hE2⟩ : ∃ r, getE l = r := ⟨_, rfl⟩
  obtain ⟨S2, hS2⟩ : ∃ r, getS l = r := ⟨_, rfl⟩
  have HXI1 : Hid (RecIn X1) := Lib.hid (by rw [← hX1]; exact getX_in _)
  have HXI2 : Hid (RecIn X2) := Lib.hid (by rw [← hX2]; exact getX_in _)
  have HOK : Hid (R = true → E1 = 0 ∧ X1 = x ∧ S1 = q) := Lib.hid fun h0 => by
    obtain ⟨e1, e2, e3⟩ := get_back HX.out (by rw [hR]; exact h0) (q := q) (by omega)
    rw [hSB] at e1 e2 e3
    exact ⟨by rw [← hE1]; exact e1, by rw [← hX1]; exact e2, by rw [← hS1]; exact e3⟩
  have HN2 : Hid (E2 ≠ 0 → X2 = noRec ∧ S2 = []) := Lib.hid fun h0 => by
    have h9 := getR_no (b := l) (by rw [hE2]; exact h0)
    exact ⟨by rw [← hX2]; exact h9.1, by rw [← hS2]; exact h9.2⟩
  have HY2 : Hid (E2 = 0 → signedB X2 S2 = l) := Lib.hid fun h0 => by
    have h9 := get_ok (b := l) (by rw [hE2]; exact h0)
    rw [← hX2, ← hS2]
    exact h9
  have HS2L : Hid (S2.length ≤ 65536) := Lib.hid (by rw [← hS2]; exact getS_len l)
  have HGB : Hid (∀ (W : World) (a : Option Addr) (n c : Nat), Row W a n c SB → Calls Try.prog 13 #[.slice a n c] W fun e w' => ∃ a1 n1 c1, e = .returned (.tuple #[.agg (sigCells X1 a1 n1 c1).toArray, .int .i64 E1]) ∧ Row w' a1 n1 c1 S1 ∧ Below W.heap.size W w') := Lib.hid fun W a n c hr => by
    refine (recget_any hr (by have h9 := hr.1; rw [hSB] at hsl; omega)).mono ?_
    rintro e w' ⟨a1, n1, c1, rfl, h2, _, h3⟩
    rw [hS1] at h2
    rw [hX1, hE1]
    exact ⟨a1, n1, c1, rfl, h2, h3⟩
  have HGQ : Hid (∀ (W : World), Row W ab nb cb l → Calls Try.prog 13 #[.slice ab nb cb] W fun e w' => ∃ a1 n1 c1, e = .returned (.tuple #[.agg (sigCells X2 a1 n1 c1).toArray, .int .i64 E2]) ∧ Row w' a1 n1 c1 S2 ∧ Below W.heap.size W w') := Lib.hid fun W hr => by
    refine (recget_any hr (by omega)).mono ?_
    rintro e w' ⟨a1, n1, c1, rfl, h2, _, h3⟩
    rw [hS2] at h2
    rw [hX2, hE2]
    exact ⟨a1, n1, c1, rfl, h2, h3⟩
  have HPU : Hid (∀ W : World, Row W a n c q → Calls Try.prog 14 #[.agg (sigCells x a n c).toArray] W (TextOut W SB)) := Lib.hid fun W hr => by rw [← hSB]; exact recput_any HX.out hr hn6
  have HRL : Hid (∀ W : World, Calls Try.prog 9 #[.agg x.cells.toArray] W fun e w' => e = .returned (.bool R) ∧ Below W.heap.size W w') := Lib.hid fun W => by rw [← hR]; exact recright_law W x
  have HR2 : Hid (∀ W : World, Calls Try.prog 9 #[.agg X2.cells.toArray] W fun e w' => e = .returned (.bool true) ∧ Below W.heap.size W w') := Lib.hid fun W => by
    have h9 := recright_law W X2
    rw [← hX2, getX_ok] at h9
    rw [← hX2]
    exact h9
  have SX2 := Lib.hid (rec_size HXI2.out)
  have SGX := Lib.hid (sig_size HX.out a n c)
  obtain ⟨so, hso⟩ : ∃ s : ByteArray, (⟨SB.toArray⟩ : ByteArray) = s := ⟨_, rfl⟩
  have HSO := Lib.hid hso
  obtain ⟨sq, hsq⟩ : ∃ s : ByteArray, (⟨q.toArray⟩ : ByteArray) = s := ⟨_, rfl⟩
  have HSQ := Lib.hid hsq
  obtain ⟨sl, hsl2⟩ : ∃ s : ByteArray, (⟨l.toArray⟩ : ByteArray) = s := ⟨_, rfl⟩
  have HSL := Lib.hid hsl2
  have qe := fun W : World => run_eqRecs x x HX.out HX.out W
  rw [recEq_same] at qe
  clear htl hsl hql hll hTT hSB hR hX1 hE1 hS1 hX2 hE2 hS2 hso hsq hsl2 hn hm hb63
  go_upto_region 4 with (fail)
  have b2 : Below w1.heap.size w1 (w1.alloc (.cells #[.pointer none, .int .i64 0] 38)) := (Below.refl _ _).alloc (Nat.le_refl _) _
  have h2 := heap_alloc_new w1 (.cells #[.pointer none, .int .i64 0] 38)
  revert b2 h2
  generalize (w1.alloc (.cells #[.pointer none, .int .i64 0] 38)) = w2
  obtain ⟨pb, hpb⟩ : ∃ pb, pb = w1.heap.size := ⟨_, rfl⟩
  rw [← hpb]
  intro b2 h2
  rw [hpb] at b2
  have hg2 := keep b2 H1.out
  have HB2 := Lib.hid (bthen HB1.out b2)
  have HG := Lib.hid hg2
  have HGL := Lib.hid (lt_of_block hg2)
  have HGN : Hid (g ≠ pb) := Lib.hid (by have := lt_of_block H1.out; omega)
  have HPG : Hid (w.heap.size ≤ pb) := Lib.hid (by have := HB1.out.size; omega)
  have HQN : Hid (0 < n → ∀ y, a = some y → y.block ≠ pb) := Lib.hid fun h0 y e => by
    have h9 := row_under H.out h0 y e
    have h8 := HPG.out
    omega
  have HLN : Hid (0 < nb → ∀ y, ab = some y → y.block ≠ pb) := Lib.hid fun h0 y e => by
    have h9 := row_under HLL0.out h0 y e
    have h8 := HPG.out
    omega
  have HQ := Lib.hid (H.out.below HB2.out)
  have HL2 := Lib.hid (HLL0.out.below HB2.out)
  have HPB : Hid (w2.drew.heap[pb]? = some (.cells #[.pointer none, .int .i64 0] 38 (0, 0))) := Lib.hid h2
  clear b2 h2 hpb hg2 H1 HB1 H HLL0 k0 HGW
  refine wp_region_held_drew (S := fun w' => But (w2).heap.size pb w2 w') (by kernel_rfl) (by have h9 := But.refl (w2).heap.size pb w2; exact ⟨h9.os, h9.tape, h9.output, h9.size, h9.block⟩) (fun hHeld => ?_)
  refine take_at (i := 0) (v := ?_) rfl rfl (by kernel_rfl) (by kernel_rfl) (by kernel_rfl) (fun _ _ _ h => h) (Or.inl ⟨by rfl, ?_⟩) (by assumption) ?_
  rotate_left
  · intro w0 hSw; (try dsimp only at hSw); first | (go_simp; done) | (go_simp; with_reducible rfl)
  simp only [List.setIfInBounds_toArray, List.set_cons_zero, List.set_cons_succ]
  refine take_at (i := 1) rfl rfl (by kernel_rfl) (by kernel_rfl) (by kernel_rfl) (fun _ _ _ h => h) (yieldsIf_load_mid (by rfl) _ _ rfl g 0 rfl x.cells _ (fun w0 hSw => rec_whole (r := [.slice a n c]) (range_of (But.heap hSw HG.out HGL.out HGN.out))) Try.underlying25 rfl SLX.out) (by assumption) ?_
  simp only [List.setIfInBounds_toArray, List.set_cons_zero, List.set_cons_succ]
  refine take_at (i := 4) (v := ?_) rfl rfl (by kernel_rfl) (by kernel_rfl) (by kernel_rfl) (fun _ _ _ h => h) (Or.inl ⟨by rfl, ?_⟩) (by assumption) ?_
  rotate_left
  · intro w0 hSw; (try dsimp only at hSw); first | (go_simp; done) | (go_simp; with_reducible rfl)
  simp only [List.setIfInBounds_toArray, List.set_cons_zero, List.set_cons_succ]
  refine take_at (i := 5) rfl rfl (by kernel_rfl) (by kernel_rfl) (by kernel_rfl) (fun _ _ _ h => h) (yields_cell (by rfl) rfl rfl (b := g) (o := 67) (fun w0 hSw => rec_after HX.out (range_of (But.heap hSw HG.out HGL.out HGN.out))) Try.isAgg26) (by assumption) ?_
  simp only [List.setIfInBounds_toArray, List.set_cons_zero, List.set_cons_succ]
  refine wpAnyH_ready (rs := [2]) (by kernel_rfl) (by simp) ?_
  refine AllReadyH.cons rfl (fun K hK => ?_) ?_
  · go_simp
    go_wp2_with ((go_at_call 6; (with_reducible refine (text_law HX.out).mono ?_); rintro e v1 ⟨a1, n1, c1, rfl, hr1, _, hb1⟩; have HR1 := Lib.hid hr1; have HV1 := Lib.hid hb1; clear hr1 hb1))
    have HP1 : Hid (PenAt v1 v1.heap.size pb []) := Lib.hid (.inl ⟨keep HV1.out HPB.out, rfl⟩)
    have HQ1 := Lib.hid ((HQ.out.below (below_drew (Below.refl _ _))).below HV1.out)
    have HZ1 : Hid ((w2).heap.size ≤ v1.heap.size) := Lib.hid HV1.out.size
    rw [TE.out] at HR1
    have HN1 : Hid (n1 ≤ 1000000) := Lib.hid (by have h9 := HR1.out.1; have h8 := HTL.out; omega)
    refine hK.out _ _ (by (try dsimp only); exact But.trans hHeld (But.of HV1.out)) (fun hHeld => ?_)
    clear hK K
    refine wpAnyH_ready (rs := [3]) (by kernel_rfl) (by simp) ?_
    refine AllReadyH.cons rfl (fun K hK => ?_) ?_
    · go_simp
      go_wp2_with ((go_at_call 11; (with_reducible refine (ptext_at _ HR1.out HP1.out (Nat.le_refl _) (row_under HR1.out) HN1.out (Nat.zero_le _)).mono ?_); rintro e v2 ⟨rfl, hp2, hb2⟩; have HP2 := Lib.hid hp2; have HV2 := Lib.hid hb2; clear hp2 hb2))
      have HQ2 := Lib.hid (HQ1.out.but HV2.out (fun h0 b off e => HQN.out h0 _ e))
      have HZ2 : Hid (v1.heap.size ≤ v2.heap.size) := Lib.hid HV2.out.size
      refine hK.out _ _ (by (try dsimp only); exact But.trans hHeld (But.mono HV2.out HZ1.out)) (fun hHeld => ?_)
      clear hK K
      refine wpAnyH_ready (rs := [6]) (by kernel_rfl) (by simp) ?_
      refine AllReadyH.cons rfl (fun K hK => ?_) ?_
      · go_simp
        go_wp2_with ((go_at_call 11; (with_reducible refine (ptext_at _ HQ2.out HP2.out HZ2.out (fun h0 y e => row_under HQ1.out h0 y e) hn6 (by have h8 := HTL.out; have h9 := (numB_len ((TT.length : Nat) : Int)).2; simp only [List.length_append, List.length_nil]; omega)).mono ?_); rintro e v3 ⟨rfl, hp3, hb3⟩; have HP3 := Lib.hid hp3; have HV3 := Lib.hid hb3; clear hp3 hb3))
        refine hK.out _ _ (by (try dsimp only); exact But.trans hHeld (But.mono HV3.out HZ1.out)) (fun hHeld => ?_)
        clear hK K
        refine wpAnyH_ready (rs := [7]) (by kernel_rfl) (by simp) ?_
        refine AllReadyH.cons rfl (fun K hK => ?_) ?_
        · have HLL : Hid ((([] ++ (numB (TT.length : Nat) ++ TT)) ++ (numB (q.length : Nat) ++ q)).length ≤ 140737488355328) := Lib.hid (by have h8 := HTL.out; have h9 := (numB_len ((TT.length : Nat) : Int)).2; have h7 := (numB_len ((q.length : Nat) : Int)).2; have h6 := HQ.out.1; simp only [List.length_append, List.length_nil]; omega)
          have HZ3 : Hid ((w2).heap.size ≤ v3.heap.size) := Lib.hid (by have h9 := HV3.out.size; have h8 := HZ2.out; have h7 := HZ1.out; omega)
          go_simp
          go_wp2_with ((go_at_call 12; (with_reducible refine (bytes_any HP3.out HLL.out).mono ?_); rintro e v4 ⟨a4, n4, c4, rfl, hr4, hf4, hb4⟩; have HR4 := Lib.hid hr4; have HF4 := Lib.hid hf4; have HV4 := Lib.hid hb4; clear hr4 hf4 hb4))
          refine hK.out _ _ (by (try dsimp only); exact But.trans hHeld (But.of (HV4.out.mono HZ3.out))) (fun hHeld => ?_)
          clear hK K
          refine take_at (i := 8) (v := ?_) rfl rfl (by kernel_rfl) (by kernel_rfl) (by kernel_rfl) (fun _ _ _ h => h) (Or.inl ⟨by rfl, ?_⟩) (by assumption) ?_
          rotate_left
          · intro w0 hSw; (try dsimp only at hSw); first | (go_simp; done) | (go_simp; with_reducible rfl)
          simp only [List.setIfInBounds_toArray, List.set_cons_zero, List.set_cons_succ]
          refine wpAnyH_done (by kernel_rfl) ?_ _
          have hg4 := But.heap hHeld HG.out HGL.out HGN.out
          have HQ4 := Lib.hid (HQ.out.but hHeld (fun h0 b off e => HQN.out h0 _ e))
          have HL4 := Lib.hid (HL2.out.but hHeld (fun h0 b off e => HLN.out h0 _ e))
          have HB4 : Hid (Below w.heap.size w v4) := Lib.hid (HB2.out.trans (But.below (But.mono hHeld HB2.out.size) HPG.out))
          have HO4 : Hid (Row v4 a4 n4 c4 SB) := Lib.hid (by rw [OUT.out]; exact HR4.out)
          have RG4 : Hid (∀ W : World, Below v4.heap.size v4 W → W.rangeAt g 0 (sigCells x a n c)) := Lib.hid fun W hW => range_of (keep hW hg4)
          clear hHeld hg4 HG HGL HGN HQ HL2 HPB HR4 HR1 HP1 HQ1 HZ1 HN1 HP2 HV2 HQ2 HZ2 HP3 HV3 HLL HZ3 HF4 HV4 HV1 HPG HQN HLN
          go_wp2_with fail
          refine (HGB.out _ _ _ _ HO4.out).mono ?_
          rintro e w4 ⟨a1, n1, c1, rfl, hr, hb⟩
          have HB4b := Lib.hid (bthen HB4.out hb)
          have HS4 := Lib.hid hr
          have HL4b := Lib.hid (HL4.out.below hb)
          have HQ4b := Lib.hid (HQ4.out.below hb)
          have HO4b := Lib.hid (HO4.out.below hb)
          have RG4b : Hid (∀ W : World, Below w4.heap.size w4 W → W.rangeAt g 0 (sigCells x a n c)) := Lib.hid fun W hW => RG4.out _ (bthen hb hW)
          clear hb hr HB4 HL4 HQ4 HO4 RG4 HGB OUT
          have SGA1 := Lib.hid (sig_sizeA HXI1.out a1 n1 c1)
          have SGZ1 := Lib.hid (sig_zero HXI1.out a1 n1 c1)
          go_upto_region 6 with (first | (refine wpList_new rfl 35 rfl noSig.toArray Try.infoSig ?_; intro g7 w_n hg_n h_n b_n; have HNV := Lib.hid h_n; have HNB := Lib.hid b_n; have HNG := Lib.hid hg_n; clear h_n b_n hg_n; go_frame) | (refine wpList_store_row rfl 35 _ _ rfl g7 (sigCells X1 a1 n1 c1).toArray rfl rfl 35 noSig.toArray HNV.out SGA1.out SGZ1.out (all_oneCell_toArray (sig_one _ _ _ _)) ?_) | fail)
          have h_s := setRow_heap w_n g7 noSig.toArray (sigCells X1 a1 n1 c1).toArray 35 (0, 0) HNV.out
          have b_s := But.in HNB.out (but_setRow w_n g7 (sigCells X1 a1 n1 c1).toArray) HNG.out
          revert h_s b_s
          generalize w_n.setRow g7 (sigCells X1 a1 n1 c1).toArray = w5
          intro h_s b_s
          clear HNV HNB HNG
          have HB5 := Lib.hid (bthen HB4b.out b_s)
          have HL5 := Lib.hid (HL4b.out.below b_s)
          have HQ5 := Lib.hid (HQ4b.out.below b_s)
          have HO5 := Lib.hid (HO4b.out.below b_s)
          have HS5 := Lib.hid (HS4.out.below b_s)
          have RG5 : Hid (∀ W : World, Below w5.heap.size w5 W → W.rangeAt g 0 (sigCells x a n c)) := Lib.hid fun W hW => RG4b.out _ (bthen b_s hW)
          have RH5 : Hid (∀ W : World, Below w5.heap.size w5 W → W.rangeAt g7 0 (sigCells X1 a1 n1 c1)) := Lib.hid fun W hW => range_of (keep hW h_s)
          clear h_s b_s HB4b HL4b HQ4b HO4b HS4 RG4b SGA1 SGZ1
          refine wp_region_held_drew (S := fun w' => Below w5.heap.size w5 w') (by kernel_rfl) (below_drew (Below.refl _ _)) (fun hHeld => ?_)
          refine take_at (i := 0) rfl rfl (by kernel_rfl) (by kernel_rfl) (by kernel_rfl) (fun _ _ _ h => h) (yieldsIf_load_mid (by rfl) _ _ rfl g 0 rfl (sigCells x a n c) _ (fun w0 hSw => RG5.out _ hSw) Try.underlying35 rfl SGX.out) (by assumption) ?_
          simp only [List.setIfInBounds_toArray, List.set_cons_zero, List.set_cons_succ]
          refine take_at (i := 3) (v := ?_) rfl rfl (by kernel_rfl) (by kernel_rfl) (by kernel_rfl) (fun _ _ _ h => h) (Or.inl ⟨by rfl, ?_⟩) (by assumption) ?_
          rotate_left
          · intro w0 hSw; (try dsimp only at hSw); first | (go_simp; done) | (go_simp; with_reducible rfl)
          simp only [List.setIfInBounds_toArray, List.set_cons_zero, List.set_cons_succ]
          refine take_at (i := 4) rfl rfl (by kernel_rfl) (by kernel_rfl) (by kernel_rfl) (fun _ _ _ h => h) (yields_conv (by rfl) rfl (by rfl) HSO.out (fun w0 hSw => HO5.out.below hSw)) (by assumption) ?_
          simp only [List.setIfInBounds_toArray, List.set_cons_zero, List.set_cons_succ]
          refine wpAnyH_ready (rs := [1]) (by kernel_rfl) (by simp) ?_
          refine AllReadyH.cons rfl (fun K hK => ?_) ?_
          · go_simp
            go_wp2_with ((go_at_call 14; (with_reducible refine (HPU.out _ (HQ5.out.below hHeld)).mono ?_); rintro e y1 ⟨a_y1, n_y1, c_y1, rfl, hr, _, hb⟩; have HRy1 := Lib.hid hr; have HBy1 := Lib.hid hb; clear hr hb))
            refine hK.out _ _ (by (try dsimp only); exact Below.trans hHeld (HBy1.out.mono (Below.size hHeld))) (fun hHeld => ?_)
            clear hK K
            refine wpAnyH_ready (rs := [2]) (by kernel_rfl) (by simp) ?_
            refine AllReadyH.cons rfl (fun K hK => ?_) ?_
            · refine step_conv (d := 36) rfl (by rfl) rfl (by rfl) HSO.out HRy1.out ?_
              refine hK.out _ _ (by (try dsimp only); exact hHeld) (fun hHeld => ?_)
              clear hK K
              refine take_at (i := 5) (v := .bool false) rfl rfl (by kernel_rfl) (by kernel_rfl) (by kernel_rfl) (fun _ _ _ h => h) (Or.inl ⟨by rfl, ?_⟩) (by assumption) ?_
              · intro w0 hSw; (try dsimp only at hSw); first | (go_simp; done) | (go_simp; with_reducible rfl) | (go_simp; omega)
              simp only [List.setIfInBounds_toArray, List.set_cons_zero, List.set_cons_succ]
              refine wpAnyH_done (by kernel_rfl) ?_ _
              have HST := Lib.hid (show Below w5.heap.size w5 y1 from hHeld)
              clear hHeld
              have HB6 := Lib.hid (bthen HB5.out HST.out)
              have RG6 : Hid (∀ W : World, Below y1.heap.size y1 W → W.rangeAt g 0 (sigCells x a n c)) := Lib.hid fun W hW => RG5.out _ (bthen HST.out hW)
              have RH6 : Hid (∀ W : World, Below y1.heap.size y1 W → W.rangeAt g7 0 (sigCells X1 a1 n1 c1)) := Lib.hid fun W hW => RH5.out _ (bthen HST.out hW)
              have HQ6 := Lib.hid (HQ5.out.below HST.out)
              have HL6 := Lib.hid (HL5.out.below HST.out)
              have HS6 := Lib.hid (HS5.out.below HST.out)
              have RWx := Lib.hid (rec_whole (RG6.out _ (Below.refl _ _)))
              clear HST RG5 RH5 HQ5 HL5 HS5 HO5 HB5 HRy1 HBy1 HPU HSO SGX
              go_upto_region 8 with (fail)
              go_cut [62] from 40 to 62 (fun u w' => u = .bool false ∧ Below y1.heap.size y1 w')
              case first =>
                cases R
                · go_wp2_with (first | (refine wpList_load_mid rfl 25 _ rfl g 0 rfl x.cells _ RWx.out Try.underlying25 rfl SLX.out ?_) | fail)
                  refine (HRL.out _).mono ?_
                  rintro e w6 ⟨rfl, hb⟩
                  have HBb := Lib.hid hb
                  clear hb
                  go_wp2_with fail
                  go_meet
                  exact ⟨rfl, HBb.out⟩
                · obtain ⟨rfl, rfl, rfl⟩ := HOK.out rfl
                  go_wp2_with (first | (refine wpList_load_mid rfl 25 _ rfl g 0 rfl X1.cells _ RWx.out Try.underlying25 rfl SLX.out ?_) | fail)
                  refine (HRL.out _).mono ?_
                  rintro e w6 ⟨rfl, hb⟩
                  have HBb := Lib.hid hb
                  have RWy := Lib.hid (rec_whole (RG6.out _ hb))
                  have RWz := Lib.hid (rec_whole (RH6.out _ hb))
                  have k1 := rec_after HX.out (RG6.out _ hb)
                  have k2 := rec_after HX.out (RH6.out _ hb)
                  have v1 := conv_row (HQ6.out.below hb)
                  have v2 := conv_row (HS6.out.below hb)
                  rw [HSQ.out] at v1 v2
                  clear hb
                  go_wp2_with (first | (refine wpList_mid_wanted (by rfl) 25 _ rfl g7 0 rfl X1.cells _ RWz.out Try.underlying25 rfl SLX.out ?_) | (refine wpList_mid_wanted (by rfl) 25 _ rfl g 0 rfl X1.cells _ RWy.out Try.underlying25 rfl SLX.out ?_) | fail)
                  go_meet
                  exact ⟨rfl, HBb.out⟩
              case rest =>
                obtain ⟨rfl, hb⟩ := hcut
                have HB7 := Lib.hid (bthen HB6.out hb)
                have HL7 := Lib.hid (HL6.out.below hb)
                clear hb RG6 RH6 HQ6 HL6 HS6 RWx HB6 HOK HX SLX qe
                go_wp2_with fail
                refine (HGQ.out _ HL7.out).mono ?_
                rintro e w7 ⟨a3, n3, c3, rfl, hr, hb⟩
                have HB7b := Lib.hid (bthen HB7.out hb)
                have HS7 := Lib.hid hr
                have HL7b := Lib.hid (HL7.out.below hb)
                clear hb hr HL7 HB7 HGQ
                have SG2 := Lib.hid (sig_size HXI2.out a3 n3 c3)
                have SGA2 := Lib.hid (sig_sizeA HXI2.out a3 n3 c3)
                have SGZ2 := Lib.hid (sig_zero HXI2.out a3 n3 c3)
                go_upto_region 11 with (first | (refine wpList_new rfl 35 rfl noSig.toArray Try.infoSig ?_; intro g9 w_n hg_n h_n b_n; have HNV := Lib.hid h_n; have HNB := Lib.hid b_n; have HNG := Lib.hid hg_n; clear h_n b_n hg_n; go_frame) | (refine wpList_store_row rfl 35 _ _ rfl g9 (sigCells X2 a3 n3 c3).toArray rfl rfl 35 noSig.toArray HNV.out SGA2.out SGZ2.out (all_oneCell_toArray (sig_one _ _ _ _)) ?_) | fail)
                have h_s := setRow_heap w_n g9 noSig.toArray (sigCells X2 a3 n3 c3).toArray 35 (0, 0) HNV.out
                have b_s := But.in HNB.out (but_setRow w_n g9 (sigCells X2 a3 n3 c3).toArray) HNG.out
                revert h_s b_s
                generalize w_n.setRow g9 (sigCells X2 a3 n3 c3).toArray = w8
                intro h_s b_s
                clear HNV HNB HNG
                have HB8 := Lib.hid (bthen HB7b.out b_s)
                have HL8 := Lib.hid (HL7b.out.below b_s)
                have HS8 := Lib.hid (HS7.out.below b_s)
                have RH8 : Hid (∀ W : World, Below w8.heap.size w8 W → W.rangeAt g9 0 (sigCells X2 a3 n3 c3)) := Lib.hid fun W hW => range_of (keep hW h_s)
                clear h_s b_s HB7b HL7b HS7 SGA2 SGZ2
                by_cases h0 : E2 = 0
                · subst h0
                  have hb : ((0 : Int) != 0) = false := by decide
                  have HPW : Hid (∀ W : World, Row W a3 n3 c3 S2 → Calls Try.prog 14 #[.agg (sigCells X2 a3 n3 c3).toArray] W (TextOut W l)) := Lib.hid fun W hr => by
                    have h9 := recput_any HXI2.out hr (by have h8 := hr.1; have h7 := HS2L.out; omega)
                    rw [HY2.out rfl] at h9
                    exact h9
                  clear HN2 HY2
                  go_upto_region 13 with (fail)
                  refine wp_region_held_drew (S := fun w' => Below w8.heap.size w8 w') (by kernel_rfl) (below_drew (Below.refl _ _)) (fun hHeld => ?_)
                  refine take_at (i := 0) (v := ?_) rfl rfl (by kernel_rfl) (by kernel_rfl) (by kernel_rfl) (fun _ _ _ h => h) (Or.inl ⟨by rfl, ?_⟩) (by assumption) ?_
                  rotate_left
                  · intro w0 hSw; (try dsimp only at hSw); first | (go_simp; done) | (go_simp; with_reducible rfl)
                  simp only [List.setIfInBounds_toArray, List.set_cons_zero, List.set_cons_succ]
                  refine take_at (i := 1) rfl rfl (by kernel_rfl) (by kernel_rfl) (by kernel_rfl) (fun _ _ _ h => h) (yieldsIf_load_mid (by rfl) _ _ rfl g9 0 rfl X2.cells _ (fun w0 hSw => rec_whole (RH8.out _ hSw)) Try.underlying25 rfl SX2.out) (by assumption) ?_
                  simp only [List.setIfInBounds_toArray, List.set_cons_zero, List.set_cons_succ]
                  refine wpAnyH_ready (rs := [2]) (by kernel_rfl) (by simp) ?_
                  refine AllReadyH.cons rfl (fun K hK => ?_) ?_
                  · go_simp
                    go_wp2_with ((go_at_call 9; (with_reducible refine (HR2.out _).mono ?_); rintro e y2 ⟨rfl, hb⟩; have HBy2 := Lib.hid hb; clear hb))
                    refine hK.out _ _ (by (try dsimp only); exact Below.trans hHeld (HBy2.out.mono (Below.size hHeld))) (fun hHeld => ?_)
                    clear hK K
                    refine take_at (i := 3) (v := ?_) rfl rfl (by kernel_rfl) (by kernel_rfl) (by kernel_rfl) (fun _ _ _ h => h) (Or.inl ⟨by rfl, ?_⟩) (by assumption) ?_
                    rotate_left
                    · intro w0 hSw; (try dsimp only at hSw); first | (go_simp; done) | (go_simp; with_reducible rfl)
                    simp only [List.setIfInBounds_toArray, List.set_cons_zero, List.set_cons_succ]
                    refine take_at (i := 4) rfl rfl (by kernel_rfl) (by kernel_rfl) (by kernel_rfl) (fun _ _ _ h => h) (yieldsIf_load_mid (by rfl) _ _ rfl g9 0 rfl (sigCells X2 a3 n3 c3) _ (fun w0 hSw => RH8.out _ hSw) Try.underlying35 rfl SG2.out) (by assumption) ?_
                    simp only [List.setIfInBounds_toArray, List.set_cons_zero, List.set_cons_succ]
                    refine take_at (i := 7) (v := ?_) rfl rfl (by kernel_rfl) (by kernel_rfl) (by kernel_rfl) (fun _ _ _ h => h) (Or.inl ⟨by rfl, ?_⟩) (by assumption) ?_
                    rotate_left
                    · intro w0 hSw; (try dsimp only at hSw); first | (go_simp; done) | (go_simp; with_reducible rfl)
                    simp only [List.setIfInBounds_toArray, List.set_cons_zero, List.set_cons_succ]
                    refine take_at (i := 8) rfl rfl (by kernel_rfl) (by kernel_rfl) (by kernel_rfl) (fun _ _ _ h => h) (yields_conv (by rfl) rfl (by rfl) HSL.out (fun w0 hSw => HL8.out.below hSw)) (by assumption) ?_
                    simp only [List.setIfInBounds_toArray, List.set_cons_zero, List.set_cons_succ]
                    refine wpAnyH_ready (rs := [5]) (by kernel_rfl) (by simp) ?_
                    refine AllReadyH.cons rfl (fun K hK => ?_) ?_
                    · go_simp
                      go_wp2_with ((go_at_call 14; (with_reducible refine (HPW.out _ (HS8.out.below hHeld)).mono ?_); rintro e y5 ⟨a_y5, n_y5, c_y5, rfl, hr, _, hb⟩; have HRy5 := Lib.hid hr; have HBy5 := Lib.hid hb; clear hr hb))
                      refine hK.out _ _ (by (try dsimp only); exact Below.trans hHeld (HBy5.out.mono (Below.size hHeld))) (fun hHeld => ?_)
                      clear hK K
                      refine wpAnyH_ready (rs := [6]) (by kernel_rfl) (by simp) ?_
                      refine AllReadyH.cons rfl (fun K hK => ?_) ?_
                      · refine step_conv (d := 89) rfl (by rfl) rfl (by rfl) HSL.out HRy5.out ?_
                        refine hK.out _ _ (by (try dsimp only); exact hHeld) (fun hHeld => ?_)
                        clear hK K
                        refine take_at (i := 9) (v := .bool true) rfl rfl (by kernel_rfl) (by kernel_rfl) (by kernel_rfl) (fun _ _ _ h => h) (Or.inl ⟨by rfl, ?_⟩) (by assumption) ?_
                        · intro w0 hSw; (try dsimp only at hSw); first | (go_simp; done) | (go_simp; with_reducible rfl) | (go_simp; omega)
                        simp only [List.setIfInBounds_toArray, List.set_cons_zero, List.set_cons_succ]
                        refine take_at (i := 10) (v := ?_) rfl rfl (by kernel_rfl) (by kernel_rfl) (by kernel_rfl) (fun _ _ _ h => h) (Or.inl ⟨by rfl, ?_⟩) (by assumption) ?_
                        rotate_left
                        · intro w0 hSw; (try dsimp only at hSw); first | (go_simp; done) | (go_simp; with_reducible rfl)
                        simp only [List.setIfInBounds_toArray, List.set_cons_zero, List.set_cons_succ]
                        refine take_at (i := 11) (v := ?_) rfl rfl (by kernel_rfl) (by kernel_rfl) (by kernel_rfl) (fun _ _ _ h => h) (Or.inl ⟨by rfl, ?_⟩) (by assumption) ?_
                        rotate_left
                        · intro w0 hSw; (try dsimp only at hSw); first | (go_simp; done) | (go_simp; with_reducible rfl)
                        simp only [List.setIfInBounds_toArray, List.set_cons_zero, List.set_cons_succ]
                        refine wpAnyH_ready (rs := [12]) (by kernel_rfl) (by simp) ?_
                        refine AllReadyH.cons rfl (fun K hK => ?_) ?_
                        · go_simp
                          go_wp2_with ((go_at_call 10; (with_reducible refine (HAW.out _).mono ?_); rintro e y12 ⟨rfl, hb⟩; have HBy12 := Lib.hid hb; clear hb))
                          refine hK.out _ _ (by (try dsimp only); exact Below.trans hHeld (HBy12.out.mono (Below.size hHeld))) (fun hHeld => ?_)
                          clear hK K
                          refine take_at (i := 13) (v := ?_) rfl rfl (by kernel_rfl) (by kernel_rfl) (by kernel_rfl) (fun _ _ _ h => h) (Or.inl ⟨by rfl, ?_⟩) (by assumption) ?_
                          rotate_left
                          · intro w0 hSw; (try dsimp only at hSw); first | (go_simp; done) | (go_simp; with_reducible rfl)
                          simp only [List.setIfInBounds_toArray, List.set_cons_zero, List.set_cons_succ]
                          refine take_at (i := 14) (v := ?_) rfl rfl (by kernel_rfl) (by kernel_rfl) (by kernel_rfl) (fun _ _ _ h => h) (Or.inl ⟨by rfl, ?_⟩) (by assumption) ?_
                          rotate_left
                          · intro w0 hSw; (try dsimp only at hSw); first | (go_simp; done) | (go_simp; with_reducible rfl)
                          simp only [List.setIfInBounds_toArray, List.set_cons_zero, List.set_cons_succ]
                          refine wpAnyH_done (by kernel_rfl) ?_ _
                          have HST := Lib.hid (show Below w8.heap.size w8 y12 from hHeld)
                          clear hHeld
                          go_wp2_with fail
                          go_ret
                          exact ⟨rfl, bthen HB8.out HST.out⟩
                        exact AllReadyH.nil
                      exact AllReadyH.nil
                    exact AllReadyH.nil
                  exact AllReadyH.nil
                · have hb : (E2 != 0) = true := by simpa using h0
                  obtain ⟨rfl, rfl⟩ := HN2.out h0
                  clear h0 HN2 HY2
                  obtain rfl := row_none HS8.out
                  have qz := fun W : World => run_eqRecs noRec noRec noRec_in noRec_in W
                  rw [recEq_same] at qz
                  have RWn := Lib.hid (rec_whole (RH8.out _ (Below.refl _ _)))
                  have k3 := rec_after noRec_in (RH8.out _ (Below.refl _ _))
                  go_wp2_with (first | (refine wpList_load_mid rfl 25 _ rfl g9 0 rfl noRec.cells _ RWn.out Try.underlying25 rfl SLN.out ?_) | (refine wpList_build10 rfl rfl (vs := []) (by rfl) build_rec0 ?_) | (go_at_call 10; (with_reducible refine (HAW.out _).mono ?_); rintro e wz ⟨rfl, hb⟩; have HBZ := Lib.hid hb; clear hb) | fail)
                  go_ret
                  exact ⟨rfl, bthen HB8.out HBZ.out⟩
            exact AllReadyH.nil
          exact AllReadyH.nil
        exact AllReadyH.nil
      exact AllReadyH.nil
    exact AllReadyH.nil
  exact AllReadyH.nil
end Go.Proofs.Ytfccmiohnjhkoaa
