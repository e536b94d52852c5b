/- What package proof's Put comes to. -/
import Derived.Test.YtcmdpmialehjgaaGreatDoorWhyPlain
import Derived.Test.YtcmdpmialehjgaaGreatDoorRecr
import Derived.Test.YtcmdpmialehjgaaGreatDoorWire
import Derived.Test.YtcmdpmialehjgaaGreatDoorSteps
import Derived.Test.YtcmdpmialehjgaaGreatDoorMemory
namespace Go.Proofs.YtcmdpmialehjgaaGreatDoor
open Go.RowKit

/-- The error that Put tells. -/
def putE (x : PPrf) : Int := if recOk x.r && (decide (x.sn ≤ 65536) && decide (x.bn ≤ 65536)) then (if (prfB x).length ≤ 65536 then 0 else 3) else 1
def PutOut (w : World) (x : PPrf) (e : Ending) (w' : World) : Prop := ∃ (a : Option Addr) (n c : Nat), e = .returned (.tuple #[.slice a n c, .int .i64 (putE x)]) ∧ Row w' a n c (if putE x = 0 then prfB x else []) ∧ Below w.heap.size w w'
theorem row_under17 {w : World} {a : Option Addr} {n c : Nat} {l : List UInt8} (h : Row w a n c l) : 0 < n → ∀ x, a = some x → x.block < w.heap.size := fun h0 x e => by
  obtain ⟨b, off, e2, hlt, _⟩ := h.2.2.2.2 h0
  rw [e] at e2
  cases e2
  exact hlt
/-- A proof's bytes, as a pen writes them. -/
theorem prfB_pen {x : PPrf} {TT : List UInt8} (h : textB x.r = TT) : prfB x = ((([] ++ (numB (TT.length : Nat) ++ TT)) ++ (numB (x.sig.length : Nat) ++ x.sig)) ++ (numB (x.blob.length : Nat) ++ x.blob)) ++ x.commit := by
  subst h
  simp [prfB]
set_option linter.unusedSimpArgs false in
set_option maxRecDepth 100000 in
set_option maxHeartbeats 12800000 in
theorem put17_any {w : World} {p : PPrf} (hp : PrfIn w p) : Calls Tryz.prog 7 #[.agg p.cells.toArray] w (PutOut w p) := by
  obtain ⟨E, hE⟩ : ∃ E, putE p = E := ⟨_, rfl⟩
  obtain ⟨V, hV⟩ : ∃ V, recOk p.r = V := ⟨_, rfl⟩
  obtain ⟨TT, hTT⟩ : ∃ TT, textB p.r = TT := ⟨_, rfl⟩
  have htl := textB_len hp.r
  have GO : Hid (∀ (e : Ending) (w' : World), (∃ (a : Option Addr) (n c : Nat), e = .returned (.tuple #[.slice a n c, .int .i64 E]) ∧ Row w' a n c (if E = 0 then prfB p else []) ∧ Below w.heap.size w w') → PutOut w p e w') := Lib.hid fun e w' h => by
    unfold PutOut
    rw [hE]
    exact h
  have K1 : Hid (V = false → E = 1) := Lib.hid fun h => by rw [← hE]; unfold putE; rw [hV, h]; rfl
  have K2 : Hid (65536 < p.sn → E = 1) := Lib.hid fun h => by rw [← hE]; unfold putE; rw [decide_eq_false (show ¬ p.sn ≤ 65536 by omega)]; simp
  have K3 : Hid (65536 < p.bn → E = 1) := Lib.hid fun h => by rw [← hE]; unfold putE; rw [decide_eq_false (show ¬ p.bn ≤ 65536 by omega)]; simp
  have K4 : Hid (V = true → p.sn ≤ 65536 → p.bn ≤ 65536 → 65536 < (prfB p).length → E = 3) := Lib.hid fun h h2 h3 h4 => by rw [← hE]; unfold putE; rw [hV, h, decide_eq_true h2, decide_eq_true h3, if_neg (show ¬ (prfB p).length ≤ 65536 by omega)]; rfl
  have K5 : Hid (V = true → p.sn ≤ 65536 → p.bn ≤ 65536 → (prfB p).length ≤ 65536 → E = 0) := Lib.hid fun h h2 h3 h4 => by rw [← hE]; unfold putE; rw [hV, h, decide_eq_true h2, decide_eq_true h3, if_pos h4]; rfl
  have HRT : Hid (∀ W : World, Calls Tryz.prog 8 #[.agg p.r.cells.toArray] W fun e w' => e = .returned (.bool V) ∧ Below W.heap.size W w') := Lib.hid fun W => by rw [← hV]; exact recright_any W p.r
  have n63 : (p.sn : Int) ≤ 9223372036854775807 := by have h1 := hp.sig.2.1; have h2 := hp.sig.2.2.1; unfold maxLen at h2; omega
  have b63 : (p.bn : Int) ≤ 9223372036854775807 := by have h1 := hp.blob.2.1; have h2 := hp.blob.2.2.1; unfold maxLen at h2; omega
  have TE := Lib.hid hTT
  have HTT : Hid (TT.length ≤ 91) := Lib.hid (by rw [← hTT]; exact htl)
  have HRI := Lib.hid hp.r
  have HCL := Lib.hid hp.commit
  have SZRC := Lib.hid (rec_size hp.r)
  have SXC := Lib.hid (sumLen17 hp.commit)
  have HPI := Lib.hid hp
  clear hE hV hTT htl hp
  go_enter Tryz.func7, Tryz.ntmps7
  go_upto_region 1 with (fail)
  have b1 : Below w.heap.size w (w.alloc (.cells p.cells.toArray 28)) := (Below.refl _ _).alloc (Nat.le_refl _) _
  have h1 := heap_alloc_new w (.cells p.cells.toArray 28)
  revert b1 h1
  generalize (w.alloc (.cells p.cells.toArray 28)) = w1
  obtain ⟨g, hg⟩ : ∃ g, g = w.heap.size := ⟨_, rfl⟩
  rw [← hg]
  intro b1 h1
  rw [hg] at b1
  have HB1 := Lib.hid b1
  have H1 := Lib.hid h1
  have HGW : Hid (w.heap.size ≤ g) := Lib.hid (by omega)
  have rp1 := Lib.hid (prf_rec (range_of h1))
  have k1 : w1.cell? ⟨g, 67, none⟩ = some (.slice p.sa p.sn p.sc) := prf_sig HRI.out (range_of h1)
  have k2 : w1.cell? ⟨g, 68, none⟩ = some (.slice p.ba p.bn p.bc) := prf_blob HRI.out (range_of h1)
  clear b1 h1 hg
  cases V
  · have HE := Lib.hid (K1.out rfl)
    clear K1 K2 K3 K4 K5
    go_wp2_with (first | (refine wpList_load_mid rfl 25 _ rfl g 0 rfl p.r.cells _ rp1.out Tryz.underlying25 rfl SZRC.out ?_) | (go_at_call 8; (with_reducible refine (HRT.out _).mono ?_); rintro e w2 ⟨rfl, hb⟩; have HB2 := Lib.hid (bthen HB1.out hb); have H2 := Lib.hid (keep hb H1.out); have k1 : w2.cell? ⟨g, 67, none⟩ = some (.slice p.sa p.sn p.sc) := prf_sig HRI.out (range_of H2.out); have k2 : w2.cell? ⟨g, 68, none⟩ = some (.slice p.ba p.bn p.bc) := prf_blob HRI.out (range_of H2.out); clear hb) | fail)
    go_ret2
    exact GO.out _ _ ⟨none, 0, 0, by rw [HE.out] <;> rfl, by rw [HE.out, if_neg (by decide)]; exact Row.nil _, HB2.out⟩
  · by_cases e1 : 65536 < (p.sn : Int)
    · have HE := Lib.hid (K2.out (by omega))
      clear K1 K2 K3 K4 K5
      go_wp2_with (first | (refine wpList_load_mid rfl 25 _ rfl g 0 rfl p.r.cells _ rp1.out Tryz.underlying25 rfl SZRC.out ?_) | (go_at_call 8; (with_reducible refine (HRT.out _).mono ?_); rintro e w2 ⟨rfl, hb⟩; have HB2 := Lib.hid (bthen HB1.out hb); have H2 := Lib.hid (keep hb H1.out); have k1 : w2.cell? ⟨g, 67, none⟩ = some (.slice p.sa p.sn p.sc) := prf_sig HRI.out (range_of H2.out); have k2 : w2.cell? ⟨g, 68, none⟩ = some (.slice p.ba p.bn p.bc) := prf_blob HRI.out (range_of H2.out); clear hb) | fail)
      go_ret2
      exact GO.out _ _ ⟨none, 0, 0, by rw [HE.out] <;> rfl, by rw [HE.out, if_neg (by decide)]; exact Row.nil _, HB2.out⟩
    by_cases e2 : 65536 < (p.bn : Int)
    · have HE := Lib.hid (K3.out (by omega))
      clear K1 K2 K3 K4 K5
      go_wp2_with (first | (refine wpList_load_mid rfl 25 _ rfl g 0 rfl p.r.cells _ rp1.out Tryz.underlying25 rfl SZRC.out ?_) | (go_at_call 8; (with_reducible refine (HRT.out _).mono ?_); rintro e w2 ⟨rfl, hb⟩; have HB2 := Lib.hid (bthen HB1.out hb); have H2 := Lib.hid (keep hb H1.out); have k1 : w2.cell? ⟨g, 67, none⟩ = some (.slice p.sa p.sn p.sc) := prf_sig HRI.out (range_of H2.out); have k2 : w2.cell? ⟨g, 68, none⟩ = some (.slice p.ba p.bn p.bc) := prf_blob HRI.out (range_of H2.out); clear hb) | fail)
      go_ret2
      exact GO.out _ _ ⟨none, 0, 0, by rw [HE.out] <;> rfl, by rw [HE.out, if_neg (by decide)]; exact Row.nil _, HB2.out⟩
    have K6 := Lib.hid (K4.out rfl (by omega) (by omega))
    have K7 := Lib.hid (K5.out rfl (by omega) (by omega))
    clear K1 K2 K3 K4 K5
    go_upto_region 4 with (first | (refine wpList_load_mid rfl 25 _ rfl g 0 rfl p.r.cells _ rp1.out Tryz.underlying25 rfl SZRC.out ?_) | (go_at_call 8; (with_reducible refine (HRT.out _).mono ?_); rintro e w2 ⟨rfl, hb⟩; have HB2 := Lib.hid (bthen HB1.out hb); have H2 := Lib.hid (keep hb H1.out); have k1 : w2.cell? ⟨g, 67, none⟩ = some (.slice p.sa p.sn p.sc) := prf_sig HRI.out (range_of H2.out); have k2 : w2.cell? ⟨g, 68, none⟩ = some (.slice p.ba p.bn p.bc) := prf_blob HRI.out (range_of H2.out); clear hb) | fail)
    have hsn : p.sn ≤ 100000 := by omega
    have hbn : p.bn ≤ 100000 := by omega
    have b2 : Below w2.heap.size w2 (w2.alloc (.cells #[.pointer none, .int .i64 0] 36)) := (Below.refl _ _).alloc (Nat.le_refl _) _
    have h2 := heap_alloc_new w2 (.cells #[.pointer none, .int .i64 0] 36)
    revert b2 h2
    generalize (w2.alloc (.cells #[.pointer none, .int .i64 0] 36)) = w3
    obtain ⟨pb, hpb⟩ : ∃ pb, pb = w2.heap.size := ⟨_, rfl⟩
    rw [← hpb]
    intro b2 h2
    rw [hpb] at b2
    have hg2 := keep b2 H2.out
    have HB3 := Lib.hid (bthen HB2.out b2)
    have HG := Lib.hid hg2
    have HGL := Lib.hid (lt_of_block hg2)
    have HGN : Hid (g ≠ pb) := Lib.hid (by have := lt_of_block H2.out; omega)
    have HPG : Hid (w.heap.size ≤ pb) := Lib.hid (by have := HB2.out.size; omega)
    have HSN : Hid (0 < p.sn → ∀ y, p.sa = some y → y.block ≠ pb) := Lib.hid fun h0 y e => by
      have h9 := row_under17 HPI.out.sig h0 y e
      have h8 := HPG.out
      omega
    have HBN : Hid (0 < p.bn → ∀ y, p.ba = some y → y.block ≠ pb) := Lib.hid fun h0 y e => by
      have h9 := row_under17 HPI.out.blob h0 y e
      have h8 := HPG.out
      omega
    have HSL : Hid (p.sig.length = p.sn) := Lib.hid HPI.out.sig.1
    have HBL : Hid (p.blob.length = p.bn) := Lib.hid HPI.out.blob.1
    have HQS := Lib.hid (HPI.out.sig.below HB3.out)
    have HQB := Lib.hid (HPI.out.blob.below HB3.out)
    have HPB : Hid (w3.drew.heap[pb]? = some (.cells #[.pointer none, .int .i64 0] 36 (0, 0))) := Lib.hid h2
    clear b2 h2 hpb hg2 k1 k2 rp1 e1 e2 HB1 H1 H2
    refine wp_region_held_drew (S := fun w' => But (w3).heap.size pb w3 w') (by kernel_rfl) (by have h9 := But.refl (w3).heap.size pb w3; exact ⟨h9.os, h9.tape, h9.output, h9.size, h9.block⟩) (fun hHeld => ?_)
    refine tkP 0 rfl rfl ?_
    refine tkA 1 rfl rfl (yieldsIf_load_mid (by rfl) _ _ rfl g 0 rfl p.r.cells _ (fun w0 hSw => prf_rec (range_of (But.heap hSw HG.out HGL.out HGN.out))) Tryz.underlying25 rfl SZRC.out) ?_
    refine tkP 4 rfl rfl ?_
    refine tkA 5 rfl rfl (yields_cell (by rfl) rfl rfl (b := g) (o := 67) (fun w0 hSw => prf_sig HRI.out (range_of (But.heap hSw HG.out HGL.out HGN.out))) Tryz.isAgg26) ?_
    refine tkP 7 rfl rfl ?_
    refine tkA 8 rfl rfl (yields_cell (by rfl) rfl rfl (b := g) (o := 68) (fun w0 hSw => prf_blob HRI.out (range_of (But.heap hSw HG.out HGL.out HGN.out))) Tryz.isAgg26) ?_
    refine tkP 10 rfl rfl ?_
    refine tkA 11 rfl rfl (yieldsIf_load_mid (by rfl) _ _ rfl g 69 rfl (cellsOf p.commit) _ (fun w0 hSw => prf_commit HRI.out (range_of (But.heap hSw HG.out HGL.out HGN.out))) Tryz.underlying23 rfl SXC.out) ?_
    refine tkR 2 rfl (fun K hK => ?_)
    go_simp
    go_wp2_with ((go_at_call 10; (with_reducible refine (text_any HRI.out).mono ?_); rintro e v1 ⟨a1, n1, c1, rfl, hr1, _, hb1⟩; have HR1 := Lib.hid hr1; have HV1 := Lib.hid hb1; clear hr1 hb1))
    have HPv1 : Hid (PenAt v1 v1.heap.size pb []) := Lib.hid (.inl ⟨keep HV1.out HPB.out, rfl⟩)
    have HQS1 := Lib.hid ((HQS.out.below (below_drew (Below.refl _ _))).below HV1.out)
    have HQB1 := Lib.hid ((HQB.out.below (below_drew (Below.refl _ _))).below HV1.out)
    have HZ1 : Hid ((w3).heap.size ≤ v1.heap.size) := Lib.hid HV1.out.size
    rw [TE.out] at HR1
    have HN1 : Hid (n1 ≤ 1000000) := Lib.hid (by have h9 := HR1.out.1; have h8 := HTT.out; omega)
    refine hK.out _ _ (by (try dsimp only); exact But.trans hHeld (But.of HV1.out)) (fun hHeld => ?_)
    clear hK K
    refine tkR 3 rfl (fun K hK => ?_)
    go_simp
    go_wp2_with ((go_at_call 9; (with_reducible refine (ptext_at _ HR1.out HPv1.out (Nat.le_refl _) (row_under17 HR1.out) HN1.out (Nat.zero_le _)).mono ?_); rintro e v2 ⟨rfl, hp, hb⟩; have HPv2 := Lib.hid hp; have HVv2 := Lib.hid hb; clear hp hb))
    have HQS2 := Lib.hid (HQS1.out.but HVv2.out (fun h0 b off e => HSN.out h0 _ e))
    have HZ2 : Hid (v1.heap.size ≤ v2.heap.size) := Lib.hid HVv2.out.size
    refine hK.out _ _ (by (try dsimp only); exact But.trans hHeld (But.mono HVv2.out HZ1.out)) (fun hHeld => ?_)
    clear hK K
    refine tkR 6 rfl (fun K hK => ?_)
    go_simp
    go_wp2_with ((go_at_call 9; (with_reducible refine (ptext_at _ HQS2.out HPv2.out HZ2.out (row_under17 HQS1.out) (by omega) (by have h9 := (numB_len ((TT.length : Nat) : Int)).2; have h8 := (numB_len ((p.sig.length : Nat) : Int)).2; have h7 := (numB_len ((p.blob.length : Nat) : Int)).2; have h6 := HTT.out; have h5 := HSL.out; have h4 := HBL.out; have h3 := HCL.out; simp only [List.length_append, List.length_nil]; omega)).mono ?_); rintro e v3 ⟨rfl, hp, hb⟩; have HPv3 := Lib.hid hp; have HVv3 := Lib.hid hb; clear hp hb))
    have HVB := Lib.hid (HVv2.out.trans HVv3.out)
    have HQB3 := Lib.hid (HQB1.out.but HVB.out (fun h0 b off e => HBN.out h0 _ e))
    have HZ3 : Hid (v1.heap.size ≤ v3.heap.size) := Lib.hid HVB.out.size
    refine hK.out _ _ (by (try dsimp only); exact But.trans hHeld (But.mono HVv3.out HZ1.out)) (fun hHeld => ?_)
    clear hK K
    refine tkR 9 rfl (fun K hK => ?_)
    go_simp
    go_wp2_with ((go_at_call 9; (with_reducible refine (ptext_at _ HQB3.out HPv3.out HZ3.out (row_under17 HQB1.out) (by omega) (by have h9 := (numB_len ((TT.length : Nat) : Int)).2; have h8 := (numB_len ((p.sig.length : Nat) : Int)).2; have h7 := (numB_len ((p.blob.length : Nat) : Int)).2; have h6 := HTT.out; have h5 := HSL.out; have h4 := HBL.out; have h3 := HCL.out; simp only [List.length_append, List.length_nil]; omega)).mono ?_); rintro e v4 ⟨rfl, hp, hb⟩; have HPv4 := Lib.hid hp; have HVv4 := Lib.hid hb; clear hp hb))
    have HZ4 : Hid (v1.heap.size ≤ v4.heap.size) := Lib.hid (Nat.le_trans HZ3.out HVv4.out.size)
    refine hK.out _ _ (by (try dsimp only); exact But.trans hHeld (But.mono HVv4.out HZ1.out)) (fun hHeld => ?_)
    clear hK K
    refine tkR 12 rfl (fun K hK => ?_)
    go_simp
    go_wp2_with ((go_at_call 11; (with_reducible refine (psum_at _ HCL.out HPv4.out HZ4.out (by have h9 := (numB_len ((TT.length : Nat) : Int)).2; have h8 := (numB_len ((p.sig.length : Nat) : Int)).2; have h7 := (numB_len ((p.blob.length : Nat) : Int)).2; have h6 := HTT.out; have h5 := HSL.out; have h4 := HBL.out; have h3 := HCL.out; simp only [List.length_append, List.length_nil]; omega)).mono ?_); rintro e v5 ⟨rfl, hp, hb⟩; have HPv5 := Lib.hid hp; have HVv5 := Lib.hid hb; clear hp hb))
    have HZ5 : Hid (v1.heap.size ≤ v5.heap.size) := Lib.hid (Nat.le_trans HZ4.out HVv5.out.size)
    refine hK.out _ _ (by (try dsimp only); exact But.trans hHeld (But.mono HVv5.out HZ1.out)) (fun hHeld => ?_)
    clear hK K
    refine tkR 13 rfl (fun K hK => ?_)
    go_simp
    go_wp2_with ((go_at_call 12; (with_reducible refine (bytes_any HPv5.out (by have h9 := (numB_len ((TT.length : Nat) : Int)).2; have h8 := (numB_len ((p.sig.length : Nat) : Int)).2; have h7 := (numB_len ((p.blob.length : Nat) : Int)).2; have h6 := HTT.out; have h5 := HSL.out; have h4 := HBL.out; have h3 := HCL.out; simp only [List.length_append, List.length_nil]; omega)).mono ?_); rintro e v6 ⟨a6, n6, c6, rfl, hr6, hf6, hb6⟩; have HR6 := Lib.hid hr6; have HF6 := Lib.hid hf6; have HV6 := Lib.hid hb6; clear hr6 hf6 hb6))
    rw [← prfB_pen TE.out] at HR6
    refine hK.out _ _ (by (try dsimp only); exact But.trans hHeld (But.of (HV6.out.mono (Nat.le_trans HZ1.out HZ5.out)))) (fun hHeld => ?_)
    clear hK K
    refine tkP 14 rfl rfl ?_
    refine wpAnyH_done (by kernel_rfl) ?_ _
    have HEND : Hid (Below w.heap.size w v6) := Lib.hid (HB3.out.trans (But.below (But.mono hHeld HB3.out.size) HPG.out))
    have hn6 := HR6.out.1
    have q63 : (n6 : Int) ≤ 9223372036854775807 := by have h1 := HR6.out.2.1; have h2 := HR6.out.2.2.1; unfold maxLen at h2; omega
    clear hHeld HR1 HV1 HPv1 HQS1 HQB1 HN1 HPv2 HVv2 HQS2 HZ2 HPv3 HVv3 HVB HQB3 HZ3 HPv4 HVv4 HZ4 HPv5 HVv5 HV6
    by_cases e3 : 65536 < (n6 : Int)
    · have HE := Lib.hid (K6.out (by omega))
      clear hn6 K6 K7
      go_wp2_with fail
      go_ret2
      exact GO.out _ _ ⟨none, 0, 0, by rw [HE.out] <;> rfl, by rw [HE.out, if_neg (by decide)]; exact Row.nil _, HEND.out⟩
    · have HE := Lib.hid (K7.out (by omega))
      clear hn6 K6 K7
      go_wp2_with fail
      go_ret2
      exact GO.out _ _ ⟨_, _, _, by rw [HE.out] <;> rfl, by rw [HE.out, if_pos rfl]; exact HR6.out, HEND.out⟩
end Go.Proofs.YtcmdpmialehjgaaGreatDoor
