/- AppointBytes, walked. -/
import Derived.Test.YtnepcjnnlfhplaaDoorAppGet
import Derived.Test.YtnepcjnnlfhplaaDoorAppPut
import Derived.Test.YtnepcjnnlfhplaaDoorSteps
import Derived.Test.YtnepcjnnlfhplaaDoorMemory
import Derived.Test.YtnepcjnnlfhplaaDoorWanted
import Derived.Deep.CutRange
namespace Go.Proofs.YtnepcjnnlfhplaaDoor
open Go.RowKit

theorem jobX_len (b : List UInt8) (a : Option Addr) (n c : Nat) : (jobX b a n c).blob.length ≤ 65536 := by
  by_cases h : jobE b = 0
  · rw [jobX_ok h]
    have h9 := (job_ranges b).2.2.2
    show (jobT b).1.length ≤ 65536
    omega
  · rw [jobX_no h]
    simp [noJob]
set_option linter.unusedSimpArgs false in
set_option maxRecDepth 100000 in
set_option maxHeartbeats 25600000 in
theorem bytes16_walk {w : World} {x : PJob} {ab : Option Addr} {nb cb : Nat} {l : List UInt8} (hx : JobIn w x) (hl : Row w ab nb cb l) (hk : KsAt w)
    (haw : ∀ W : World, Below w.heap.size w W → Calls Tryd.prog 8 #[] W fun e w' => e = .returned (.bool true) ∧ Below W.heap.size W w') :
    Calls Tryd.prog 6 #[.agg x.cells.toArray, .slice ab nb cb] w fun e w' => e = .returned (.bool true) ∧ Below w.heap.size w w' := by
  have HX := Lib.hid hx
  have HLL0 := Lib.hid hl
  have HK := Lib.hid hk
  have HAW := Lib.hid haw
  have hn63 : (x.n : Int) ≤ 9223372036854775807 := by have h1 := hx.blob.2.1; have h2 := hx.blob.2.2.1; unfold maxLen at h2; omega
  have hb63 : (nb : Int) ≤ 9223372036854775807 := by have h1 := hl.2.1; have h2 := hl.2.2.1; unfold maxLen at h2; omega
  have SZX := Lib.hid (job_size hx.hint)
  have SXH := Lib.hid (sumLenP16 hx.hint)
  clear hx hl hk haw
  go_enter Tryd.func6, Tryd.ntmps6
  go_upto_region 1 with (fail)
  have b1 : Below w.heap.size w (w.alloc (.cells x.cells.toArray 51)) := (Below.refl _ _).alloc (Nat.le_refl _) _
  have h1 := heap_alloc_new w (.cells x.cells.toArray 51)
  revert b1 h1
  generalize (w.alloc (.cells x.cells.toArray 51)) = w1
  obtain ⟨g, hg⟩ : ∃ g, g = w.heap.size := ⟨_, rfl⟩
  rw [← hg]
  intro b1 h1
  rw [hg] at b1
  have k0 : w1.cell? ⟨g, 34, none⟩ = some (.slice x.a x.n x.c) := job_blob (g := g) (o := 0) HX.out.hint (range_of h1)
  have HB1 := Lib.hid b1
  have H1 := Lib.hid h1
  have HGW : Hid (w.heap.size ≤ g) := Lib.hid (by omega)
  clear h1 b1 hg
  by_cases hn : x.n ≤ 300
  rotate_left
  · have f1 : 300 < (x.n : Int) := by omega
    go_wp2_with (first | (go_at_call 8; (with_reducible refine (HAW.out _ HB1.out).mono ?_); rintro e w9 ⟨rfl, hb⟩; have HB9 := Lib.hid (bthen HB1.out hb); clear hb) | fail)
    go_ret
    exact ⟨rfl, HB9.out⟩
  by_cases hm : nb ≤ 300
  rotate_left
  · have f1 : ¬ 300 < (x.n : Int) := by omega
    have f2 : 300 < (nb : Int) := by omega
    go_wp2_with (first | (go_at_call 8; (with_reducible refine (HAW.out _ HB1.out).mono ?_); rintro e w9 ⟨rfl, hb⟩; have HB9 := Lib.hid (bthen HB1.out hb); clear hb) | fail)
    go_ret
    exact ⟨rfl, HB9.out⟩
  have f1 : ¬ 300 < (x.n : Int) := by omega
  have f2 : ¬ 300 < (nb : Int) := by omega
  have HXN : Hid (x.n ≤ 1000000) := Lib.hid (by omega)
  have HNB : Hid (nb ≤ 1000000) := Lib.hid (by omega)
  obtain ⟨SB, hSB⟩ : ∃ r, jobB x = r := ⟨_, rfl⟩
  obtain ⟨R, hR⟩ : ∃ r, jobOk x = r := ⟨_, rfl⟩
  obtain ⟨E1, hE1⟩ : ∃ r, jobE SB = r := ⟨_, rfl⟩
  obtain ⟨X1, hX1⟩ : ∃ r, jobX SB = r := ⟨_, rfl⟩
  obtain ⟨E2, hE2⟩ : ∃ r, jobE l = r := ⟨_, rfl⟩
  obtain ⟨X2, hX2⟩ : ∃ r, jobX l = r := ⟨_, rfl⟩
  obtain ⟨N1, hN1⟩ : ∃ N, N = numB x.channel := ⟨_, rfl⟩
  obtain ⟨N2, hN2⟩ : ∃ N, N = numB x.state := ⟨_, rfl⟩
  have l1 : N1.length ≤ 9 := by rw [hN1]; exact (numB_len _).2
  have l2 : N2.length ≤ 9 := by rw [hN2]; exact (numB_len _).2
  have hbl : x.blob.length ≤ 300 := by rw [HX.out.blob.1]; exact hn
  have hSBl : SB.length ≤ 1000 := by rw [← hSB]; have h9 := jobB_len HX.out.hint; omega
  have OUT : Hid (SB = (([] ++ N1) ++ N2) ++ x.hint ++ (numB (x.blob.length : Nat) ++ x.blob)) := Lib.hid (by rw [← hSB, hN1, hN2]; simp [jobB])
  have HLA : Hid (([] : List UInt8).length + 9 ≤ 140737488355328) := Lib.hid (by simp)
  have HLB : Hid (([] ++ N1).length + 9 ≤ 140737488355328) := Lib.hid (by simp; omega)
  have HLN : Hid ((([] ++ N1) ++ N2).length ≤ 1000000) := Lib.hid (by simp; omega)
  have HLM : Hid (((([] ++ N1) ++ N2) ++ x.hint).length ≤ 1000000) := Lib.hid (by simp [HX.out.hint]; omega)
  have HLL : Hid ((((([] ++ N1) ++ N2) ++ x.hint) ++ (numB (x.blob.length : Nat) ++ x.blob)).length ≤ 140737488355328) := Lib.hid (by have n1 := (numB_len ((x.blob.length : Nat) : Int)).2; simp only [List.length_append, List.length_nil, HX.out.hint]; omega)
  have HN1 := Lib.hid hN1
  have HN2 := Lib.hid hN2
  have hx1 := HX.out.channel.2
  have hx2 := HX.out.state.2
  have HOK : Hid (R = true → E1 = 0 ∧ ∀ a n c, X1 a n c = ⟨x.channel, x.state, x.hint, a, n, c, x.blob⟩) := Lib.hid fun h0 => by
    obtain ⟨e0, e1, e2, e3, e4⟩ := job_back HX.out.hint (by rw [hR]; exact h0) (by omega)
    rw [hSB] at e0 e1 e2 e3 e4
    refine ⟨by rw [← hE1]; exact e0, fun a n c => ?_⟩
    rw [← hX1, jobX_ok e0, e1, e2, e3, e4]
  have HN2E : Hid (E2 ≠ 0 → ∀ a n c, X2 a n c = noJob) := Lib.hid fun h0 a n c => by
    rw [← hX2]
    exact jobX_no (by rw [hE2]; exact h0)
  have HY2 : Hid (E2 = 0 → ∀ a n c, jobB (X2 a n c) = l) := Lib.hid fun h0 a n c => by
    rw [← hX2]
    exact job_again (by rw [hE2]; exact h0)
  have HX2L : Hid (∀ a n c, (X2 a n c).blob.length ≤ 65536) := Lib.hid fun a n c => by rw [← hX2]; exact jobX_len l a n c
  have HGB : Hid (∀ (W : World) (a : Option Addr) (n c : Nat), Row W a n c SB → Calls Tryd.prog 26 #[.slice a n c] W fun e w' => ∃ a1 n1 c1, e = .returned (.tuple #[.agg (X1 a1 n1 c1).cells.toArray, .int .i64 E1]) ∧ JobIn w' (X1 a1 n1 c1) ∧ Below W.heap.size W w') := Lib.hid fun W a n c hr => by
    rw [← hX1, ← hE1]
    exact getjob_any hr (by have h9 := hr.1; omega)
  have HGQ : Hid (∀ W : World, Row W ab nb cb l → Calls Tryd.prog 26 #[.slice ab nb cb] W fun e w' => ∃ a1 n1 c1, e = .returned (.tuple #[.agg (X2 a1 n1 c1).cells.toArray, .int .i64 E2]) ∧ JobIn w' (X2 a1 n1 c1) ∧ Below W.heap.size W w') := Lib.hid fun W hr => by
    rw [← hX2, ← hE2]
    exact getjob_any hr HNB.out
  have HPU : Hid (∀ W : World, JobIn W x → Calls Tryd.prog 27 #[.agg x.cells.toArray] W (TextOut16 W SB)) := Lib.hid fun W hr => by rw [← hSB]; exact putjob_any hr HXN.out
  obtain ⟨so, hso⟩ : ∃ s : ByteArray, (⟨SB.toArray⟩ : ByteArray) = s := ⟨_, rfl⟩
  have HSO := Lib.hid hso
  obtain ⟨sl, hsl⟩ : ∃ s : ByteArray, (⟨l.toArray⟩ : ByteArray) = s := ⟨_, rfl⟩
  have HSL := Lib.hid hsl
  obtain ⟨sq, hsq⟩ : ∃ s : ByteArray, (⟨x.blob.toArray⟩ : ByteArray) = s := ⟨_, rfl⟩
  have HSQ := Lib.hid hsq
  have HRR := Lib.hid hR
  clear hSB hR hE1 hX1 hE2 hX2 hN1 hN2 l1 l2 hbl hSBl hso hsl hsq hn hm hb63
  go_upto_region 4 with (fail)
  have b2 : Below w1.heap.size w1 (w1.alloc (.cells #[.pointer none, .int .i64 0] 59)) := (Below.refl _ _).alloc (Nat.le_refl _) _
  have h2 := heap_alloc_new w1 (.cells #[.pointer none, .int .i64 0] 59)
  revert b2 h2
  generalize (w1.alloc (.cells #[.pointer none, .int .i64 0] 59)) = w2
  obtain ⟨pb, hpb⟩ : ∃ pb, pb = w1.heap.size := ⟨_, rfl⟩
  rw [← hpb]
  intro b2 h2
  rw [hpb] at b2
  have hg2 := keep b2 H1.out
  have HB2 := Lib.hid (bthen HB1.out b2)
  have HG1 := Lib.hid hg2
  have HGN : Hid (g ≠ pb) := Lib.hid (by have := lt_of_block H1.out; omega)
  have HPG : Hid (w.heap.size ≤ pb) := Lib.hid (by have := HB1.out.size; omega)
  have HQN : Hid (0 < x.n → ∀ y, x.a = some y → y.block ≠ pb) := Lib.hid fun h0 y e => by
    have h9 := row_under16 HX.out.blob h0 y e
    have h8 := HPG.out
    omega
  have HLN2 : Hid (0 < nb → ∀ y, ab = some y → y.block ≠ pb) := Lib.hid fun h0 y e => by
    have h9 := row_under16 HLL0.out h0 y e
    have h8 := HPG.out
    omega
  have HQ1 := Lib.hid (HX.out.blob.below HB2.out)
  have HL2 := Lib.hid (HLL0.out.below HB2.out)
  obtain ⟨B, hB⟩ : ∃ B, B = w2.heap.size := ⟨_, rfl⟩
  have HQU : Hid (0 < x.n → ∀ y, x.a = some y → y.block < B) := Lib.hid fun h0 y e => by
    rw [hB]
    exact row_under16 HQ1.out h0 y e
  have HBE := Lib.hid hB
  have HGB2 : Hid (g < B) := Lib.hid (by rw [hB]; exact lt_of_block hg2)
  have HP0 : Hid (PenAt w2.drew B pb []) := Lib.hid (.inl ⟨h2, rfl⟩)
  clear hB b2 h2 hpb hg2 H1 HB1 HLL0 k0 HGW
  refine wp_region_held_drew (S := fun w' => But B pb w2 w') (by kernel_rfl) (by have h9 := But.refl B pb w2; exact ⟨h9.os, h9.tape, h9.output, h9.size, h9.block⟩) (fun hHeld => ?_)
  refine take_at (i := 0) (v := ?_) rfl rfl (by kernel_rfl) (by kernel_rfl) (by kernel_rfl) (fun _ _ _ h => h) (Or.inl ⟨by rfl, ?_⟩) (by assumption) ?_
  rotate_left
  · intro w0 hSw; (try dsimp only at hSw); first | (go_simp; done) | (go_simp; with_reducible rfl)
  simp only [List.setIfInBounds_toArray, List.set_cons_zero, List.set_cons_succ]
  refine take_at (i := 1) rfl rfl (by kernel_rfl) (by kernel_rfl) (by kernel_rfl) (fun _ _ _ h => h) (yields_cell (by rfl) rfl rfl (b := g) (o := 0) (fun w0 hSw => job_channel (range_of (But.heap hSw HG1.out HGB2.out HGN.out))) Tryd.isAgg3) (by assumption) ?_
  simp only [List.setIfInBounds_toArray, List.set_cons_zero, List.set_cons_succ]
  refine take_at (i := 3) (v := ?_) rfl rfl (by kernel_rfl) (by kernel_rfl) (by kernel_rfl) (fun _ _ _ h => h) (Or.inl ⟨by rfl, ?_⟩) (by assumption) ?_
  rotate_left
  · intro w0 hSw; (try dsimp only at hSw); first | (go_simp; done) | (go_simp; with_reducible rfl)
  simp only [List.setIfInBounds_toArray, List.set_cons_zero, List.set_cons_succ]
  refine take_at (i := 4) rfl rfl (by kernel_rfl) (by kernel_rfl) (by kernel_rfl) (fun _ _ _ h => h) (yields_cell (by rfl) rfl rfl (b := g) (o := 1) (fun w0 hSw => job_state (g := g) (o := 0) (range_of (But.heap hSw HG1.out HGB2.out HGN.out))) Tryd.isAgg3) (by assumption) ?_
  simp only [List.setIfInBounds_toArray, List.set_cons_zero, List.set_cons_succ]
  refine take_at (i := 6) (v := ?_) rfl rfl (by kernel_rfl) (by kernel_rfl) (by kernel_rfl) (fun _ _ _ h => h) (Or.inl ⟨by rfl, ?_⟩) (by assumption) ?_
  rotate_left
  · intro w0 hSw; (try dsimp only at hSw); first | (go_simp; done) | (go_simp; with_reducible rfl)
  simp only [List.setIfInBounds_toArray, List.set_cons_zero, List.set_cons_succ]
  refine take_at (i := 7) rfl rfl (by kernel_rfl) (by kernel_rfl) (by kernel_rfl) (fun _ _ _ h => h) (yieldsIf_load_mid (by rfl) _ _ rfl g 2 rfl (cellsOf x.hint) _ (fun w0 hSw => job_hint (g := g) (o := 0) (range_of (But.heap hSw HG1.out HGB2.out HGN.out))) Tryd.underlying23 rfl SXH.out) (by assumption) ?_
  simp only [List.setIfInBounds_toArray, List.set_cons_zero, List.set_cons_succ]
  refine take_at (i := 9) (v := ?_) rfl rfl (by kernel_rfl) (by kernel_rfl) (by kernel_rfl) (fun _ _ _ h => h) (Or.inl ⟨by rfl, ?_⟩) (by assumption) ?_
  rotate_left
  · intro w0 hSw; (try dsimp only at hSw); first | (go_simp; done) | (go_simp; with_reducible rfl)
  simp only [List.setIfInBounds_toArray, List.set_cons_zero, List.set_cons_succ]
  refine take_at (i := 10) rfl rfl (by kernel_rfl) (by kernel_rfl) (by kernel_rfl) (fun _ _ _ h => h) (yields_cell (by rfl) rfl rfl (b := g) (o := 34) (fun w0 hSw => job_blob (g := g) (o := 0) HX.out.hint (range_of (But.heap hSw HG1.out HGB2.out HGN.out))) Tryd.isAgg26) (by assumption) ?_
  simp only [List.setIfInBounds_toArray, List.set_cons_zero, List.set_cons_succ]
  refine wpAnyH_ready (rs := [2]) (by kernel_rfl) (by simp) ?_
  refine AllReadyH.cons rfl (fun K hK => ?_) ?_
  · have HZv1 : Hid (B ≤ (w2.drew).heap.size) := Lib.hid (by have h9 := But.size hHeld; rw [← HBE.out] at h9; exact h9)
    go_simp
    go_wp2_with ((go_at_call 22; (with_reducible refine (pnum_at x.channel HP0.out HZv1.out HLA.out hx1).mono ?_); rintro e v1 ⟨rfl, hp, hb⟩; have HPv1 := Lib.hid hp; have HSv1 := Lib.hid hb; clear hp hb))
    refine hK.out _ _ (by (try dsimp only); exact But.trans hHeld HSv1.out) (fun hHeld => ?_)
    clear hK K
    refine wpAnyH_ready (rs := [5]) (by kernel_rfl) (by simp) ?_
    refine AllReadyH.cons rfl (fun K hK => ?_) ?_
    · have HZv2 : Hid (B ≤ (v1).heap.size) := Lib.hid (by have h9 := But.size hHeld; rw [← HBE.out] at h9; exact h9)
      go_simp
      go_wp2_with ((go_at_call 22; (with_reducible refine (pnum_at x.state (show PenAt v1 B pb ([] ++ N1) by rw [HN1.out]; exact HPv1.out) HZv2.out HLB.out hx2).mono ?_); rintro e v2 ⟨rfl, hp, hb⟩; have HPv2 := Lib.hid hp; have HSv2 := Lib.hid hb; clear hp hb))
      refine hK.out _ _ (by (try dsimp only); exact But.trans hHeld HSv2.out) (fun hHeld => ?_)
      clear hK K
      refine wpAnyH_ready (rs := [8]) (by kernel_rfl) (by simp) ?_
      refine AllReadyH.cons rfl (fun K hK => ?_) ?_
      · have HZv3 : Hid (B ≤ (v2).heap.size) := Lib.hid (by have h9 := But.size hHeld; rw [← HBE.out] at h9; exact h9)
        go_simp
        go_wp2_with ((go_at_call 23; (with_reducible refine (psum_at _ HX.out.hint (show PenAt v2 B pb (([] ++ N1) ++ N2) by rw [HN2.out]; exact HPv2.out) HZv3.out HLN.out).mono ?_); rintro e v3 ⟨rfl, hp, hb⟩; have HPv3 := Lib.hid hp; have HSv3 := Lib.hid hb; clear hp hb))
        refine hK.out _ _ (by (try dsimp only); exact But.trans hHeld HSv3.out) (fun hHeld => ?_)
        clear hK K
        refine wpAnyH_ready (rs := [11]) (by kernel_rfl) (by simp) ?_
        refine AllReadyH.cons rfl (fun K hK => ?_) ?_
        · have HZv4 : Hid (B ≤ (v3).heap.size) := Lib.hid (by have h9 := But.size hHeld; rw [← HBE.out] at h9; exact h9)
          have HQv3 : Hid (Row (v3) x.a x.n x.c x.blob) := Lib.hid (HQ1.out.but (show But w2.heap.size pb w2 v3 from by rw [← HBE.out]; exact hHeld) (fun h0 b off e => HQN.out h0 _ e))
          go_simp
          go_wp2_with ((go_at_call 24; (with_reducible refine (ptext_at _ HQv3.out HPv3.out HZv4.out HQU.out HXN.out HLM.out).mono ?_); rintro e v4 ⟨rfl, hp, hb⟩; have HPv4 := Lib.hid hp; have HSv4 := Lib.hid hb; clear hp hb))
          refine hK.out _ _ (by (try dsimp only); exact But.trans hHeld HSv4.out) (fun hHeld => ?_)
          clear hK K
          refine wpAnyH_ready (rs := [12]) (by kernel_rfl) (by simp) ?_
          refine AllReadyH.cons rfl (fun K hK => ?_) ?_
          · have HZbb : Hid (B ≤ (v4).heap.size) := Lib.hid (by have h9 := But.size hHeld; rw [← HBE.out] at h9; exact h9)
            go_simp
            go_wp2_with ((go_at_call 25; (with_reducible refine (bytes_any HPv4.out HLL.out).mono ?_); rintro e v9 ⟨a9, n9, c9, rfl, hr9, hf9, hb9⟩; have HR := Lib.hid hr9; have HFR := Lib.hid hf9; have HB9 := Lib.hid hb9; clear hr9 hf9 hb9))
            refine hK.out _ _ (by (try dsimp only); exact But.trans hHeld (But.of (HB9.out.mono HZbb.out))) (fun hHeld => ?_)
            clear hK K
            refine take_at (i := 13) (v := ?_) rfl rfl (by kernel_rfl) (by kernel_rfl) (by kernel_rfl) (fun _ _ _ h => h) (Or.inl ⟨by rfl, ?_⟩) (by assumption) ?_
            rotate_left
            · intro w0 hSw; (try dsimp only at hSw); first | (go_simp; done) | (go_simp; with_reducible rfl)
            simp only [List.setIfInBounds_toArray, List.set_cons_zero, List.set_cons_succ]
            refine wpAnyH_done (by kernel_rfl) ?_ _
            have hHeld2 : But w2.heap.size pb w2 v9 := by rw [← HBE.out]; exact hHeld
            have HG4 := Lib.hid (But.heap hHeld HG1.out HGB2.out HGN.out)
            have HX4 : Hid (JobIn v9 x) := Lib.hid ⟨HX.out.channel, HX.out.state, HX.out.hint, HQ1.out.but hHeld2 (fun h0 b off e => HQN.out h0 _ e)⟩
            have HL4 := Lib.hid (HL2.out.but hHeld2 (fun h0 b off e => HLN2.out h0 _ e))
            have HB4 : Hid (Below w.heap.size w v9) := Lib.hid (HB2.out.trans (But.below (But.mono hHeld (by rw [HBE.out]; exact HB2.out.size)) HPG.out))
            have HO4 : Hid (Row v9 a9 n9 c9 SB) := Lib.hid (by rw [OUT.out]; exact HR.out)
            clear hHeld hHeld2 HG1 HGB2 HGN HQ1 HL2 HB2 HQN HLN2 HQU HBE HP0 HPG HR HFR HB9 OUT HLA HLB HLN HLM HLL HPv1 HPv2 HPv3 HPv4 HSv1 HSv2 HSv3 HSv4 HZv1 HZv2 HZv3 HZv4 HZbb HQv3 HN1 HN2
            go_upto_region 6 with (first | (go_at_call 26; (with_reducible refine (HGB.out _ _ _ _ HO4.out).mono ?_); rintro e w5 ⟨a1, n1, c1, rfl, hj, hb⟩; have HB5 := Lib.hid (bthen HB4.out hb); have HG5 := Lib.hid (keep hb HG4.out); have HX5 := Lib.hid (HX4.out.below hb); have HL5 := Lib.hid (HL4.out.below hb); have HO5 := Lib.hid (HO4.out.below hb); obtain ⟨Y1, hY1⟩ : ∃ Y, X1 a1 n1 c1 = Y := ⟨_, rfl⟩; rw [hY1] at hj ⊢; have HJ5 := Lib.hid hj; have HYE := Lib.hid hY1; have YL := Lib.hid (PJob.len hj.hint); clear hj hb hY1) | (refine wpList_var rfl rfl 51 rfl _ _ rfl noJob.cells.toArray Tryd.infoJob rfl Y1.cells (fun _ => rfl) (fun _ => rfl) YL.out (PJob.one _) ?_; intro p7 w6 hq hh hb; go_frame; have HB6 := Lib.hid (bthen HB5.out hb); have HG6 := Lib.hid (keep hb HG5.out); have HX6 := Lib.hid (HX5.out.below hb); have HL6 := Lib.hid (HL5.out.below hb); have HO6 := Lib.hid (HO5.out.below hb); have HJ6 := Lib.hid (HJ5.out.below hb); have HP6 := Lib.hid hh; clear hq hh hb) | fail)
            clear HGB HB4 HG4 HX4 HL4 HO4 HB5 HG5 HX5 HL5 HO5 HJ5
            refine wp_region_held_drew (S := fun w' => Below w6.heap.size w6 w') (by kernel_rfl) (below_drew (Below.refl _ _)) (fun hHeld => ?_)
            refine take_at (i := 0) rfl rfl (by kernel_rfl) (by kernel_rfl) (by kernel_rfl) (fun _ _ _ h => h) (yieldsIf_load_mid (by rfl) _ _ rfl g 0 rfl x.cells _ (fun w0 hSw => range_of (keep hSw HG6.out)) Tryd.underlying51 rfl SZX.out) (by assumption) ?_
            simp only [List.setIfInBounds_toArray, List.set_cons_zero, List.set_cons_succ]
            refine take_at (i := 3) (v := ?_) rfl rfl (by kernel_rfl) (by kernel_rfl) (by kernel_rfl) (fun _ _ _ h => h) (Or.inl ⟨by rfl, ?_⟩) (by assumption) ?_
            rotate_left
            · intro w0 hSw; (try dsimp only at hSw); first | (go_simp; done) | (go_simp; with_reducible rfl)
            simp only [List.setIfInBounds_toArray, List.set_cons_zero, List.set_cons_succ]
            refine take_at (i := 4) rfl rfl (by kernel_rfl) (by kernel_rfl) (by kernel_rfl) (fun _ _ _ h => h) (yields_conv (by rfl) rfl (by rfl) HSO.out (fun w0 hSw => HO6.out.below hSw)) (by assumption) ?_
            simp only [List.setIfInBounds_toArray, List.set_cons_zero, List.set_cons_succ]
            refine wpAnyH_ready (rs := [1]) (by kernel_rfl) (by simp) ?_
            refine AllReadyH.cons rfl (fun K hK => ?_) ?_
            · go_simp
              go_wp2_with ((go_at_call 27; (with_reducible refine (HPU.out _ (HX6.out.below hHeld)).mono ?_); rintro e y1 ⟨a_y1, n_y1, c_y1, rfl, hr, _, hb⟩; have HRy1 := Lib.hid hr; have HBy1 := Lib.hid hb; clear hr hb))
              refine hK.out _ _ (by (try dsimp only); exact Below.trans hHeld (HBy1.out.mono (Below.size hHeld))) (fun hHeld => ?_)
              clear hK K
              refine wpAnyH_ready (rs := [2]) (by kernel_rfl) (by simp) ?_
              refine AllReadyH.cons rfl (fun K hK => ?_) ?_
              · refine step_conv (d := 42) rfl (by rfl) rfl (by rfl) HSO.out HRy1.out ?_
                refine hK.out _ _ (by (try dsimp only); exact hHeld) (fun hHeld => ?_)
                clear hK K
                refine take_at (i := 5) (v := .bool false) rfl rfl (by kernel_rfl) (by kernel_rfl) (by kernel_rfl) (fun _ _ _ h => h) (Or.inl ⟨by rfl, ?_⟩) (by assumption) ?_
                · intro w0 hSw; (try dsimp only at hSw); first | (go_simp; done) | (go_simp; with_reducible rfl) | (go_simp; omega)
                simp only [List.setIfInBounds_toArray, List.set_cons_zero, List.set_cons_succ]
                refine wpAnyH_done (by kernel_rfl) ?_ _
                have hb := hHeld
                have HB7 := Lib.hid (bthen HB6.out hb)
                have HG7 := Lib.hid (keep hb HG6.out)
                have HX7 := Lib.hid (HX6.out.below hb)
                have HL7 := Lib.hid (HL6.out.below hb)
                have HJ7 := Lib.hid (HJ6.out.below hb)
                have HP7 := Lib.hid (keep hb HP6.out)
                clear hHeld hb HB6 HG6 HX6 HL6 HO6 HJ6 HP6 HRy1 HBy1 HPU HSO
                revert HB7 HG7 HX7 HL7 HJ7 HP7
                generalize y1 = w7
                intro HB7 HG7 HX7 HL7 HJ7 HP7
                go_upto_region 8 with (fail)
                go_cut [9] from 46 to 63 (fun u w' => u = .bool R ∧ w7 = w')
                case first =>
                  have k0 : w7.cell? ⟨g, 0, none⟩ = some (.int .i64 x.channel) := job_channel (range_of HG7.out)
                  have k1 : w7.cell? ⟨g, 1, none⟩ = some (.int .i64 x.state) := job_state (g := g) (o := 0) (range_of HG7.out)
                  cases R
                  · have hcase : x.channel < 0 ∨ (¬ x.channel < 0 ∧ 1048576 < x.channel) ∨ (¬ x.channel < 0 ∧ ¬ 1048576 < x.channel ∧ x.state < 0) ∨ (¬ x.channel < 0 ∧ ¬ 1048576 < x.channel ∧ ¬ x.state < 0 ∧ 1048576 < x.state) := by
                      have h9 : ¬ ((0 ≤ x.channel ∧ x.channel ≤ 1048576) ∧ 0 ≤ x.state ∧ x.state ≤ 1048576) := fun h => by
                        have h8 := jobOk_iff.2 h
                        rw [HRR.out] at h8
                        exact absurd h8 (by decide)
                      omega
                    rcases hcase with f3 | ⟨f3, f4⟩ | ⟨f3, f4, f5⟩ | ⟨f3, f4, f5, f6⟩
                    · have e3 : ¬ 0 ≤ x.channel := by omega
                      go_wp2_with fail
                      go_meet
                      exact ⟨rfl, rfl⟩
                    · have e3 : 0 ≤ x.channel := by omega
                      have e4 : ¬ x.channel ≤ 1048576 := by omega
                      go_wp2_with fail
                      go_meet
                      exact ⟨rfl, rfl⟩
                    · have e3 : 0 ≤ x.channel := by omega
                      have e4 : x.channel ≤ 1048576 := by omega
                      have e5 : ¬ 0 ≤ x.state := by omega
                      go_wp2_with fail
                      go_meet
                      exact ⟨rfl, rfl⟩
                    · have e3 : 0 ≤ x.channel := by omega
                      have e4 : x.channel ≤ 1048576 := by omega
                      have e5 : 0 ≤ x.state := by omega
                      have e6 : ¬ x.state ≤ 1048576 := by omega
                      go_wp2_with fail
                      go_meet
                      exact ⟨rfl, rfl⟩
                  · obtain ⟨⟨e3, e4⟩, e5, e6⟩ := jobOk_iff.1 HRR.out
                    have f3 : ¬ x.channel < 0 := by omega
                    have f4 : ¬ 1048576 < x.channel := by omega
                    have f5 : ¬ x.state < 0 := by omega
                    have f6 : ¬ 1048576 < x.state := by omega
                    go_wp2_with fail
                    go_meet
                    exact ⟨rfl, rfl⟩
                case rest =>
                  obtain ⟨rfl, rfl⟩ := hcut
                  go_upto_region 9 with (fail)
                  go_cut [98] from 64 to 98 (fun v w' => v = .bool false ∧ w7 = w')
                  case first =>
                    cases R
                    · go_wp2_with fail
                      go_meet
                      exact ⟨rfl, rfl⟩
                    · have k0 : w7.cell? ⟨g, 0, none⟩ = some (.int .i64 x.channel) := job_channel (range_of HG7.out)
                      have k1 : w7.cell? ⟨g, 1, none⟩ = some (.int .i64 x.state) := job_state (g := g) (o := 0) (range_of HG7.out)
                      obtain ⟨rfl, hXe⟩ := HOK.out rfl
                      have hYe := HYE.out
                      rw [hXe] at hYe
                      subst hYe
                      obtain ⟨⟨e3, e4⟩, e5, e6⟩ := jobOk_iff.1 HRR.out
                      have f3 : ¬ x.channel < 0 := by omega
                      have f4 : ¬ 1048576 < x.channel := by omega
                      have f5 : ¬ x.state < 0 := by omega
                      have f6 : ¬ 1048576 < x.state := by omega
                      have k2 : w7.cell? ⟨g, 34, none⟩ = some (.slice x.a x.n x.c) := job_blob (g := g) (o := 0) HX7.out.hint (range_of HG7.out)
                      have m0 : w7.cell? ⟨p7, 0, none⟩ = some (.int .i64 x.channel) := job_channel (x := ⟨x.channel, x.state, x.hint, a1, n1, c1, x.blob⟩) (range_of HP7.out)
                      have m1 : w7.cell? ⟨p7, 1, none⟩ = some (.int .i64 x.state) := job_state (x := ⟨x.channel, x.state, x.hint, a1, n1, c1, x.blob⟩) (g := p7) (o := 0) (range_of HP7.out)
                      have m2 : w7.cell? ⟨p7, 34, none⟩ = some (.slice a1 n1 c1) := job_blob (x := ⟨x.channel, x.state, x.hint, a1, n1, c1, x.blob⟩) (g := p7) (o := 0) HJ7.out.hint (range_of HP7.out)
                      have RG : Hid (w7.rangeAt g 2 (cellsOf x.hint)) := Lib.hid (job_hint (g := g) (o := 0) (range_of HG7.out))
                      have RP : Hid (w7.rangeAt p7 2 (cellsOf x.hint)) := Lib.hid (job_hint (x := ⟨x.channel, x.state, x.hint, a1, n1, c1, x.blob⟩) (g := p7) (o := 0) (range_of HP7.out))
                      have qe := fun W : World => run_eqSums x.hint x.hint HX7.out.hint HX7.out.hint W
                      rw [decide_eq_true (rfl : x.hint = x.hint)] at qe
                      have v1 := conv_row HX7.out.blob
                      have v2 := conv_row HJ7.out.blob
                      dsimp only at v2
                      rw [HSQ.out] at v1 v2
                      go_wp2_with (first | (refine wpList_mid_wanted (by rfl) 23 _ rfl p7 2 rfl (cellsOf x.hint) _ RP.out Tryd.underlying23 rfl SXH.out ?_) | (refine wpList_mid_wanted (by rfl) 23 _ rfl g 2 rfl (cellsOf x.hint) _ RG.out Tryd.underlying23 rfl SXH.out ?_) | fail)
                      go_meet
                      exact ⟨rfl, rfl⟩
                  case rest =>
                    obtain ⟨rfl, rfl⟩ := hcut
                    clear HP7 HJ7 HG7 HX7 HOK HYE HRR HSQ
                    go_upto_region 11 with (fail)
                    go_upto_region 12 with (first | (go_at_call 26; (with_reducible refine (HGQ.out _ HL7.out).mono ?_); rintro e w8 ⟨a3, n3, c3, rfl, hj, hb⟩; have HB8 := Lib.hid (bthen HB7.out hb); have HL8 := Lib.hid (HL7.out.below hb); obtain ⟨Y2, hY2⟩ : ∃ Y, X2 a3 n3 c3 = Y := ⟨_, rfl⟩; rw [hY2] at hj ⊢; have HJ8 := Lib.hid hj; have HYF := Lib.hid hY2; have YL2 := Lib.hid (PJob.len hj.hint); clear hj hb hY2) | (refine wpList_var rfl rfl 51 rfl _ _ rfl noJob.cells.toArray Tryd.infoJob rfl Y2.cells (fun _ => rfl) (fun _ => rfl) YL2.out (PJob.one _) ?_; intro p10 w9 hq hh hb; go_frame; have HB9 := Lib.hid (bthen HB8.out hb); have HL9 := Lib.hid (HL8.out.below hb); have HJ9 := Lib.hid (HJ8.out.below hb); have HP9 := Lib.hid hh; clear hq hh hb) | fail)
                    have SZ2 := Lib.hid (job_size HJ9.out.hint)
                    clear HGQ HB7 HL7 HB8 HL8 HJ8
                    by_cases h0 : E2 = 0
                    · subst h0
                      have hb : ((0 : Int) != 0) = false := by decide
                      have HPW : Hid (∀ W : World, JobIn W Y2 → Calls Tryd.prog 27 #[.agg Y2.cells.toArray] W (TextOut16 W l)) := Lib.hid fun W hj => by
                        have h9 := putjob_any hj (by have h8 := hj.blob.1; have h7 := HX2L.out a3 n3 c3; rw [HYF.out] at h7; omega)
                        rw [← HYF.out, HY2.out rfl] at h9
                        rw [← HYF.out]
                        exact h9
                      clear HN2E HY2 HX2L HYF
                      go_upto_region 14 with (fail)
                      refine wp_region_held_drew (S := fun w' => Below w9.heap.size w9 w') (by kernel_rfl) (below_drew (Below.refl _ _)) (fun hHeld => ?_)
                      refine take_at (i := 0) rfl rfl (by kernel_rfl) (by kernel_rfl) (by kernel_rfl) (fun _ _ _ h => h) (yieldsIf_load_mid (by rfl) _ _ rfl p10 0 rfl Y2.cells _ (fun w0 hSw => range_of (keep hSw HP9.out)) Tryd.underlying51 rfl SZ2.out) (by assumption) ?_
                      simp only [List.setIfInBounds_toArray, List.set_cons_zero, List.set_cons_succ]
                      refine take_at (i := 3) (v := ?_) rfl rfl (by kernel_rfl) (by kernel_rfl) (by kernel_rfl) (fun _ _ _ h => h) (Or.inl ⟨by rfl, ?_⟩) (by assumption) ?_
                      rotate_left
                      · intro w0 hSw; (try dsimp only at hSw); first | (go_simp; done) | (go_simp; with_reducible rfl)
                      simp only [List.setIfInBounds_toArray, List.set_cons_zero, List.set_cons_succ]
                      refine take_at (i := 4) rfl rfl (by kernel_rfl) (by kernel_rfl) (by kernel_rfl) (fun _ _ _ h => h) (yields_conv (by rfl) rfl (by rfl) HSL.out (fun w0 hSw => HL9.out.below hSw)) (by assumption) ?_
                      simp only [List.setIfInBounds_toArray, List.set_cons_zero, List.set_cons_succ]
                      refine wpAnyH_ready (rs := [1]) (by kernel_rfl) (by simp) ?_
                      refine AllReadyH.cons rfl (fun K hK => ?_) ?_
                      · go_simp
                        go_wp2_with ((go_at_call 27; (with_reducible refine (HPW.out _ (HJ9.out.below hHeld)).mono ?_); rintro e y1 ⟨a_y1, n_y1, c_y1, rfl, hr, _, hb⟩; have HRy1 := Lib.hid hr; have HBy1 := Lib.hid hb; clear hr hb))
                        refine hK.out _ _ (by (try dsimp only); exact Below.trans hHeld (HBy1.out.mono (Below.size hHeld))) (fun hHeld => ?_)
                        clear hK K
                        refine wpAnyH_ready (rs := [2]) (by kernel_rfl) (by simp) ?_
                        refine AllReadyH.cons rfl (fun K hK => ?_) ?_
                        · refine step_conv (d := 125) rfl (by rfl) rfl (by rfl) HSL.out HRy1.out ?_
                          refine hK.out _ _ (by (try dsimp only); exact hHeld) (fun hHeld => ?_)
                          clear hK K
                          refine take_at (i := 5) (v := .bool true) rfl rfl (by kernel_rfl) (by kernel_rfl) (by kernel_rfl) (fun _ _ _ h => h) (Or.inl ⟨by rfl, ?_⟩) (by assumption) ?_
                          · intro w0 hSw; (try dsimp only at hSw); first | (go_simp; done) | (go_simp; with_reducible rfl) | (go_simp; omega)
                          simp only [List.setIfInBounds_toArray, List.set_cons_zero, List.set_cons_succ]
                          refine take_at (i := 6) (v := ?_) rfl rfl (by kernel_rfl) (by kernel_rfl) (by kernel_rfl) (fun _ _ _ h => h) (Or.inl ⟨by rfl, ?_⟩) (by assumption) ?_
                          rotate_left
                          · intro w0 hSw; (try dsimp only at hSw); first | (go_simp; done) | (go_simp; with_reducible rfl)
                          simp only [List.setIfInBounds_toArray, List.set_cons_zero, List.set_cons_succ]
                          refine wpAnyH_ready (rs := [7]) (by kernel_rfl) (by simp) ?_
                          refine AllReadyH.cons rfl (fun K hK => ?_) ?_
                          · go_simp
                            go_wp2_with ((go_at_call 8; (with_reducible refine (HAW.out _ (bthen HB9.out hHeld)).mono ?_); rintro e y2 ⟨rfl, hb⟩; have HBy2 := Lib.hid hb; clear hb))
                            refine hK.out _ _ (by (try dsimp only); exact Below.trans hHeld (HBy2.out.mono (Below.size hHeld))) (fun hHeld => ?_)
                            clear hK K
                            refine take_at (i := 8) (v := ?_) rfl rfl (by kernel_rfl) (by kernel_rfl) (by kernel_rfl) (fun _ _ _ h => h) (Or.inl ⟨by rfl, ?_⟩) (by assumption) ?_
                            rotate_left
                            · intro w0 hSw; (try dsimp only at hSw); first | (go_simp; done) | (go_simp; with_reducible rfl)
                            simp only [List.setIfInBounds_toArray, List.set_cons_zero, List.set_cons_succ]
                            refine take_at (i := 9) (v := ?_) rfl rfl (by kernel_rfl) (by kernel_rfl) (by kernel_rfl) (fun _ _ _ h => h) (Or.inl ⟨by rfl, ?_⟩) (by assumption) ?_
                            rotate_left
                            · intro w0 hSw; (try dsimp only at hSw); first | (go_simp; done) | (go_simp; with_reducible rfl)
                            simp only [List.setIfInBounds_toArray, List.set_cons_zero, List.set_cons_succ]
                            refine wpAnyH_done (by kernel_rfl) ?_ _
                            have HST := Lib.hid (show Below w9.heap.size w9 y2 from hHeld)
                            clear hHeld
                            go_wp2_with fail
                            go_ret
                            exact ⟨rfl, bthen HB9.out HST.out⟩
                          exact AllReadyH.nil
                        exact AllReadyH.nil
                      exact AllReadyH.nil
                    · have hb : (E2 != 0) = true := by simpa using h0
                      have hYf := HYF.out
                      rw [HN2E.out h0] at hYf
                      subst hYf
                      clear HN2E HY2 HX2L HYF
                      have k3 : w9.cell? ⟨p10, 0, none⟩ = some (.int .i64 0) := job_channel (x := noJob) (range_of HP9.out)
                      have k4 : w9.cell? ⟨p10, 1, none⟩ = some (.int .i64 0) := job_state (x := noJob) (g := p10) (o := 0) (range_of HP9.out)
                      have k5 : w9.cell? ⟨p10, 34, none⟩ = some (.slice none 0 0) := job_blob (x := noJob) (g := p10) (o := 0) rfl (range_of HP9.out)
                      go_wp2_with (first | (go_at_call 8; (with_reducible refine (HAW.out _ HB9.out).mono ?_); rintro e wz ⟨rfl, hb⟩; have HBZ := Lib.hid (bthen HB9.out hb); clear hb) | fail)
                      go_ret
                      exact ⟨rfl, HBZ.out⟩
              exact AllReadyH.nil
            exact AllReadyH.nil
          exact AllReadyH.nil
        exact AllReadyH.nil
      exact AllReadyH.nil
    exact AllReadyH.nil
  exact AllReadyH.nil
end Go.Proofs.YtnepcjnnlfhplaaDoor
