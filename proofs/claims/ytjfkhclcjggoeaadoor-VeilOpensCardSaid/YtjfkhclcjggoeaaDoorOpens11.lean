/- The walk of VeilOpens. -/
import Derived.Test.YtjfkhclcjggoeaaDoorCloses11
namespace Go.Proofs.YtjfkhclcjggoeaaDoor
open Go.RowKit

set_option linter.unusedSimpArgs false in
set_option maxRecDepth 100000 in
set_option maxHeartbeats 6400000 in
theorem opensLaw_walk {w : World} {a : Option Addr} {N c : Nat} {s l : List UInt8} (hs : s.length = 32) (hl : Row w a N c l) (hk : KsAt w) :
    Calls Tryd.prog 4 #[.agg (cellsOf s).toArray, .slice a N c] w fun e w' => e = .returned (.bool true) ∧ Below w.heap.size w w' := by
  have SZS := Lib.hid (size_of hs)
  have HS := Lib.hid hs
  have HK := Lib.hid hk
  have HL := Lib.hid hl
  clear hs hk hl
  go_enter Tryd.func4, Tryd.ntmps4
  go_upto_region 1 with (fail)
  have b1 : Below w.heap.size w (w.alloc (.cells (cellsOf s).toArray 23)) := (Below.refl _ _).alloc (Nat.le_refl _) _
  have h1 := heap_alloc_new w (.cells (cellsOf s).toArray 23)
  revert b1 h1
  generalize (w.alloc (.cells (cellsOf s).toArray 23)) = w1
  obtain ⟨q, hq⟩ : ∃ q, q = w.heap.size := ⟨_, rfl⟩
  rw [← hq]
  intro b1 h1
  rw [hq] at b1
  have HB1 := Lib.hid b1
  have HQ1 := Lib.hid h1
  have HK1 := Lib.hid (HK.out.below b1)
  have HL1 := Lib.hid (HL.out.below b1)
  clear b1 h1 hq HK HL
  go_upto_region 2 with (first | (go_at_call 6; (with_reducible refine (cut_any HL1.out).mono ?_); rintro e w' ⟨rfl, hr, rfl⟩; have HR1 := Lib.hid hr; clear hr) | fail)
  obtain ⟨n, hn⟩ : ∃ n, n = min N 200 := ⟨_, rfl⟩
  obtain ⟨t, ht⟩ : ∃ t, t = l.take 200 := ⟨_, rfl⟩
  rw [← hn, ← ht] at HR1
  rw [← hn]
  have hn200 : n ≤ 200 := by omega
  clear hn ht HL1
  by_cases h16 : 16 ≤ n
  · have f1 : ¬ (n : Int) < 16 := by omega
    obtain ⟨b, off, rfl, hlb, hcells⟩ := HR1.out.2.2.2.2 (by omega)
    clear hlb hcells
    have SZSL : Hid ((Tryd.prog.info? 23).map (·.size) = some (cellsOf s).length) := Lib.hid (by rw [cellsOf_len, HS.out]; exact Tryd.size23)
    have hcn : (16 : Int) ≤ (c : Int) := by have := HR1.out.2.1; omega
    have hcm : c ≤ 9223372036854775807 := by have h9 := HR1.out.2.2.1; unfold maxLen at h9; omega
    have hop : Calls Tryd.prog 10 #[.agg (cellsOf s).toArray, .slice (some ⟨b, off, none⟩) n c] w1 fun e w' => ∃ (a8 : Option Addr) (m8 c8 : Nat) (e8 : Int), e = .returned (.tuple #[.slice a8 m8 c8, .int .i64 e8]) ∧ Below w1.heap.size w1 w' ∧ (markB s (coverB s (t.drop 16)) = t.take 16 → m8 = n - 16 ∧ e8 = 0 ∧ Row w' a8 (n - 16) c8 (coverB s (t.drop 16))) ∧ (markB s (coverB s (t.drop 16)) ≠ t.take 16 → a8 = none ∧ m8 = 0 ∧ c8 = 0 ∧ e8 = 4) := by
      refine (open_any HS.out HR1.out h16 (by omega) HK1.out).mono ?_
      rintro e w' ⟨hb, ⟨h1, a2, c2, h2, h3⟩ | ⟨h1, h2⟩⟩
      · exact ⟨a2, n - 16, c2, 0, h2, hb, fun _ => ⟨rfl, rfl, h3⟩, fun h => absurd h1 h⟩
      · exact ⟨none, 0, 0, 4, h2, hb, fun h => absurd h h1, fun _ => ⟨rfl, rfl, rfl, rfl⟩⟩
    have HOP := Lib.hid hop
    clear hop
    go_upto_region 3 with (first | (refine wpList_load_row rfl 23 _ rfl q rfl 23 (cellsOf s).toArray (0, 0) _ HQ1.out Tryd.underlying23 rfl SZS.out ?_) | (go_at_call 10; (with_reducible refine (HOP.out).mono ?_); rintro e w2 ⟨a8, m8, c8, e8, rfl, hb2, h1, h2⟩; have HT2 := Lib.hid hb2; have HOI := Lib.hid (And.intro h1 h2); clear hb2 h1 h2) | fail)
    have HP2 := Lib.hid (keep HT2.out HQ1.out)
    have HQ2 := Lib.hid (range_of HP2.out)
    have hlq2 := lt_of_block HP2.out
    have HK2 := Lib.hid (HK1.out.below HT2.out)
    have HR2 := Lib.hid (HR1.out.below HT2.out)
    have HD2 := Lib.hid (HR2.out.from h16)
    obtain ⟨a2, ha2⟩ : ∃ a2, (if c = 16 then some ⟨b, off, none⟩ else (some ⟨b, off, none⟩ : Option Addr).map (·.add (16 * 1))) = a2 := ⟨_, rfl⟩
    rw [ha2] at HD2
    have HA2 : Hid ((.slice (if c = 16 then some ⟨b, off, none⟩ else (some ⟨b, off, none⟩ : Option Addr).map (·.add (16 * 1))) (n - 16) (c - 16) : Value) = .slice a2 (n - 16) (c - 16)) := Lib.hid (by rw [ha2])
    have HCO : Hid (∀ W : World, Below w2.heap.size w2 W → Calls Tryd.prog 8 #[.agg (cellsOf s).toArray, .slice a2 (n - 16) (c - 16)] W fun e w' => ∃ a' c', e = .returned (.slice a' (n - 16) c') ∧ Row w' a' (n - 16) c' (coverB s (t.drop 16)) ∧ Below W.heap.size W w') := Lib.hid (fun W hW => cover_law HS.out (HD2.out.below hW) (by omega) (HK2.out.below hW))
    clear ha2 HOP HQ1 HK1 HR1 HD2
    go_upto_region 5 with (fail)
    refine wp_region_held_drew (S := fun w' => Below w2.heap.size w2 w') (by kernel_rfl) (below_drew (Below.refl _ _)) (fun hHeld => ?_)
    refine take_at (i := 0) rfl rfl (by kernel_rfl) (by kernel_rfl) (by kernel_rfl) (fun _ _ _ h => h) (yieldsIf_load_mid (by rfl) _ _ rfl q 0 rfl (cellsOf s) _ (fun w0 hSw => rangeAt_below HQ2.out hlq2 hSw) Tryd.underlying23 rfl SZSL.out) (by assumption) ?_
    simp only [List.setIfInBounds_toArray, List.set_cons_zero, List.set_cons_succ]
    refine take_at (i := 1) (v := ?_) rfl rfl (by kernel_rfl) (by kernel_rfl) (by kernel_rfl) (fun _ _ _ h => h) (Or.inl ⟨by rfl, ?_⟩) (by assumption) ?_
    rotate_left
    · intro w0 hSw; (try dsimp only at hSw); first | (go_simp; done) | (go_simp; with_reducible rfl)
    simp only [List.setIfInBounds_toArray, List.set_cons_zero, List.set_cons_succ]
    refine take_at (i := 2) rfl rfl (by kernel_rfl) (by kernel_rfl) (by kernel_rfl) (fun _ _ _ h => h) (yields_bfrom_any (A := 16) (by rfl) rfl rfl rfl h16 _ HA2.out) (by assumption) ?_
    simp only [List.setIfInBounds_toArray, List.set_cons_zero, List.set_cons_succ]
    refine wpAnyH_ready (rs := [3]) (by kernel_rfl) (by simp) ?_
    refine AllReadyH.cons rfl (fun K hK => ?_) ?_
    · have HC3 := Lib.hid (HCO.out _ hHeld)
      go_simp
      go_wp2_with ((go_at_call 8; (with_reducible refine (HC3.out).mono ?_); rintro e y3 ⟨a3, c3, rfl, hr3, hb⟩; have HV3 := Lib.hid hr3; have HXy3 := Lib.hid hb; clear hb hr3))
      refine hK.out _ _ (by (try dsimp only); exact Below.trans hHeld (HXy3.out.mono (Below.size hHeld))) (fun hHeld => ?_)
      clear hK K
      refine take_at (i := 4) (v := ?_) rfl rfl (by kernel_rfl) (by kernel_rfl) (by kernel_rfl) (fun _ _ _ h => h) (Or.inl ⟨by rfl, ?_⟩) (by assumption) ?_
      rotate_left
      · intro w0 hSw; (try dsimp only at hSw); first | (go_simp; done) | (go_simp; with_reducible rfl)
      simp only [List.setIfInBounds_toArray, List.set_cons_zero, List.set_cons_succ]
      refine wpAnyH_done (by kernel_rfl) ?_ _
      have HT3 : Hid (Below w2.heap.size w2 y3) := Lib.hid hHeld
      clear hHeld HXy3 HC3
      obtain ⟨T, hT⟩ : ∃ T, T = coverB s (t.drop 16) := ⟨_, rfl⟩
      rw [← hT] at HV3 HOI
      have hTl : T.length = n - 16 := HV3.out.1
      obtain ⟨x, hx, hxl, hjoin⟩ : ∃ x, x.take 16 = markB s T ∧ x.length = 32 ∧ ∀ (W : World) (gg : Nat), KsAt W → W.heap[q]? = some (.cells (cellsOf s).toArray 23 (0, 0)) → Row W a3 (n - 16) c3 T → W.heap[gg]? = some (.cells #[.slice (some ⟨q, 0, none⟩) 32 32, .slice a3 (n - 16) c3] 24 (0, 0)) →
          Calls Tryd.prog 7 #[.int .u8 52, .slice (some ⟨gg, 0, none⟩) 2 2] W fun e w' => e = .returned (.agg (cellsOf x).toArray) ∧ Below W.heap.size W w' :=
        ⟨_, rfl, sumOf_len _, fun W gg hW hq hr hg => join_any 52 52 rfl (rows2_at hg (row_all hq 32 HS.out.symm (by omega)) hr) hW (parts2_few 52 HS.out (by omega))⟩
      rw [← hx] at HOI
      have HXL := Lib.hid hxl
      have HJ := Lib.hid hjoin
      have SZX := Lib.hid (size_of hxl)
      have ZX := Lib.hid (zero_of hxl)
      have HK3 := Lib.hid (HK2.out.below HT3.out)
      have HQ3 := Lib.hid (keep HT3.out HP2.out)
      clear hT hTl hx hxl hjoin
      go_wp2_with fail
      have b4 : Below y3.heap.size y3 (y3.alloc (.cells #[.slice (some ⟨q, 0, none⟩) 32 32, .slice a3 (n - 16) c3] 24)) := (Below.refl _ _).alloc (Nat.le_refl _) _
      refine (HJ.out _ y3.heap.size (HK3.out.below b4) (keep b4 HQ3.out) (HV3.out.below b4) (heap_alloc_new _ _)).mono ?_
      rintro e w4 ⟨rfl, hb4⟩
      have HB4 := Lib.hid (bthen b4 hb4)
      clear b4 hb4
      go_upto_region 7 with (first | (refine wpList_store_row rfl 23 _ _ rfl w4.heap.size (cellsOf x).toArray rfl rfl 23 (cellsOf zero32).toArray (heap_alloc_new _ _) SZX.out ZX.out (all_oneCell_toArray (cellsOf_one x)) ?_) | fail)
      rw [← zero32_is, laySum_is]
      have h5 := laySum_heap w4 x
      have b5 := laySum_self w4 x
      revert h5 b5
      generalize laySum w4 x = w6
      obtain ⟨p, hp⟩ : ∃ p, p = w4.heap.size := ⟨_, rfl⟩
      rw [← hp]
      intro h5 b5
      rw [hp] at b5
      have b6 := bthen HB4.out b5
      have hx6 : Row w6 (some ⟨p, 0, none⟩) 16 32 (x.take 16) := (row_all h5 32 HXL.out.symm (by omega)).take (by omega)
      obtain ⟨m, hm⟩ : ∃ m, m = x.take 16 := ⟨_, rfl⟩
      obtain ⟨h, hh⟩ : ∃ h, h = t.take 16 := ⟨_, rfl⟩
      have hh6 := (((HR2.out.below HT3.out).below b6).take h16)
      rw [← hm] at hx6 HOI
      rw [← hh] at hh6 HOI
      obtain ⟨sm, hsm⟩ : ∃ sm : ByteArray, (⟨m.toArray⟩ : ByteArray) = sm := ⟨_, rfl⟩
      obtain ⟨sh, hsh⟩ : ∃ sh : ByteArray, (⟨h.toArray⟩ : ByteArray) = sh := ⟨_, rfl⟩
      have HSM := Lib.hid hsm
      have HSH := Lib.hid hsh
      have HX6 := Lib.hid hx6
      have HH6 := Lib.hid hh6
      have HV6 := Lib.hid (HV3.out.below b6)
      have HT6 := Lib.hid (bthen HT3.out b6)
      have HK6 := Lib.hid (HK3.out.below b6)
      have HBW := Lib.hid (bthen HB1.out (bthen HT2.out (bthen HT3.out b6)))
      clear h5 b5 b6 hp hx6 hm hh hh6 hsm hsh HXL HJ HB4 HV3 HK3 HQ3 HT3 SZX ZX
      try simp only [Act.put]
      by_cases hmh : m = h
      · have hss : sm = sh := by rw [← HSM.out, ← HSH.out, hmh]
        rw [hss] at HSM
        obtain ⟨hm8, he8, hr8⟩ := HOI.out.1 hmh
        subst hm8 he8
        have HOY := Lib.hid hr8
        clear hmh hss HOI hr8
        refine wp_region_held_drew (S := fun w' => Below w6.heap.size w6 w') (by kernel_rfl) (below_drew (Below.refl _ _)) (fun hHeld => ?_)
        refine take_at (i := 0) (v := ?_) rfl rfl (by kernel_rfl) (by kernel_rfl) (by kernel_rfl) (fun _ _ _ h => h) (Or.inl ⟨by rfl, ?_⟩) (by assumption) ?_
        rotate_left
        · intro w0 hSw; (try dsimp only at hSw); first | (go_simp; done) | (go_simp; with_reducible rfl)
        simp only [List.setIfInBounds_toArray, List.set_cons_zero, List.set_cons_succ]
        refine take_at (i := 1) rfl rfl (by kernel_rfl) (by kernel_rfl) (by kernel_rfl) (fun _ _ _ h => h) (yields_conv (by rfl) rfl rfl HSM.out (fun w0 hSw => HX6.out.below hSw)) (by assumption) ?_
        simp only [List.setIfInBounds_toArray, List.set_cons_zero, List.set_cons_succ]
        refine take_at (i := 2) (v := ?_) rfl rfl (by kernel_rfl) (by kernel_rfl) (by kernel_rfl) (fun _ _ _ h => h) (Or.inl ⟨by rfl, ?_⟩) (by assumption) ?_
        rotate_left
        · intro w0 hSw; (try dsimp only at hSw); first | (go_simp; done) | (go_simp; with_reducible rfl)
        simp only [List.setIfInBounds_toArray, List.set_cons_zero, List.set_cons_succ]
        refine take_at (i := 3) (v := ?_) rfl rfl (by kernel_rfl) (by kernel_rfl) (by kernel_rfl) (fun _ _ _ h => h) (Or.inl ⟨by rfl, ?_⟩) (by assumption) ?_
        rotate_left
        · intro w0 hSw; (try dsimp only at hSw); first | (go_simp; done) | (go_simp; with_reducible rfl)
        simp only [List.setIfInBounds_toArray, List.set_cons_zero, List.set_cons_succ]
        refine take_at (i := 4) rfl rfl (by kernel_rfl) (by kernel_rfl) (by kernel_rfl) (fun _ _ _ h => h) (yields_conv (by rfl) rfl rfl HSH.out (fun w0 hSw => HH6.out.below hSw)) (by assumption) ?_
        simp only [List.setIfInBounds_toArray, List.set_cons_zero, List.set_cons_succ]
        refine take_at (i := 5) (v := .bool false) rfl rfl (by kernel_rfl) (by kernel_rfl) (by kernel_rfl) (fun _ _ _ h => h) (Or.inl ⟨by rfl, ?_⟩) (by assumption) ?_
        · intro w0 hSw; (try dsimp only at hSw); first | (go_simp; done) | (go_simp; with_reducible rfl) | (go_simp; omega)
        simp only [List.setIfInBounds_toArray, List.set_cons_zero, List.set_cons_succ]
        refine wpAnyH_done (by kernel_rfl) ?_ _
        have HB7 := Lib.hid (show Below w6.heap.size w6 w6.drew from hHeld)
        clear hHeld
        have v1 := conv_row ((HOY.out.below HT6.out).below HB7.out)
        have v2 := conv_row ((HV6.out).below HB7.out)
        obtain ⟨bt, hbt⟩ : ∃ bt : ByteArray, bt = ⟨T.toArray⟩ := ⟨_, rfl⟩
        rw [← hbt] at v1 v2
        clear hbt
        have HK7 := Lib.hid (HK6.out.below HB7.out)
        go_wp2_with (first | (go_at_call 11; (with_reducible refine (awake11_any HK7.out).mono ?_); rintro e wz ⟨rfl, hbz⟩; have HBZ := Lib.hid hbz; clear hbz) | fail)
        go_ret
        exact ⟨rfl, bthen HBW.out (bthen HB7.out HBZ.out)⟩
      · have hss : ¬ sm.toList = sh.toList := by rw [← HSM.out, ← HSH.out, ByteArray.toList_eq, ByteArray.toList_eq]; exact hmh
        obtain ⟨ha8, hm8, hc8, he8⟩ := HOI.out.2 hmh
        subst ha8 hm8 hc8 he8
        clear hmh HOI
        refine wp_region_held_drew (S := fun w' => Below w6.heap.size w6 w') (by kernel_rfl) (below_drew (Below.refl _ _)) (fun hHeld => ?_)
        refine take_at (i := 0) (v := ?_) rfl rfl (by kernel_rfl) (by kernel_rfl) (by kernel_rfl) (fun _ _ _ h => h) (Or.inl ⟨by rfl, ?_⟩) (by assumption) ?_
        rotate_left
        · intro w0 hSw; (try dsimp only at hSw); first | (go_simp; done) | (go_simp; with_reducible rfl)
        simp only [List.setIfInBounds_toArray, List.set_cons_zero, List.set_cons_succ]
        refine take_at (i := 1) rfl rfl (by kernel_rfl) (by kernel_rfl) (by kernel_rfl) (fun _ _ _ h => h) (yields_conv (by rfl) rfl rfl HSM.out (fun w0 hSw => HX6.out.below hSw)) (by assumption) ?_
        simp only [List.setIfInBounds_toArray, List.set_cons_zero, List.set_cons_succ]
        refine take_at (i := 2) (v := ?_) rfl rfl (by kernel_rfl) (by kernel_rfl) (by kernel_rfl) (fun _ _ _ h => h) (Or.inl ⟨by rfl, ?_⟩) (by assumption) ?_
        rotate_left
        · intro w0 hSw; (try dsimp only at hSw); first | (go_simp; done) | (go_simp; with_reducible rfl)
        simp only [List.setIfInBounds_toArray, List.set_cons_zero, List.set_cons_succ]
        refine take_at (i := 3) (v := ?_) rfl rfl (by kernel_rfl) (by kernel_rfl) (by kernel_rfl) (fun _ _ _ h => h) (Or.inl ⟨by rfl, ?_⟩) (by assumption) ?_
        rotate_left
        · intro w0 hSw; (try dsimp only at hSw); first | (go_simp; done) | (go_simp; with_reducible rfl)
        simp only [List.setIfInBounds_toArray, List.set_cons_zero, List.set_cons_succ]
        refine take_at (i := 4) rfl rfl (by kernel_rfl) (by kernel_rfl) (by kernel_rfl) (fun _ _ _ h => h) (yields_conv (by rfl) rfl rfl HSH.out (fun w0 hSw => HH6.out.below hSw)) (by assumption) ?_
        simp only [List.setIfInBounds_toArray, List.set_cons_zero, List.set_cons_succ]
        refine take_at (i := 5) (v := .bool true) rfl rfl (by kernel_rfl) (by kernel_rfl) (by kernel_rfl) (fun _ _ _ h => h) (Or.inl ⟨by rfl, ?_⟩) (by assumption) ?_
        · intro w0 hSw; (try dsimp only at hSw); first | (go_simp; done) | (go_simp; with_reducible rfl) | (go_simp; omega)
        simp only [List.setIfInBounds_toArray, List.set_cons_zero, List.set_cons_succ]
        refine wpAnyH_done (by kernel_rfl) ?_ _
        have HB7 := Lib.hid (show Below w6.heap.size w6 w6.drew from hHeld)
        clear hHeld
        have HK7 := Lib.hid (HK6.out.below HB7.out)
        go_wp2_with (first | (go_at_call 11; (with_reducible refine (awake11_any HK7.out).mono ?_); rintro e wz ⟨rfl, hbz⟩; have HBZ := Lib.hid hbz; clear hbz) | fail)
        go_ret
        exact ⟨rfl, bthen HBW.out (bthen HB7.out HBZ.out)⟩
    exact AllReadyH.nil
  · have f1 : (n : Int) < 16 := by omega
    go_upto_region 3 with (first | (refine wpList_load_row rfl 23 _ rfl q rfl 23 (cellsOf s).toArray (0, 0) _ HQ1.out Tryd.underlying23 rfl SZS.out ?_) | (go_at_call 10; (with_reducible refine (open_short (by omega)).mono ?_); rintro e w2 ⟨rfl, hb2⟩; have HT2 := Lib.hid hb2; clear hb2) | fail)
    have HK2 := Lib.hid (HK1.out.below HT2.out)
    go_wp2_with (first | (go_at_call 11; (with_reducible refine (awake11_any HK2.out).mono ?_); rintro e wz ⟨rfl, hbz⟩; have HBZ := Lib.hid hbz; clear hbz) | fail)
    go_ret
    exact ⟨rfl, bthen HB1.out (bthen HT2.out HBZ.out)⟩
end Go.Proofs.YtjfkhclcjggoeaaDoor
