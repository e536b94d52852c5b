/- The law's alike: a view and a list of rows that has the same. -/
import Derived.Test.YtdeilkpcmgcbaaaLawSt9
namespace Go.Proofs.Ytdeilkpcmgcbaaa
open Go.RowKit Go.Maps

set_option linter.unusedSimpArgs false in
set_option maxRecDepth 100000 in
set_option maxHeartbeats 25600000 in
theorem alike_law {w0 w : World} {pv : Value} {b N : Nat} {lv : Value} {rs : List PRow} (hv : ViewAt w pv b N rs) (hl : ListAt w0 w lv rs) :
    Calls Try.prog 9 #[pv, lv] w fun e w' => e = .returned (.bool true) ∧ Below w.heap.size w w' := by
  obtain ⟨a, c, rfl, hs, _⟩ := hl.it
  obtain ⟨F, hm, _⟩ := hv.map
  have hn100 : rs.length ≤ 100 := Nat.le_trans hm.few hv.few
  obtain ⟨n, hn⟩ : ∃ n, n = rs.length := ⟨_, rfl⟩
  have HALL := Lib.hid (all_any hv (by omega))
  rw [← hn] at HALL hs hn100 ⊢
  have HV := Lib.hid hv
  have HSL := Lib.hid hs
  have HN := Lib.hid hn
  have hn63 : (n : Int) ≤ 9223372036854775807 := by omega
  clear hv hl hm hs hn
  go_enter Try.func9, Try.ntmps9
  go_upto_region 5 with (first
    | (go_at_call 19; refine HALL.out.mono ?_; rintro e w1 ⟨a1, c1, xs, rfl, hx1, hst1, hb1⟩; have HX1 := Lib.hid hx1; have HST := Lib.hid hst1; have HB1 := Lib.hid hb1; clear hx1 hst1 hb1 HALL)
    | (go_at_call 18; refine (len_any (HV.out.below HB1.out)).mono ?_; rintro e w2 ⟨rfl, rfl⟩; rw [← HN.out])
    | fail)
  go_loopw [6] (fun i wr => ∃ j : Nat, j ≤ n ∧ i = .int .i64 j ∧ Below w1.heap.size w1 wr) (fun i _ => n - (intOf i).toNat)
  case atStart => exact ⟨0, Nat.zero_le _, rfl, Below.refl _ _⟩
  case round =>
    obtain ⟨j, hj, rfl, hbr⟩ := hrel
    have HBR := Lib.hid hbr
    clear hbr
    by_cases hjn : j < n
    · have f1 : (j : Int) < (n : Int) := by omega
      have f0 : (0 : Int) ≤ (j : Int) := by omega
      have ft : ((j : Int)).toNat = j := by omega
      have hsr := (HSL.out.below HB1.out).below HBR.out
      have hxr := HX1.out.below HBR.out
      have hVr := (HV.out.below HB1.out).below HBR.out
      obtain ⟨b1, o1, e1, hlt1, hc1⟩ := hxr.2.2.2.2.2 (by omega)
      obtain ⟨b2, o2, e2, hlt2, hc2⟩ := hsr.2.2.2.2.2 (by omega)
      have rx : wr.rangeAt b1 (o1 + j * 36) (xs.getD j noRow).cells := hc1 j hjn
      have rz : wr.rangeAt b2 (o2 + j * 36) (rs.getD j noRow).cells := hc2 j hjn
      have ix : RowIn wr (xs.getD j noRow) := hxr.get hjn
      have iz : RowIn wr (rs.getD j noRow) := hsr.get hjn
      have hjr : j < rs.length := by rw [← HN.out]; exact hjn
      have hsx := strip_at HST.out hjr
      have hgr := get_row hVr (row_mem hjr)
      have hnc1 : (n : Int) ≤ (c1 : Int) := by have h2 := hxr.2.1; omega
      have hnc : (n : Int) ≤ (c : Int) := by have h2 := hsr.2.1; omega
      have hc163 : (c1 : Int) ≤ 9223372036854775807 := by have h2 := hxr.2.2.1; unfold maxLen at h2; omega
      have hc63 : (c : Int) ≤ 9223372036854775807 := by have h2 := hsr.2.2.1; unfold maxLen at h2; omega
      revert rx rz ix iz hsx hgr
      generalize xs.getD j noRow = x
      generalize rs.getD j noRow = z
      obtain ⟨s, p, ⟨m, a6, n6, c6, ws6⟩, ht⟩ := z
      obtain ⟨s5, p5, ⟨m5, a5, n5, c5, ws5⟩, h5⟩ := x
      intro rx rz ix iz hsx hgr
      have e3 : s5 = s := congrArg PRow.tx hsx
      have e4 : p5 = p := congrArg PRow.place hsx
      have e5 : m5 = m := congrArg (fun r => r.out.m) hsx
      have e6 : ws5.map PWay.strip = ws6.map PWay.strip := congrArg (fun r => r.out.ws) hsx
      have e7 : h5 = ht := congrArg PRow.height hsx
      subst e3 e4 e5 e7 e1 e2
      dsimp only at hgr
      have htx : s5.length = 32 := iz.tx
      have RX0 := Lib.hid (row_ref rx)
      have RZ0 := Lib.hid (row_ref rz)
      have OX0 := Lib.hid (row_out htx rx)
      have OZ0 := Lib.hid (row_out htx rz)
      have HX0 := Lib.hid (row_height htx rx)
      have HZ0 := Lib.hid (row_height htx rz)
      have WX := Lib.hid ix.out.ws
      have WZ := Lib.hid iz.out.ws
      have E6 := Lib.hid e6
      have HGR := Lib.hid hgr
      have SR := Lib.hid (refSize (z := p5) htx)
      have HTX := Lib.hid htx
      have L1 := Lib.hid hlt1
      have L2 := Lib.hid hlt2
      dsimp only at RX0 RZ0 OX0 OZ0 HX0 HZ0 WX WZ
      clear hsr hxr hVr hc1 hc2 rx rz ix iz hsx hgr e6 htx hlt1 hlt2 hjr
      go_upto_region 8 with (first
        | (refine wpList_load_mid rfl 32 _ rfl b2 (o2 + j * 36) rfl (refCells s5 p5) _ RZ0.out Try.underlying32 rfl SR.out ?_)
        | (go_at_call 15; refine HGR.out.mono ?_; rintro e w7 ⟨v7, rfl, ⟨a7, n7, c7, ys7, rfl, hw7, _, hst7⟩, hb7⟩; have HW7 := Lib.hid hw7; have HST7 := Lib.hid hst7; have HB7 := Lib.hid hb7; clear hw7 hst7 hb7 HGR; unfold coinV)
        | (refine wpList_store_row rfl 41 _ _ rfl w7.heap.size #[.int .i64 m5, .slice a7 n7 c7, .int .i64 h5] rfl rfl 41 #[.int .i64 0, .slice none 0 0, .int .i64 0] (heap_alloc_new _ _) (coin_size9 m5 h5 a7 n7 c7) rfl (coin_one9 m5 h5 a7 n7 c7) ?_)
        | fail)
      rw [layCoin_is]
      have h8 := layCoin_heap w7 m5 a7 n7 c7 h5
      have b8 := layCoin_below (Below.refl w7.heap.size w7) (Nat.le_refl _) m5 a7 n7 c7 h5
      revert h8 b8
      generalize layCoin w7 m5 a7 n7 c7 h5 = w8
      obtain ⟨g7, hg7⟩ : ∃ g, g = w7.heap.size := ⟨_, rfl⟩
      rw [← hg7]
      intro h8 b8
      rw [hg7] at b8
      have hb8 : Below wr.heap.size wr w8 := HB7.out.trans (b8.mono HB7.out.size)
      have HB8 : Hid (Below w1.heap.size w1 w8) := Lib.hid (HBR.out.trans (hb8.mono HBR.out.size))
      have hB8 : ∀ W : World, Below w8.heap.size w8 W → Below wr.heap.size wr W := fun W hW => hb8.trans (hW.mono hb8.size)
      have RX : Hid (∀ W : World, Below w8.heap.size w8 W → W.rangeAt b1 (o1 + j * 36) (refCells s5 p5)) := Lib.hid (fun W hW => rangeAt_below RX0.out L1.out (hB8 W hW))
      have RZ : Hid (∀ W : World, Below w8.heap.size w8 W → W.rangeAt b2 (o2 + j * 36) (refCells s5 p5)) := Lib.hid (fun W hW => rangeAt_below RZ0.out L2.out (hB8 W hW))
      have OX : Hid (∀ W : World, Below w8.heap.size w8 W → W.rangeAt b1 (o1 + j * 36 + 33) [.int .i64 m5, .slice a5 n5 c5]) := Lib.hid (fun W hW => rangeAt_below OX0.out L1.out (hB8 W hW))
      have OZ : Hid (∀ W : World, Below w8.heap.size w8 W → W.rangeAt b2 (o2 + j * 36 + 33) [.int .i64 m5, .slice a6 n6 c6]) := Lib.hid (fun W hW => rangeAt_below OZ0.out L2.out (hB8 W hW))
      have HX : Hid (∀ W : World, Below w8.heap.size w8 W → W.cell? ⟨b1, o1 + j * 36 + 35, none⟩ = some (.int .i64 h5)) := Lib.hid (fun W hW => ((hB8 W hW).cell (p := ⟨b1, o1 + j * 36 + 35, none⟩) L1.out).trans HX0.out)
      have HZ : Hid (∀ W : World, Below w8.heap.size w8 W → W.cell? ⟨b2, o2 + j * 36 + 35, none⟩ = some (.int .i64 h5)) := Lib.hid (fun W hW => ((hB8 W hW).cell (p := ⟨b2, o2 + j * 36 + 35, none⟩) L2.out).trans HZ0.out)
      have OG : Hid (∀ W : World, Below w8.heap.size w8 W → W.rangeAt g7 0 [.int .i64 m5, .slice a7 n7 c7]) := Lib.hid (fun W hW => fun i v hv => by
        rw [Nat.zero_add, cell_of_row W g7 _ _ _ _ ((hW.block _ (lt_of_block h8)).trans h8)]
        match i, hv with
        | 0, hv => exact hv
        | 1, hv => exact hv)
      have SXZ : Hid (∀ W : World, Below w8.heap.size w8 W → Calls Try.prog 23 #[.agg #[.int .i64 m5, .slice a5 n5 c5], .agg #[.int .i64 m5, .slice a6 n6 c6]] W fun e w' => e = .returned (.bool true) ∧ Below W.heap.size W w') := Lib.hid (fun W hW => by
        have h9 := lockSame_any (m := m5) (m' := m5) (WX.out.below (hB8 W hW)) (WZ.out.below (hB8 W hW))
        rw [decide_eq_true rfl, Bool.true_and, alikeWs_strip.2 E6.out] at h9
        exact h9)
      have SGZ : Hid (∀ W : World, Below w8.heap.size w8 W → Calls Try.prog 23 #[.agg #[.int .i64 m5, .slice a7 n7 c7], .agg #[.int .i64 m5, .slice a6 n6 c6]] W fun e w' => e = .returned (.bool true) ∧ Below W.heap.size W w') := Lib.hid (fun W hW => by
        have h9 := lockSame_any (m := m5) (m' := m5) ((HW7.out.below b8).below hW) (WZ.out.below (hB8 W hW))
        rw [decide_eq_true rfl, Bool.true_and, alikeWs_strip.2 HST7.out] at h9
        exact h9)
      have q : ∀ W : World, (Op.equalIn 10000 32 (.agg (refCells s5 p5).toArray) (.agg (refCells s5 p5).toArray)).run Try.prog W = .ok true W := fun W => by
        have h9 := run_eqRefs s5 s5 p5 p5 HTX.out HTX.out W
        rw [decide_eq_true rfl, decide_eq_true rfl] at h9
        exact h9
      clear h8 b8 hb8 hB8 hg7 RX0 RZ0 OX0 OZ0 HX0 HZ0 WX WZ HW7
      try simp only [Act.put]
      refine wp_region_held_drew (S := fun w' => Below w8.heap.size w8 w') (by kernel_rfl) (below_drew (Below.refl _ _)) (fun hHeld => ?_)
      refine take_at (i := 0) (v := ?_) rfl rfl (by kernel_rfl) (by kernel_rfl) (by kernel_rfl) (fun _ _ _ h => h) (Or.inl ⟨by rfl, ?_⟩) (by assumption) ?_
      rotate_left
      · intro w0 hSw; (try dsimp only at hSw); first | (go_simp; done) | (go_simp; with_reducible rfl)
      simp only [List.setIfInBounds_toArray, List.set_cons_zero, List.set_cons_succ]
      refine take_at (i := 1) (v := ?_) rfl rfl (by kernel_rfl) (by kernel_rfl) (by kernel_rfl) (fun _ _ _ h => h) (Or.inl ⟨by rfl, ?_⟩) (by assumption) ?_
      rotate_left
      · intro w0 hSw; (try dsimp only at hSw); first | (go_simp; done) | (go_simp; with_reducible rfl)
      simp only [List.setIfInBounds_toArray, List.set_cons_zero, List.set_cons_succ]
      refine take_at (i := 2) (v := ?_) rfl rfl (by kernel_rfl) (by kernel_rfl) (by kernel_rfl) (fun _ _ _ h => h) (Or.inl ⟨by rfl, ?_⟩) (by assumption) ?_
      rotate_left
      · intro w0 hSw; (try dsimp only at hSw); first | (go_simp; done) | (go_simp; with_reducible rfl)
      simp only [List.setIfInBounds_toArray, List.set_cons_zero, List.set_cons_succ]
      refine take_at (i := 3) (v := ?_) rfl rfl (by kernel_rfl) (by kernel_rfl) (by kernel_rfl) (fun _ _ _ h => h) (Or.inl ⟨by rfl, ?_⟩) (by assumption) ?_
      rotate_left
      · intro w0 hSw; (try dsimp only at hSw); first | (go_simp; done) | (go_simp; with_reducible rfl)
      simp only [List.setIfInBounds_toArray, List.set_cons_zero, List.set_cons_succ]
      refine take_at (i := 4) (v := ?_) rfl rfl (by kernel_rfl) (by kernel_rfl) (by kernel_rfl) (fun _ _ _ h => h) (Or.inl ⟨by rfl, ?_⟩) (by assumption) ?_
      rotate_left
      · intro w0 hSw; (try dsimp only at hSw); first | (go_simp; done) | (go_simp; with_reducible rfl)
      simp only [List.setIfInBounds_toArray, List.set_cons_zero, List.set_cons_succ]
      refine take_at (i := 5) (v := ?_) rfl rfl (by kernel_rfl) (by kernel_rfl) (by kernel_rfl) (fun _ _ _ h => h) (Or.inl ⟨by rfl, ?_⟩) (by assumption) ?_
      rotate_left
      · intro w0 hSw; (try dsimp only at hSw); first | (go_simp; done) | (go_simp; with_reducible rfl)
      simp only [List.setIfInBounds_toArray, List.set_cons_zero, List.set_cons_succ]
      refine take_at (i := 6) (v := ?_) rfl rfl (by kernel_rfl) (by kernel_rfl) (by kernel_rfl) (fun _ _ _ h => h) (Or.inl ⟨by rfl, ?_⟩) (by assumption) ?_
      rotate_left
      · intro w0 hSw; (try dsimp only at hSw); first | (go_simp; done) | (go_simp; with_reducible rfl)
      simp only [List.setIfInBounds_toArray, List.set_cons_zero, List.set_cons_succ]
      refine take_at (i := 7) rfl rfl (by kernel_rfl) (by kernel_rfl) (by kernel_rfl) (fun _ _ _ h => h) (yieldsIf_load_mid (by rfl) _ _ rfl b1 (o1 + j * 36) rfl (refCells s5 p5) _ (fun w0 hSw => RX.out w0 hSw) Try.underlying32 rfl SR.out) (by assumption) ?_
      simp only [List.setIfInBounds_toArray, List.set_cons_zero, List.set_cons_succ]
      refine take_at (i := 8) (v := ?_) rfl rfl (by kernel_rfl) (by kernel_rfl) (by kernel_rfl) (fun _ _ _ h => h) (Or.inl ⟨by rfl, ?_⟩) (by assumption) ?_
      rotate_left
      · intro w0 hSw; (try dsimp only at hSw); first | (go_simp; done) | (go_simp; with_reducible rfl)
      simp only [List.setIfInBounds_toArray, List.set_cons_zero, List.set_cons_succ]
      refine take_at (i := 9) (v := ?_) rfl rfl (by kernel_rfl) (by kernel_rfl) (by kernel_rfl) (fun _ _ _ h => h) (Or.inl ⟨by rfl, ?_⟩) (by assumption) ?_
      rotate_left
      · intro w0 hSw; (try dsimp only at hSw); first | (go_simp; done) | (go_simp; with_reducible rfl)
      simp only [List.setIfInBounds_toArray, List.set_cons_zero, List.set_cons_succ]
      refine take_at (i := 10) (v := ?_) rfl rfl (by kernel_rfl) (by kernel_rfl) (by kernel_rfl) (fun _ _ _ h => h) (Or.inl ⟨by rfl, ?_⟩) (by assumption) ?_
      rotate_left
      · intro w0 hSw; (try dsimp only at hSw); first | (go_simp; done) | (go_simp; with_reducible rfl)
      simp only [List.setIfInBounds_toArray, List.set_cons_zero, List.set_cons_succ]
      refine take_at (i := 11) (v := ?_) rfl rfl (by kernel_rfl) (by kernel_rfl) (by kernel_rfl) (fun _ _ _ h => h) (Or.inl ⟨by rfl, ?_⟩) (by assumption) ?_
      rotate_left
      · intro w0 hSw; (try dsimp only at hSw); first | (go_simp; done) | (go_simp; with_reducible rfl)
      simp only [List.setIfInBounds_toArray, List.set_cons_zero, List.set_cons_succ]
      refine take_at (i := 12) rfl rfl (by kernel_rfl) (by kernel_rfl) (by kernel_rfl) (fun _ _ _ h => h) (yieldsIf_load_mid (by rfl) _ _ rfl b2 (o2 + j * 36) rfl (refCells s5 p5) _ (fun w0 hSw => RZ.out w0 hSw) Try.underlying32 rfl SR.out) (by assumption) ?_
      simp only [List.setIfInBounds_toArray, List.set_cons_zero, List.set_cons_succ]
      refine take_at (i := 13) (v := .bool false) rfl rfl (by kernel_rfl) (by kernel_rfl) (by kernel_rfl) (fun _ _ _ h => h) (Or.inl ⟨by rfl, ?_⟩) (by assumption) ?_
      · intro w0 hSw; (try dsimp only at hSw); first | (go_simp; done) | (go_simp; with_reducible rfl) | (go_simp; omega)
      simp only [List.setIfInBounds_toArray, List.set_cons_zero, List.set_cons_succ]
      refine take_at (i := 14) (v := ?_) rfl rfl (by kernel_rfl) (by kernel_rfl) (by kernel_rfl) (fun _ _ _ h => h) (Or.inl ⟨by rfl, ?_⟩) (by assumption) ?_
      rotate_left
      · intro w0 hSw; (try dsimp only at hSw); first | (go_simp; done) | (go_simp; with_reducible rfl)
      simp only [List.setIfInBounds_toArray, List.set_cons_zero, List.set_cons_succ]
      refine take_at (i := 15) (v := ?_) rfl rfl (by kernel_rfl) (by kernel_rfl) (by kernel_rfl) (fun _ _ _ h => h) (Or.inl ⟨by rfl, ?_⟩) (by assumption) ?_
      rotate_left
      · intro w0 hSw; (try dsimp only at hSw); first | (go_simp; done) | (go_simp; with_reducible rfl)
      simp only [List.setIfInBounds_toArray, List.set_cons_zero, List.set_cons_succ]
      refine take_at (i := 16) (v := ?_) rfl rfl (by kernel_rfl) (by kernel_rfl) (by kernel_rfl) (fun _ _ _ h => h) (Or.inl ⟨by rfl, ?_⟩) (by assumption) ?_
      rotate_left
      · intro w0 hSw; (try dsimp only at hSw); first | (go_simp; done) | (go_simp; with_reducible rfl)
      simp only [List.setIfInBounds_toArray, List.set_cons_zero, List.set_cons_succ]
      refine take_at (i := 17) (v := ?_) rfl rfl (by kernel_rfl) (by kernel_rfl) (by kernel_rfl) (fun _ _ _ h => h) (Or.inl ⟨by rfl, ?_⟩) (by assumption) ?_
      rotate_left
      · intro w0 hSw; (try dsimp only at hSw); first | (go_simp; done) | (go_simp; with_reducible rfl)
      simp only [List.setIfInBounds_toArray, List.set_cons_zero, List.set_cons_succ]
      refine take_at (i := 18) (v := ?_) rfl rfl (by kernel_rfl) (by kernel_rfl) (by kernel_rfl) (fun _ _ _ h => h) (Or.inl ⟨by rfl, ?_⟩) (by assumption) ?_
      rotate_left
      · intro w0 hSw; (try dsimp only at hSw); first | (go_simp; done) | (go_simp; with_reducible rfl)
      simp only [List.setIfInBounds_toArray, List.set_cons_zero, List.set_cons_succ]
      refine take_at (i := 19) (v := ?_) rfl rfl (by kernel_rfl) (by kernel_rfl) (by kernel_rfl) (fun _ _ _ h => h) (Or.inl ⟨by rfl, ?_⟩) (by assumption) ?_
      rotate_left
      · intro w0 hSw; (try dsimp only at hSw); first | (go_simp; done) | (go_simp; with_reducible rfl)
      simp only [List.setIfInBounds_toArray, List.set_cons_zero, List.set_cons_succ]
      refine take_at (i := 20) (v := ?_) rfl rfl (by kernel_rfl) (by kernel_rfl) (by kernel_rfl) (fun _ _ _ h => h) (Or.inl ⟨by rfl, ?_⟩) (by assumption) ?_
      rotate_left
      · intro w0 hSw; (try dsimp only at hSw); first | (go_simp; done) | (go_simp; with_reducible rfl)
      simp only [List.setIfInBounds_toArray, List.set_cons_zero, List.set_cons_succ]
      refine take_at (i := 21) rfl rfl (by kernel_rfl) (by kernel_rfl) (by kernel_rfl) (fun _ _ _ h => h) (yieldsIf_load_mid (by rfl) _ _ rfl b1 (o1 + j * 36 + 33) rfl [.int .i64 m5, .slice a5 n5 c5] _ (fun w0 hSw => OX.out w0 hSw) Try.underlying28 rfl (by kernel_rfl)) (by assumption) ?_
      simp only [List.setIfInBounds_toArray, List.set_cons_zero, List.set_cons_succ]
      refine take_at (i := 22) (v := ?_) rfl rfl (by kernel_rfl) (by kernel_rfl) (by kernel_rfl) (fun _ _ _ h => h) (Or.inl ⟨by rfl, ?_⟩) (by assumption) ?_
      rotate_left
      · intro w0 hSw; (try dsimp only at hSw); first | (go_simp; done) | (go_simp; with_reducible rfl)
      simp only [List.setIfInBounds_toArray, List.set_cons_zero, List.set_cons_succ]
      refine take_at (i := 23) (v := ?_) rfl rfl (by kernel_rfl) (by kernel_rfl) (by kernel_rfl) (fun _ _ _ h => h) (Or.inl ⟨by rfl, ?_⟩) (by assumption) ?_
      rotate_left
      · intro w0 hSw; (try dsimp only at hSw); first | (go_simp; done) | (go_simp; with_reducible rfl)
      simp only [List.setIfInBounds_toArray, List.set_cons_zero, List.set_cons_succ]
      refine take_at (i := 24) (v := ?_) rfl rfl (by kernel_rfl) (by kernel_rfl) (by kernel_rfl) (fun _ _ _ h => h) (Or.inl ⟨by rfl, ?_⟩) (by assumption) ?_
      rotate_left
      · intro w0 hSw; (try dsimp only at hSw); first | (go_simp; done) | (go_simp; with_reducible rfl)
      simp only [List.setIfInBounds_toArray, List.set_cons_zero, List.set_cons_succ]
      refine take_at (i := 25) (v := ?_) rfl rfl (by kernel_rfl) (by kernel_rfl) (by kernel_rfl) (fun _ _ _ h => h) (Or.inl ⟨by rfl, ?_⟩) (by assumption) ?_
      rotate_left
      · intro w0 hSw; (try dsimp only at hSw); first | (go_simp; done) | (go_simp; with_reducible rfl)
      simp only [List.setIfInBounds_toArray, List.set_cons_zero, List.set_cons_succ]
      refine take_at (i := 26) (v := ?_) rfl rfl (by kernel_rfl) (by kernel_rfl) (by kernel_rfl) (fun _ _ _ h => h) (Or.inl ⟨by rfl, ?_⟩) (by assumption) ?_
      rotate_left
      · intro w0 hSw; (try dsimp only at hSw); first | (go_simp; done) | (go_simp; with_reducible rfl)
      simp only [List.setIfInBounds_toArray, List.set_cons_zero, List.set_cons_succ]
      refine take_at (i := 27) rfl rfl (by kernel_rfl) (by kernel_rfl) (by kernel_rfl) (fun _ _ _ h => h) (yieldsIf_load_mid (by rfl) _ _ rfl b2 (o2 + j * 36 + 33) rfl [.int .i64 m5, .slice a6 n6 c6] _ (fun w0 hSw => OZ.out w0 hSw) Try.underlying28 rfl (by kernel_rfl)) (by assumption) ?_
      simp only [List.setIfInBounds_toArray, List.set_cons_zero, List.set_cons_succ]
      refine wpAnyH_ready (rs := [28]) (by kernel_rfl) (by simp) ?_
      refine AllReadyH.cons rfl (fun K hK => ?_) ?_
      · go_simp
        go_at_call 23
        refine (SXZ.out _ hHeld).mono ?_
        rintro e x9 ⟨rfl, hb9⟩
        dsimp only
        have HS9 := Lib.hid (Below.trans hHeld (hb9.mono (Below.size hHeld)))
        clear hb9
        refine hK.out _ _ (by (try dsimp only); exact HS9.out) (fun hHeld => ?_)
        clear hK K
        refine take_at (i := 29) (v := ?_) rfl rfl (by kernel_rfl) (by kernel_rfl) (by kernel_rfl) (fun _ _ _ h => h) (Or.inl ⟨by rfl, ?_⟩) (by assumption) ?_
        rotate_left
        · intro w0 hSw; (try dsimp only at hSw); first | (go_simp; done) | (go_simp; with_reducible rfl)
        simp only [List.setIfInBounds_toArray, List.set_cons_zero, List.set_cons_succ]
        refine take_at (i := 30) (v := ?_) rfl rfl (by kernel_rfl) (by kernel_rfl) (by kernel_rfl) (fun _ _ _ h => h) (Or.inl ⟨by rfl, ?_⟩) (by assumption) ?_
        rotate_left
        · intro w0 hSw; (try dsimp only at hSw); first | (go_simp; done) | (go_simp; with_reducible rfl)
        simp only [List.setIfInBounds_toArray, List.set_cons_zero, List.set_cons_succ]
        refine take_at (i := 31) (v := ?_) rfl rfl (by kernel_rfl) (by kernel_rfl) (by kernel_rfl) (fun _ _ _ h => h) (Or.inl ⟨by rfl, ?_⟩) (by assumption) ?_
        rotate_left
        · intro w0 hSw; (try dsimp only at hSw); first | (go_simp; done) | (go_simp; with_reducible rfl)
        simp only [List.setIfInBounds_toArray, List.set_cons_zero, List.set_cons_succ]
        refine take_at (i := 32) (v := ?_) rfl rfl (by kernel_rfl) (by kernel_rfl) (by kernel_rfl) (fun _ _ _ h => h) (Or.inl ⟨by rfl, ?_⟩) (by assumption) ?_
        rotate_left
        · intro w0 hSw; (try dsimp only at hSw); first | (go_simp; done) | (go_simp; with_reducible rfl)
        simp only [List.setIfInBounds_toArray, List.set_cons_zero, List.set_cons_succ]
        refine take_at (i := 33) (v := ?_) rfl rfl (by kernel_rfl) (by kernel_rfl) (by kernel_rfl) (fun _ _ _ h => h) (Or.inl ⟨by rfl, ?_⟩) (by assumption) ?_
        rotate_left
        · intro w0 hSw; (try dsimp only at hSw); first | (go_simp; done) | (go_simp; with_reducible rfl)
        simp only [List.setIfInBounds_toArray, List.set_cons_zero, List.set_cons_succ]
        refine take_at (i := 34) (v := ?_) rfl rfl (by kernel_rfl) (by kernel_rfl) (by kernel_rfl) (fun _ _ _ h => h) (Or.inl ⟨by rfl, ?_⟩) (by assumption) ?_
        rotate_left
        · intro w0 hSw; (try dsimp only at hSw); first | (go_simp; done) | (go_simp; with_reducible rfl)
        simp only [List.setIfInBounds_toArray, List.set_cons_zero, List.set_cons_succ]
        refine take_at (i := 35) (v := ?_) rfl rfl (by kernel_rfl) (by kernel_rfl) (by kernel_rfl) (fun _ _ _ h => h) (Or.inl ⟨by rfl, ?_⟩) (by assumption) ?_
        rotate_left
        · intro w0 hSw; (try dsimp only at hSw); first | (go_simp; done) | (go_simp; with_reducible rfl)
        simp only [List.setIfInBounds_toArray, List.set_cons_zero, List.set_cons_succ]
        refine take_at (i := 36) (v := ?_) rfl rfl (by kernel_rfl) (by kernel_rfl) (by kernel_rfl) (fun _ _ _ h => h) (Or.inl ⟨by rfl, ?_⟩) (by assumption) ?_
        rotate_left
        · intro w0 hSw; (try dsimp only at hSw); first | (go_simp; done) | (go_simp; with_reducible rfl)
        simp only [List.setIfInBounds_toArray, List.set_cons_zero, List.set_cons_succ]
        refine take_at (i := 37) rfl rfl (by kernel_rfl) (by kernel_rfl) (by kernel_rfl) (fun _ _ _ h => h) (yields_cell (b := b1) (o := o1 + j * 36 + 35) (by rfl) rfl rfl (fun w0 hSw => HX.out w0 hSw) Try.isAgg3) (by assumption) ?_
        simp only [List.setIfInBounds_toArray, List.set_cons_zero, List.set_cons_succ]
        refine take_at (i := 38) (v := ?_) rfl rfl (by kernel_rfl) (by kernel_rfl) (by kernel_rfl) (fun _ _ _ h => h) (Or.inl ⟨by rfl, ?_⟩) (by assumption) ?_
        rotate_left
        · intro w0 hSw; (try dsimp only at hSw); first | (go_simp; done) | (go_simp; with_reducible rfl)
        simp only [List.setIfInBounds_toArray, List.set_cons_zero, List.set_cons_succ]
        refine take_at (i := 39) (v := ?_) rfl rfl (by kernel_rfl) (by kernel_rfl) (by kernel_rfl) (fun _ _ _ h => h) (Or.inl ⟨by rfl, ?_⟩) (by assumption) ?_
        rotate_left
        · intro w0 hSw; (try dsimp only at hSw); first | (go_simp; done) | (go_simp; with_reducible rfl)
        simp only [List.setIfInBounds_toArray, List.set_cons_zero, List.set_cons_succ]
        refine take_at (i := 40) (v := ?_) rfl rfl (by kernel_rfl) (by kernel_rfl) (by kernel_rfl) (fun _ _ _ h => h) (Or.inl ⟨by rfl, ?_⟩) (by assumption) ?_
        rotate_left
        · intro w0 hSw; (try dsimp only at hSw); first | (go_simp; done) | (go_simp; with_reducible rfl)
        simp only [List.setIfInBounds_toArray, List.set_cons_zero, List.set_cons_succ]
        refine take_at (i := 41) (v := ?_) rfl rfl (by kernel_rfl) (by kernel_rfl) (by kernel_rfl) (fun _ _ _ h => h) (Or.inl ⟨by rfl, ?_⟩) (by assumption) ?_
        rotate_left
        · intro w0 hSw; (try dsimp only at hSw); first | (go_simp; done) | (go_simp; with_reducible rfl)
        simp only [List.setIfInBounds_toArray, List.set_cons_zero, List.set_cons_succ]
        refine take_at (i := 42) (v := ?_) rfl rfl (by kernel_rfl) (by kernel_rfl) (by kernel_rfl) (fun _ _ _ h => h) (Or.inl ⟨by rfl, ?_⟩) (by assumption) ?_
        rotate_left
        · intro w0 hSw; (try dsimp only at hSw); first | (go_simp; done) | (go_simp; with_reducible rfl)
        simp only [List.setIfInBounds_toArray, List.set_cons_zero, List.set_cons_succ]
        refine take_at (i := 43) rfl rfl (by kernel_rfl) (by kernel_rfl) (by kernel_rfl) (fun _ _ _ h => h) (yields_cell (b := b2) (o := o2 + j * 36 + 35) (by rfl) rfl rfl (fun w0 hSw => HZ.out w0 hSw) Try.isAgg3) (by assumption) ?_
        simp only [List.setIfInBounds_toArray, List.set_cons_zero, List.set_cons_succ]
        refine take_at (i := 44) (v := .bool false) rfl rfl (by kernel_rfl) (by kernel_rfl) (by kernel_rfl) (fun _ _ _ h => h) (Or.inl ⟨by rfl, ?_⟩) (by assumption) ?_
        · intro w0 hSw; (try dsimp only at hSw); first | (go_simp; done) | (go_simp; with_reducible rfl) | (go_simp; omega)
        simp only [List.setIfInBounds_toArray, List.set_cons_zero, List.set_cons_succ]
        refine take_at (i := 45) (v := ?_) rfl rfl (by kernel_rfl) (by kernel_rfl) (by kernel_rfl) (fun _ _ _ h => h) (Or.inl ⟨by rfl, ?_⟩) (by assumption) ?_
        rotate_left
        · intro w0 hSw; (try dsimp only at hSw); first | (go_simp; done) | (go_simp; with_reducible rfl)
        simp only [List.setIfInBounds_toArray, List.set_cons_zero, List.set_cons_succ]
        refine take_at (i := 46) (v := ?_) rfl rfl (by kernel_rfl) (by kernel_rfl) (by kernel_rfl) (fun _ _ _ h => h) (Or.inl ⟨by rfl, ?_⟩) (by assumption) ?_
        rotate_left
        · intro w0 hSw; (try dsimp only at hSw); first | (go_simp; done) | (go_simp; with_reducible rfl)
        simp only [List.setIfInBounds_toArray, List.set_cons_zero, List.set_cons_succ]
        refine take_at (i := 47) (v := ?_) rfl rfl (by kernel_rfl) (by kernel_rfl) (by kernel_rfl) (fun _ _ _ h => h) (Or.inl ⟨by rfl, ?_⟩) (by assumption) ?_
        rotate_left
        · intro w0 hSw; (try dsimp only at hSw); first | (go_simp; done) | (go_simp; with_reducible rfl)
        simp only [List.setIfInBounds_toArray, List.set_cons_zero, List.set_cons_succ]
        refine take_at (i := 48) rfl rfl (by kernel_rfl) (by kernel_rfl) (by kernel_rfl) (fun _ _ _ h => h) (yieldsIf_load_mid (by rfl) _ _ rfl g7 0 rfl [.int .i64 m5, .slice a7 n7 c7] _ (fun w0 hSw => OG.out w0 hSw) Try.underlying28 rfl (by kernel_rfl)) (by assumption) ?_
        simp only [List.setIfInBounds_toArray, List.set_cons_zero, List.set_cons_succ]
        refine take_at (i := 49) (v := ?_) rfl rfl (by kernel_rfl) (by kernel_rfl) (by kernel_rfl) (fun _ _ _ h => h) (Or.inl ⟨by rfl, ?_⟩) (by assumption) ?_
        rotate_left
        · intro w0 hSw; (try dsimp only at hSw); first | (go_simp; done) | (go_simp; with_reducible rfl)
        simp only [List.setIfInBounds_toArray, List.set_cons_zero, List.set_cons_succ]
        refine take_at (i := 50) (v := ?_) rfl rfl (by kernel_rfl) (by kernel_rfl) (by kernel_rfl) (fun _ _ _ h => h) (Or.inl ⟨by rfl, ?_⟩) (by assumption) ?_
        rotate_left
        · intro w0 hSw; (try dsimp only at hSw); first | (go_simp; done) | (go_simp; with_reducible rfl)
        simp only [List.setIfInBounds_toArray, List.set_cons_zero, List.set_cons_succ]
        refine take_at (i := 51) (v := ?_) rfl rfl (by kernel_rfl) (by kernel_rfl) (by kernel_rfl) (fun _ _ _ h => h) (Or.inl ⟨by rfl, ?_⟩) (by assumption) ?_
        rotate_left
        · intro w0 hSw; (try dsimp only at hSw); first | (go_simp; done) | (go_simp; with_reducible rfl)
        simp only [List.setIfInBounds_toArray, List.set_cons_zero, List.set_cons_succ]
        refine take_at (i := 52) (v := ?_) rfl rfl (by kernel_rfl) (by kernel_rfl) (by kernel_rfl) (fun _ _ _ h => h) (Or.inl ⟨by rfl, ?_⟩) (by assumption) ?_
        rotate_left
        · intro w0 hSw; (try dsimp only at hSw); first | (go_simp; done) | (go_simp; with_reducible rfl)
        simp only [List.setIfInBounds_toArray, List.set_cons_zero, List.set_cons_succ]
        refine take_at (i := 53) (v := ?_) rfl rfl (by kernel_rfl) (by kernel_rfl) (by kernel_rfl) (fun _ _ _ h => h) (Or.inl ⟨by rfl, ?_⟩) (by assumption) ?_
        rotate_left
        · intro w0 hSw; (try dsimp only at hSw); first | (go_simp; done) | (go_simp; with_reducible rfl)
        simp only [List.setIfInBounds_toArray, List.set_cons_zero, List.set_cons_succ]
        refine take_at (i := 54) rfl rfl (by kernel_rfl) (by kernel_rfl) (by kernel_rfl) (fun _ _ _ h => h) (yieldsIf_load_mid (by rfl) _ _ rfl b2 (o2 + j * 36 + 33) rfl [.int .i64 m5, .slice a6 n6 c6] _ (fun w0 hSw => OZ.out w0 hSw) Try.underlying28 rfl (by kernel_rfl)) (by assumption) ?_
        simp only [List.setIfInBounds_toArray, List.set_cons_zero, List.set_cons_succ]
        refine wpAnyH_ready (rs := [55]) (by kernel_rfl) (by simp) ?_
        refine AllReadyH.cons rfl (fun K hK => ?_) ?_
        · go_simp
          go_at_call 23
          refine (SGZ.out _ hHeld).mono ?_
          rintro e x10 ⟨rfl, hb10⟩
          dsimp only
          have HS10 := Lib.hid (Below.trans hHeld (hb10.mono (Below.size hHeld)))
          clear hb10
          refine hK.out _ _ (by (try dsimp only); exact HS10.out) (fun hHeld => ?_)
          clear hK K
          refine take_at (i := 56) (v := ?_) rfl rfl (by kernel_rfl) (by kernel_rfl) (by kernel_rfl) (fun _ _ _ h => h) (Or.inl ⟨by rfl, ?_⟩) (by assumption) ?_
          rotate_left
          · intro w0 hSw; (try dsimp only at hSw); first | (go_simp; done) | (go_simp; with_reducible rfl)
          simp only [List.setIfInBounds_toArray, List.set_cons_zero, List.set_cons_succ]
          refine take_at (i := 57) (v := ?_) rfl rfl (by kernel_rfl) (by kernel_rfl) (by kernel_rfl) (fun _ _ _ h => h) (Or.inl ⟨by rfl, ?_⟩) (by assumption) ?_
          rotate_left
          · intro w0 hSw; (try dsimp only at hSw); first | (go_simp; done) | (go_simp; with_reducible rfl)
          simp only [List.setIfInBounds_toArray, List.set_cons_zero, List.set_cons_succ]
          refine wpAnyH_done (by kernel_rfl) ?_ _
          have HB9 := Lib.hid (show Below w8.heap.size w8 _ from hHeld)
          clear hHeld
          go_wp2_with fail
          go_roundw
          case rel => exact ⟨j + 1, by omega, by go_num, HB8.out.trans (HB9.out.mono HB8.out.size)⟩
          case measure => simp [intOf]; omega
        exact AllReadyH.nil
      exact AllReadyH.nil
    · obtain rfl : j = n := by omega
      have f1 : ¬ ((j : Int) < (j : Int)) := by omega
      clear hjn hj
      go_wp2_with fail
      go_ret
      exact ⟨rfl, HB1.out.trans (HBR.out.mono HB1.out.size)⟩
end Go.Proofs.Ytdeilkpcmgcbaaa
