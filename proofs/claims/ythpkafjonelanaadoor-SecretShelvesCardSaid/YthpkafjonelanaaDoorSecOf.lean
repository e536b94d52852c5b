/- The secret of a state, and what it is known by: the code's fourBytes, Of, Hash, Point. -/
import Derived.Test.YthpkafjonelanaaDoorSha
import Derived.Test.YthpkafjonelanaaDoorSteps
import Derived.Test.YthpkafjonelanaaDoorMemory
namespace Go.Proofs.YthpkafjonelanaaDoor
open Go.RowKit

/-- A number's lowest 32 bits in four bytes, the highest first. -/
def quad (m : Nat) : List UInt8 := [UInt8.ofNat (m / 16777216), UInt8.ofNat (m / 65536), UInt8.ofNat (m / 256), UInt8.ofNat m]
theorem quad_len (m : Nat) : (quad m).length = 4 := rfl
theorem quad_cells {m : Nat} (hm : (m : Int) ≤ 2147483648) : (cellsOf (quad m)).toArray = #[.int .u8 ((m : Int) / 16777216), .int .u8 ((m : Int) / 65536 % 256), .int .u8 ((m : Int) / 256 % 256), .int .u8 ((m : Int) % 256)] := by
  have e0 : ((UInt8.ofNat (m / 16777216)).toNat : Int) = (m : Int) / 16777216 := by rw [UInt8.toNat_ofNat']; omega
  have e1 : ((UInt8.ofNat (m / 65536)).toNat : Int) = (m : Int) / 65536 % 256 := by rw [UInt8.toNat_ofNat']; omega
  have e2 : ((UInt8.ofNat (m / 256)).toNat : Int) = (m : Int) / 256 % 256 := by rw [UInt8.toNat_ofNat']; omega
  have e3 : ((UInt8.ofNat m).toNat : Int) = (m : Int) % 256 := by rw [UInt8.toNat_ofNat']; omega
  rw [← e0, ← e1, ← e2, ← e3]
  rfl
def zero4 : List UInt8 := [0, 0, 0, 0]
theorem Tryd.zeroFour : (Tryd.prog.info? 54).map (fun i => (i.zero, i.size, i.bytes)) = some (some (.agg (cellsOf zero4).toArray), 4, 4) := by kernel_rfl
/-- The secret of a state, by a seed. -/
def secOf (s : List UInt8) (m : Nat) : List UInt8 := sumOf (partsOf 61 [s, quad m])
theorem secOf_len (s : List UInt8) (m : Nat) : (secOf s m).length = 32 := sumOf_len _
theorem sec_parts {s : List UInt8} (hs : s.length = 32) (m : Nat) : (partsOf 61 [s, quad m]).length ≤ 1125899906842624 := by
  unfold partsOf partOf
  simp only [List.flatMap_cons, List.flatMap_nil, List.length_cons, List.length_append, four_len, List.length_nil, hs, quad_len]
  omega
theorem one_part {s : List UInt8} (hs : s.length = 32) (t : UInt8) : (partsOf t [s]).length ≤ 1125899906842624 := by
  unfold partsOf partOf
  simp only [List.flatMap_cons, List.flatMap_nil, List.length_cons, List.length_append, four_len, List.length_nil, hs]
  omega
set_option linter.unusedSimpArgs false in
set_option maxRecDepth 100000 in
set_option maxHeartbeats 6400000 in
theorem fourBytes_any {w : World} {m : Nat} (hm : (m : Int) ≤ 2147483648) :
    Calls Tryd.prog 20 #[.int .i64 (m : Int)] w fun e w' => e = .returned (.agg (cellsOf (quad m)).toArray) ∧ Below w.heap.size w w' := by
  have HQ := Lib.hid (quad_cells hm)
  have h0 : (0 : Int) ≤ (m : Int) := by omega
  go_enter Tryd.func20, Tryd.ntmps20
  go_wp2_with fail
  rw [← HQ.out]
  exact bodyPost_ret (results_cell_row rfl _ _ w.heap.size 54 _ (0, 0) _ rfl (heap_alloc_new _ _) Tryd.underlying54 rfl Tryd.size54) rfl ⟨rfl, (Below.refl _ _).alloc (Nat.le_refl _) _⟩
set_option linter.unusedSimpArgs false in
set_option maxRecDepth 100000 in
set_option maxHeartbeats 6400000 in
theorem of_any {w : World} {s : List UInt8} {z : Int} {m : Nat} (hs : s.length = 32) (hz : max z 0 = (m : Int)) (hm : (m : Int) ≤ 2147483648) (hk : KsAt w) :
    Calls Tryd.prog 8 #[.agg (cellsOf s).toArray, .int .i64 z] w fun e w' => e = .returned (.agg (cellsOf (secOf s m)).toArray) ∧ Below w.heap.size w w' := by
  obtain ⟨x, hx, hxl, hjoin⟩ : ∃ x, secOf s m = x ∧ x.length = 32 ∧ ∀ (W : World) (q p gg : Nat), KsAt W → W.heap[q]? = some (.cells (cellsOf s).toArray 23 (0, 0)) → W.heap[p]? = some (.cells (cellsOf (quad m)).toArray 54 (0, 0)) → W.heap[gg]? = some (.cells #[.slice (some ⟨q, 0, none⟩) 32 32, .slice (some ⟨p, 0, none⟩) 4 4] 26 (0, 0)) →
      Calls Tryd.prog 7 #[.int .u8 61, .slice (some ⟨gg, 0, none⟩) 2 2] W fun e w' => e = .returned (.agg (cellsOf x).toArray) ∧ Below W.heap.size W w' :=
    ⟨_, rfl, secOf_len s m, fun W q p gg hW hq hp hg => join_any 61 61 rfl (rows2_at hg (row_all hq 32 hs.symm (by omega)) (row_all hp 4 rfl (by omega))) hW (sec_parts hs m)⟩
  rw [hx]
  obtain ⟨f, hf, hfl, hcall⟩ : ∃ f, quad m = f ∧ f.length = 4 ∧ ∀ W : World, Calls Tryd.prog 20 #[.int .i64 (m : Int)] W fun e w' => e = .returned (.agg (cellsOf f).toArray) ∧ Below W.heap.size W w' := ⟨_, rfl, rfl, fun W => fourBytes_any hm⟩
  rw [hf] at hjoin
  have HJ0 := Lib.hid hjoin
  have HF0 := Lib.hid hcall
  have HFL := Lib.hid hfl
  have SZX := Lib.hid (size_of hxl)
  have SZL : Hid ((Tryd.prog.info? 23).map (·.size) = some (cellsOf x).length) := Lib.hid (by rw [cellsOf_len, hxl]; exact Tryd.size23)
  have ZX : Hid ((cellsOf zero32).length = (cellsOf x).length) := Lib.hid (by rw [cellsOf_len, cellsOf_len, hxl]; rfl)
  have FZ : Hid ((cellsOf f).length = 4) := Lib.hid (by rw [cellsOf_len, hfl])
  have HK := Lib.hid hk
  clear hjoin hcall hx hxl hf hfl hk hm hs
  have hz1 : z < 0 ∧ (m : Int) = 0 ∨ 0 ≤ z ∧ z = (m : Int) := by omega
  clear hz
  rcases hz1 with ⟨f1, f2⟩ | ⟨f1, f2⟩
  · have HF : Hid (∀ W : World, Calls Tryd.prog 20 #[.int .i64 0] W fun e w' => e = .returned (.agg (cellsOf f).toArray) ∧ Below W.heap.size W w') := Lib.hid fun W => by rw [← f2]; exact HF0.out W
    clear f2 HF0
    go_enter Tryd.func8, Tryd.ntmps8
    go_upto_region 1 with (fail)
    rw [← zero32_is]
    have b1 : Below w.heap.size w ((w.alloc (.cells (cellsOf s).toArray 23)).alloc (.cells (cellsOf zero32).toArray 23)) := ((Below.refl _ _).alloc (Nat.le_refl _) _).alloc (by simp) _
    have h1 : ((w.alloc (.cells (cellsOf s).toArray 23)).alloc (.cells (cellsOf zero32).toArray 23)).heap[w.heap.size]? = some (.cells (cellsOf s).toArray 23 (0, 0)) := by
      rw [heap_alloc_old _ _ (by simp), heap_alloc_new]
    have h2 : ((w.alloc (.cells (cellsOf s).toArray 23)).alloc (.cells (cellsOf zero32).toArray 23)).heap[w.heap.size + 1]? = some (.cells (cellsOf zero32).toArray 23 (0, 0)) := heap_alloc_at _ _ _ (by simp)
    revert b1 h1 h2
    generalize ((w.alloc (.cells (cellsOf s).toArray 23)).alloc (.cells (cellsOf zero32).toArray 23)) = w1
    obtain ⟨g, hg⟩ : ∃ g, g = w.heap.size := ⟨_, rfl⟩
    rw [← hg]
    intro b1 h1 h2
    rw [hg] at b1
    have HB1 := Lib.hid b1
    have HG := Lib.hid hg
    have H1 := Lib.hid h1
    have H2 := Lib.hid h2
    have HK1 := Lib.hid (HK.out.below b1)
    clear b1 h1 h2 hg
    go_upto_region 2 with (first | (go_at_call 20; (with_reducible refine (HF.out _).mono ?_); rintro e w2 ⟨rfl, hb⟩; have HB2 := Lib.hid (bthen HB1.out hb); have H12 := Lib.hid (keep hb H1.out); have H22 := Lib.hid (keep hb H2.out); clear hb) | (refine wpList_var rfl rfl 54 rfl _ _ rfl (cellsOf zero4).toArray Tryd.zeroFour rfl (cellsOf f) (fun _ => rfl) (fun _ => rfl) FZ.out (cellsOf_one f) ?_; intro p w3 hp hh hb; go_frame) | fail)
    have HB3 := Lib.hid (bthen HB2.out hb)
    have H23 := Lib.hid (keep hb H22.out)
    have HJ : Hid (∀ (W : World) (gg : Nat), But w3.heap.size (g + 1) w3 W → W.heap[gg]? = some (.cells #[.slice (some ⟨g, 0, none⟩) 32 32, .slice (some ⟨p, 0, none⟩) 4 4] 26 (0, 0)) → Calls Tryd.prog 7 #[.int .u8 61, .slice (some ⟨gg, 0, none⟩) 2 2] W fun e w' => e = .returned (.agg (cellsOf x).toArray) ∧ Below W.heap.size W w') := Lib.hid fun W gg hW hgg => HJ0.out W g p gg (HK.out.below (But.in HB3.out hW (by rw [HG.out]; omega))) ((hW.block g (lt_of_block (keep hb H12.out)) (by omega)).trans (keep hb H12.out)) ((hW.block p (lt_of_block hh) (by have := lt_of_block H22.out; omega)).trans hh) hgg
    clear hp hh hb HB2 HJ0 H12 H22 H1 H2 HB1 HK1
    refine wp_region_held_drew (S := fun w' => But w3.heap.size (g + 1) w3 w') (by kernel_rfl) (But.of (below_drew (Below.refl _ _))) (fun hHeld => ?_)
    refine take_at (i := 0) (v := ?_) rfl rfl (by kernel_rfl) (by kernel_rfl) (by kernel_rfl) (fun _ _ _ h => h) (Or.inl ⟨by rfl, ?_⟩) (by assumption) ?_
    rotate_left
    · intro w0 hSw; (try dsimp only at hSw); first | (go_simp; done) | (go_simp; with_reducible rfl)
    simp only [List.setIfInBounds_toArray, List.set_cons_zero, List.set_cons_succ]
    refine take_at (i := 1) (v := ?_) rfl rfl (by kernel_rfl) (by kernel_rfl) (by kernel_rfl) (fun _ _ _ h => h) (Or.inl ⟨by rfl, ?_⟩) (by assumption) ?_
    rotate_left
    · intro w0 hSw; (try dsimp only at hSw); first | (go_simp; done) | (go_simp; with_reducible rfl)
    simp only [List.setIfInBounds_toArray, List.set_cons_zero, List.set_cons_succ]
    refine wpAnyH_ready (rs := [2]) (by kernel_rfl) (by simp) ?_
    refine AllReadyH.cons rfl (fun K hK => ?_) ?_
    · refine step_rows2_gen (d := 11) rfl (by rfl) rfl rfl rfl (fun gg y2 hgg hhg hb => ?_)
      have HGG := Lib.hid hhg
      have HXy2 := Lib.hid hb
      have HZy2 := Lib.hid (keep hb H23.out)
      clear hhg hgg hb
      refine hK.out _ _ (by (try dsimp only); exact hHeld.trans (But.of (HXy2.out.mono hHeld.size))) (fun hHeld => ?_)
      clear hK K
      refine wpAnyH_ready (rs := [3]) (by kernel_rfl) (by simp) ?_
      refine AllReadyH.cons rfl (fun K hK => ?_) ?_
      · have HC3 := Lib.hid (HJ.out _ _ hHeld HGG.out)
        go_simp
        go_wp2_with ((go_at_call 7; (with_reducible refine (HC3.out).mono ?_); rintro e y3 ⟨rfl, hb⟩; have HXy3 := Lib.hid hb; have HZy3 := Lib.hid (keep hb HZy2.out); clear hb))
        refine hK.out _ _ (by (try dsimp only); exact hHeld.trans (But.of (HXy3.out.mono hHeld.size))) (fun hHeld => ?_)
        clear hK K
        refine wpAnyH_ready (rs := [4]) (by kernel_rfl) (by simp) ?_
        refine AllReadyH.cons rfl (fun K hK => ?_) ?_
        · refine step_row10 (by rfl) 23 _ _ rfl (g + 1) (cellsOf x) (by rfl) (by rfl) 23 (cellsOf zero32) HZy3.out SZL.out ZX.out (cellsOf_one x) (fun y4 hh4 hb => ?_)
          have HZy4 := Lib.hid hh4
          have HXy4 := Lib.hid hb
          clear hh4 hb
          refine hK.out _ _ (by (try dsimp only); exact hHeld.trans (HXy4.out.mono hHeld.size)) (fun hHeld => ?_)
          clear hK K
          refine wpAnyH_done (by kernel_rfl) ?_ _
          have HFIN := Lib.hid (But.in HB3.out (show But w3.heap.size (g + 1) w3 y4 from hHeld) (by rw [HG.out]; omega))
          clear hHeld
          go_wp2_with fail
          exact bodyPost_ret (results_cell_row rfl _ _ (g + 1) 23 (cellsOf x).toArray (0, 0) _ rfl HZy4.out Tryd.underlying23 rfl SZX.out) rfl ⟨rfl, HFIN.out⟩
        exact AllReadyH.nil
      exact AllReadyH.nil
    exact AllReadyH.nil

  · subst f2
    have HF := HF0
    clear HF0
    go_enter Tryd.func8, Tryd.ntmps8
    go_upto_region 1 with (fail)
    rw [← zero32_is]
    have b1 : Below w.heap.size w ((w.alloc (.cells (cellsOf s).toArray 23)).alloc (.cells (cellsOf zero32).toArray 23)) := ((Below.refl _ _).alloc (Nat.le_refl _) _).alloc (by simp) _
    have h1 : ((w.alloc (.cells (cellsOf s).toArray 23)).alloc (.cells (cellsOf zero32).toArray 23)).heap[w.heap.size]? = some (.cells (cellsOf s).toArray 23 (0, 0)) := by
      rw [heap_alloc_old _ _ (by simp), heap_alloc_new]
    have h2 : ((w.alloc (.cells (cellsOf s).toArray 23)).alloc (.cells (cellsOf zero32).toArray 23)).heap[w.heap.size + 1]? = some (.cells (cellsOf zero32).toArray 23 (0, 0)) := heap_alloc_at _ _ _ (by simp)
    revert b1 h1 h2
    generalize ((w.alloc (.cells (cellsOf s).toArray 23)).alloc (.cells (cellsOf zero32).toArray 23)) = w1
    obtain ⟨g, hg⟩ : ∃ g, g = w.heap.size := ⟨_, rfl⟩
    rw [← hg]
    intro b1 h1 h2
    rw [hg] at b1
    have HB1 := Lib.hid b1
    have HG := Lib.hid hg
    have H1 := Lib.hid h1
    have H2 := Lib.hid h2
    have HK1 := Lib.hid (HK.out.below b1)
    clear b1 h1 h2 hg
    go_upto_region 2 with (first | (go_at_call 20; (with_reducible refine (HF.out _).mono ?_); rintro e w2 ⟨rfl, hb⟩; have HB2 := Lib.hid (bthen HB1.out hb); have H12 := Lib.hid (keep hb H1.out); have H22 := Lib.hid (keep hb H2.out); clear hb) | (refine wpList_var rfl rfl 54 rfl _ _ rfl (cellsOf zero4).toArray Tryd.zeroFour rfl (cellsOf f) (fun _ => rfl) (fun _ => rfl) FZ.out (cellsOf_one f) ?_; intro p w3 hp hh hb; go_frame) | fail)
    have HB3 := Lib.hid (bthen HB2.out hb)
    have H23 := Lib.hid (keep hb H22.out)
    have HJ : Hid (∀ (W : World) (gg : Nat), But w3.heap.size (g + 1) w3 W → W.heap[gg]? = some (.cells #[.slice (some ⟨g, 0, none⟩) 32 32, .slice (some ⟨p, 0, none⟩) 4 4] 26 (0, 0)) → Calls Tryd.prog 7 #[.int .u8 61, .slice (some ⟨gg, 0, none⟩) 2 2] W fun e w' => e = .returned (.agg (cellsOf x).toArray) ∧ Below W.heap.size W w') := Lib.hid fun W gg hW hgg => HJ0.out W g p gg (HK.out.below (But.in HB3.out hW (by rw [HG.out]; omega))) ((hW.block g (lt_of_block (keep hb H12.out)) (by omega)).trans (keep hb H12.out)) ((hW.block p (lt_of_block hh) (by have := lt_of_block H22.out; omega)).trans hh) hgg
    clear hp hh hb HB2 HJ0 H12 H22 H1 H2 HB1 HK1
    refine wp_region_held_drew (S := fun w' => But w3.heap.size (g + 1) w3 w') (by kernel_rfl) (But.of (below_drew (Below.refl _ _))) (fun hHeld => ?_)
    refine take_at (i := 0) (v := ?_) rfl rfl (by kernel_rfl) (by kernel_rfl) (by kernel_rfl) (fun _ _ _ h => h) (Or.inl ⟨by rfl, ?_⟩) (by assumption) ?_
    rotate_left
    · intro w0 hSw; (try dsimp only at hSw); first | (go_simp; done) | (go_simp; with_reducible rfl)
    simp only [List.setIfInBounds_toArray, List.set_cons_zero, List.set_cons_succ]
    refine take_at (i := 1) (v := ?_) rfl rfl (by kernel_rfl) (by kernel_rfl) (by kernel_rfl) (fun _ _ _ h => h) (Or.inl ⟨by rfl, ?_⟩) (by assumption) ?_
    rotate_left
    · intro w0 hSw; (try dsimp only at hSw); first | (go_simp; done) | (go_simp; with_reducible rfl)
    simp only [List.setIfInBounds_toArray, List.set_cons_zero, List.set_cons_succ]
    refine wpAnyH_ready (rs := [2]) (by kernel_rfl) (by simp) ?_
    refine AllReadyH.cons rfl (fun K hK => ?_) ?_
    · refine step_rows2_gen (d := 11) rfl (by rfl) rfl rfl rfl (fun gg y2 hgg hhg hb => ?_)
      have HGG := Lib.hid hhg
      have HXy2 := Lib.hid hb
      have HZy2 := Lib.hid (keep hb H23.out)
      clear hhg hgg hb
      refine hK.out _ _ (by (try dsimp only); exact hHeld.trans (But.of (HXy2.out.mono hHeld.size))) (fun hHeld => ?_)
      clear hK K
      refine wpAnyH_ready (rs := [3]) (by kernel_rfl) (by simp) ?_
      refine AllReadyH.cons rfl (fun K hK => ?_) ?_
      · have HC3 := Lib.hid (HJ.out _ _ hHeld HGG.out)
        go_simp
        go_wp2_with ((go_at_call 7; (with_reducible refine (HC3.out).mono ?_); rintro e y3 ⟨rfl, hb⟩; have HXy3 := Lib.hid hb; have HZy3 := Lib.hid (keep hb HZy2.out); clear hb))
        refine hK.out _ _ (by (try dsimp only); exact hHeld.trans (But.of (HXy3.out.mono hHeld.size))) (fun hHeld => ?_)
        clear hK K
        refine wpAnyH_ready (rs := [4]) (by kernel_rfl) (by simp) ?_
        refine AllReadyH.cons rfl (fun K hK => ?_) ?_
        · refine step_row10 (by rfl) 23 _ _ rfl (g + 1) (cellsOf x) (by rfl) (by rfl) 23 (cellsOf zero32) HZy3.out SZL.out ZX.out (cellsOf_one x) (fun y4 hh4 hb => ?_)
          have HZy4 := Lib.hid hh4
          have HXy4 := Lib.hid hb
          clear hh4 hb
          refine hK.out _ _ (by (try dsimp only); exact hHeld.trans (HXy4.out.mono hHeld.size)) (fun hHeld => ?_)
          clear hK K
          refine wpAnyH_done (by kernel_rfl) ?_ _
          have HFIN := Lib.hid (But.in HB3.out (show But w3.heap.size (g + 1) w3 y4 from hHeld) (by rw [HG.out]; omega))
          clear hHeld
          go_wp2_with fail
          exact bodyPost_ret (results_cell_row rfl _ _ (g + 1) 23 (cellsOf x).toArray (0, 0) _ rfl HZy4.out Tryd.underlying23 rfl SZX.out) rfl ⟨rfl, HFIN.out⟩
        exact AllReadyH.nil
      exact AllReadyH.nil
    exact AllReadyH.nil

set_option linter.unusedSimpArgs false in
set_option maxRecDepth 100000 in
set_option maxHeartbeats 6400000 in
theorem shash_any {w : World} {s : List UInt8} (hs : s.length = 32) (hk : KsAt w) :
    Calls Tryd.prog 9 #[.agg (cellsOf s).toArray] w fun e w' => e = .returned (.agg (cellsOf (shownSum s)).toArray) ∧ Below w.heap.size w w' := by
  obtain ⟨x, hx, hxl, hcall⟩ : ∃ x, shownSum s = x ∧ x.length = 32 ∧ ∀ (W : World) (q : Nat), KsAt W → W.heap[q]? = some (.cells (cellsOf s).toArray 23 (0, 0)) →
      Calls Tryd.prog 21 #[.slice (some ⟨q, 0, none⟩) 32 32] W fun e w' => e = .returned (.agg (cellsOf x).toArray) ∧ Below W.heap.size W w' :=
    ⟨_, rfl, shownSum_len s, fun W q hW hq => hash_any (row_all hq 32 hs.symm (by omega)) hW (by omega)⟩
  rw [hx]
  have HC := Lib.hid hcall
  have SZX := Lib.hid (size_of hxl)
  have SZL : Hid ((Tryd.prog.info? 23).map (·.size) = some (cellsOf x).length) := Lib.hid (by rw [cellsOf_len, hxl]; exact Tryd.size23)
  have ZX : Hid ((cellsOf zero32).length = (cellsOf x).length) := Lib.hid (by rw [cellsOf_len, cellsOf_len, hxl]; rfl)
  have HK := Lib.hid hk
  clear hcall hx hxl hk hs
  go_enter Tryd.func9, Tryd.ntmps9
  go_upto_region 1 with (fail)
  rw [← zero32_is]
  have b1 : Below w.heap.size w ((w.alloc (.cells (cellsOf s).toArray 23)).alloc (.cells (cellsOf zero32).toArray 23)) := ((Below.refl _ _).alloc (Nat.le_refl _) _).alloc (by simp) _
  have h1 : ((w.alloc (.cells (cellsOf s).toArray 23)).alloc (.cells (cellsOf zero32).toArray 23)).heap[w.heap.size]? = some (.cells (cellsOf s).toArray 23 (0, 0)) := by
    rw [heap_alloc_old _ _ (by simp), heap_alloc_new]
  have h2 : ((w.alloc (.cells (cellsOf s).toArray 23)).alloc (.cells (cellsOf zero32).toArray 23)).heap[w.heap.size + 1]? = some (.cells (cellsOf zero32).toArray 23 (0, 0)) := heap_alloc_at _ _ _ (by simp)
  revert b1 h1 h2
  generalize ((w.alloc (.cells (cellsOf s).toArray 23)).alloc (.cells (cellsOf zero32).toArray 23)) = w1
  obtain ⟨g, hg⟩ : ∃ g, g = w.heap.size := ⟨_, rfl⟩
  rw [← hg]
  intro b1 h1 h2
  rw [hg] at b1
  have HB1 := Lib.hid b1
  have HG := Lib.hid hg
  have H1 := Lib.hid h1
  have H2 := Lib.hid h2
  have HK1 := Lib.hid (HK.out.below b1)
  clear b1 h1 h2 hg
  have HCL := Lib.hid (HC.out _ _ HK1.out H1.out)
  go_upto_region 2 with (first | (go_at_call 21; (with_reducible refine (HCL.out).mono ?_); rintro e w3 ⟨rfl, hb⟩; have HB3 := Lib.hid (bthen HB1.out hb); have H23 := Lib.hid (keep hb H2.out); clear hb) | (refine wpList_row10 rfl 23 _ _ rfl (g + 1) (cellsOf x) rfl rfl 23 (cellsOf zero32) H23.out SZL.out ZX.out (cellsOf_one x) ?_; intro w5 hh5 hb5) | fail)
  have HFIN := Lib.hid (But.in HB3.out hb5 (by rw [HG.out]; omega))
  have HX5 := Lib.hid hh5
  clear hb5 hh5
  go_wp2_with fail
  exact bodyPost_ret (results_cell_row rfl _ _ (g + 1) 23 (cellsOf x).toArray (0, 0) _ rfl HX5.out Tryd.underlying23 rfl SZX.out) rfl ⟨rfl, HFIN.out⟩
set_option linter.unusedSimpArgs false in
set_option maxRecDepth 100000 in
set_option maxHeartbeats 6400000 in
theorem point_any {w : World} {s : List UInt8} {z : Int} {m : Nat} (hs : s.length = 32) (hz : max z 0 = (m : Int)) (hm : (m : Int) ≤ 2147483648) (hk : KsAt w) :
    Calls Tryd.prog 10 #[.agg (cellsOf s).toArray, .int .i64 z] w fun e w' => e = .returned (.agg (cellsOf (shownSum (secOf s m))).toArray) ∧ Below w.heap.size w w' := by
  obtain ⟨y, hy, hyl, hof⟩ : ∃ y, secOf s m = y ∧ y.length = 32 ∧ ∀ W : World, KsAt W → Calls Tryd.prog 8 #[.agg (cellsOf s).toArray, .int .i64 z] W fun e w' => e = .returned (.agg (cellsOf y).toArray) ∧ Below W.heap.size W w' := ⟨_, rfl, secOf_len s m, fun W hW => of_any hs hz hm hW⟩
  rw [hy]
  obtain ⟨x, hx, hxl, hcall⟩ : ∃ x, shownSum y = x ∧ x.length = 32 ∧ ∀ W : World, KsAt W → Calls Tryd.prog 9 #[.agg (cellsOf y).toArray] W fun e w' => e = .returned (.agg (cellsOf x).toArray) ∧ Below W.heap.size W w' := ⟨_, rfl, shownSum_len y, fun W hW => shash_any hyl hW⟩
  rw [hx]
  have HC := Lib.hid hcall
  have HOF := Lib.hid hof
  have SZS := Lib.hid (size_of hs)
  have SZX := Lib.hid (size_of hxl)
  have SZL : Hid ((Tryd.prog.info? 23).map (·.size) = some (cellsOf x).length) := Lib.hid (by rw [cellsOf_len, hxl]; exact Tryd.size23)
  have ZX : Hid ((cellsOf zero32).length = (cellsOf x).length) := Lib.hid (by rw [cellsOf_len, cellsOf_len, hxl]; rfl)
  have HK := Lib.hid hk
  clear hcall hx hxl hk hs hy hyl hof hz hm
  go_enter Tryd.func10, Tryd.ntmps10
  go_upto_region 1 with (fail)
  rw [← zero32_is]
  have b1 : Below w.heap.size w ((w.alloc (.cells (cellsOf s).toArray 23)).alloc (.cells (cellsOf zero32).toArray 23)) := ((Below.refl _ _).alloc (Nat.le_refl _) _).alloc (by simp) _
  have h1 : ((w.alloc (.cells (cellsOf s).toArray 23)).alloc (.cells (cellsOf zero32).toArray 23)).heap[w.heap.size]? = some (.cells (cellsOf s).toArray 23 (0, 0)) := by
    rw [heap_alloc_old _ _ (by simp), heap_alloc_new]
  have h2 : ((w.alloc (.cells (cellsOf s).toArray 23)).alloc (.cells (cellsOf zero32).toArray 23)).heap[w.heap.size + 1]? = some (.cells (cellsOf zero32).toArray 23 (0, 0)) := heap_alloc_at _ _ _ (by simp)
  revert b1 h1 h2
  generalize ((w.alloc (.cells (cellsOf s).toArray 23)).alloc (.cells (cellsOf zero32).toArray 23)) = w1
  obtain ⟨g, hg⟩ : ∃ g, g = w.heap.size := ⟨_, rfl⟩
  rw [← hg]
  intro b1 h1 h2
  rw [hg] at b1
  have HB1 := Lib.hid b1
  have HG := Lib.hid hg
  have H1 := Lib.hid h1
  have H2 := Lib.hid h2
  have HK1 := Lib.hid (HK.out.below b1)
  clear b1 h1 h2 hg
  have HCL := Lib.hid (HOF.out _ HK1.out)
  go_upto_region 2 with (first | (refine wpList_load_row rfl 23 _ rfl g rfl 23 (cellsOf s).toArray (0, 0) _ H1.out Tryd.underlying23 rfl SZS.out ?_) | (go_at_call 8; (with_reducible refine (HCL.out).mono ?_); rintro e w2 ⟨rfl, hb⟩; have HB2 := Lib.hid hb; have HC2 := Lib.hid (HC.out _ (HK1.out.below hb)); clear hb) | (go_at_call 9; (with_reducible refine (HC2.out).mono ?_); rintro e w3 ⟨rfl, hb⟩; have HB3 := Lib.hid (bthen HB1.out (bthen HB2.out hb)); have H23 := Lib.hid (keep (bthen HB2.out hb) H2.out); clear hb) | (refine wpList_row10 rfl 23 _ _ rfl (g + 1) (cellsOf x) rfl rfl 23 (cellsOf zero32) H23.out SZL.out ZX.out (cellsOf_one x) ?_; intro w5 hh5 hb5) | fail)
  have HFIN := Lib.hid (But.in HB3.out hb5 (by rw [HG.out]; omega))
  have HX5 := Lib.hid hh5
  clear hb5 hh5
  go_wp2_with fail
  exact bodyPost_ret (results_cell_row rfl _ _ (g + 1) 23 (cellsOf x).toArray (0, 0) _ rfl HX5.out Tryd.underlying23 rfl SZX.out) rfl ⟨rfl, HFIN.out⟩
end Go.Proofs.YthpkafjonelanaaDoor
