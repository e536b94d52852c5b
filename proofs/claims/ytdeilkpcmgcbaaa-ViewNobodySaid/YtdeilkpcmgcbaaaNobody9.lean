/- Law 9: ViewNobody. -/
import Derived.Test.YtdeilkpcmgcbaaaNil9
import Derived.Test.YtdeilkpcmgcbaaaAwake9
import Derived.Test.YtdeilkpcmgcbaaaViewClone
namespace Go.Proofs.Ytdeilkpcmgcbaaa
open Go.RowKit Go.Maps

set_option linter.unusedSimpArgs false in
set_option maxRecDepth 100000 in
set_option maxHeartbeats 25600000 in
theorem nobody9_walk {w0 : World} {m : Int} {a : Option Addr} {n c : Nat} {s : List UInt8} {p : Int} (hs : s.length = 32) (hp : Fits p) :
    Calls Try.prog 5 #[.agg #[.int .i64 m, .slice a n c], .agg (refCells s p).toArray] w0 fun e w' => e = .returned (.bool true) ∧ Below w0.heap.size w0 w' := by
  have HS := Lib.hid hs
  have HP := Lib.hid hp
  have SR := Lib.hid (refSize (z := p) hs)
  clear hs hp
  go_enter Try.func5, Try.ntmps5
  go_upto_region 3 with (fail)
  have b1 : Below w0.heap.size w0 (((w0.alloc (.cells #[.int .i64 m, .slice a n c] 28)).alloc (.cells (refCells s p).toArray 32)).alloc (.cells #[.map none] 51)) := (((Below.refl _ _).alloc (Nat.le_refl _) _).alloc (by simp) _).alloc (by simp; omega) _
  have h3 : (((w0.alloc (.cells #[.int .i64 m, .slice a n c] 28)).alloc (.cells (refCells s p).toArray 32)).alloc (.cells #[.map none] 51)).heap[w0.heap.size + 1]? = some (.cells (refCells s p).toArray 32 (0, 0)) := by
    rw [heap_alloc_old _ _ (by simp)]
    exact heap_alloc_at _ _ _ (by simp)
  have h6 : (((w0.alloc (.cells #[.int .i64 m, .slice a n c] 28)).alloc (.cells (refCells s p).toArray 32)).alloc (.cells #[.map none] 51)).heap[w0.heap.size + 1 + 1]? = some (.cells #[.map none] 51 (0, 0)) := heap_alloc_at _ _ _ (by simp)
  revert b1 h3 h6
  generalize (((w0.alloc (.cells #[.int .i64 m, .slice a n c] 28)).alloc (.cells (refCells s p).toArray 32)).alloc (.cells #[.map none] 51)) = w1
  obtain ⟨g3, hg3⟩ : ∃ g, g = w0.heap.size + 1 := ⟨_, rfl⟩
  obtain ⟨g6, hg6⟩ : ∃ g, g = g3 + 1 := ⟨_, rfl⟩
  rw [← hg3, ← hg6]
  intro b1 h3 h6
  have HB1 := Lib.hid b1
  have RG1 : Hid (∀ W : World, Below w1.heap.size w1 W → W.rangeAt g3 0 (refCells s p)) := Lib.hid (fun W hW => range_of ((hW.block _ (lt_of_block h3)).trans h3))
  have HZ1 : Hid (Has w1 (.pointer (some ⟨g6, 0, none⟩)) none) := Lib.hid (.inr ⟨g6, rfl, lt_of_block h6, cell_of_row _ _ _ _ _ _ h6⟩)
  have HR1 := Lib.hid (Below.refl w1.heap.size w1)
  clear b1 h3 h6 hg3 hg6
  go_upto_region 4 with (go_big_may; first
    | (refine wpList_load_mid rfl 32 _ rfl g3 0 rfl (refCells s p) _ (RG1.out w1 HR1.out) Try.underlying32 rfl SR.out ?_)
    | (go_at_call 14; refine (take_no (F := fun _ _ => none) (.inl ⟨rfl, rfl⟩) (.inl ⟨rfl, rfl⟩) HS.out HP.out rfl).mono ?_; rintro e w2 ⟨rfl, hb2⟩; have HR2 := Lib.hid (HR1.out.trans (hb2.mono HR1.out.size)); clear hb2; unfold coinV)
    | (refine wpList_store_row rfl 41 _ _ rfl w2.heap.size #[.int .i64 0, .slice none 0 0, .int .i64 0] rfl rfl 41 #[.int .i64 0, .slice none 0 0, .int .i64 0] (heap_alloc_new _ _) (coin_size9 0 0 none 0 0) rfl (coin_one9 0 0 none 0 0) ?_)
    | fail)
  rw [layCoin_is]
  have b9 := layCoin_below (Below.refl w2.heap.size w2) (Nat.le_refl _) 0 none 0 0 0
  revert b9
  generalize layCoin w2 0 none 0 0 0 = w3
  intro b9
  have HR3 := Lib.hid (HR2.out.trans (b9.mono HR2.out.size))
  clear b9
  try simp only [Act.put]
  go_upto_region 5 with (go_big_may; first
    | (refine wpList_load_mid rfl 32 _ rfl g3 0 rfl (refCells s p) _ (RG1.out w3 HR3.out) Try.underlying32 rfl SR.out ?_)
    | (go_at_call 14; refine (take_no (F := fun _ _ => none) (HZ1.out.below HR3.out) (.inl ⟨rfl, rfl⟩) HS.out HP.out rfl).mono ?_; rintro e w4 ⟨rfl, hb4⟩; have HR4 := Lib.hid (HR3.out.trans (hb4.mono HR3.out.size)); clear hb4; unfold coinV)
    | (refine wpList_store_row rfl 41 _ _ rfl w4.heap.size #[.int .i64 0, .slice none 0 0, .int .i64 0] rfl rfl 41 #[.int .i64 0, .slice none 0 0, .int .i64 0] (heap_alloc_new _ _) (coin_size9 0 0 none 0 0) rfl (coin_one9 0 0 none 0 0) ?_)
    | fail)
  rw [layCoin_is]
  have b9 := layCoin_below (Below.refl w4.heap.size w4) (Nat.le_refl _) 0 none 0 0 0
  revert b9
  generalize layCoin w4 0 none 0 0 0 = w5
  intro b9
  have HR5 := Lib.hid (HR4.out.trans (b9.mono HR4.out.size))
  clear b9
  try simp only [Act.put]
  go_upto_region 6 with (go_big_may; first
    | (refine wpList_load_mid rfl 32 _ rfl g3 0 rfl (refCells s p) _ (RG1.out w5 HR5.out) Try.underlying32 rfl SR.out ?_)
    | (go_at_call 15; refine (get_no (F := fun _ _ => none) (.inl ⟨rfl, rfl⟩) (.inl ⟨rfl, rfl⟩) HS.out HP.out rfl).mono ?_; rintro e w6 ⟨rfl, hb6⟩; have HR6 := Lib.hid (HR5.out.trans (hb6.mono HR5.out.size)); clear hb6; unfold coinV)
    | (refine wpList_store_row rfl 41 _ _ rfl w6.heap.size #[.int .i64 0, .slice none 0 0, .int .i64 0] rfl rfl 41 #[.int .i64 0, .slice none 0 0, .int .i64 0] (heap_alloc_new _ _) (coin_size9 0 0 none 0 0) rfl (coin_one9 0 0 none 0 0) ?_)
    | fail)
  rw [layCoin_is]
  have b9 := layCoin_below (Below.refl w6.heap.size w6) (Nat.le_refl _) 0 none 0 0 0
  revert b9
  generalize layCoin w6 0 none 0 0 0 = w7
  intro b9
  have HR7 := Lib.hid (HR6.out.trans (b9.mono HR6.out.size))
  clear b9
  try simp only [Act.put]
  obtain ⟨w9, rfl⟩ : ∃ q, q = w7 := ⟨_, rfl⟩
  have HZ := Lib.hid (HZ1.out.below HR7.out)
  have RG : Hid (∀ W : World, Below w9.heap.size w9 W → W.rangeAt g3 0 (refCells s p)) := Lib.hid (fun W hW => RG1.out W (HR7.out.trans (hW.mono HR7.out.size)))
  have HB := Lib.hid (HB1.out.trans (HR7.out.mono HB1.out.size))
  clear HR1 HR2 HR3 HR4 HR5 HR6 HR7 HZ1 RG1 HB1
  have hw0 : IntKind.i64.wrap 0 = 0 := by decide
  refine wp_region_held_drew (S := fun w' => Below w9.heap.size w9 w') (by kernel_rfl) (below_drew (Below.refl _ _)) (fun hHeld => ?_)
  refine take_at (i := 0) (v := ?_) rfl rfl (by kernel_rfl) (by kernel_rfl) (by kernel_rfl) (fun _ _ _ h => h) (Or.inl ⟨by rfl, ?_⟩) (by assumption) ?_
  rotate_left
  · intro w0 hSw; (try dsimp only at hSw); first | (go_simp; done) | (go_simp; with_reducible rfl)
  simp only [List.setIfInBounds_toArray, List.set_cons_zero, List.set_cons_succ]
  refine take_at (i := 1) (v := ?_) rfl rfl (by kernel_rfl) (by kernel_rfl) (by kernel_rfl) (fun _ _ _ h => h) (Or.inl ⟨by rfl, ?_⟩) (by assumption) ?_
  rotate_left
  · intro w0 hSw; (try dsimp only at hSw); first | (go_simp; done) | (go_simp; with_reducible rfl)
  simp only [List.setIfInBounds_toArray, List.set_cons_zero, List.set_cons_succ]
  refine take_at (i := 2) (v := ?_) rfl rfl (by kernel_rfl) (by kernel_rfl) (by kernel_rfl) (fun _ _ _ h => h) (Or.inl ⟨by rfl, ?_⟩) (by assumption) ?_
  rotate_left
  · intro w0 hSw; (try dsimp only at hSw); first | (go_simp; done) | (go_simp; with_reducible rfl)
  simp only [List.setIfInBounds_toArray, List.set_cons_zero, List.set_cons_succ]
  refine take_at (i := 3) (v := ?_) rfl rfl (by kernel_rfl) (by kernel_rfl) (by kernel_rfl) (fun _ _ _ h => h) (Or.inl ⟨by rfl, ?_⟩) (by assumption) ?_
  rotate_left
  · intro w0 hSw; (try dsimp only at hSw); first | (go_simp; done) | (go_simp; with_reducible rfl)
  simp only [List.setIfInBounds_toArray, List.set_cons_zero, List.set_cons_succ]
  refine take_at (i := 4) (v := ?_) rfl rfl (by kernel_rfl) (by kernel_rfl) (by kernel_rfl) (fun _ _ _ h => h) (Or.inl ⟨by rfl, ?_⟩) (by assumption) ?_
  rotate_left
  · intro w0 hSw; (try dsimp only at hSw); first | (go_simp; done) | (go_simp; with_reducible rfl)
  simp only [List.setIfInBounds_toArray, List.set_cons_zero, List.set_cons_succ]
  refine take_at (i := 5) (v := ?_) rfl rfl (by kernel_rfl) (by kernel_rfl) (by kernel_rfl) (fun _ _ _ h => h) (Or.inl ⟨by rfl, ?_⟩) (by assumption) ?_
  rotate_left
  · intro w0 hSw; (try dsimp only at hSw); first | (go_simp; done) | (go_simp; with_reducible rfl)
  simp only [List.setIfInBounds_toArray, List.set_cons_zero, List.set_cons_succ]
  refine take_at (i := 6) (v := ?_) rfl rfl (by kernel_rfl) (by kernel_rfl) (by kernel_rfl) (fun _ _ _ h => h) (Or.inl ⟨by rfl, ?_⟩) (by assumption) ?_
  rotate_left
  · intro w0 hSw; (try dsimp only at hSw); first | (go_simp; done) | (go_simp; with_reducible rfl)
  simp only [List.setIfInBounds_toArray, List.set_cons_zero, List.set_cons_succ]
  refine take_at (i := 7) (v := ?_) rfl rfl (by kernel_rfl) (by kernel_rfl) (by kernel_rfl) (fun _ _ _ h => h) (Or.inl ⟨by rfl, ?_⟩) (by assumption) ?_
  rotate_left
  · intro w0 hSw; (try dsimp only at hSw); first | (go_simp; done) | (go_simp; with_reducible rfl)
  simp only [List.setIfInBounds_toArray, List.set_cons_zero, List.set_cons_succ]
  refine take_at (i := 8) (v := ?_) rfl rfl (by kernel_rfl) (by kernel_rfl) (by kernel_rfl) (fun _ _ _ h => h) (Or.inl ⟨by rfl, ?_⟩) (by assumption) ?_
  rotate_left
  · intro w0 hSw; (try dsimp only at hSw); first | (go_simp; done) | (go_simp; with_reducible rfl)
  simp only [List.setIfInBounds_toArray, List.set_cons_zero, List.set_cons_succ]
  refine take_at (i := 9) (v := ?_) rfl rfl (by kernel_rfl) (by kernel_rfl) (by kernel_rfl) (fun _ _ _ h => h) (Or.inl ⟨by rfl, ?_⟩) (by assumption) ?_
  rotate_left
  · intro w0 hSw; (try dsimp only at hSw); first | (go_simp; done) | (go_simp; with_reducible rfl)
  simp only [List.setIfInBounds_toArray, List.set_cons_zero, List.set_cons_succ]
  refine take_at (i := 10) (v := ?_) rfl rfl (by kernel_rfl) (by kernel_rfl) (by kernel_rfl) (fun _ _ _ h => h) (Or.inl ⟨by rfl, ?_⟩) (by assumption) ?_
  rotate_left
  · intro w0 hSw; (try dsimp only at hSw); first | (go_simp; done) | (go_simp; with_reducible rfl)
  simp only [List.setIfInBounds_toArray, List.set_cons_zero, List.set_cons_succ]
  refine take_at (i := 11) (v := ?_) rfl rfl (by kernel_rfl) (by kernel_rfl) (by kernel_rfl) (fun _ _ _ h => h) (Or.inl ⟨by rfl, ?_⟩) (by assumption) ?_
  rotate_left
  · intro w0 hSw; (try dsimp only at hSw); first | (go_simp; done) | (go_simp; with_reducible rfl)
  simp only [List.setIfInBounds_toArray, List.set_cons_zero, List.set_cons_succ]
  refine take_at (i := 12) rfl rfl (by kernel_rfl) (by kernel_rfl) (by kernel_rfl) (fun _ _ _ h => h) (yieldsIf_load_mid (by rfl) _ _ rfl g3 0 rfl (refCells s p) _ (fun w0 hSw => RG.out w0 hSw) Try.underlying32 rfl SR.out) (by assumption) ?_
  simp only [List.setIfInBounds_toArray, List.set_cons_zero, List.set_cons_succ]
  refine wpAnyH_ready (rs := [13]) (by kernel_rfl) (by simp) ?_
  refine AllReadyH.cons rfl (fun K hK => ?_) ?_
  · go_simp
    go_at_call 17
    refine (to_any 1 1 _ (by constructor <;> decide)).mono ?_
    rintro e x21 ⟨a21, k21, rfl, hw21, hb21⟩
    dsimp only
    have HS21 := Lib.hid (Below.trans hHeld (hb21.mono (Below.size hHeld)))
    have HW21 := Lib.hid hw21
    clear hw21 hb21
    refine hK.out _ _ (by (try dsimp only); exact HS21.out) (fun hHeld => ?_)
    clear hK K
    refine wpAnyH_ready (rs := [14]) (by kernel_rfl) (by simp) ?_
    refine AllReadyH.cons rfl (fun K hK => ?_) ?_
    · go_simp
      go_at_call 16
      refine (put_bad (.inl ⟨rfl, rfl⟩) HW21.out (.inl rfl)).mono ?_
      rintro e x22 ⟨rfl, hb22⟩
      dsimp only
      have HS22 := Lib.hid (Below.trans hHeld (hb22.mono (Below.size hHeld)))
      clear hb22
      refine hK.out _ _ (by (try dsimp only); exact HS22.out) (fun hHeld => ?_)
      clear hK K
      refine take_at (i := 15) (v := ?_) rfl rfl (by kernel_rfl) (by kernel_rfl) (by kernel_rfl) (fun _ _ _ h => h) (Or.inl ⟨by rfl, ?_⟩) (by assumption) ?_
      rotate_left
      · intro w0 hSw; (try dsimp only at hSw); first | (go_simp; done) | (go_simp; with_reducible rfl)
      simp only [List.setIfInBounds_toArray, List.set_cons_zero, List.set_cons_succ]
      refine take_at (i := 16) (v := ?_) rfl rfl (by kernel_rfl) (by kernel_rfl) (by kernel_rfl) (fun _ _ _ h => h) (Or.inl ⟨by rfl, ?_⟩) (by assumption) ?_
      rotate_left
      · intro w0 hSw; (try dsimp only at hSw); first | (go_simp; done) | (go_simp; with_reducible rfl)
      simp only [List.setIfInBounds_toArray, List.set_cons_zero, List.set_cons_succ]
      refine take_at (i := 17) (v := ?_) rfl rfl (by kernel_rfl) (by kernel_rfl) (by kernel_rfl) (fun _ _ _ h => h) (Or.inl ⟨by rfl, ?_⟩) (by assumption) ?_
      rotate_left
      · intro w0 hSw; (try dsimp only at hSw); first | (go_simp; done) | (go_simp; with_reducible rfl)
      simp only [List.setIfInBounds_toArray, List.set_cons_zero, List.set_cons_succ]
      refine take_at (i := 18) rfl rfl (by kernel_rfl) (by kernel_rfl) (by kernel_rfl) (fun _ _ _ h => h) (yieldsIf_load_mid (by rfl) _ _ rfl g3 0 rfl (refCells s p) _ (fun w0 hSw => RG.out w0 hSw) Try.underlying32 rfl SR.out) (by assumption) ?_
      simp only [List.setIfInBounds_toArray, List.set_cons_zero, List.set_cons_succ]
      refine wpAnyH_ready (rs := [19]) (by kernel_rfl) (by simp) ?_
      refine AllReadyH.cons rfl (fun K hK => ?_) ?_
      · go_simp
        go_at_call 17
        refine (to_any 1 1 _ (by constructor <;> decide)).mono ?_
        rintro e x23 ⟨a23, k23, rfl, hw23, hb23⟩
        dsimp only
        have HS23 := Lib.hid (Below.trans hHeld (hb23.mono (Below.size hHeld)))
        have HW23 := Lib.hid hw23
        clear hw23 hb23
        refine hK.out _ _ (by (try dsimp only); exact HS23.out) (fun hHeld => ?_)
        clear hK K
        refine wpAnyH_ready (rs := [20]) (by kernel_rfl) (by simp) ?_
        refine AllReadyH.cons rfl (fun K hK => ?_) ?_
        · go_simp
          go_at_call 16
          refine (put_bad (HZ.out.below hHeld) HW23.out (.inl rfl)).mono ?_
          rintro e x24 ⟨rfl, hb24⟩
          dsimp only
          have HS24 := Lib.hid (Below.trans hHeld (hb24.mono (Below.size hHeld)))
          clear hb24
          refine hK.out _ _ (by (try dsimp only); exact HS24.out) (fun hHeld => ?_)
          clear hK K
          refine take_at (i := 21) (v := ?_) rfl rfl (by kernel_rfl) (by kernel_rfl) (by kernel_rfl) (fun _ _ _ h => h) (Or.inl ⟨by rfl, ?_⟩) (by assumption) ?_
          rotate_left
          · intro w0 hSw; (try dsimp only at hSw); first | (go_simp; done) | (go_simp; with_reducible rfl)
          simp only [List.setIfInBounds_toArray, List.set_cons_zero, List.set_cons_succ]
          refine take_at (i := 22) (v := ?_) rfl rfl (by kernel_rfl) (by kernel_rfl) (by kernel_rfl) (fun _ _ _ h => h) (Or.inl ⟨by rfl, ?_⟩) (by assumption) ?_
          rotate_left
          · intro w0 hSw; (try dsimp only at hSw); first | (go_simp; done) | (go_simp; with_reducible rfl)
          simp only [List.setIfInBounds_toArray, List.set_cons_zero, List.set_cons_succ]
          refine take_at (i := 23) (v := ?_) rfl rfl (by kernel_rfl) (by kernel_rfl) (by kernel_rfl) (fun _ _ _ h => h) (Or.inl ⟨by rfl, ?_⟩) (by assumption) ?_
          rotate_left
          · intro w0 hSw; (try dsimp only at hSw); first | (go_simp; done) | (go_simp; with_reducible rfl)
          simp only [List.setIfInBounds_toArray, List.set_cons_zero, List.set_cons_succ]
          refine take_at (i := 24) (v := ?_) rfl rfl (by kernel_rfl) (by kernel_rfl) (by kernel_rfl) (fun _ _ _ h => h) (Or.inl ⟨by rfl, ?_⟩) (by assumption) ?_
          rotate_left
          · intro w0 hSw; (try dsimp only at hSw); first | (go_simp; done) | (go_simp; with_reducible rfl)
          simp only [List.setIfInBounds_toArray, List.set_cons_zero, List.set_cons_succ]
          refine take_at (i := 26) (v := ?_) rfl rfl (by kernel_rfl) (by kernel_rfl) (by kernel_rfl) (fun _ _ _ h => h) (Or.inl ⟨by rfl, ?_⟩) (by assumption) ?_
          rotate_left
          · intro w0 hSw; (try dsimp only at hSw); first | (go_simp; done) | (go_simp; with_reducible rfl)
          simp only [List.setIfInBounds_toArray, List.set_cons_zero, List.set_cons_succ]
          refine wpAnyH_ready (rs := [25]) (by kernel_rfl) (by simp) ?_
          refine AllReadyH.cons rfl (fun K hK => ?_) ?_
          · go_simp
            go_at_call 18
            refine (len_nil9 (.inl ⟨rfl, rfl⟩)).mono ?_
            rintro e x25 ⟨rfl, rfl⟩
            dsimp only
            refine hK.out _ _ (by (try dsimp only); exact hHeld) (fun hHeld => ?_)
            clear hK K
            refine wpAnyH_ready (rs := [27]) (by kernel_rfl) (by simp) ?_
            refine AllReadyH.cons rfl (fun K hK => ?_) ?_
            · go_simp
              go_at_call 19
              refine (all_nil (.inl ⟨rfl, rfl⟩)).mono ?_
              rintro e x27 ⟨rfl, hb27⟩
              dsimp only
              have HS27 := Lib.hid (Below.trans hHeld (hb27.mono (Below.size hHeld)))
              clear hb27
              refine hK.out _ _ (by (try dsimp only); exact HS27.out) (fun hHeld => ?_)
              clear hK K
              refine take_at (i := 28) (v := ?_) rfl rfl (by kernel_rfl) (by kernel_rfl) (by kernel_rfl) (fun _ _ _ h => h) (Or.inl ⟨by rfl, ?_⟩) (by assumption) ?_
              rotate_left
              · intro w0 hSw; (try dsimp only at hSw); first | (go_simp; done) | (go_simp; with_reducible rfl)
              simp only [List.setIfInBounds_toArray, List.set_cons_zero, List.set_cons_succ]
              refine take_at (i := 29) (v := .int .i64 0) rfl rfl (by kernel_rfl) (by kernel_rfl) (by kernel_rfl) (fun _ _ _ h => h) (Or.inl ⟨by rfl, ?_⟩) (by assumption) ?_
              · intro w0 hSw; (try dsimp only at hSw); first | (go_simp; done) | (go_simp; with_reducible rfl) | (go_simp; omega)
              simp only [List.setIfInBounds_toArray, List.set_cons_zero, List.set_cons_succ]
              refine wpAnyH_ready (rs := [30]) (by kernel_rfl) (by simp) ?_
              refine AllReadyH.cons rfl (fun K hK => ?_) ?_
              · go_simp
                go_at_call 19
                refine (all_nil (HZ.out.below hHeld)).mono ?_
                rintro e x30 ⟨rfl, hb30⟩
                dsimp only
                have HS30 := Lib.hid (Below.trans hHeld (hb30.mono (Below.size hHeld)))
                clear hb30
                refine hK.out _ _ (by (try dsimp only); exact HS30.out) (fun hHeld => ?_)
                clear hK K
                refine take_at (i := 31) (v := ?_) rfl rfl (by kernel_rfl) (by kernel_rfl) (by kernel_rfl) (fun _ _ _ h => h) (Or.inl ⟨by rfl, ?_⟩) (by assumption) ?_
                rotate_left
                · intro w0 hSw; (try dsimp only at hSw); first | (go_simp; done) | (go_simp; with_reducible rfl)
                simp only [List.setIfInBounds_toArray, List.set_cons_zero, List.set_cons_succ]
                refine take_at (i := 32) (v := .int .i64 0) rfl rfl (by kernel_rfl) (by kernel_rfl) (by kernel_rfl) (fun _ _ _ h => h) (Or.inl ⟨by rfl, ?_⟩) (by assumption) ?_
                · intro w0 hSw; (try dsimp only at hSw); first | (go_simp; done) | (go_simp; with_reducible rfl) | (go_simp; omega)
                simp only [List.setIfInBounds_toArray, List.set_cons_zero, List.set_cons_succ]
                refine take_at (i := 33) (v := .bool true) rfl rfl (by kernel_rfl) (by kernel_rfl) (by kernel_rfl) (fun _ _ _ h => h) (Or.inl ⟨by rfl, ?_⟩) (by assumption) ?_
                · intro w0 hSw; (try dsimp only at hSw); first | (go_simp; done) | (go_simp; with_reducible rfl) | (go_simp; omega)
                simp only [List.setIfInBounds_toArray, List.set_cons_zero, List.set_cons_succ]
                refine take_at (i := 34) (v := ?_) rfl rfl (by kernel_rfl) (by kernel_rfl) (by kernel_rfl) (fun _ _ _ h => h) (Or.inl ⟨by rfl, ?_⟩) (by assumption) ?_
                rotate_left
                · intro w0 hSw; (try dsimp only at hSw); first | (go_simp; done) | (go_simp; with_reducible rfl)
                simp only [List.setIfInBounds_toArray, List.set_cons_zero, List.set_cons_succ]
                refine take_at (i := 35) (v := ?_) rfl rfl (by kernel_rfl) (by kernel_rfl) (by kernel_rfl) (fun _ _ _ h => h) (Or.inl ⟨by rfl, ?_⟩) (by assumption) ?_
                rotate_left
                · intro w0 hSw; (try dsimp only at hSw); first | (go_simp; done) | (go_simp; with_reducible rfl)
                simp only [List.setIfInBounds_toArray, List.set_cons_zero, List.set_cons_succ]
                refine take_at (i := 36) (v := ?_) rfl rfl (by kernel_rfl) (by kernel_rfl) (by kernel_rfl) (fun _ _ _ h => h) (Or.inl ⟨by rfl, ?_⟩) (by assumption) ?_
                rotate_left
                · intro w0 hSw; (try dsimp only at hSw); first | (go_simp; done) | (go_simp; with_reducible rfl)
                simp only [List.setIfInBounds_toArray, List.set_cons_zero, List.set_cons_succ]
                refine wpAnyH_ready (rs := [37]) (by kernel_rfl) (by simp) ?_
                refine AllReadyH.cons rfl (fun K hK => ?_) ?_
                · go_simp
                  go_at_call 13
                  refine (of_nil (.inl ⟨rfl, rfl⟩)).mono ?_
                  rintro e x37 ⟨rfl, hb37⟩
                  dsimp only
                  have HS37 := Lib.hid (Below.trans hHeld (hb37.mono (Below.size hHeld)))
                  clear hb37
                  refine hK.out _ _ (by (try dsimp only); exact HS37.out) (fun hHeld => ?_)
                  clear hK K
                  refine take_at (i := 38) (v := ?_) rfl rfl (by kernel_rfl) (by kernel_rfl) (by kernel_rfl) (fun _ _ _ h => h) (Or.inl ⟨by rfl, ?_⟩) (by assumption) ?_
                  rotate_left
                  · intro w0 hSw; (try dsimp only at hSw); first | (go_simp; done) | (go_simp; with_reducible rfl)
                  simp only [List.setIfInBounds_toArray, List.set_cons_zero, List.set_cons_succ]
                  refine take_at (i := 39) (v := ?_) rfl rfl (by kernel_rfl) (by kernel_rfl) (by kernel_rfl) (fun _ _ _ h => h) (Or.inl ⟨by rfl, ?_⟩) (by assumption) ?_
                  rotate_left
                  · intro w0 hSw; (try dsimp only at hSw); first | (go_simp; done) | (go_simp; with_reducible rfl)
                  simp only [List.setIfInBounds_toArray, List.set_cons_zero, List.set_cons_succ]
                  refine take_at (i := 40) (v := ?_) rfl rfl (by kernel_rfl) (by kernel_rfl) (by kernel_rfl) (fun _ _ _ h => h) (Or.inl ⟨by rfl, ?_⟩) (by assumption) ?_
                  rotate_left
                  · intro w0 hSw; (try dsimp only at hSw); first | (go_simp; done) | (go_simp; with_reducible rfl)
                  simp only [List.setIfInBounds_toArray, List.set_cons_zero, List.set_cons_succ]
                  refine take_at (i := 41) (v := ?_) rfl rfl (by kernel_rfl) (by kernel_rfl) (by kernel_rfl) (fun _ _ _ h => h) (Or.inl ⟨by rfl, ?_⟩) (by assumption) ?_
                  rotate_left
                  · intro w0 hSw; (try dsimp only at hSw); first | (go_simp; done) | (go_simp; with_reducible rfl)
                  simp only [List.setIfInBounds_toArray, List.set_cons_zero, List.set_cons_succ]
                  refine wpAnyH_ready (rs := [42]) (by kernel_rfl) (by simp) ?_
                  refine AllReadyH.cons rfl (fun K hK => ?_) ?_
                  · go_simp
                    go_at_call 7
                    refine (viewClone_nil (.inl ⟨rfl, rfl⟩)).mono ?_
                    rintro e x42 ⟨rfl, rfl⟩
                    dsimp only
                    refine hK.out _ _ (by (try dsimp only); exact hHeld) (fun hHeld => ?_)
                    clear hK K
                    refine take_at (i := 43) (v := ?_) rfl rfl (by kernel_rfl) (by kernel_rfl) (by kernel_rfl) (fun _ _ _ h => h) (Or.inl ⟨by rfl, ?_⟩) (by assumption) ?_
                    rotate_left
                    · intro w0 hSw; (try dsimp only at hSw); first | (go_simp; done) | (go_simp; with_reducible rfl)
                    simp only [List.setIfInBounds_toArray, List.set_cons_zero, List.set_cons_succ]
                    refine take_at (i := 44) (v := ?_) rfl rfl (by kernel_rfl) (by kernel_rfl) (by kernel_rfl) (fun _ _ _ h => h) (Or.inl ⟨by rfl, ?_⟩) (by assumption) ?_
                    rotate_left
                    · intro w0 hSw; (try dsimp only at hSw); first | (go_simp; done) | (go_simp; with_reducible rfl)
                    simp only [List.setIfInBounds_toArray, List.set_cons_zero, List.set_cons_succ]
                    refine take_at (i := 45) (v := ?_) rfl rfl (by kernel_rfl) (by kernel_rfl) (by kernel_rfl) (fun _ _ _ h => h) (Or.inl ⟨by rfl, ?_⟩) (by assumption) ?_
                    rotate_left
                    · intro w0 hSw; (try dsimp only at hSw); first | (go_simp; done) | (go_simp; with_reducible rfl)
                    simp only [List.setIfInBounds_toArray, List.set_cons_zero, List.set_cons_succ]
                    refine wpAnyH_ready (rs := [46]) (by kernel_rfl) (by simp) ?_
                    refine AllReadyH.cons rfl (fun K hK => ?_) ?_
                    · go_simp
                      go_at_call 10
                      refine (awake9_any _).mono ?_
                      rintro e x46 ⟨rfl, hb46⟩
                      dsimp only
                      have HS46 := Lib.hid (Below.trans hHeld (hb46.mono (Below.size hHeld)))
                      clear hb46
                      refine hK.out _ _ (by (try dsimp only); exact HS46.out) (fun hHeld => ?_)
                      clear hK K
                      refine take_at (i := 47) (v := ?_) rfl rfl (by kernel_rfl) (by kernel_rfl) (by kernel_rfl) (fun _ _ _ h => h) (Or.inl ⟨by rfl, ?_⟩) (by assumption) ?_
                      rotate_left
                      · intro w0 hSw; (try dsimp only at hSw); first | (go_simp; done) | (go_simp; with_reducible rfl)
                      simp only [List.setIfInBounds_toArray, List.set_cons_zero, List.set_cons_succ]
                      refine take_at (i := 48) (v := ?_) rfl rfl (by kernel_rfl) (by kernel_rfl) (by kernel_rfl) (fun _ _ _ h => h) (Or.inl ⟨by rfl, ?_⟩) (by assumption) ?_
                      rotate_left
                      · intro w0 hSw; (try dsimp only at hSw); first | (go_simp; done) | (go_simp; with_reducible rfl)
                      simp only [List.setIfInBounds_toArray, List.set_cons_zero, List.set_cons_succ]
                      refine wpAnyH_done (by kernel_rfl) ?_ _
                      have HB9 := Lib.hid (show Below w9.heap.size w9 _ from hHeld)
                      clear hHeld
                      go_wp2_with fail
                      go_ret
                      exact ⟨rfl, HB.out.trans (HB9.out.mono HB.out.size)⟩
                    exact AllReadyH.nil
                  exact AllReadyH.nil
                exact AllReadyH.nil
              exact AllReadyH.nil
            exact AllReadyH.nil
          exact AllReadyH.nil
        exact AllReadyH.nil
      exact AllReadyH.nil
    exact AllReadyH.nil
  exact AllReadyH.nil
end Go.Proofs.Ytdeilkpcmgcbaaa
