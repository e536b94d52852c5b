/- Law 9's own words: less, find. -/
import Derived.Test.YtdeilkpcmgcbaaaRowMem
import Derived.Deep.CutRange
namespace Go.Proofs.Ytdeilkpcmgcbaaa
open Go.RowKit

/-- Does a place stand ahead of another one? -/
def refLess : List UInt8 → List UInt8 → Int → Int → Bool
  | x :: xs, y :: ys, p, q => if x.toNat = y.toNat then refLess xs ys p q else decide (x.toNat < y.toNat)
  | _, _, p, q => decide (p < q)
theorem refLess_step {s t : List UInt8} {k : Nat} (h1 : k < s.length) (h2 : k < t.length) (p q : Int) : refLess (s.drop k) (t.drop k) p q = if (s.getD k 0).toNat = (t.getD k 0).toNat then refLess (s.drop (k + 1)) (t.drop (k + 1)) p q else decide ((s.getD k 0).toNat < (t.getD k 0).toNat) := by
  rw [drop_getD (d := 0) h1, drop_getD (d := 0) h2, refLess]
theorem ref_byte {W : World} {b o k : Nat} {s : List UInt8} {p : Int} (hs : k < s.length) (h : W.rangeAt b o (refCells s p)) : W.cell? ⟨b, o + k, none⟩ = some (.int .u8 (((s.getD k 0).toNat : Nat) : Int)) := h k _ (by
  unfold refCells
  rw [List.getElem?_append_left (by rw [cellsOf_len]; exact hs)]
  exact cellsOf_get hs)
theorem ref_at {W : World} {b o : Nat} {s : List UInt8} {p : Int} (hs : s.length = 32) (h : W.rangeAt b o (refCells s p)) : W.cell? ⟨b, o + 32, none⟩ = some (.int .i64 p) := h 32 _ (by
  unfold refCells
  rw [List.getElem?_append_right (by rw [cellsOf_len, hs]; omega), cellsOf_len, hs]
  rfl)
set_option linter.unusedSimpArgs false in
set_option maxRecDepth 100000 in
set_option maxHeartbeats 12800000 in
theorem less_law {w : World} {s t : List UInt8} {p q : Int} (hs : s.length = 32) (ht : t.length = 32) (hp : Fits p) (hq : Fits q) :
    Calls Try.prog 25 #[.agg (refCells s p).toArray, .agg (refCells t q).toArray] w fun e w' => e = .returned (.bool (refLess s t p q)) ∧ Below w.heap.size w w' := by
  obtain ⟨R, hR⟩ : ∃ R, R = refLess s t p q := ⟨_, rfl⟩
  rw [← hR]
  have b1 : Below w.heap.size w ((w.alloc (.cells (refCells s p).toArray 32)).alloc (.cells (refCells t q).toArray 32)) := ((Below.refl _ _).alloc (Nat.le_refl _) _).alloc (by simp) _
  have h1 : ((w.alloc (.cells (refCells s p).toArray 32)).alloc (.cells (refCells t q).toArray 32)).heap[w.heap.size]? = some (.cells (refCells s p).toArray 32 (0, 0)) := by
    rw [heap_alloc_old _ _ (by simp), heap_alloc_new]
  have h2 : ((w.alloc (.cells (refCells s p).toArray 32)).alloc (.cells (refCells t q).toArray 32)).heap[w.heap.size + 1]? = some (.cells (refCells t q).toArray 32 (0, 0)) := heap_alloc_at _ _ _ (by simp)
  have HR := Lib.hid hR
  have HS := Lib.hid hs
  have HT := Lib.hid ht
  have HP := Lib.hid hp
  have HQ := Lib.hid hq
  clear hR hs ht hp hq
  go_enter Try.func25, Try.ntmps25
  go_upto_region 1 with (fail)
  revert b1 h1 h2
  generalize ((w.alloc (.cells (refCells s p).toArray 32)).alloc (.cells (refCells t q).toArray 32)) = w1
  obtain ⟨g, hg⟩ : ∃ g, g = w.heap.size := ⟨_, rfl⟩
  rw [← hg]
  intro b1 h1 h2
  rw [hg] at b1
  have HB1 := Lib.hid b1
  have hlt := lt_of_block h1
  have hlt2 := lt_of_block h2
  have HS1 : Hid (∀ W : World, Below w1.heap.size w1 W → W.rangeAt g 0 (refCells s p)) := Lib.hid (fun W hW => range_of ((hW.block g hlt).trans h1))
  have HT1 : Hid (∀ W : World, Below w1.heap.size w1 W → W.rangeAt (g + 1) 0 (refCells t q)) := Lib.hid (fun W hW => range_of ((hW.block (g + 1) hlt2).trans h2))
  clear b1 h1 h2 hg hlt hlt2
  go_upto_region 2 with (fail)
  go_loopw [5] (fun x wr => ∃ k : Nat, k ≤ 32 ∧ x = .int .i64 k ∧ Below w1.heap.size w1 wr ∧ R = refLess (s.drop k) (t.drop k) p q) (fun x _ => 32 - (intOf x).toNat)
  case atStart => exact ⟨0, by omega, rfl, Below.refl _ _, HR.out⟩
  case round =>
    obtain ⟨k, hk, rfl, hbk, hrk⟩ := hrel
    have HBK := Lib.hid hbk
    have HRK := Lib.hid hrk
    clear hbk hrk HR
    by_cases hk32 : k < 32
    · have f1 : (k : Int) < 32 := by omega
      have f0 : (0 : Int) ≤ (k : Int) := by omega
      have ft : ((k : Int)).toNat = k := by omega
      have hks : k < s.length := by rw [HS.out]; exact hk32
      have hkt : k < t.length := by rw [HT.out]; exact hk32
      have hstep := refLess_step hks hkt p q
      have hcs : ∀ W : World, Below w1.heap.size w1 W → W.cell? ⟨g, k, none⟩ = some (.int .u8 (((s.getD k 0).toNat : Nat) : Int)) := fun W hW => by have h9 := ref_byte hks (HS1.out _ hW); rw [Nat.zero_add] at h9; exact h9
      have hct : ∀ W : World, Below w1.heap.size w1 W → W.cell? ⟨g + 1, k, none⟩ = some (.int .u8 (((t.getD k 0).toNat : Nat) : Int)) := fun W hW => by have h9 := ref_byte hkt (HT1.out _ hW); rw [Nat.zero_add] at h9; exact h9
      rw [← HRK.out] at hstep
      revert hcs hct hstep
      generalize (s.getD k 0).toNat = x
      generalize (t.getD k 0).toNat = y
      intro hstep hcs hct
      have HCS := Lib.hid hcs
      have HCT := Lib.hid hct
      have HST := Lib.hid hstep
      clear hcs hct hstep hks hkt
      by_cases hxy : x = y
      · have g1 : (x : Int) = (y : Int) := by omega
        go_upto_region 4 with (fail)
        try simp only [Act.put]
        refine wp_region_held_drew (S := fun w' => Below w1.heap.size w1 w') (by kernel_rfl) (below_drew HBK.out) (fun hHeld => ?_)
        refine take_at (i := 0) (v := ?_) rfl rfl (by kernel_rfl) (by kernel_rfl) (by kernel_rfl) (fun _ _ _ h => h) (Or.inl ⟨by rfl, ?_⟩) (by assumption) ?_
        rotate_left
        · intro w0 hSw; (try dsimp only at hSw); first | (go_simp; done) | (go_simp; with_reducible rfl)
        simp only [List.setIfInBounds_toArray, List.set_cons_zero, List.set_cons_succ]
        refine take_at (i := 1) (v := ?_) rfl rfl (by kernel_rfl) (by kernel_rfl) (by kernel_rfl) (fun _ _ _ h => h) (Or.inl ⟨by rfl, ?_⟩) (by assumption) ?_
        rotate_left
        · intro w0 hSw; (try dsimp only at hSw); first | (go_simp; done) | (go_simp; with_reducible rfl)
        simp only [List.setIfInBounds_toArray, List.set_cons_zero, List.set_cons_succ]
        refine take_at (i := 2) (v := ?_) rfl rfl (by kernel_rfl) (by kernel_rfl) (by kernel_rfl) (fun _ _ _ h => h) (Or.inl ⟨by rfl, ?_⟩) (by assumption) ?_
        rotate_left
        · intro w0 hSw; (try dsimp only at hSw); first | (go_simp; done) | (go_simp; with_reducible rfl)
        simp only [List.setIfInBounds_toArray, List.set_cons_zero, List.set_cons_succ]
        refine take_at (i := 3) rfl rfl (by kernel_rfl) (by kernel_rfl) (by kernel_rfl) (fun _ _ _ h => h) (yields_cell (by rfl) rfl rfl (b := g) (o := k) (fun w0 hSw => HCS.out _ hSw) Try.isAgg5) (by assumption) ?_
        simp only [List.setIfInBounds_toArray, List.set_cons_zero, List.set_cons_succ]
        refine take_at (i := 4) (v := ?_) rfl rfl (by kernel_rfl) (by kernel_rfl) (by kernel_rfl) (fun _ _ _ h => h) (Or.inl ⟨by rfl, ?_⟩) (by assumption) ?_
        rotate_left
        · intro w0 hSw; (try dsimp only at hSw); first | (go_simp; done) | (go_simp; with_reducible rfl)
        simp only [List.setIfInBounds_toArray, List.set_cons_zero, List.set_cons_succ]
        refine take_at (i := 5) (v := ?_) rfl rfl (by kernel_rfl) (by kernel_rfl) (by kernel_rfl) (fun _ _ _ h => h) (Or.inl ⟨by rfl, ?_⟩) (by assumption) ?_
        rotate_left
        · intro w0 hSw; (try dsimp only at hSw); first | (go_simp; done) | (go_simp; with_reducible rfl)
        simp only [List.setIfInBounds_toArray, List.set_cons_zero, List.set_cons_succ]
        refine take_at (i := 6) (v := ?_) rfl rfl (by kernel_rfl) (by kernel_rfl) (by kernel_rfl) (fun _ _ _ h => h) (Or.inl ⟨by rfl, ?_⟩) (by assumption) ?_
        rotate_left
        · intro w0 hSw; (try dsimp only at hSw); first | (go_simp; done) | (go_simp; with_reducible rfl)
        simp only [List.setIfInBounds_toArray, List.set_cons_zero, List.set_cons_succ]
        refine take_at (i := 7) rfl rfl (by kernel_rfl) (by kernel_rfl) (by kernel_rfl) (fun _ _ _ h => h) (yields_cell (by rfl) rfl rfl (b := (g + 1)) (o := k) (fun w0 hSw => HCT.out _ hSw) Try.isAgg5) (by assumption) ?_
        simp only [List.setIfInBounds_toArray, List.set_cons_zero, List.set_cons_succ]
        refine take_at (i := 8) (v := .bool false) rfl rfl (by kernel_rfl) (by kernel_rfl) (by kernel_rfl) (fun _ _ _ h => h) (Or.inl ⟨by rfl, ?_⟩) (by assumption) ?_
        · intro w0 hSw; (try dsimp only at hSw); first | (go_simp; done) | (go_simp; with_reducible rfl) | (go_simp; omega)
        simp only [List.setIfInBounds_toArray, List.set_cons_zero, List.set_cons_succ]
        refine wpAnyH_done (by kernel_rfl) ?_ _
        have HB4 := Lib.hid (show Below w1.heap.size w1 _ from hHeld)
        clear hHeld
        have HRN : Hid (R = refLess (s.drop (k + 1)) (t.drop (k + 1)) p q) := Lib.hid (by have h9 := HST.out; rw [if_pos hxy] at h9; exact h9)
        clear HST HRK g1
        go_wp2_with fail
        go_roundw
        case rel => exact ⟨k + 1, by omega, by go_num, HB4.out, HRN.out⟩
        case measure => simp [intOf]; omega
      · have g1 : ¬ (x : Int) = (y : Int) := by omega
        by_cases hl : x < y
        · have g2 : (x : Int) < (y : Int) := by omega
          have hrt : R = true := by rw [HST.out, if_neg hxy, decide_eq_true hl]
          subst hrt
          clear HST HRK
          go_upto_region 4 with (fail)
          try simp only [Act.put]
          refine wp_region_held_drew (S := fun w' => Below w1.heap.size w1 w') (by kernel_rfl) (below_drew HBK.out) (fun hHeld => ?_)
          refine take_at (i := 0) (v := ?_) rfl rfl (by kernel_rfl) (by kernel_rfl) (by kernel_rfl) (fun _ _ _ h => h) (Or.inl ⟨by rfl, ?_⟩) (by assumption) ?_
          rotate_left
          · intro w0 hSw; (try dsimp only at hSw); first | (go_simp; done) | (go_simp; with_reducible rfl)
          simp only [List.setIfInBounds_toArray, List.set_cons_zero, List.set_cons_succ]
          refine take_at (i := 1) (v := ?_) rfl rfl (by kernel_rfl) (by kernel_rfl) (by kernel_rfl) (fun _ _ _ h => h) (Or.inl ⟨by rfl, ?_⟩) (by assumption) ?_
          rotate_left
          · intro w0 hSw; (try dsimp only at hSw); first | (go_simp; done) | (go_simp; with_reducible rfl)
          simp only [List.setIfInBounds_toArray, List.set_cons_zero, List.set_cons_succ]
          refine take_at (i := 2) (v := ?_) rfl rfl (by kernel_rfl) (by kernel_rfl) (by kernel_rfl) (fun _ _ _ h => h) (Or.inl ⟨by rfl, ?_⟩) (by assumption) ?_
          rotate_left
          · intro w0 hSw; (try dsimp only at hSw); first | (go_simp; done) | (go_simp; with_reducible rfl)
          simp only [List.setIfInBounds_toArray, List.set_cons_zero, List.set_cons_succ]
          refine take_at (i := 3) rfl rfl (by kernel_rfl) (by kernel_rfl) (by kernel_rfl) (fun _ _ _ h => h) (yields_cell (by rfl) rfl rfl (b := g) (o := k) (fun w0 hSw => HCS.out _ hSw) Try.isAgg5) (by assumption) ?_
          simp only [List.setIfInBounds_toArray, List.set_cons_zero, List.set_cons_succ]
          refine take_at (i := 4) (v := ?_) rfl rfl (by kernel_rfl) (by kernel_rfl) (by kernel_rfl) (fun _ _ _ h => h) (Or.inl ⟨by rfl, ?_⟩) (by assumption) ?_
          rotate_left
          · intro w0 hSw; (try dsimp only at hSw); first | (go_simp; done) | (go_simp; with_reducible rfl)
          simp only [List.setIfInBounds_toArray, List.set_cons_zero, List.set_cons_succ]
          refine take_at (i := 5) (v := ?_) rfl rfl (by kernel_rfl) (by kernel_rfl) (by kernel_rfl) (fun _ _ _ h => h) (Or.inl ⟨by rfl, ?_⟩) (by assumption) ?_
          rotate_left
          · intro w0 hSw; (try dsimp only at hSw); first | (go_simp; done) | (go_simp; with_reducible rfl)
          simp only [List.setIfInBounds_toArray, List.set_cons_zero, List.set_cons_succ]
          refine take_at (i := 6) (v := ?_) rfl rfl (by kernel_rfl) (by kernel_rfl) (by kernel_rfl) (fun _ _ _ h => h) (Or.inl ⟨by rfl, ?_⟩) (by assumption) ?_
          rotate_left
          · intro w0 hSw; (try dsimp only at hSw); first | (go_simp; done) | (go_simp; with_reducible rfl)
          simp only [List.setIfInBounds_toArray, List.set_cons_zero, List.set_cons_succ]
          refine take_at (i := 7) rfl rfl (by kernel_rfl) (by kernel_rfl) (by kernel_rfl) (fun _ _ _ h => h) (yields_cell (by rfl) rfl rfl (b := (g + 1)) (o := k) (fun w0 hSw => HCT.out _ hSw) Try.isAgg5) (by assumption) ?_
          simp only [List.setIfInBounds_toArray, List.set_cons_zero, List.set_cons_succ]
          refine take_at (i := 8) (v := .bool true) rfl rfl (by kernel_rfl) (by kernel_rfl) (by kernel_rfl) (fun _ _ _ h => h) (Or.inl ⟨by rfl, ?_⟩) (by assumption) ?_
          · intro w0 hSw; (try dsimp only at hSw); first | (go_simp; done) | (go_simp; with_reducible rfl) | (go_simp; omega)
          simp only [List.setIfInBounds_toArray, List.set_cons_zero, List.set_cons_succ]
          refine wpAnyH_done (by kernel_rfl) ?_ _
          have HB4 := Lib.hid (show Below w1.heap.size w1 _ from hHeld)
          clear hHeld
          go_upto_region 5 with (fail)
          try simp only [Act.put]
          refine wp_region_held_drew (S := fun w' => Below w1.heap.size w1 w') (by kernel_rfl) (below_drew HB4.out) (fun hHeld => ?_)
          refine take_at (i := 0) (v := ?_) rfl rfl (by kernel_rfl) (by kernel_rfl) (by kernel_rfl) (fun _ _ _ h => h) (Or.inl ⟨by rfl, ?_⟩) (by assumption) ?_
          rotate_left
          · intro w0 hSw; (try dsimp only at hSw); first | (go_simp; done) | (go_simp; with_reducible rfl)
          simp only [List.setIfInBounds_toArray, List.set_cons_zero, List.set_cons_succ]
          refine take_at (i := 1) (v := ?_) rfl rfl (by kernel_rfl) (by kernel_rfl) (by kernel_rfl) (fun _ _ _ h => h) (Or.inl ⟨by rfl, ?_⟩) (by assumption) ?_
          rotate_left
          · intro w0 hSw; (try dsimp only at hSw); first | (go_simp; done) | (go_simp; with_reducible rfl)
          simp only [List.setIfInBounds_toArray, List.set_cons_zero, List.set_cons_succ]
          refine take_at (i := 2) (v := ?_) rfl rfl (by kernel_rfl) (by kernel_rfl) (by kernel_rfl) (fun _ _ _ h => h) (Or.inl ⟨by rfl, ?_⟩) (by assumption) ?_
          rotate_left
          · intro w0 hSw; (try dsimp only at hSw); first | (go_simp; done) | (go_simp; with_reducible rfl)
          simp only [List.setIfInBounds_toArray, List.set_cons_zero, List.set_cons_succ]
          refine take_at (i := 3) rfl rfl (by kernel_rfl) (by kernel_rfl) (by kernel_rfl) (fun _ _ _ h => h) (yields_cell (by rfl) rfl rfl (b := g) (o := k) (fun w0 hSw => HCS.out _ hSw) Try.isAgg5) (by assumption) ?_
          simp only [List.setIfInBounds_toArray, List.set_cons_zero, List.set_cons_succ]
          refine take_at (i := 4) (v := ?_) rfl rfl (by kernel_rfl) (by kernel_rfl) (by kernel_rfl) (fun _ _ _ h => h) (Or.inl ⟨by rfl, ?_⟩) (by assumption) ?_
          rotate_left
          · intro w0 hSw; (try dsimp only at hSw); first | (go_simp; done) | (go_simp; with_reducible rfl)
          simp only [List.setIfInBounds_toArray, List.set_cons_zero, List.set_cons_succ]
          refine take_at (i := 5) (v := ?_) rfl rfl (by kernel_rfl) (by kernel_rfl) (by kernel_rfl) (fun _ _ _ h => h) (Or.inl ⟨by rfl, ?_⟩) (by assumption) ?_
          rotate_left
          · intro w0 hSw; (try dsimp only at hSw); first | (go_simp; done) | (go_simp; with_reducible rfl)
          simp only [List.setIfInBounds_toArray, List.set_cons_zero, List.set_cons_succ]
          refine take_at (i := 6) (v := ?_) rfl rfl (by kernel_rfl) (by kernel_rfl) (by kernel_rfl) (fun _ _ _ h => h) (Or.inl ⟨by rfl, ?_⟩) (by assumption) ?_
          rotate_left
          · intro w0 hSw; (try dsimp only at hSw); first | (go_simp; done) | (go_simp; with_reducible rfl)
          simp only [List.setIfInBounds_toArray, List.set_cons_zero, List.set_cons_succ]
          refine take_at (i := 7) rfl rfl (by kernel_rfl) (by kernel_rfl) (by kernel_rfl) (fun _ _ _ h => h) (yields_cell (by rfl) rfl rfl (b := (g + 1)) (o := k) (fun w0 hSw => HCT.out _ hSw) Try.isAgg5) (by assumption) ?_
          simp only [List.setIfInBounds_toArray, List.set_cons_zero, List.set_cons_succ]
          refine take_at (i := 8) (v := .bool true) rfl rfl (by kernel_rfl) (by kernel_rfl) (by kernel_rfl) (fun _ _ _ h => h) (Or.inl ⟨by rfl, ?_⟩) (by assumption) ?_
          · intro w0 hSw; (try dsimp only at hSw); first | (go_simp; done) | (go_simp; with_reducible rfl) | (go_simp; omega)
          simp only [List.setIfInBounds_toArray, List.set_cons_zero, List.set_cons_succ]
          refine take_at (i := 9) (v := ?_) rfl rfl (by kernel_rfl) (by kernel_rfl) (by kernel_rfl) (fun _ _ _ h => h) (Or.inl ⟨by rfl, ?_⟩) (by assumption) ?_
          rotate_left
          · intro w0 hSw; (try dsimp only at hSw); first | (go_simp; done) | (go_simp; with_reducible rfl)
          simp only [List.setIfInBounds_toArray, List.set_cons_zero, List.set_cons_succ]
          refine wpAnyH_done (by kernel_rfl) ?_ _
          have HB5 := Lib.hid (show Below w1.heap.size w1 _ from hHeld)
          clear hHeld
          go_wp2_with fail
          go_ret
          exact ⟨rfl, HB1.out.trans (HB5.out.mono HB1.out.size)⟩
        · have g2 : ¬ (x : Int) < (y : Int) := by omega
          have hrt : R = false := by rw [HST.out, if_neg hxy, decide_eq_false hl]
          subst hrt
          clear HST HRK
          go_upto_region 4 with (fail)
          try simp only [Act.put]
          refine wp_region_held_drew (S := fun w' => Below w1.heap.size w1 w') (by kernel_rfl) (below_drew HBK.out) (fun hHeld => ?_)
          refine take_at (i := 0) (v := ?_) rfl rfl (by kernel_rfl) (by kernel_rfl) (by kernel_rfl) (fun _ _ _ h => h) (Or.inl ⟨by rfl, ?_⟩) (by assumption) ?_
          rotate_left
          · intro w0 hSw; (try dsimp only at hSw); first | (go_simp; done) | (go_simp; with_reducible rfl)
          simp only [List.setIfInBounds_toArray, List.set_cons_zero, List.set_cons_succ]
          refine take_at (i := 1) (v := ?_) rfl rfl (by kernel_rfl) (by kernel_rfl) (by kernel_rfl) (fun _ _ _ h => h) (Or.inl ⟨by rfl, ?_⟩) (by assumption) ?_
          rotate_left
          · intro w0 hSw; (try dsimp only at hSw); first | (go_simp; done) | (go_simp; with_reducible rfl)
          simp only [List.setIfInBounds_toArray, List.set_cons_zero, List.set_cons_succ]
          refine take_at (i := 2) (v := ?_) rfl rfl (by kernel_rfl) (by kernel_rfl) (by kernel_rfl) (fun _ _ _ h => h) (Or.inl ⟨by rfl, ?_⟩) (by assumption) ?_
          rotate_left
          · intro w0 hSw; (try dsimp only at hSw); first | (go_simp; done) | (go_simp; with_reducible rfl)
          simp only [List.setIfInBounds_toArray, List.set_cons_zero, List.set_cons_succ]
          refine take_at (i := 3) rfl rfl (by kernel_rfl) (by kernel_rfl) (by kernel_rfl) (fun _ _ _ h => h) (yields_cell (by rfl) rfl rfl (b := g) (o := k) (fun w0 hSw => HCS.out _ hSw) Try.isAgg5) (by assumption) ?_
          simp only [List.setIfInBounds_toArray, List.set_cons_zero, List.set_cons_succ]
          refine take_at (i := 4) (v := ?_) rfl rfl (by kernel_rfl) (by kernel_rfl) (by kernel_rfl) (fun _ _ _ h => h) (Or.inl ⟨by rfl, ?_⟩) (by assumption) ?_
          rotate_left
          · intro w0 hSw; (try dsimp only at hSw); first | (go_simp; done) | (go_simp; with_reducible rfl)
          simp only [List.setIfInBounds_toArray, List.set_cons_zero, List.set_cons_succ]
          refine take_at (i := 5) (v := ?_) rfl rfl (by kernel_rfl) (by kernel_rfl) (by kernel_rfl) (fun _ _ _ h => h) (Or.inl ⟨by rfl, ?_⟩) (by assumption) ?_
          rotate_left
          · intro w0 hSw; (try dsimp only at hSw); first | (go_simp; done) | (go_simp; with_reducible rfl)
          simp only [List.setIfInBounds_toArray, List.set_cons_zero, List.set_cons_succ]
          refine take_at (i := 6) (v := ?_) rfl rfl (by kernel_rfl) (by kernel_rfl) (by kernel_rfl) (fun _ _ _ h => h) (Or.inl ⟨by rfl, ?_⟩) (by assumption) ?_
          rotate_left
          · intro w0 hSw; (try dsimp only at hSw); first | (go_simp; done) | (go_simp; with_reducible rfl)
          simp only [List.setIfInBounds_toArray, List.set_cons_zero, List.set_cons_succ]
          refine take_at (i := 7) rfl rfl (by kernel_rfl) (by kernel_rfl) (by kernel_rfl) (fun _ _ _ h => h) (yields_cell (by rfl) rfl rfl (b := (g + 1)) (o := k) (fun w0 hSw => HCT.out _ hSw) Try.isAgg5) (by assumption) ?_
          simp only [List.setIfInBounds_toArray, List.set_cons_zero, List.set_cons_succ]
          refine take_at (i := 8) (v := .bool true) rfl rfl (by kernel_rfl) (by kernel_rfl) (by kernel_rfl) (fun _ _ _ h => h) (Or.inl ⟨by rfl, ?_⟩) (by assumption) ?_
          · intro w0 hSw; (try dsimp only at hSw); first | (go_simp; done) | (go_simp; with_reducible rfl) | (go_simp; omega)
          simp only [List.setIfInBounds_toArray, List.set_cons_zero, List.set_cons_succ]
          refine wpAnyH_done (by kernel_rfl) ?_ _
          have HB4 := Lib.hid (show Below w1.heap.size w1 _ from hHeld)
          clear hHeld
          go_upto_region 5 with (fail)
          try simp only [Act.put]
          refine wp_region_held_drew (S := fun w' => Below w1.heap.size w1 w') (by kernel_rfl) (below_drew HB4.out) (fun hHeld => ?_)
          refine take_at (i := 0) (v := ?_) rfl rfl (by kernel_rfl) (by kernel_rfl) (by kernel_rfl) (fun _ _ _ h => h) (Or.inl ⟨by rfl, ?_⟩) (by assumption) ?_
          rotate_left
          · intro w0 hSw; (try dsimp only at hSw); first | (go_simp; done) | (go_simp; with_reducible rfl)
          simp only [List.setIfInBounds_toArray, List.set_cons_zero, List.set_cons_succ]
          refine take_at (i := 1) (v := ?_) rfl rfl (by kernel_rfl) (by kernel_rfl) (by kernel_rfl) (fun _ _ _ h => h) (Or.inl ⟨by rfl, ?_⟩) (by assumption) ?_
          rotate_left
          · intro w0 hSw; (try dsimp only at hSw); first | (go_simp; done) | (go_simp; with_reducible rfl)
          simp only [List.setIfInBounds_toArray, List.set_cons_zero, List.set_cons_succ]
          refine take_at (i := 2) (v := ?_) rfl rfl (by kernel_rfl) (by kernel_rfl) (by kernel_rfl) (fun _ _ _ h => h) (Or.inl ⟨by rfl, ?_⟩) (by assumption) ?_
          rotate_left
          · intro w0 hSw; (try dsimp only at hSw); first | (go_simp; done) | (go_simp; with_reducible rfl)
          simp only [List.setIfInBounds_toArray, List.set_cons_zero, List.set_cons_succ]
          refine take_at (i := 3) rfl rfl (by kernel_rfl) (by kernel_rfl) (by kernel_rfl) (fun _ _ _ h => h) (yields_cell (by rfl) rfl rfl (b := g) (o := k) (fun w0 hSw => HCS.out _ hSw) Try.isAgg5) (by assumption) ?_
          simp only [List.setIfInBounds_toArray, List.set_cons_zero, List.set_cons_succ]
          refine take_at (i := 4) (v := ?_) rfl rfl (by kernel_rfl) (by kernel_rfl) (by kernel_rfl) (fun _ _ _ h => h) (Or.inl ⟨by rfl, ?_⟩) (by assumption) ?_
          rotate_left
          · intro w0 hSw; (try dsimp only at hSw); first | (go_simp; done) | (go_simp; with_reducible rfl)
          simp only [List.setIfInBounds_toArray, List.set_cons_zero, List.set_cons_succ]
          refine take_at (i := 5) (v := ?_) rfl rfl (by kernel_rfl) (by kernel_rfl) (by kernel_rfl) (fun _ _ _ h => h) (Or.inl ⟨by rfl, ?_⟩) (by assumption) ?_
          rotate_left
          · intro w0 hSw; (try dsimp only at hSw); first | (go_simp; done) | (go_simp; with_reducible rfl)
          simp only [List.setIfInBounds_toArray, List.set_cons_zero, List.set_cons_succ]
          refine take_at (i := 6) (v := ?_) rfl rfl (by kernel_rfl) (by kernel_rfl) (by kernel_rfl) (fun _ _ _ h => h) (Or.inl ⟨by rfl, ?_⟩) (by assumption) ?_
          rotate_left
          · intro w0 hSw; (try dsimp only at hSw); first | (go_simp; done) | (go_simp; with_reducible rfl)
          simp only [List.setIfInBounds_toArray, List.set_cons_zero, List.set_cons_succ]
          refine take_at (i := 7) rfl rfl (by kernel_rfl) (by kernel_rfl) (by kernel_rfl) (fun _ _ _ h => h) (yields_cell (by rfl) rfl rfl (b := (g + 1)) (o := k) (fun w0 hSw => HCT.out _ hSw) Try.isAgg5) (by assumption) ?_
          simp only [List.setIfInBounds_toArray, List.set_cons_zero, List.set_cons_succ]
          refine take_at (i := 8) (v := .bool false) rfl rfl (by kernel_rfl) (by kernel_rfl) (by kernel_rfl) (fun _ _ _ h => h) (Or.inl ⟨by rfl, ?_⟩) (by assumption) ?_
          · intro w0 hSw; (try dsimp only at hSw); first | (go_simp; done) | (go_simp; with_reducible rfl) | (go_simp; omega)
          simp only [List.setIfInBounds_toArray, List.set_cons_zero, List.set_cons_succ]
          refine take_at (i := 9) (v := ?_) rfl rfl (by kernel_rfl) (by kernel_rfl) (by kernel_rfl) (fun _ _ _ h => h) (Or.inl ⟨by rfl, ?_⟩) (by assumption) ?_
          rotate_left
          · intro w0 hSw; (try dsimp only at hSw); first | (go_simp; done) | (go_simp; with_reducible rfl)
          simp only [List.setIfInBounds_toArray, List.set_cons_zero, List.set_cons_succ]
          refine wpAnyH_done (by kernel_rfl) ?_ _
          have HB5 := Lib.hid (show Below w1.heap.size w1 _ from hHeld)
          clear hHeld
          go_wp2_with fail
          go_ret
          exact ⟨rfl, HB1.out.trans (HB5.out.mono HB1.out.size)⟩
    · obtain rfl : k = 32 := by omega
      have f1 : ¬ ((32 : Nat) : Int) < 32 := by omega
      have hrl : R = decide (p < q) := by
        rw [HRK.out, List.drop_of_length_le (by rw [HS.out]; exact Nat.le_refl _), refLess]
        exact fun h => by simp
      have c1 := ref_at HS.out (HS1.out _ HBK.out)
      have c2 := ref_at HT.out (HT1.out _ HBK.out)
      rw [Nat.zero_add] at c1 c2
      clear HRK
      by_cases hpq : p < q
      · obtain rfl : R = true := by rw [hrl, decide_eq_true hpq]
        clear hrl
        go_wp2_with fail
        go_ret
        exact ⟨rfl, HB1.out.trans (HBK.out.mono HB1.out.size)⟩
      · obtain rfl : R = false := by rw [hrl, decide_eq_false hpq]
        clear hrl
        go_wp2_with fail
        go_ret
        exact ⟨rfl, HB1.out.trans (HBK.out.mono HB1.out.size)⟩
/-- Where a row stands; -1: nowhere. -/
def findIx (s : List UInt8) (p : Int) : List PRow → Nat → Int
  | [], _ => -1
  | x :: xs, k => if (decide (x.tx = s) && decide (x.place = p)) = true then (k : Int) else findIx s p xs (k + 1)
theorem findIx_step {s : List UInt8} {p : Int} {xs : List PRow} {k : Nat} (h : k < xs.length) : findIx s p (xs.drop k) k = if (decide ((xs.getD k noRow).tx = s) && decide ((xs.getD k noRow).place = p)) = true then (k : Int) else findIx s p (xs.drop (k + 1)) (k + 1) := by
  rw [drop_getD (d := noRow) h, findIx]
set_option linter.unusedSimpArgs false in
set_option maxRecDepth 100000 in
set_option maxHeartbeats 12800000 in
theorem find_law {w : World} {a : Option Addr} {n c : Nat} {xs : List PRow} {s : List UInt8} {p : Int} (h : SliceOf rowK w a n c xs) (hs : s.length = 32) :
    Calls Try.prog 22 #[.slice a n c, .agg (refCells s p).toArray] w fun e w' => e = .returned (.int .i64 (findIx s p xs 0)) ∧ Below w.heap.size w w' := by
  obtain ⟨R, hR⟩ : ∃ R, R = findIx s p xs 0 := ⟨_, rfl⟩
  rw [← hR]
  have hn63 := h.len63
  have hnc : n ≤ c := h.2.1
  have b1 : Below w.heap.size w (w.alloc (.cells (refCells s p).toArray 32)) := (Below.refl _ _).alloc (Nat.le_refl _) _
  have h1 := heap_alloc_new w (.cells (refCells s p).toArray 32)
  have HR := Lib.hid hR
  have HS := Lib.hid hs
  have H := Lib.hid h
  have SS := Lib.hid (refSize (z := p) hs)
  clear hR hs h
  go_enter Try.func22, Try.ntmps22
  go_upto_region 1 with (fail)
  revert b1 h1
  generalize (w.alloc (.cells (refCells s p).toArray 32)) = w1
  obtain ⟨g, hg⟩ : ∃ g, g = w.heap.size := ⟨_, rfl⟩
  rw [← hg]
  intro b1 h1
  rw [hg] at b1
  have HB1 := Lib.hid b1
  have hlt := lt_of_block h1
  have H1 := Lib.hid (H.out.below b1)
  have HG : Hid (∀ W : World, Below w1.heap.size w1 W → W.rangeAt g 0 (refCells s p)) := Lib.hid (fun W hW => range_of ((hW.block g hlt).trans h1))
  clear b1 h1 hg hlt H
  go_upto_region 2 with (fail)
  go_loopw [5] (fun x wr => ∃ k : Nat, k ≤ n ∧ x = .int .i64 k ∧ Below w1.heap.size w1 wr ∧ R = findIx s p (xs.drop k) k) (fun x _ => n - (intOf x).toNat)
  case atStart => exact ⟨0, Nat.zero_le _, rfl, Below.refl _ _, HR.out⟩
  case round =>
    obtain ⟨k, hk, rfl, hbk, hrk⟩ := hrel
    have HBK := Lib.hid hbk
    have HRK := Lib.hid hrk
    clear hbk hrk HR
    by_cases hkn : k < n
    · have f1 : (k : Int) < (n : Int) := by omega
      have f0 : (0 : Int) ≤ (k : Int) := by omega
      have ft : ((k : Int)).toNat = k := by omega
      have hkl : k < xs.length := by rw [H1.out.1]; exact hkn
      have hstep := findIx_step (s := s) (p := p) hkl
      rw [← HRK.out] at hstep
      obtain ⟨b1, o1, e1, hltb, hc1⟩ := H1.out.2.2.2.2.2 (by omega)
      have hrx : w1.rangeAt b1 (o1 + k * 36) (xs.getD k noRow).cells := hc1 k hkn
      have hz : RowIn w1 (xs.getD k noRow) := H1.out.get hkn
      revert hstep hrx hz
      generalize xs.getD k noRow = z
      intro hstep hrx hz
      subst e1
      obtain ⟨r2, hr2⟩ : ∃ r, (decide (z.tx = s) && decide (z.place = p)) = r := ⟨_, rfl⟩
      have q : ∀ W : World, (Op.equalIn 10000 32 (.agg (refCells z.tx z.place).toArray) (.agg (refCells s p).toArray)).run Try.prog W = .ok r2 W := fun W => by rw [← hr2]; exact run_eqRefs _ _ _ _ hz.tx HS.out W
      rw [hr2] at hstep
      have SZ := Lib.hid (refSize (z := z.place) hz.tx)
      have RZ : Hid (∀ W : World, Below w1.heap.size w1 W → W.rangeAt b1 (o1 + k * 36) (refCells z.tx z.place)) := Lib.hid (fun W hW => rangeAt_below (row_ref hrx) hltb hW)
      have HST := Lib.hid hstep
      clear hstep hrx hz hr2 hc1 hltb hkl HRK
      go_upto_region 4 with (fail)
      try simp only [Act.put]
      refine wp_region_held_drew (S := fun w' => Below w1.heap.size w1 w') (by kernel_rfl) (below_drew HBK.out) (fun hHeld => ?_)
      refine take_at (i := 0) (v := ?_) rfl rfl (by kernel_rfl) (by kernel_rfl) (by kernel_rfl) (fun _ _ _ h => h) (Or.inl ⟨by rfl, ?_⟩) (by assumption) ?_
      rotate_left
      · intro w0 hSw; (try dsimp only at hSw); first | (go_simp; done) | (go_simp; with_reducible rfl)
      simp only [List.setIfInBounds_toArray, List.set_cons_zero, List.set_cons_succ]
      refine take_at (i := 1) (v := ?_) rfl rfl (by kernel_rfl) (by kernel_rfl) (by kernel_rfl) (fun _ _ _ h => h) (Or.inl ⟨by rfl, ?_⟩) (by assumption) ?_
      rotate_left
      · intro w0 hSw; (try dsimp only at hSw); first | (go_simp; done) | (go_simp; with_reducible rfl)
      simp only [List.setIfInBounds_toArray, List.set_cons_zero, List.set_cons_succ]
      refine take_at (i := 2) (v := ?_) rfl rfl (by kernel_rfl) (by kernel_rfl) (by kernel_rfl) (fun _ _ _ h => h) (Or.inl ⟨by rfl, ?_⟩) (by assumption) ?_
      rotate_left
      · intro w0 hSw; (try dsimp only at hSw); first | (go_simp; done) | (go_simp; with_reducible rfl)
      simp only [List.setIfInBounds_toArray, List.set_cons_zero, List.set_cons_succ]
      refine take_at (i := 3) (v := ?_) rfl rfl (by kernel_rfl) (by kernel_rfl) (by kernel_rfl) (fun _ _ _ h => h) (Or.inl ⟨by rfl, ?_⟩) (by assumption) ?_
      rotate_left
      · intro w0 hSw; (try dsimp only at hSw); first | (go_simp; done) | (go_simp; with_reducible rfl)
      simp only [List.setIfInBounds_toArray, List.set_cons_zero, List.set_cons_succ]
      refine take_at (i := 4) rfl rfl (by kernel_rfl) (by kernel_rfl) (by kernel_rfl) (fun _ _ _ h => h) (yieldsIf_load_mid (by rfl) _ _ rfl b1 (o1 + k * 36) rfl (refCells z.tx z.place) _ (fun w0 hSw => RZ.out _ hSw) Try.underlying32 rfl SZ.out) (by assumption) ?_
      simp only [List.setIfInBounds_toArray, List.set_cons_zero, List.set_cons_succ]
      refine take_at (i := 5) rfl rfl (by kernel_rfl) (by kernel_rfl) (by kernel_rfl) (fun _ _ _ h => h) (yieldsIf_load_mid (by rfl) _ _ rfl g 0 rfl (refCells s p) _ (fun w0 hSw => HG.out _ hSw) Try.underlying32 rfl SS.out) (by assumption) ?_
      simp only [List.setIfInBounds_toArray, List.set_cons_zero, List.set_cons_succ]
      refine take_at (i := 6) (v := .bool r2) rfl rfl (by kernel_rfl) (by kernel_rfl) (by kernel_rfl) (fun _ _ _ h => h) (Or.inl ⟨by rfl, ?_⟩) (by assumption) ?_
      · intro w0 hSw; (try dsimp only at hSw); first | (go_simp; done) | (go_simp; with_reducible rfl) | (go_simp; omega)
      simp only [List.setIfInBounds_toArray, List.set_cons_zero, List.set_cons_succ]
      refine wpAnyH_done (by kernel_rfl) ?_ _
      have HB4 := Lib.hid (show Below w1.heap.size w1 _ from hHeld)
      clear hHeld q
      cases r2
      · have HRN : Hid (R = findIx s p (xs.drop (k + 1)) (k + 1)) := Lib.hid (by have h9 := HST.out; simpa using h9)
        clear HST
        go_wp2_with fail
        go_roundw
        case rel => exact ⟨k + 1, by omega, by go_num, HB4.out, HRN.out⟩
        case measure => simp [intOf]; omega
      · obtain rfl : R = (k : Int) := by have h9 := HST.out; simpa using h9
        clear HST
        go_wp2_with fail
        go_ret
        exact ⟨rfl, HB1.out.trans (HB4.out.mono HB1.out.size)⟩
    · obtain rfl : k = n := by omega
      have f1 : ¬ ((k : Int) < (k : Int)) := by omega
      obtain rfl : R = -1 := by
        rw [HRK.out, List.drop_of_length_le (by rw [H1.out.1]; exact Nat.le_refl _)]
        rfl
      clear HRK
      go_wp2_with fail
      go_ret
      exact ⟨rfl, HB1.out.trans (HBK.out.mono HB1.out.size)⟩
end Go.Proofs.Ytdeilkpcmgcbaaa
