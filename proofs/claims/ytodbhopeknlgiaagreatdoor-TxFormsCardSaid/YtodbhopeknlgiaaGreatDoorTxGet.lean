/- What getIn, getOp and getSign of package tx come to: a part is read, whatever the error. -/
import Derived.Test.YtodbhopeknlgiaaGreatDoorTxVar
namespace Go.Proofs.YtodbhopeknlgiaaGreatDoor
open Go.RowKit

/-- A part that was read. -/
def GotIn (w0 : World) (yb : Nat) (s : List UInt8 × Int) (r : Ending) (w : World) : Prop :=
  ∃ y : PIn, r = .returned (.agg y.cells.toArray) ∧ InT w y ∧ y.strip = (inR s).1 ∧ EyeAt w yb (inR s).2.1 (inR s).2.2 ∧ But w0.heap.size yb w0 w
def GotOp (w0 : World) (yb : Nat) (s : List UInt8 × Int) (r : Ending) (w : World) : Prop :=
  ∃ y : POp, r = .returned (.agg y.cells.toArray) ∧ OpT w y ∧ y.strip = (opR s).1 ∧ EyeAt w yb (opR s).2.1 (opR s).2.2 ∧ But w0.heap.size yb w0 w
def GotSign (w0 : World) (yb : Nat) (s : List UInt8 × Int) (r : Ending) (w : World) : Prop :=
  ∃ y : PSign, r = .returned (.agg y.cells.toArray) ∧ SignIn y ∧ y = (signR s).1 ∧ EyeAt w yb (signR s).2.1 (signR s).2.2 ∧ But w0.heap.size yb w0 w
set_option linter.unusedSimpArgs false in
set_option maxRecDepth 100000 in
set_option maxHeartbeats 12800000 in
theorem getIn_st {w : World} {yb : Nat} {s : List UInt8 × Int} (h : EyeAt w yb s.1 s.2) (hm : s.1.length ≤ 140737488355328) :
    Calls Tryz.prog 39 #[.pointer (some ⟨yb, 0, none⟩)] w (GotIn w yb s) := by
  have hyb := h.lt
  obtain ⟨s1, s2, s3, s4, hs, z1, z2, p, e1, e2, e3, e4, eR⟩ := inR_parts s
  have hlen := sumR_len s
  have r2 := upR_range s1 (m := 15) (by omega)
  have r3 := upR_range s2 (m := 15) (by omega)
  have l3 : s3.1.length ≤ 140737488355328 := by
    have h1 := sumR_le s
    have h2 := upR_le s1 15
    have h3 := upR_le s2 15
    rw [e1] at h1
    rw [e2] at h2
    rw [e3] at h3
    exact Nat.le_trans h3 (Nat.le_trans h2 (Nat.le_trans h1 hm))
  rw [e1] at hlen
  rw [e2] at r2
  rw [e3] at r3
  dsimp only at hlen r2 r3
  have HS1 := Lib.hid (fun (W : World) (hW : EyeAt W yb s.1 s.2) => by have h9 := sum_st W hW hm; rw [e1] at h9; exact h9)
  have HU2 := Lib.hid (fun (W : World) (hW : EyeAt W yb s1.1 s1.2) => by have h9 := upto_st 15 hW; rw [e2] at h9; exact h9)
  have HU3 := Lib.hid (fun (W : World) (hW : EyeAt W yb s2.1 s2.2) => by have h9 := upto_st 15 hW; rw [e3] at h9; exact h9)
  have HT4 := Lib.hid (fun (W : World) (hW : EyeAt W yb s3.1 s3.2) => by have h9 := text_st W 64 hW l3; rw [e4] at h9; exact h9)
  have HER := Lib.hid eR
  have H := Lib.hid h
  have HLEN := Lib.hid hlen
  have F2 : Hid (Fits z1) := Lib.hid ⟨by omega, by omega⟩
  have F3 : Hid (Fits z2) := Lib.hid ⟨by omega, by omega⟩
  have SZ := Lib.hid (size_of HLEN.out)
  clear e1 e2 e3 e4 eR h hm l3 hlen r2 r3
  go_enter Tryz.func39, Tryz.ntmps39
  go_upto_region 2 with (fail)
  rw [← noIn_is]
  have b1 : Below w.heap.size w ((w.alloc (.cells noIn.cells.toArray 58)).alloc (.cells noIn.cells.toArray 58)) := ((Below.refl _ _).alloc (Nat.le_refl _) _).alloc (by simp) _
  have h2 : VarC ((w.alloc (.cells noIn.cells.toArray 58)).alloc (.cells noIn.cells.toArray 58)) w.heap.size 58 noIn.cells := by
    unfold VarC
    rw [heap_alloc_old _ _ (by simp)]
    exact heap_alloc_new _ _
  have h3 : VarC ((w.alloc (.cells noIn.cells.toArray 58)).alloc (.cells noIn.cells.toArray 58)) (w.heap.size + 1) 58 noIn.cells := heap_alloc_at _ _ _ (by simp)
  revert b1 h2 h3
  generalize ((w.alloc (.cells noIn.cells.toArray 58)).alloc (.cells noIn.cells.toArray 58)) = w1
  intro b1 h2 h3
  have PS := Lib.hid (show PartSt w yb w.heap.size (w.heap.size + 1) 58 noIn.cells noIn.cells s w1 from ⟨h2, h3, H.out.below b1, But.of b1⟩)
  revert PS
  obtain ⟨g, hg⟩ : ∃ g, g = w.heap.size := ⟨_, rfl⟩
  rw [← hg]
  intro PS
  have hg2 : w.heap.size ≤ g := by omega
  have hg3 : w.heap.size ≤ g + 1 := by omega
  have hne : g ≠ g + 1 := by omega
  clear b1 h2 h3 H hg
  go_wp2_with fail
  refine (HS1.out _ PS.out.eye).mono ?_
  rintro e y2 ⟨rfl, he, hb⟩
  have PS := Lib.hid (PS.out.read (s' := s1) hyb hg2 hg3 he hb)
  clear he hb
  have TH : Hid (y2.there (g + 1) 0 (cellsOf hs).toArray.size) := Lib.hid (PS.out.var.there (by rw [List.size_toArray, cellsOf_len, HLEN.out]; exact (by simp [noIn, PIn.cells, cellsOf_len, zero32_len])))
  go_upto_region 3 with (refine wpList_store_mid rfl 25 _ _ rfl (g + 1) 0 (cellsOf hs).toArray rfl rfl TH.out SZ.out (all_oneCell_toArray (cellsOf_one hs)) ?_)
  have PS := Lib.hid (PS.out.set (by decide) hyb hg3 hne (but_setCells (cellsOf hs) 0 y2) (VarC.put (pre := []) (mid := cellsOf zero32) (post := [.int .i64 0, .int .i64 0, .slice none 0 0]) PS.out.var (by rw [cellsOf_len, cellsOf_len, HLEN.out]; exact zero32_len.symm) rfl))
  try simp only [List.toList_toArray]
  revert PS
  generalize World.setCells y2 _ _ _ = y3
  intro PS
  clear TH
  try simp only [Act.put]
  go_wp2_with fail
  refine (HU2.out _ PS.out.eye).mono ?_
  rintro e y4 ⟨rfl, he, hb⟩
  have PS := Lib.hid (PS.out.read (s' := s2) hyb hg2 hg3 he hb)
  clear he hb
  have cc : y4.cell? ⟨g + 1, 32, none⟩ = some (.int .i64 0) := by rw [PS.out.var.cell]; exact (by rw [List.nil_append, List.getElem?_append_right (by rw [cellsOf_len, HLEN.out]; omega), cellsOf_len, HLEN.out]; rfl)
  have cf := PS.out.var.free 32
  go_upto_region 4 with (fail)
  have PS := Lib.hid (PS.out.set (by decide) hyb hg3 hne ((But.refl _ (g + 1) _).setCell ⟨g + 1, 32, none⟩ (.inl rfl) (.int .i64 z1)) (VarC.put1 (pre := cellsOf hs) (u := .int .i64 0) (post := ([.int .i64 0, .slice none 0 0] : List Value)) PS.out.var (by rw [cellsOf_len]; exact HLEN.out)))
  clear cc cf
  revert PS
  generalize World.setCell y4 _ _ = y5
  intro PS
  go_wp2_with fail
  refine (HU3.out _ PS.out.eye).mono ?_
  rintro e y6 ⟨rfl, he, hb⟩
  have PS := Lib.hid (PS.out.read (s' := s3) hyb hg2 hg3 he hb)
  clear he hb
  have cc : y6.cell? ⟨g + 1, 33, none⟩ = some (.int .i64 0) := by rw [PS.out.var.cell]; exact (by rw [List.getElem?_append_right (by rw [cellsOf_len, HLEN.out]; omega), cellsOf_len, HLEN.out]; rfl)
  have cf := PS.out.var.free 33
  go_upto_region 5 with (fail)
  have PS := Lib.hid (PS.out.set (by decide) hyb hg3 hne ((But.refl _ (g + 1) _).setCell ⟨g + 1, 33, none⟩ (.inl rfl) (.int .i64 z2)) (VarC.put1 (pre := cellsOf hs ++ [.int .i64 z1]) (u := .int .i64 0) (post := ([.slice none 0 0] : List Value)) (by have h9 := PS.out.var; simpa using h9) (by rw [List.length_append, cellsOf_len, HLEN.out]; rfl)))
  clear cc cf
  revert PS
  generalize World.setCell y6 _ _ = y7
  intro PS
  go_wp2_with fail
  refine (HT4.out _ PS.out.eye).mono ?_
  rintro e y8 ⟨ta, tn, tc, rfl, hrow, hnew, he, hb, htag⟩
  have PS := Lib.hid (PS.out.read (s' := s4) hyb hg2 hg3 he hb)
  have HROW := Lib.hid hrow
  have HTAG := Lib.hid htag
  clear hrow hnew he hb htag
  have cc : y8.cell? ⟨g + 1, 34, none⟩ = some (.slice none 0 0) := by rw [PS.out.var.cell, List.getElem?_append_right (by rw [List.length_append, cellsOf_len, HLEN.out]; simp), List.length_append, cellsOf_len, HLEN.out]; rfl
  have cf := PS.out.var.free 34
  go_upto_region 6 with (fail)
  have h34 := row_typed HROW.out HTAG.out ((But.refl _ (g + 1) _).setCell ⟨g + 1, 34, none⟩ (.inl rfl) (.slice ta tn tc)) PS.out.var (by decide)
  have PS := Lib.hid (PS.out.set (by decide) hyb hg3 hne ((But.refl _ (g + 1) _).setCell ⟨g + 1, 34, none⟩ (.inl rfl) (.slice ta tn tc)) (VarC.put1 (pre := cellsOf hs ++ [.int .i64 z1, .int .i64 z2]) (post := []) (u := .slice none 0 0) (by have h9 := PS.out.var; simpa using h9) (by rw [List.length_append, cellsOf_len, HLEN.out]; rfl)))
  have HRT := Lib.hid h34
  clear cc cf h34 HROW HTAG
  revert PS HRT
  generalize World.setCell y8 _ _ = y9
  intro PS HRT
  obtain ⟨x, hx⟩ : ∃ x : PIn, x = ⟨hs, z1, z2, ta, tn, tc, p⟩ := ⟨_, rfl⟩
  have hxc : x.cells = cellsOf hs ++ [.int .i64 z1, .int .i64 z2] ++ [.slice ta tn tc] := by rw [hx]; simp [PIn.cells]
  rw [← hxc] at PS
  have hxi : InT y9 x := by rw [hx]; exact ⟨⟨HLEN.out, F2.out, F3.out, HRT.out.1⟩, HRT.out.2⟩
  have hst : x.strip = (inR s).1 := by rw [HER.out, hx]; rfl
  have HEY : Hid ((inR s).2 = s4) := Lib.hid (by rw [HER.out])
  have RX := Lib.hid PS.out.var.range
  have SX := Lib.hid (in_size hxi.1.tx)
  have AX := Lib.hid (in_sizeA hxi.1.tx)
  have ZX : Hid (noIn.cells.toArray.size = x.cells.toArray.size) := Lib.hid (by rw [List.size_toArray, List.size_toArray, PIn.len hxi.1.tx]; rfl)
  have HST := Lib.hid hst
  have HXI := Lib.hid hxi
  clear hx hxc hst hxi HER HRT
  go_wp2_with (first | (refine wpList_load_mid rfl 58 _ rfl (g + 1) 0 rfl x.cells _ RX.out Tryz.underlying58 rfl SX.out ?_) | (refine wpList_store_row rfl 58 _ _ rfl g x.cells.toArray rfl rfl 58 noIn.cells.toArray PS.out.res AX.out ZX.out (all_oneCell_toArray x.one) ?_) | fail)
  obtain ⟨q4, q5⟩ := PS.out.done (by decide) hyb hg2 (but_setRow y9 g x.cells.toArray)
  refine bodyPost_ret (results_cell_row rfl _ _ g 58 x.cells.toArray (0, 0) _ rfl (setRow_heap y9 g _ _ 58 _ PS.out.res) Tryz.underlying58 rfl AX.out) rfl ?_
  exact ⟨x, rfl, HXI.out.typed (but_setRow y9 g x.cells.toArray) PS.out.res (by decide), HST.out, by rw [HEY.out]; exact q4, q5⟩
set_option linter.unusedSimpArgs false in
set_option maxRecDepth 100000 in
set_option maxHeartbeats 12800000 in
theorem getSign_st {w : World} {yb : Nat} {s : List UInt8 × Int} (h : EyeAt w yb s.1 s.2) (hm : s.1.length ≤ 140737488355328) :
    Calls Tryz.prog 42 #[.pointer (some ⟨yb, 0, none⟩)] w (GotSign w yb s) := by
  have hyb := h.lt
  obtain ⟨z1, s1, e1⟩ : ∃ z s', upR s 255 = (z, s') := ⟨_, _, rfl⟩
  obtain ⟨hs, s2, e2⟩ : ∃ z s', sumR s1 = (z, s') := ⟨_, _, rfl⟩
  have eR : signR s = (⟨z1, hs⟩, s2) := by unfold signR; rw [e1]; dsimp only; rw [e2]
  have hlen := sumR_len s1
  have r1 := upR_range s (m := 255) (by omega)
  have l1 : s1.1.length ≤ 140737488355328 := by
    have h1 := upR_le s 255
    rw [e1] at h1
    exact Nat.le_trans h1 hm
  rw [e1] at r1
  rw [e2] at hlen
  dsimp only at hlen r1
  have HU1 := Lib.hid (fun (W : World) (hW : EyeAt W yb s.1 s.2) => by have h9 := upto_st 255 hW; rw [e1] at h9; exact h9)
  have HS2 := Lib.hid (fun (W : World) (hW : EyeAt W yb s1.1 s1.2) => by have h9 := sum_st W hW l1; rw [e2] at h9; exact h9)
  have HER := Lib.hid eR
  have H := Lib.hid h
  have HLEN := Lib.hid hlen
  have F1 : Hid (Fits z1) := Lib.hid ⟨by omega, by omega⟩
  have SZ := Lib.hid (size_of HLEN.out)
  clear e1 e2 eR h hm l1 hlen r1
  go_enter Tryz.func42, Tryz.ntmps42
  go_upto_region 2 with (fail)
  rw [← noSign_is]
  have b1 : Below w.heap.size w ((w.alloc (.cells noSign.cells.toArray 49)).alloc (.cells noSign.cells.toArray 49)) := ((Below.refl _ _).alloc (Nat.le_refl _) _).alloc (by simp) _
  have h2 : VarC ((w.alloc (.cells noSign.cells.toArray 49)).alloc (.cells noSign.cells.toArray 49)) w.heap.size 49 noSign.cells := by
    unfold VarC
    rw [heap_alloc_old _ _ (by simp)]
    exact heap_alloc_new _ _
  have h3 : VarC ((w.alloc (.cells noSign.cells.toArray 49)).alloc (.cells noSign.cells.toArray 49)) (w.heap.size + 1) 49 noSign.cells := heap_alloc_at _ _ _ (by simp)
  revert b1 h2 h3
  generalize ((w.alloc (.cells noSign.cells.toArray 49)).alloc (.cells noSign.cells.toArray 49)) = w1
  intro b1 h2 h3
  have PS := Lib.hid (show PartSt w yb w.heap.size (w.heap.size + 1) 49 noSign.cells noSign.cells s w1 from ⟨h2, h3, H.out.below b1, But.of b1⟩)
  revert PS
  obtain ⟨g, hg⟩ : ∃ g, g = w.heap.size := ⟨_, rfl⟩
  rw [← hg]
  intro PS
  have hg2 : w.heap.size ≤ g := by omega
  have hg3 : w.heap.size ≤ g + 1 := by omega
  have hne : g ≠ g + 1 := by omega
  clear b1 h2 h3 H hg
  go_wp2_with fail
  refine (HU1.out _ PS.out.eye).mono ?_
  rintro e y2 ⟨rfl, he, hb⟩
  have PS := Lib.hid (PS.out.read (s' := s1) hyb hg2 hg3 he hb)
  clear he hb
  have cc : y2.cell? ⟨g + 1, 0, none⟩ = some (.int .i64 0) := by rw [PS.out.var.cell]; exact rfl
  have cf := PS.out.var.free 0
  go_upto_region 3 with (fail)
  have PS := Lib.hid (PS.out.set (by decide) hyb hg3 hne ((But.refl _ (g + 1) _).setCell ⟨g + 1, 0, none⟩ (.inl rfl) (.int .i64 z1)) (VarC.put1 (pre := []) (u := .int .i64 0) (post := (cellsOf zero32 : List Value)) PS.out.var rfl))
  clear cc cf
  revert PS
  generalize World.setCell y2 _ _ = y3
  intro PS
  go_wp2_with fail
  refine (HS2.out _ PS.out.eye).mono ?_
  rintro e y4 ⟨rfl, he, hb⟩
  have PS := Lib.hid (PS.out.read (s' := s2) hyb hg2 hg3 he hb)
  clear he hb
  have TH : Hid (y4.there (g + 1) 1 (cellsOf hs).toArray.size) := Lib.hid (PS.out.var.there (by rw [List.size_toArray, cellsOf_len, HLEN.out]; exact (by simp [cellsOf_len, zero32_len])))
  go_upto_region 4 with (refine wpList_store_mid rfl 25 _ _ rfl (g + 1) 1 (cellsOf hs).toArray rfl rfl TH.out SZ.out (all_oneCell_toArray (cellsOf_one hs)) ?_)
  have PS := Lib.hid (PS.out.set (by decide) hyb hg3 hne (but_setCells (cellsOf hs) 1 y4) (VarC.put (pre := [.int .i64 z1]) (mid := cellsOf zero32) (post := []) (by rw [List.append_nil]; exact PS.out.var) (by rw [cellsOf_len, cellsOf_len, HLEN.out]; exact zero32_len.symm) rfl))
  try simp only [List.toList_toArray]
  revert PS
  generalize World.setCells y4 _ _ _ = y5
  intro PS
  clear TH
  try simp only [Act.put]
  obtain ⟨x, hx⟩ : ∃ x : PSign, x = ⟨z1, hs⟩ := ⟨_, rfl⟩
  have hxc : x.cells = [.int .i64 z1] ++ (cellsOf hs ++ []) := by rw [hx]; simp [PSign.cells]
  rw [← hxc] at PS
  have hxi : SignIn x := by rw [hx]; exact ⟨F1.out, HLEN.out⟩
  have hst : x = (signR s).1 := by rw [HER.out, hx]
  have HEY : Hid ((signR s).2 = s2) := Lib.hid (by rw [HER.out])
  have RX := Lib.hid PS.out.var.range
  have SX := Lib.hid (sign_size hxi.sum)
  have AX := Lib.hid (sign_sizeA hxi.sum)
  have ZX : Hid (noSign.cells.toArray.size = x.cells.toArray.size) := Lib.hid (by rw [List.size_toArray, List.size_toArray, PSign.len hxi.sum]; rfl)
  have HST := Lib.hid hst
  have HXI := Lib.hid hxi
  clear hx hxc hst hxi HER
  go_wp2_with (first | (refine wpList_load_mid rfl 49 _ rfl (g + 1) 0 rfl x.cells _ RX.out Tryz.underlying49 rfl SX.out ?_) | (refine wpList_store_row rfl 49 _ _ rfl g x.cells.toArray rfl rfl 49 noSign.cells.toArray PS.out.res AX.out ZX.out (all_oneCell_toArray x.one) ?_) | fail)
  obtain ⟨q4, q5⟩ := PS.out.done (by decide) hyb hg2 (but_setRow y5 g x.cells.toArray)
  refine bodyPost_ret (results_cell_row rfl _ _ g 49 x.cells.toArray (0, 0) _ rfl (setRow_heap y5 g _ _ 49 _ PS.out.res) Tryz.underlying49 rfl AX.out) rfl ?_
  exact ⟨x, rfl, HXI.out, HST.out, by rw [HEY.out]; exact q4, q5⟩
set_option linter.unusedSimpArgs false in
set_option maxRecDepth 100000 in
set_option maxHeartbeats 12800000 in
theorem getOp_st {w : World} {yb : Nat} {s : List UInt8 × Int} (h : EyeAt w yb s.1 s.2) (hm : s.1.length ≤ 140737488355328) :
    Calls Tryz.prog 41 #[.pointer (some ⟨yb, 0, none⟩)] w (GotOp w yb s) := by
  have hyb := h.lt
  obtain ⟨s1, s2, s3, s4, s5, s6, z1, z2, z3, z4, hs, p, e1, e2, e3, e4, e5, e6, eR⟩ := opR_parts s
  have hlen := sumR_len s4
  have r1 := upR_range s (m := 7) (by omega)
  have r2 := upR_range s1 (m := 15) (by omega)
  have r3 := upR_range s2 (m := 1048576) (by omega)
  have r4 := upR_range s3 (m := 1125899906842624) (by omega)
  have h1 := upR_le s 7
  have h2 := upR_le s1 15
  have h3 := upR_le s2 1048576
  have h4 := upR_le s3 1125899906842624
  have h5 := sumR_le s4
  rw [e1] at r1 h1
  rw [e2] at r2 h2
  rw [e3] at r3 h3
  rw [e4] at r4 h4
  rw [e5] at hlen h5
  dsimp only at hlen r1 r2 r3 r4 h1 h2 h3 h4 h5
  have l4 : s4.1.length ≤ 140737488355328 := Nat.le_trans h4 (Nat.le_trans h3 (Nat.le_trans h2 (Nat.le_trans h1 hm)))
  have l5 : s5.1.length ≤ 140737488355328 := Nat.le_trans h5 l4
  have HU1 := Lib.hid (fun (W : World) (hW : EyeAt W yb s.1 s.2) => by have h9 := upto_st 7 hW; rw [e1] at h9; exact h9)
  have HU2 := Lib.hid (fun (W : World) (hW : EyeAt W yb s1.1 s1.2) => by have h9 := upto_st 15 hW; rw [e2] at h9; exact h9)
  have HU3 := Lib.hid (fun (W : World) (hW : EyeAt W yb s2.1 s2.2) => by have h9 := upto_st 1048576 hW; rw [e3] at h9; exact h9)
  have HU4 := Lib.hid (fun (W : World) (hW : EyeAt W yb s3.1 s3.2) => by have h9 := upto_st 1125899906842624 hW; rw [e4] at h9; exact h9)
  have HS5 := Lib.hid (fun (W : World) (hW : EyeAt W yb s4.1 s4.2) => by have h9 := sum_st W hW l4; rw [e5] at h9; exact h9)
  have HT6 := Lib.hid (fun (W : World) (hW : EyeAt W yb s5.1 s5.2) => by have h9 := text_st W 65536 hW l5; rw [e6] at h9; exact h9)
  have HER := Lib.hid eR
  have H := Lib.hid h
  have HLEN := Lib.hid hlen
  have F1 : Hid (Fits z1) := Lib.hid ⟨by omega, by omega⟩
  have F2 : Hid (Fits z2) := Lib.hid ⟨by omega, by omega⟩
  have F3 : Hid (Fits z3) := Lib.hid ⟨by omega, by omega⟩
  have F4 : Hid (Fits z4) := Lib.hid ⟨by omega, by omega⟩
  have SZ := Lib.hid (size_of HLEN.out)
  clear e1 e2 e3 e4 e5 e6 eR h hm l4 l5 hlen r1 r2 r3 r4 h1 h2 h3 h4 h5
  go_enter Tryz.func41, Tryz.ntmps41
  go_upto_region 2 with (fail)
  rw [← noOp_is]
  have b1 : Below w.heap.size w ((w.alloc (.cells noOp.cells.toArray 28)).alloc (.cells noOp.cells.toArray 28)) := ((Below.refl _ _).alloc (Nat.le_refl _) _).alloc (by simp) _
  have h2 : VarC ((w.alloc (.cells noOp.cells.toArray 28)).alloc (.cells noOp.cells.toArray 28)) w.heap.size 28 noOp.cells := by
    unfold VarC
    rw [heap_alloc_old _ _ (by simp)]
    exact heap_alloc_new _ _
  have h3 : VarC ((w.alloc (.cells noOp.cells.toArray 28)).alloc (.cells noOp.cells.toArray 28)) (w.heap.size + 1) 28 noOp.cells := heap_alloc_at _ _ _ (by simp)
  revert b1 h2 h3
  generalize ((w.alloc (.cells noOp.cells.toArray 28)).alloc (.cells noOp.cells.toArray 28)) = w1
  intro b1 h2 h3
  have PS := Lib.hid (show PartSt w yb w.heap.size (w.heap.size + 1) 28 noOp.cells noOp.cells s w1 from ⟨h2, h3, H.out.below b1, But.of b1⟩)
  revert PS
  obtain ⟨g, hg⟩ : ∃ g, g = w.heap.size := ⟨_, rfl⟩
  rw [← hg]
  intro PS
  have hg2 : w.heap.size ≤ g := by omega
  have hg3 : w.heap.size ≤ g + 1 := by omega
  have hne : g ≠ g + 1 := by omega
  clear b1 h2 h3 H hg
  go_wp2_with fail
  refine (HU1.out _ PS.out.eye).mono ?_
  rintro e y2 ⟨rfl, he, hb⟩
  have PS := Lib.hid (PS.out.read (s' := s1) hyb hg2 hg3 he hb)
  clear he hb
  have cc : y2.cell? ⟨g + 1, 0, none⟩ = some (.int .i64 0) := by rw [PS.out.var.cell]; exact rfl
  have cf := PS.out.var.free 0
  go_upto_region 3 with (fail)
  have PS := Lib.hid (PS.out.set (by decide) hyb hg3 hne ((But.refl _ (g + 1) _).setCell ⟨g + 1, 0, none⟩ (.inl rfl) (.int .i64 z1)) (VarC.put1 (pre := []) (u := .int .i64 0) (post := (.int .i64 0 :: .int .i64 0 :: .int .i64 0 :: (cellsOf zero32 ++ [Value.slice none 0 0]) : List Value)) PS.out.var rfl))
  clear cc cf
  revert PS
  generalize World.setCell y2 _ _ = y3
  intro PS
  go_wp2_with fail
  refine (HU2.out _ PS.out.eye).mono ?_
  rintro e y4 ⟨rfl, he, hb⟩
  have PS := Lib.hid (PS.out.read (s' := s2) hyb hg2 hg3 he hb)
  clear he hb
  have cc : y4.cell? ⟨g + 1, 1, none⟩ = some (.int .i64 0) := by rw [PS.out.var.cell]; exact rfl
  have cf := PS.out.var.free 1
  go_upto_region 4 with (fail)
  have PS := Lib.hid (PS.out.set (by decide) hyb hg3 hne ((But.refl _ (g + 1) _).setCell ⟨g + 1, 1, none⟩ (.inl rfl) (.int .i64 z2)) (VarC.put1 (pre := [.int .i64 z1]) (u := .int .i64 0) (post := (.int .i64 0 :: .int .i64 0 :: (cellsOf zero32 ++ [Value.slice none 0 0]) : List Value)) PS.out.var rfl))
  clear cc cf
  revert PS
  generalize World.setCell y4 _ _ = y5
  intro PS
  go_wp2_with fail
  refine (HU3.out _ PS.out.eye).mono ?_
  rintro e y6 ⟨rfl, he, hb⟩
  have PS := Lib.hid (PS.out.read (s' := s3) hyb hg2 hg3 he hb)
  clear he hb
  have cc : y6.cell? ⟨g + 1, 2, none⟩ = some (.int .i64 0) := by rw [PS.out.var.cell]; exact rfl
  have cf := PS.out.var.free 2
  go_upto_region 5 with (fail)
  have PS := Lib.hid (PS.out.set (by decide) hyb hg3 hne ((But.refl _ (g + 1) _).setCell ⟨g + 1, 2, none⟩ (.inl rfl) (.int .i64 z3)) (VarC.put1 (pre := [.int .i64 z1, .int .i64 z2]) (u := .int .i64 0) (post := (.int .i64 0 :: (cellsOf zero32 ++ [Value.slice none 0 0]) : List Value)) PS.out.var rfl))
  clear cc cf
  revert PS
  generalize World.setCell y6 _ _ = y7
  intro PS
  go_wp2_with fail
  refine (HU4.out _ PS.out.eye).mono ?_
  rintro e y8 ⟨rfl, he, hb⟩
  have PS := Lib.hid (PS.out.read (s' := s4) hyb hg2 hg3 he hb)
  clear he hb
  have cc : y8.cell? ⟨g + 1, 3, none⟩ = some (.int .i64 0) := by rw [PS.out.var.cell]; exact rfl
  have cf := PS.out.var.free 3
  go_upto_region 6 with (fail)
  have PS := Lib.hid (PS.out.set (by decide) hyb hg3 hne ((But.refl _ (g + 1) _).setCell ⟨g + 1, 3, none⟩ (.inl rfl) (.int .i64 z4)) (VarC.put1 (pre := [.int .i64 z1, .int .i64 z2, .int .i64 z3]) (u := .int .i64 0) (post := (cellsOf zero32 ++ [Value.slice none 0 0] : List Value)) PS.out.var rfl))
  clear cc cf
  revert PS
  generalize World.setCell y8 _ _ = y9
  intro PS
  go_wp2_with fail
  refine (HS5.out _ PS.out.eye).mono ?_
  rintro e ya ⟨rfl, he, hb⟩
  have PS := Lib.hid (PS.out.read (s' := s5) hyb hg2 hg3 he hb)
  clear he hb
  have TH : Hid (ya.there (g + 1) 4 (cellsOf hs).toArray.size) := Lib.hid (PS.out.var.there (by rw [List.size_toArray, cellsOf_len, HLEN.out]; exact (by simp [noOp, POp.cells, cellsOf_len, zero32_len])))
  go_upto_region 7 with (refine wpList_store_mid rfl 25 _ _ rfl (g + 1) 4 (cellsOf hs).toArray rfl rfl TH.out SZ.out (all_oneCell_toArray (cellsOf_one hs)) ?_)
  have PS := Lib.hid (PS.out.set (by decide) hyb hg3 hne (but_setCells (cellsOf hs) 4 ya) (VarC.put (pre := [.int .i64 z1, .int .i64 z2, .int .i64 z3, .int .i64 z4]) (mid := cellsOf zero32) (post := [.slice none 0 0]) PS.out.var (by rw [cellsOf_len, cellsOf_len, HLEN.out]; exact zero32_len.symm) rfl))
  try simp only [List.toList_toArray]
  revert PS
  generalize World.setCells ya _ _ _ = yb5
  intro PS
  clear TH
  try simp only [Act.put]
  go_wp2_with fail
  refine (HT6.out _ PS.out.eye).mono ?_
  rintro e yc ⟨ta, tn, tc, rfl, hrow, hnew, he, hb, htag⟩
  have PS := Lib.hid (PS.out.read (s' := s6) hyb hg2 hg3 he hb)
  have HROW := Lib.hid hrow
  have HTAG := Lib.hid htag
  clear hrow hnew he hb htag
  have hv36 : VarC yc (g + 1) 28 ((.int .i64 z1 :: .int .i64 z2 :: .int .i64 z3 :: .int .i64 z4 :: cellsOf hs) ++ (.slice none 0 0 :: [])) := by have h9 := PS.out.var; simpa using h9
  have hl36 : (.int .i64 z1 :: .int .i64 z2 :: .int .i64 z3 :: .int .i64 z4 :: cellsOf hs : List Value).length = 36 := by simp [cellsOf_len, HLEN.out]
  have cc : yc.cell? ⟨g + 1, 36, none⟩ = some (.slice none 0 0) := by rw [hv36.cell, List.getElem?_append_right (by rw [hl36]; omega), hl36]; rfl
  have cf := PS.out.var.free 36
  have HV36 := Lib.hid hv36
  have HL36 := Lib.hid hl36
  clear hv36 hl36
  go_upto_region 8 with (fail)
  have h34 := row_typed HROW.out HTAG.out ((But.refl _ (g + 1) _).setCell ⟨g + 1, 36, none⟩ (.inl rfl) (.slice ta tn tc)) PS.out.var (by decide)
  have PS := Lib.hid (PS.out.set (by decide) hyb hg3 hne ((But.refl _ (g + 1) _).setCell ⟨g + 1, 36, none⟩ (.inl rfl) (.slice ta tn tc)) (VarC.put1 (v := .slice ta tn tc) HV36.out HL36.out))
  have HRT := Lib.hid h34
  clear cc cf h34 HROW HTAG HV36 HL36
  revert PS HRT
  generalize World.setCell yc _ _ = yd
  intro PS HRT
  obtain ⟨x, hx⟩ : ∃ x : POp, x = ⟨z1, z2, z3, z4, hs, ta, tn, tc, p⟩ := ⟨_, rfl⟩
  have hxc : x.cells = (.int .i64 z1 :: .int .i64 z2 :: .int .i64 z3 :: .int .i64 z4 :: cellsOf hs) ++ [.slice ta tn tc] := by rw [hx]; simp [POp.cells]
  rw [← hxc] at PS
  have hxi : OpT yd x := by rw [hx]; exact ⟨⟨F1.out, F2.out, F3.out, F4.out, HLEN.out, HRT.out.1⟩, HRT.out.2⟩
  have hst : x.strip = (opR s).1 := by rw [HER.out, hx]; rfl
  have HEY : Hid ((opR s).2 = s6) := Lib.hid (by rw [HER.out])
  have RX := Lib.hid PS.out.var.range
  have SX := Lib.hid (op_size hxi.1.root)
  have AX := Lib.hid (op_sizeA hxi.1.root)
  have ZX : Hid (noOp.cells.toArray.size = x.cells.toArray.size) := Lib.hid (by rw [List.size_toArray, List.size_toArray, POp.len hxi.1.root]; rfl)
  have HST := Lib.hid hst
  have HXI := Lib.hid hxi
  clear hx hxc hst hxi HER HRT
  go_wp2_with (first | (refine wpList_load_mid rfl 28 _ rfl (g + 1) 0 rfl x.cells _ RX.out Tryz.underlying28 rfl SX.out ?_) | (refine wpList_store_row rfl 28 _ _ rfl g x.cells.toArray rfl rfl 28 noOp.cells.toArray PS.out.res AX.out ZX.out (all_oneCell_toArray x.one) ?_) | fail)
  obtain ⟨q4, q5⟩ := PS.out.done (by decide) hyb hg2 (but_setRow yd g x.cells.toArray)
  refine bodyPost_ret (results_cell_row rfl _ _ g 28 x.cells.toArray (0, 0) _ rfl (setRow_heap yd g _ _ 28 _ PS.out.res) Tryz.underlying28 rfl AX.out) rfl ?_
  exact ⟨x, rfl, HXI.out.typed (but_setRow yd g x.cells.toArray) PS.out.res (by decide), HST.out, by rw [HEY.out]; exact q4, q5⟩
end Go.Proofs.YtodbhopeknlgiaaGreatDoor
