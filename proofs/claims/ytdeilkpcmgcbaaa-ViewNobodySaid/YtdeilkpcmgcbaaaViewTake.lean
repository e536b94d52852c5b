/- view.Take. -/
import Derived.Test.YtdeilkpcmgcbaaaViewPut
namespace Go.Proofs.Ytdeilkpcmgcbaaa
open Go.RowKit Go.Maps

theorem step_delete9 {P : Program} {ops : Array Oper} {o : Oper} {a : Act} {w w' : World} {K : Act → World → Prop} {Q : Exit → Act → World → Prop} {E : Prop} {t u ty : TypeId} {x y : Operand} {m k : Value} (hw : Region.wanted o (yielded ops a.tmps) = true) (ho : o.op = .call { callee := .builtin .delete, args := #[x, y], argTypes := #[t, u] }) (hty : o.type = ty) (hx : a.eval x = m) (hy : a.eval y = k)
    (hrun : (Builtin.delete_ #[t, u] ty #[m, k]).run P w = .ok (.tuple #[]) w') (h : K (a.put o.dst (.tuple #[])) w') : if Region.wanted o (yielded ops a.tmps) = true then Oper.wp P o a w K Q else E := by
  rw [if_pos hw]
  unfold Oper.wp execOp
  simp only [ho, hty, resolve, invoke, builtin, Sem.run_bind, Sem.run_pure, Result.andThen_ok, List.map_toArray, List.map_cons, List.map_nil, hx, hy, hrun]
  exact h
/-- Rows of unlike places. -/
theorem rising_apart {xs : List PRow} (h : Rising xs) {i j : Nat} (hi : i < xs.length) (hj : j < xs.length) (hne : i ≠ j) : ¬ (xs[i].tx = xs[j].tx ∧ xs[i].place = xs[j].place) := fun e => by
  rcases Nat.lt_or_gt_of_ne hne with h1 | h1
  · have h2 := List.pairwise_iff_getElem.1 h.1 i j hi hj h1
    unfold rowLess at h2
    rw [e.1, e.2, refLess_irrefl] at h2
    cases h2
  · have h2 := List.pairwise_iff_getElem.1 h.1 j i hj hi h1
    unfold rowLess at h2
    rw [e.1, e.2, refLess_irrefl] at h2
    cases h2
theorem view_drop {w w7 w9 : World} {pv : Value} {b N k : Nat} {rows : List PRow} {F : List UInt8 → Int → Option Value} (h : ViewAt w pv b N rows) (hk : k < rows.length) (hF : CoinsOf w rows F) (hb : Below w.heap.size w w7)
    (hm : MapRef w9 b N (rows.length - 1) (fun t q => if t = rows[k].tx ∧ q = rows[k].place then none else F t q)) (hg : w7.grownBy w9 (some b)) : ViewAt w9 pv b N (rows.eraseIdx k) := by
  have h7 := h.below hb
  obtain ⟨es, cl, hmap⟩ := h7.isMap
  have hbut : But w7.heap.size b w7 w9 := but_grown9 hg (Nat.le_refl _)
  obtain ⟨vb, e1, e2⟩ := h7.has
  refine ⟨⟨vb, e1, hbut.heap e2 (lt_of_block e2) (fun e => by rw [e, hmap] at e2; cases e2)⟩, h.few, ⟨_, by rw [List.length_eraseIdx, if_pos hk]; exact hm, fun s p hs => ?_, fun x hx => ?_⟩, rising_erase h.rising k, fun x hx => h.ok x ((List.eraseIdx_sublist rows k).subset hx)⟩
  · by_cases e : s = rows[k].tx ∧ p = rows[k].place
    · rw [if_pos e]
    · rw [if_neg e]
      refine hF.1 s p (fun x hx e3 => ?_)
      obtain ⟨i, hi, rfl⟩ := List.getElem_of_mem hx
      have hik : i ≠ k := fun e4 => by subst e4; exact e ⟨e3.1.symm, e3.2.symm⟩
      exact hs rows[i] (List.mem_eraseIdx_iff_getElem.2 ⟨i, hi, hik, rfl⟩) e3
  · obtain ⟨i, hi, hik, rfl⟩ := List.mem_eraseIdx_iff_getElem.1 hx
    obtain ⟨u, h1, h2⟩ := hF.2 rows[i] (List.getElem_mem hi)
    exact ⟨u, by rw [if_neg (rising_apart h.rising hi hk hik)]; exact h1, (h2.below hb).but hbut (noWays_map hmap)⟩
set_option linter.unusedSimpArgs false in
set_option maxRecDepth 100000 in
set_option maxHeartbeats 12800000 in
theorem take_no {w : World} {pv : Value} {mb : Option Nat} {F : List UInt8 → Int → Option Value} {s : List UInt8} {p : Int} (hv : Has w pv mb) (h : MapOr w mb F) (hs : s.length = 32) (hp : Fits p) (hF : F s p = none) :
    Calls Try.prog 14 #[pv, .agg (refCells s p).toArray] w fun e w' => e = .returned (.tuple #[coinV 0 none 0 0 0, .int .i64 13]) ∧ Below w.heap.size w w' := by
  have b2 : Below w.heap.size w ((w.alloc (.cells (refCells s p).toArray 32)).alloc (.cells #[.int .i64 0, .slice none 0 0, .int .i64 0] 41)) := ((Below.refl _ _).alloc (Nat.le_refl _) _).alloc (by simp) _
  have h1 : ((w.alloc (.cells (refCells s p).toArray 32)).alloc (.cells #[.int .i64 0, .slice none 0 0, .int .i64 0] 41)).heap[w.heap.size]? = some (.cells (refCells s p).toArray 32 (0, 0)) := by
    rw [heap_alloc_old _ _ (by simp), heap_alloc_new]
  have h2 : ((w.alloc (.cells (refCells s p).toArray 32)).alloc (.cells #[.int .i64 0, .slice none 0 0, .int .i64 0] 41)).heap[w.heap.size + 1]? = some (.cells #[.int .i64 0, .slice none 0 0, .int .i64 0] 41 (0, 0)) := heap_alloc_at _ _ _ (by simp)
  have AR := Lib.hid (refSize (s := s) (z := p) hs)
  have AS := Lib.hid (show (Try.prog.info? 32).map (·.size) = some (refCells s p).toArray.size by rw [List.size_toArray]; exact AR.out)
  have HG := Lib.hid (get_no (hv.below b2) (h.below b2) hs hp hF)
  clear hv h hF
  go_enter Try.func14, Try.ntmps14
  go_upto_region 1 with (fail)
  revert HG
  revert b2 h1 h2
  generalize ((w.alloc (.cells (refCells s p).toArray 32)).alloc (.cells #[.int .i64 0, .slice none 0 0, .int .i64 0] 41)) = w2
  obtain ⟨g3, hg3⟩ : ∃ g, g = w.heap.size := ⟨_, rfl⟩
  obtain ⟨g4, hg4⟩ : ∃ g, g = w.heap.size + 1 := ⟨_, rfl⟩
  rw [← hg4, ← hg3]
  intro b2 h1 h2
  rw [hg3] at b2
  intro HG
  have HB2 := Lib.hid b2
  have H1 := Lib.hid h1
  have H2 := Lib.hid h2
  have HG4 : Hid (w.heap.size ≤ g4) := Lib.hid (by omega)
  clear b2 h1 h2 hg3 hg4
  unfold coinV at HG
  go_upto_region 2 with (first
    | (refine wpList_load_row rfl 32 _ rfl g3 rfl 32 (refCells s p).toArray (0, 0) _ H1.out Try.underlying32 rfl AS.out ?_)
    | (go_at_call 15; refine HG.out.mono ?_; rintro e w3 ⟨rfl, hb3⟩; have HB3 := Lib.hid hb3; clear hb3 HG)
    | (refine wpList_store_row rfl 41 _ _ rfl w3.heap.size #[.int .i64 0, .slice none 0 0, .int .i64 0] rfl rfl 41 #[.int .i64 0, .slice none 0 0, .int .i64 0] (heap_alloc_new _ _) (coin_size9 0 0 none 0 0) rfl (coin_one9 0 0 none 0 0) ?_)
    | fail)
  rw [layCoin_is]
  have b5 := layCoin_below (HB2.out.trans (HB3.out.mono HB2.out.size)) (Nat.le_trans HB2.out.size HB3.out.size) 0 none 0 0 0
  have h45 : (layCoin w3 0 none 0 0 0).heap[g4]? = some (.cells #[.int .i64 0, .slice none 0 0, .int .i64 0] 41 (0, 0)) := by
    have h8 := (HB3.out.block _ (lt_of_block H2.out)).trans H2.out
    exact ((layCoin_below (Below.refl w3.heap.size w3) (Nat.le_refl _) 0 none 0 0 0).block _ (lt_of_block h8)).trans h8
  revert b5 h45
  generalize layCoin w3 0 none 0 0 0 = w5
  intro b5 h45
  have HB5 := Lib.hid b5
  have H45 := Lib.hid h45
  have hbuilt : ∀ W : World, (Instr.build 41 #[]).run Try.prog W = .ok (.agg #[.int .i64 0, .slice none 0 0, .int .i64 0]) W := fun W => run_build W _ _ _ (by kernel_rfl)
  clear b5 h45
  try simp only [Act.put]
  go_wp2_with (first
    | (refine wpList_store_row rfl 41 _ _ rfl g4 #[.int .i64 0, .slice none 0 0, .int .i64 0] rfl rfl 41 #[.int .i64 0, .slice none 0 0, .int .i64 0] H45.out (coin_size9 0 0 none 0 0) rfl (coin_one9 0 0 none 0 0) ?_)
    | fail)
  have h9 := setRow_heap w5 g4 _ #[.int .i64 0, .slice none 0 0, .int .i64 0] _ _ H45.out
  have hB9 : Below w.heap.size w (w5.setRow g4 #[.int .i64 0, .slice none 0 0, .int .i64 0]) := HB5.out.trans ((but_setRow w5 g4 _).below9 HG4.out HB5.out.size)
  exact bodyPost_ret (results_cell_then rfl _ _ g4 41 _ _ _ (.int .i64 13) rfl rfl h9 Try.underlying41 rfl (coin_size9 0 0 none 0 0)) rfl ⟨rfl, hB9⟩
set_option linter.unusedSimpArgs false in
set_option maxRecDepth 100000 in
set_option maxHeartbeats 12800000 in
theorem take_row {w : World} {pv : Value} {b N k : Nat} {rows : List PRow} (h : ViewAt w pv b N rows) (hk : k < rows.length) :
    Calls Try.prog 14 #[pv, .agg (refCells rows[k].tx rows[k].place).toArray] w fun e w' => ∃ v, e = .returned (.tuple #[v, .int .i64 0]) ∧ CoinAt w' rows[k] v ∧ ViewAt w' pv b N (rows.eraseIdx k) ∧ But w.heap.size b w w' := by
  have hr := h.ok rows[k] (List.getElem_mem hk)
  obtain ⟨F, hm, hF⟩ := h.map
  obtain ⟨u, hFu, hcu⟩ := hF.2 rows[k] (List.getElem_mem hk)
  have hs := hr.tx
  have hp := hr.place
  obtain ⟨vb, hpv, hvb⟩ := h.has
  have HGET : Hid (∀ W : World, Below w.heap.size w W → Calls Try.prog 15 #[pv, .agg (refCells rows[k].tx rows[k].place).toArray] W fun e w' => ∃ v, e = .returned (.tuple #[v, .bool true]) ∧ CoinAt w' rows[k] v ∧ Below W.heap.size W w') := Lib.hid (fun W hW => get_row (h.below hW) (List.getElem_mem hk))
  have HDROP : Hid (∀ w7 w9 : World, Below w.heap.size w w7 → MapRef w9 b N (rows.length - 1) (fun t q => if t = rows[k].tx ∧ q = rows[k].place then none else F t q) → w7.grownBy w9 (some b) → ViewAt w9 pv b N (rows.eraseIdx k)) := Lib.hid (fun w7 w9 h1 h2 h3 => view_drop h hk hF h1 h2 h3)
  clear hcu
  generalize rows.eraseIdx k = rows' at HDROP ⊢
  generalize rows[k] = x at HGET HDROP hs hp hFu ⊢
  have HM0 := Lib.hid hm
  have HVB0 := Lib.hid hvb
  obtain ⟨s, hsx⟩ : ∃ s, s = x.tx := ⟨_, rfl⟩
  obtain ⟨p, hpx⟩ : ∃ p, p = x.place := ⟨_, rfl⟩
  rw [← hsx, ← hpx] at HGET HDROP hFu
  rw [← hsx] at hs
  rw [← hpx] at hp
  rw [← hsx, ← hpx]
  obtain ⟨len, hlen⟩ : ∃ l, l = rows.length := ⟨_, rfl⟩
  rw [← hlen] at HM0 HDROP
  subst hpv
  have HS := Lib.hid hs
  have HP := Lib.hid hp
  have HFV := Lib.hid hFu
  have b2 : Below w.heap.size w ((w.alloc (.cells (refCells s p).toArray 32)).alloc (.cells #[.int .i64 0, .slice none 0 0, .int .i64 0] 41)) := ((Below.refl _ _).alloc (Nat.le_refl _) _).alloc (by simp) _
  have h1 : ((w.alloc (.cells (refCells s p).toArray 32)).alloc (.cells #[.int .i64 0, .slice none 0 0, .int .i64 0] 41)).heap[w.heap.size]? = some (.cells (refCells s p).toArray 32 (0, 0)) := by
    rw [heap_alloc_old _ _ (by simp), heap_alloc_new]
  have h2 : ((w.alloc (.cells (refCells s p).toArray 32)).alloc (.cells #[.int .i64 0, .slice none 0 0, .int .i64 0] 41)).heap[w.heap.size + 1]? = some (.cells #[.int .i64 0, .slice none 0 0, .int .i64 0] 41 (0, 0)) := heap_alloc_at _ _ _ (by simp)
  have AR := Lib.hid (refSize (s := s) (z := p) hs)
  have AS := Lib.hid (show (Try.prog.info? 32).map (·.size) = some (refCells s p).toArray.size by rw [List.size_toArray]; exact AR.out)
  clear h hm hF hFu hvb hr hs hp hk hsx hpx hlen
  go_enter Try.func14, Try.ntmps14
  go_upto_region 1 with (fail)
  revert b2 h1 h2
  generalize ((w.alloc (.cells (refCells s p).toArray 32)).alloc (.cells #[.int .i64 0, .slice none 0 0, .int .i64 0] 41)) = w2
  obtain ⟨g3, hg3⟩ : ∃ g, g = w.heap.size := ⟨_, rfl⟩
  obtain ⟨g4, hg4⟩ : ∃ g, g = w.heap.size + 1 := ⟨_, rfl⟩
  rw [← hg4, ← hg3]
  intro b2 h1 h2
  rw [hg3] at b2
  have HB2 := Lib.hid b2
  have H1 := Lib.hid h1
  have H2 := Lib.hid h2
  have HG4 : Hid (w.heap.size ≤ g4) := Lib.hid (by omega)
  clear b2 h1 h2 hg3 hg4
  go_upto_region 2 with (first
    | (refine wpList_load_row rfl 32 _ rfl g3 rfl 32 (refCells s p).toArray (0, 0) _ H1.out Try.underlying32 rfl AS.out ?_)
    | (go_at_call 15; refine (HGET.out _ HB2.out).mono ?_; rintro e w3 ⟨v3, rfl, ⟨a, n, c, ys, rfl, hw3, ht3, hst3⟩, hb3⟩; have HB3 := Lib.hid hb3; have HW3 := Lib.hid hw3; have HT3 := Lib.hid ht3; have HST := Lib.hid hst3; obtain ⟨m, hm9⟩ : ∃ m, m = x.out.m := ⟨_, rfl⟩; obtain ⟨ht, hh9⟩ : ∃ h, h = x.height := ⟨_, rfl⟩; rw [← hm9, ← hh9]; unfold coinV; have HMM := Lib.hid hm9; have HHH := Lib.hid hh9; clear hb3 hw3 ht3 hst3 HGET hm9 hh9)
    | (refine wpList_store_row rfl 41 _ _ rfl w3.heap.size #[.int .i64 m, .slice a n c, .int .i64 ht] rfl rfl 41 #[.int .i64 0, .slice none 0 0, .int .i64 0] (heap_alloc_new _ _) (coin_size9 m ht a n c) rfl (coin_one9 m ht a n c) ?_)
    | fail)
  rw [layCoin_is]
  have b5 := layCoin_below (Below.refl w3.heap.size w3) (Nat.le_refl _) m a n c ht
  have h6 := layCoin_heap w3 m a n c ht
  revert b5 h6
  generalize layCoin w3 m a n c ht = w5
  obtain ⟨g6, hg6⟩ : ∃ g, g = w3.heap.size := ⟨_, rfl⟩
  rw [← hg6]
  intro b5 h6
  rw [hg6] at b5
  have HB35 := Lib.hid (HB3.out.trans (b5.mono HB3.out.size))
  have HB5 := Lib.hid (HB2.out.trans (HB35.out.mono HB2.out.size))
  have H6 := Lib.hid h6
  have H3 := Lib.hid ((HB35.out.block _ (lt_of_block H1.out)).trans H1.out)
  have H4 := Lib.hid ((HB35.out.block _ (lt_of_block H2.out)).trans H2.out)
  have HM := Lib.hid (HM0.out.below HB5.out)
  have HVB := Lib.hid ((HB5.out.block _ (lt_of_block HVB0.out)).trans HVB0.out)
  have HW5 := Lib.hid (HW3.out.below b5)
  have HT5 := Lib.hid (HT3.out.below b5)
  obtain ⟨es, cl, hmap⟩ := HM.out.isMap
  have N3 : Hid (g3 ≠ b) := Lib.hid (fun e => by have h8 := H3.out; rw [e, hmap] at h8; cases h8)
  have N4 : Hid (g4 ≠ b) := Lib.hid (fun e => by have h8 := H4.out; rw [e, hmap] at h8; cases h8)
  have N6 : Hid (g6 ≠ b) := Lib.hid (fun e => by have h8 := H6.out; rw [e, hmap] at h8; cases h8)
  have NV : vb ≠ b := fun e => by have h8 := HVB.out; rw [e, hmap] at h8; cases h8
  have RG : Hid (∀ W : World, But w5.heap.size b w5 W → W.rangeAt g3 0 (refCells s p)) := Lib.hid (fun W hW => range_of (hW.heap H3.out (lt_of_block H3.out) N3.out))
  have CV : Hid (∀ W : World, But w5.heap.size b w5 W → W.cell? ⟨vb, 0, none⟩ = some (.map (some b))) := Lib.hid (fun W hW => cell_of_row _ _ _ _ _ _ (hW.heap HVB.out (lt_of_block HVB.out) NV))
  have HFIN : Hid (∀ w9 : World, MapRef w9 b N (len - 1) (fun t q => if t = s ∧ q = p then none else F t q) → w5.grownBy w9 (some b) → ∀ g : Nat, w9.heap[g]? = some (.cells #[.int .i64 0, .slice none 0 0, .int .i64 0] 41 (0, 0)) → ∀ cs : Array Value, w.heap.size ≤ g → CoinAt (w9.setRow g cs) x (.agg #[.int .i64 m, .slice a n c, .int .i64 ht]) ∧ ViewAt (w9.setRow g cs) (.pointer (some ⟨vb, 0, none⟩)) b N rows' ∧ But w.heap.size b w (w9.setRow g cs)) := Lib.hid (fun w9 h1 h2 g hg cs hgw => by
    have k1 := HDROP.out w5 w9 HB5.out h1 h2
    have k2 : But w5.heap.size b w5 w9 := but_grown9 h2 (Nat.le_refl _)
    obtain ⟨k3, k4⟩ := ways_typed HW5.out HT5.out k2 (noWays_map hmap)
    have nw : NoWays w9 g := noWays_cells hg (by decide) (by decide)
    obtain ⟨k5, k6⟩ := ways_typed k3 k4 (but_setRow w9 g cs) nw
    obtain ⟨es9, cl9, hmap9⟩ := k1.isMap
    refine ⟨⟨a, n, c, ys, by rw [HMM.out, HHH.out]; rfl, k5, k6, HST.out⟩, k1.but (but_setRow w9 g cs) nw (fun cs2 fr e => by rw [hg] at e; cases e) (fun e => by rw [e, hg] at hmap9; cases hmap9), ?_⟩
    have k7 : But w.heap.size b w w9 := (But.of HB5.out).trans (k2.mono HB5.out.size)
    have k8 := but_setRow w9 g cs
    exact ⟨k8.os.trans k7.os, k8.tape.trans k7.tape, k8.output.trans k7.output, Nat.le_trans k7.size k8.size, fun k hk hkb => (k8.block k (Nat.lt_of_lt_of_le hk k7.size) (by omega)).trans (k7.block k hk hkb)⟩)
  clear b5 h6 hg6 hmap NV HB2 HB3 HW3 HT3 HM0 HVB0 HVB HDROP H1 H2 HW5 HT5 HST HMM HHH
  try simp only [Act.put]
  go_upto_region 4 with (fail)
  refine wp_region_held_drew (S := fun w' => But w5.heap.size b w5 w') (by kernel_rfl) ((But.refl _ _ _).drew) (fun hHeld => ?_)
  refine take_at (i := 0) (v := ?_) rfl rfl (by kernel_rfl) (by kernel_rfl) (by kernel_rfl) (fun _ _ _ h => h) (Or.inl ⟨by rfl, ?_⟩) (by assumption) ?_
  rotate_left
  · intro w0 hSw; (try dsimp only at hSw); first | (go_simp; done) | (go_simp; with_reducible rfl)
  simp only [List.setIfInBounds_toArray, List.set_cons_zero, List.set_cons_succ]
  refine take_at (i := 1) (v := ?_) rfl rfl (by kernel_rfl) (by kernel_rfl) (by kernel_rfl) (fun _ _ _ h => h) (Or.inl ⟨by rfl, ?_⟩) (by assumption) ?_
  rotate_left
  · intro w0 hSw; (try dsimp only at hSw); first | (go_simp; done) | (go_simp; with_reducible rfl)
  simp only [List.setIfInBounds_toArray, List.set_cons_zero, List.set_cons_succ]
  refine take_at (i := 2) (v := ?_) rfl rfl (by kernel_rfl) (by kernel_rfl) (by kernel_rfl) (fun _ _ _ h => h) (Or.inl ⟨by rfl, ?_⟩) (by assumption) ?_
  rotate_left
  · intro w0 hSw; (try dsimp only at hSw); first | (go_simp; done) | (go_simp; with_reducible rfl)
  simp only [List.setIfInBounds_toArray, List.set_cons_zero, List.set_cons_succ]
  refine take_at (i := 3) rfl rfl (by kernel_rfl) (by kernel_rfl) (by kernel_rfl) (fun _ _ _ h => h) (yields_cell (b := vb) (o := 0) (by rfl) rfl rfl (fun w0 hSw => CV.out w0 hSw) (fun w0 => Try.isAgg49 w0)) (by assumption) ?_
  simp only [List.setIfInBounds_toArray, List.set_cons_zero, List.set_cons_succ]
  refine take_at (i := 4) rfl rfl (by kernel_rfl) (by kernel_rfl) (by kernel_rfl) (fun _ _ _ h => h) (yieldsIf_load_mid (by rfl) _ _ rfl g3 0 rfl (refCells s p) _ (fun w0 hSw => RG.out w0 hSw) Try.underlying32 rfl AR.out) (by assumption) ?_
  simp only [List.setIfInBounds_toArray, List.set_cons_zero, List.set_cons_succ]
  refine wpAnyH_ready (rs := [5]) (by kernel_rfl) (by simp) ?_
  refine AllReadyH.cons rfl (fun K hK => ?_) ?_
  · obtain ⟨w9, hrun9, hm9, hg9⟩ := (HM.out.below (below_drew (Below.refl _ _))).drop Try.underlying49 HS.out HP.out HFV.out 0
    refine step_delete9 (by rfl) rfl rfl (by rfl) (by rfl) hrun9 ?_
    have HM9 := Lib.hid hm9
    have HG9 : Hid (w5.grownBy w9 (some b)) := Lib.hid ⟨hg9.os, hg9.tape, hg9.output, hg9.size, hg9.block⟩
    have H69 : Hid (w9.heap[g6]? = some (.cells #[.int .i64 m, .slice a n c, .int .i64 ht] 41 (0, 0))) := Lib.hid ((hg9.block g6 (lt_of_block H6.out) (fun e => N6.out (Option.some.inj e))).trans H6.out)
    have H49 : Hid (w9.heap[g4]? = some (.cells #[.int .i64 0, .slice none 0 0, .int .i64 0] 41 (0, 0))) := Lib.hid ((hg9.block g4 (lt_of_block H4.out) (fun e => N4.out (Option.some.inj e))).trans H4.out)
    clear hrun9 hm9 hg9
    refine hK.out _ _ (by (try dsimp only); exact but_grown9 HG9.out (Nat.le_refl _)) (fun hHeld => ?_)
    clear hK K
    refine wpAnyH_done (by kernel_rfl) ?_ _
    try simp only [Act.put]
    go_wp2_with (first
      | (refine wpList_load_row rfl 41 _ rfl g6 rfl 41 #[.int .i64 m, .slice a n c, .int .i64 ht] (0, 0) _ H69.out Try.underlying41 rfl (coin_size9 m ht a n c) ?_)
      | (refine wpList_store_row rfl 41 _ _ rfl g4 #[.int .i64 m, .slice a n c, .int .i64 ht] rfl rfl 41 #[.int .i64 0, .slice none 0 0, .int .i64 0] H49.out (coin_size9 m ht a n c) rfl (coin_one9 m ht a n c) ?_)
      | fail)
    have h9 := setRow_heap w9 g4 _ #[.int .i64 m, .slice a n c, .int .i64 ht] _ _ H49.out
    obtain ⟨hA, hB, hC⟩ := HFIN.out w9 HM9.out HG9.out g4 H49.out #[.int .i64 m, .slice a n c, .int .i64 ht] HG4.out
    exact bodyPost_ret (results_cell_then rfl _ _ g4 41 _ _ _ (.int .i64 0) rfl rfl h9 Try.underlying41 rfl (coin_size9 m ht a n c)) rfl ⟨_, rfl, hA, hB, hC⟩
  exact AllReadyH.nil
end Go.Proofs.Ytdeilkpcmgcbaaa
