/- view.Get: the coin at a place, copied. -/
import Derived.Test.YtdeilkpcmgcbaaaViewAt
namespace Go.Proofs.Ytdeilkpcmgcbaaa
open Go.RowKit Go.Maps

theorem step_alloc9 {P : Program} {ops : Array Oper} {o : Oper} {tmps : Array Value} {ds : List Deferred} {w : World} {K : Act → World → Prop} {Q : Exit → Act → World → Prop} {E : Prop} {d : Nat} (hd : o.dst = some d) (hw : Region.wanted o (yielded ops tmps) = true) (ty : TypeId) (ho : o.op = .alloc ty) (cs : Array Value)
    {sz by' : Nat} (hi : (P.info? ty).map (fun i => (i.zero, i.size, i.bytes)) = some (some (.agg cs), sz, by'))
    (h : K { tmps := tmps.setIfInBounds d (.pointer (some ⟨w.heap.size, 0, none⟩)), defers := ds } (w.alloc (.cells cs ty))) :
    if Region.wanted o (yielded ops tmps) = true then Oper.wp P o { tmps := tmps, defers := ds } w K Q else E := by
  rw [if_pos hw]
  obtain ⟨ie, h1, h2, h3, _⟩ := info_parts hi
  have hrun : (Instr.alloc ty true (.tuple #[])).run P w = .ok (.pointer (some ⟨w.heap.size, 0, none⟩)) (w.alloc (.cells cs ty)) := by
    simp [Instr.alloc, zeroValue, typeInfo, h1, h2, newVar, newRow, Value.cells]
  unfold Oper.wp execOp
  simp only [ho, Sem.run_bind, hrun, Sem.run_pure, Result.andThen_ok]
  show K (Act.put _ o.dst _) _
  rw [hd]
  exact h
theorem step_store_row9 {P : Program} {ops : Array Oper} {o : Oper} {a : Act} {w : World} {K : Act → World → Prop} {Q : Exit → Act → World → Prop} {E : Prop} (hw : Region.wanted o (yielded ops a.tmps) = true) (ty : TypeId) (x y : Operand) (ho : o.op = .store ty x y)
    (g : Nat) (cells : Array Value) (hx : a.eval x = .pointer (some ⟨g, 0, none⟩)) (hy : a.eval y = .agg cells) (t : TypeId) (old : Array Value) (hg : w.heap[g]? = some (.cells old t (0, 0))) (hi : (P.info? ty).map (·.size) = some cells.size) (hold : old.size = cells.size) (h1 : cells.all (·.oneCell') = true)
    (h : K (a.put o.dst undef) (w.setRow g cells)) : if Region.wanted o (yielded ops a.tmps) = true then Oper.wp P o a w K Q else E := by
  rw [if_pos hw]
  exact wp_store_row ty x y ho g cells hx hy t old hg hi hold h1 h
theorem yields_lookup {P : Program} {ops : Array Oper} {S : World → Prop} {op : Oper} {a : Act} {t : TypeId} {x y : Operand} {cm : Bool} {m k v : Value} (hw : Region.wanted op (yielded ops a.tmps) = true) (ho : op.op = .lookup t x y cm) (hx : a.eval x = m) (hy : a.eval y = k) (h : ∀ w, S w → (Instr.lookup t m k cm).run P w = .ok v w) : YieldsIf P ops S op v a :=
  .inl ⟨hw, fun w hS => by
    unfold execOp
    simp only [ho, hx, hy, Sem.run_bind, h w hS, Result.andThen_ok, Sem.run_pure]⟩
theorem Try.zeroCoin : (Try.prog.info? 41).map (fun i => (i.zero, i.size, i.bytes)) = some (some (.agg #[.int .i64 0, .slice none 0 0, .int .i64 0]), 3, 40) := by kernel_rfl
def layCoin (w : World) (m : Int) (a : Option Addr) (n c : Nat) (h : Int) : World := (w.alloc (.cells #[.int .i64 0, .slice none 0 0, .int .i64 0] 41)).setRow w.heap.size #[.int .i64 m, .slice a n c, .int .i64 h]
theorem layCoin_is (w : World) (m : Int) (a : Option Addr) (n c : Nat) (h : Int) : (w.alloc (.cells #[.int .i64 0, .slice none 0 0, .int .i64 0] 41)).setRow w.heap.size #[.int .i64 m, .slice a n c, .int .i64 h] = layCoin w m a n c h := rfl
theorem layCoin_heap (w : World) (m : Int) (a : Option Addr) (n c : Nat) (h : Int) : (layCoin w m a n c h).heap[w.heap.size]? = some (.cells #[.int .i64 m, .slice a n c, .int .i64 h] 41 (0, 0)) := setRow_heap _ _ _ _ _ _ (heap_alloc_new _ _)
theorem layCoin_below {B : Nat} {w0 w : World} (hb : Below B w0 w) (hB : B ≤ w.heap.size) (m : Int) (a : Option Addr) (n c : Nat) (h : Int) : Below B w0 (layCoin w m a n c h) :=
  (hb.alloc hB _).trans ((but_setRow _ w.heap.size _).below9 hB (by have := hb.size; simp; omega))
/-- What a look-up gives, in every later world. -/
def LookRun (w : World) (mb : Option Nat) (s : List UInt8) (p : Int) (v : Value) (ok : Bool) : Prop := ∀ W, Below w.heap.size w W → (Instr.lookup 49 (.map mb) (.agg (refCells s p).toArray) true).run Try.prog W = .ok (.tuple #[v, .bool ok]) W
set_option linter.unusedSimpArgs false in
set_option maxRecDepth 100000 in
set_option maxHeartbeats 12800000 in
theorem get_any {w : World} {pv : Value} {mb : Option Nat} {s : List UInt8} {p m ht : Int} {a : Option Addr} {n c : Nat} {xs : List PWay} {ok : Bool} (hs : s.length = 32) (hv : Has w pv mb) (hl : LookRun w mb s p (coinV m a n c ht) ok) (hw : Ways w a n c xs) (hn0 : a = none ∨ 1 ≤ n) (hn : n ≤ 1000) (hk : FewKeys xs) :
    Calls Try.prog 15 #[pv, .agg (refCells s p).toArray] w fun e w' => ∃ (a' : Option Addr) (c' : Nat) (ys : List PWay), e = .returned (.tuple #[coinV m a' n c' ht, .bool ok]) ∧ Ways w' a' n c' ys ∧ ys.map PWay.strip = xs.map PWay.strip ∧ (a' = none ∨ 1 ≤ n) ∧ TypedW w' a' n ys ∧ Below w.heap.size w w' := by
  have b2 : Below w.heap.size w ((w.alloc (.cells (refCells s p).toArray 32)).alloc (.cells #[.int .i64 0, .slice none 0 0, .int .i64 0] 41)) := ((Below.refl _ _).alloc (Nat.le_refl _) _).alloc (by simp) _
  have h1 : ((w.alloc (.cells (refCells s p).toArray 32)).alloc (.cells #[.int .i64 0, .slice none 0 0, .int .i64 0] 41)).heap[w.heap.size]? = some (.cells (refCells s p).toArray 32 (0, 0)) := by
    rw [heap_alloc_old _ _ (by simp), heap_alloc_new]
  have h2 : ((w.alloc (.cells (refCells s p).toArray 32)).alloc (.cells #[.int .i64 0, .slice none 0 0, .int .i64 0] 41)).heap[w.heap.size + 1]? = some (.cells #[.int .i64 0, .slice none 0 0, .int .i64 0] 41 (0, 0)) := heap_alloc_at _ _ _ (by simp)
  have HV0 := Lib.hid hv
  have HW0 := Lib.hid hw
  have HL0 := Lib.hid hl
  have HK := Lib.hid hk
  have AR := Lib.hid (refSize (z := p) hs)
  clear hv hw hl hk
  go_enter Try.func15, Try.ntmps15
  go_upto_region 1 with (fail)
  revert b2 h1 h2
  generalize ((w.alloc (.cells (refCells s p).toArray 32)).alloc (.cells #[.int .i64 0, .slice none 0 0, .int .i64 0] 41)) = w2
  obtain ⟨g3, hg3⟩ : ∃ g, g = w.heap.size := ⟨_, rfl⟩
  obtain ⟨g4, hg4⟩ : ∃ g, g = w.heap.size + 1 := ⟨_, rfl⟩
  rw [← hg4, ← hg3]
  intro b2 h1 h2
  have HG4 : Hid (w.heap.size ≤ g4) := Lib.hid (by omega)
  rw [hg3] at b2
  have HB2 := Lib.hid b2
  have HV := Lib.hid (HV0.out.below b2)
  have HW2 := Lib.hid (HW0.out.below b2)
  have HL : Hid (∀ W : World, Below w2.heap.size w2 W → (Instr.lookup 49 (.map mb) (.agg (refCells s p).toArray) true).run Try.prog W = .ok (.tuple #[coinV m a n c ht, .bool ok]) W) := Lib.hid (fun W hW => HL0.out W (b2.trans (hW.mono b2.size)))
  have RG : Hid (∀ W : World, Below w2.heap.size w2 W → W.rangeAt g3 0 (refCells s p)) := Lib.hid (fun W hW => range_of ((hW.block _ (lt_of_block h1)).trans h1))
  have H4 := Lib.hid h2
  clear b2 h1 h2 hg3 hg4 HV0 HW0 HL0
  refine wp_region_held_drew (S := fun w' => Below w2.heap.size w2 w') (by kernel_rfl) (below_drew (Below.refl _ _)) (fun hHeld => ?_)
  refine take_at (i := 0) (v := ?_) rfl rfl (by kernel_rfl) (by kernel_rfl) (by kernel_rfl) (fun _ _ _ h => h) (Or.inl ⟨by rfl, ?_⟩) (by assumption) ?_
  rotate_left
  · intro w0 hSw; (try dsimp only at hSw); first | (go_simp; done) | (go_simp; with_reducible rfl)
  simp only [List.setIfInBounds_toArray, List.set_cons_zero, List.set_cons_succ]
  refine take_at (i := 2) rfl rfl (by kernel_rfl) (by kernel_rfl) (by kernel_rfl) (fun _ _ _ h => h) (yieldsIf_load_mid (by rfl) _ _ rfl g3 0 rfl (refCells s p) _ (fun w0 hSw => RG.out w0 hSw) Try.underlying32 rfl AR.out) (by assumption) ?_
  simp only [List.setIfInBounds_toArray, List.set_cons_zero, List.set_cons_succ]
  refine wpAnyH_ready (rs := [1, 7]) (by kernel_rfl) (by simp) ?_
  refine AllReadyH.cons rfl (fun K hK => ?_) ?_
  · go_simp
    refine (has_any (HV.out.below hHeld)).mono ?_
    rintro e w7 ⟨rfl, rfl⟩
    dsimp only
    refine hK.out _ _ (by (try dsimp only); exact hHeld) (fun hHeld => ?_)
    clear hK K
    refine take_at (i := 3) rfl rfl (by kernel_rfl) (by kernel_rfl) (by kernel_rfl) (fun _ _ _ h => h) (yields_lookup (by rfl) rfl rfl rfl (fun w0 hSw => HL.out w0 hSw)) (by assumption) ?_
    simp only [List.setIfInBounds_toArray, List.set_cons_zero, List.set_cons_succ]
    refine take_at (i := 4) (v := ?_) rfl rfl (by kernel_rfl) (by kernel_rfl) (by kernel_rfl) (fun _ _ _ h => h) (Or.inl ⟨by rfl, ?_⟩) (by assumption) ?_
    rotate_left
    · intro w0 hSw; (try dsimp only at hSw); first | (go_simp; done) | (go_simp; with_reducible rfl)
    simp only [List.setIfInBounds_toArray, List.set_cons_zero, List.set_cons_succ]
    refine take_at (i := 5) (v := ?_) rfl rfl (by kernel_rfl) (by kernel_rfl) (by kernel_rfl) (fun _ _ _ h => h) (Or.inl ⟨by rfl, ?_⟩) (by assumption) ?_
    rotate_left
    · intro w0 hSw; (try dsimp only at hSw); first | (go_simp; done) | (go_simp; with_reducible rfl)
    simp only [List.setIfInBounds_toArray, List.set_cons_zero, List.set_cons_succ]
    refine take_at (i := 6) (v := ?_) rfl rfl (by kernel_rfl) (by kernel_rfl) (by kernel_rfl) (fun _ _ _ h => h) (Or.inl ⟨by rfl, ?_⟩) (by assumption) ?_
    rotate_left
    · intro w0 hSw; (try dsimp only at hSw); first | (go_simp; done) | (go_simp; with_reducible rfl)
    simp only [List.setIfInBounds_toArray, List.set_cons_zero, List.set_cons_succ]
    refine wpAnyH_ready (rs := [7]) (by kernel_rfl) (by simp) ?_
    refine AllReadyH.cons rfl (fun K hK => ?_) ?_
    · refine step_alloc9 rfl (by rfl) 41 rfl #[.int .i64 0, .slice none 0 0, .int .i64 0] Try.zeroCoin ?_
      refine hK.out _ _ (by (try dsimp only); exact hHeld.alloc hHeld.size _) (fun hHeld => ?_)
      clear hK K
      refine wpAnyH_ready (rs := [8]) (by kernel_rfl) (by simp) ?_
      refine AllReadyH.cons rfl (fun K hK => ?_) ?_
      · refine step_store_row9 (by rfl) 41 _ _ rfl w2.drew.heap.size #[.int .i64 m, .slice a n c, .int .i64 ht] (by rfl) (by rfl) 41 #[.int .i64 0, .slice none 0 0, .int .i64 0] (heap_alloc_new _ _) (coin_size9 m ht a n c) rfl (coin_one9 m ht a n c) ?_
        refine hK.out _ _ (by (try dsimp only); exact layCoin_below (below_drew (Below.refl w2.heap.size w2)) (Nat.le_refl _) m a n c ht) (fun hHeld => ?_)
        clear hK K
        refine take_at (i := 9) (v := ?_) rfl rfl (by kernel_rfl) (by kernel_rfl) (by kernel_rfl) (fun _ _ _ h => h) (Or.inl ⟨by rfl, ?_⟩) (by assumption) ?_
        rotate_left
        · intro w0 hSw; (try dsimp only at hSw); first | (go_simp; done) | (go_simp; with_reducible rfl)
        simp only [List.setIfInBounds_toArray, List.set_cons_zero, List.set_cons_succ]
        refine wpAnyH_done (by kernel_rfl) ?_ _
        rw [layCoin_is]
        have h5 := layCoin_heap w2.drew m a n c ht
        have b5 := layCoin_below (below_drew (Below.refl w2.heap.size w2)) (Nat.le_refl _) m a n c ht
        revert h5 b5
        generalize layCoin w2.drew m a n c ht = w5
        have e8 : w2.drew.heap.size = w2.heap.size := rfl
        rw [e8]
        obtain ⟨g6, hg6⟩ : ∃ g, g = w2.heap.size := ⟨_, rfl⟩
        rw [← hg6]
        intro h5 b5
        rw [hg6] at b5
        have H5 := Lib.hid h5
        have HB5 := Lib.hid b5
        have HC5 := Lib.hid (copied_any (m := m) (ht := ht) (HW2.out.below b5) hn0 hn HK.out)
        have H45 := Lib.hid ((b5.block _ (lt_of_block H4.out)).trans H4.out)
        clear h5 b5 hg6
        try simp only [Act.put]
        go_wp2_with (first
          | (refine wpList_load_row rfl 41 _ rfl g6 rfl 41 #[.int .i64 m, .slice a n c, .int .i64 ht] (0, 0) _ H5.out Try.underlying41 rfl (coin_size9 m ht a n c) ?_)
          | (go_at_call 28; refine HC5.out.mono ?_; rintro e w7 ⟨a7, c7, ys, rfl, hw7, hst, hn7, ht7, hb7⟩; have HW7 := Lib.hid hw7; have HS7 := Lib.hid hst; have HN7 := Lib.hid hn7; have HT7 := Lib.hid ht7; have HB7 := Lib.hid hb7; have H47 := Lib.hid ((hb7.block _ (lt_of_block H45.out)).trans H45.out); clear hw7 hst hn7 ht7 hb7 HC5)
          | (refine wpList_store_row rfl 41 _ _ rfl g4 #[.int .i64 m, .slice a7 n c7, .int .i64 ht] rfl rfl 41 #[.int .i64 0, .slice none 0 0, .int .i64 0] H47.out (coin_size9 m ht a7 n c7) rfl (coin_one9 m ht a7 n c7) ?_)
          | fail)
        have h9 := setRow_heap w7 g4 _ #[.int .i64 m, .slice a7 n c7, .int .i64 ht] _ _ H47.out
        obtain ⟨hW9, hT9⟩ := ways_typed HW7.out HT7.out (but_setRow w7 g4 #[.int .i64 m, .slice a7 n c7, .int .i64 ht]) (noWays_cells H47.out (by decide) (by decide))
        have hB9 : Below w.heap.size w (w7.setRow g4 #[.int .i64 m, .slice a7 n c7, .int .i64 ht]) := (HB2.out.trans ((HB5.out.trans (HB7.out.mono HB5.out.size)).mono HB2.out.size)).trans ((but_setRow w7 g4 _).below9 HG4.out (Nat.le_trans HB2.out.size (Nat.le_trans HB5.out.size HB7.out.size)))
        exact bodyPost_ret (results_cell_then rfl _ _ g4 41 _ _ _ (.bool ok) rfl rfl h9 Try.underlying41 rfl (coin_size9 m ht a7 n c7)) rfl ⟨a7, c7, ys, rfl, hW9, HS7.out, HN7.out, hT9, hB9⟩
      exact AllReadyH.nil
    exact AllReadyH.nil
  refine AllReadyH.cons rfl (fun K hK => ?_) ?_
  · refine step_alloc9 rfl (by rfl) 41 rfl #[.int .i64 0, .slice none 0 0, .int .i64 0] Try.zeroCoin ?_
    refine hK.out _ _ (by (try dsimp only); exact hHeld.alloc hHeld.size _) (fun hHeld => ?_)
    clear hK K
    refine wpAnyH_ready (rs := [1]) (by kernel_rfl) (by simp) ?_
    refine AllReadyH.cons rfl (fun K hK => ?_) ?_
    · go_simp
      refine (has_any (HV.out.below hHeld)).mono ?_
      rintro e w7 ⟨rfl, rfl⟩
      dsimp only
      refine hK.out _ _ (by (try dsimp only); exact hHeld) (fun hHeld => ?_)
      clear hK K
      refine take_at (i := 3) rfl rfl (by kernel_rfl) (by kernel_rfl) (by kernel_rfl) (fun _ _ _ h => h) (yields_lookup (by rfl) rfl rfl rfl (fun w0 hSw => HL.out w0 hSw)) (by assumption) ?_
      simp only [List.setIfInBounds_toArray, List.set_cons_zero, List.set_cons_succ]
      refine take_at (i := 4) (v := ?_) rfl rfl (by kernel_rfl) (by kernel_rfl) (by kernel_rfl) (fun _ _ _ h => h) (Or.inl ⟨by rfl, ?_⟩) (by assumption) ?_
      rotate_left
      · intro w0 hSw; (try dsimp only at hSw); first | (go_simp; done) | (go_simp; with_reducible rfl)
      simp only [List.setIfInBounds_toArray, List.set_cons_zero, List.set_cons_succ]
      refine take_at (i := 5) (v := ?_) rfl rfl (by kernel_rfl) (by kernel_rfl) (by kernel_rfl) (fun _ _ _ h => h) (Or.inl ⟨by rfl, ?_⟩) (by assumption) ?_
      rotate_left
      · intro w0 hSw; (try dsimp only at hSw); first | (go_simp; done) | (go_simp; with_reducible rfl)
      simp only [List.setIfInBounds_toArray, List.set_cons_zero, List.set_cons_succ]
      refine take_at (i := 6) (v := ?_) rfl rfl (by kernel_rfl) (by kernel_rfl) (by kernel_rfl) (fun _ _ _ h => h) (Or.inl ⟨by rfl, ?_⟩) (by assumption) ?_
      rotate_left
      · intro w0 hSw; (try dsimp only at hSw); first | (go_simp; done) | (go_simp; with_reducible rfl)
      simp only [List.setIfInBounds_toArray, List.set_cons_zero, List.set_cons_succ]
      refine wpAnyH_ready (rs := [8]) (by kernel_rfl) (by simp) ?_
      refine AllReadyH.cons rfl (fun K hK => ?_) ?_
      · refine step_store_row9 (by rfl) 41 _ _ rfl w2.drew.heap.size #[.int .i64 m, .slice a n c, .int .i64 ht] (by rfl) (by rfl) 41 #[.int .i64 0, .slice none 0 0, .int .i64 0] (heap_alloc_new _ _) (coin_size9 m ht a n c) rfl (coin_one9 m ht a n c) ?_
        refine hK.out _ _ (by (try dsimp only); exact layCoin_below (below_drew (Below.refl w2.heap.size w2)) (Nat.le_refl _) m a n c ht) (fun hHeld => ?_)
        clear hK K
        refine take_at (i := 9) (v := ?_) rfl rfl (by kernel_rfl) (by kernel_rfl) (by kernel_rfl) (fun _ _ _ h => h) (Or.inl ⟨by rfl, ?_⟩) (by assumption) ?_
        rotate_left
        · intro w0 hSw; (try dsimp only at hSw); first | (go_simp; done) | (go_simp; with_reducible rfl)
        simp only [List.setIfInBounds_toArray, List.set_cons_zero, List.set_cons_succ]
        refine wpAnyH_done (by kernel_rfl) ?_ _
        rw [layCoin_is]
        have h5 := layCoin_heap w2.drew m a n c ht
        have b5 := layCoin_below (below_drew (Below.refl w2.heap.size w2)) (Nat.le_refl _) m a n c ht
        revert h5 b5
        generalize layCoin w2.drew m a n c ht = w5
        have e8 : w2.drew.heap.size = w2.heap.size := rfl
        rw [e8]
        obtain ⟨g6, hg6⟩ : ∃ g, g = w2.heap.size := ⟨_, rfl⟩
        rw [← hg6]
        intro h5 b5
        rw [hg6] at b5
        have H5 := Lib.hid h5
        have HB5 := Lib.hid b5
        have HC5 := Lib.hid (copied_any (m := m) (ht := ht) (HW2.out.below b5) hn0 hn HK.out)
        have H45 := Lib.hid ((b5.block _ (lt_of_block H4.out)).trans H4.out)
        clear h5 b5 hg6
        try simp only [Act.put]
        go_wp2_with (first
          | (refine wpList_load_row rfl 41 _ rfl g6 rfl 41 #[.int .i64 m, .slice a n c, .int .i64 ht] (0, 0) _ H5.out Try.underlying41 rfl (coin_size9 m ht a n c) ?_)
          | (go_at_call 28; refine HC5.out.mono ?_; rintro e w7 ⟨a7, c7, ys, rfl, hw7, hst, hn7, ht7, hb7⟩; have HW7 := Lib.hid hw7; have HS7 := Lib.hid hst; have HN7 := Lib.hid hn7; have HT7 := Lib.hid ht7; have HB7 := Lib.hid hb7; have H47 := Lib.hid ((hb7.block _ (lt_of_block H45.out)).trans H45.out); clear hw7 hst hn7 ht7 hb7 HC5)
          | (refine wpList_store_row rfl 41 _ _ rfl g4 #[.int .i64 m, .slice a7 n c7, .int .i64 ht] rfl rfl 41 #[.int .i64 0, .slice none 0 0, .int .i64 0] H47.out (coin_size9 m ht a7 n c7) rfl (coin_one9 m ht a7 n c7) ?_)
          | fail)
        have h9 := setRow_heap w7 g4 _ #[.int .i64 m, .slice a7 n c7, .int .i64 ht] _ _ H47.out
        obtain ⟨hW9, hT9⟩ := ways_typed HW7.out HT7.out (but_setRow w7 g4 #[.int .i64 m, .slice a7 n c7, .int .i64 ht]) (noWays_cells H47.out (by decide) (by decide))
        have hB9 : Below w.heap.size w (w7.setRow g4 #[.int .i64 m, .slice a7 n c7, .int .i64 ht]) := (HB2.out.trans ((HB5.out.trans (HB7.out.mono HB5.out.size)).mono HB2.out.size)).trans ((but_setRow w7 g4 _).below9 HG4.out (Nat.le_trans HB2.out.size (Nat.le_trans HB5.out.size HB7.out.size)))
        exact bodyPost_ret (results_cell_then rfl _ _ g4 41 _ _ _ (.bool ok) rfl rfl h9 Try.underlying41 rfl (coin_size9 m ht a7 n c7)) rfl ⟨a7, c7, ys, rfl, hW9, HS7.out, HN7.out, hT9, hB9⟩
      exact AllReadyH.nil
    exact AllReadyH.nil
  exact AllReadyH.nil
end Go.Proofs.Ytdeilkpcmgcbaaa
