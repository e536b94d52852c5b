/- How a view stands: its map holds the coins of rows; what stays where another map, or a row of the call's own, is written. view.New, view.Len. view.Get: the coin at a place, copied. What a view gives at a place: its row's coin, or none. view.Put. view.Take. A row built of a place and a coin; rows of the call's own; the places of a view's rows. view.All: the rows of a view, in order. -/
import Derived.Test.YteddkkcheaghaaaGreatDoorViewr
import Derived.Great.FillDense
namespace Go.Proofs.YteddkkcheaghaaaGreatDoor
open Go.RowKit Go.Maps

def coinV (m : Int) (a : Option Addr) (n c : Nat) (h : Int) : Value := .agg #[.int .i64 m, .slice a n c, .int .i64 h]
/-- A row's coin, as the map holds it. -/
def CoinAt (w : World) (r : PRow) (v : Value) : Prop := ∃ a n c ys, v = coinV r.out.m a n c r.height ∧ Ways w a n c ys ∧ TypedW w a n ys ∧ ys.map PWay.strip = r.out.ws.map PWay.strip
/-- Block p is none of ways, nor of numbers. -/
def NoWays (w : World) (p : Nat) : Prop := ∀ cs fr, w.heap[p]? ≠ some (.cells cs 170 fr) ∧ w.heap[p]? ≠ some (.cells cs 3 fr)
theorem noWays_map {w : World} {p : Nat} {es : Array MapEntry} {cl : Nat} (h : w.heap[p]? = some (.map es cl)) : NoWays w p := fun cs fr => ⟨fun e => (by rw [h] at e; cases e), fun e => (by rw [h] at e; cases e)⟩
theorem noWays_cells {w : World} {p : Nat} {cs : Array Value} {t : TypeId} {fr : Nat × Nat} (h : w.heap[p]? = some (.cells cs t fr)) (h1 : t ≠ 170) (h2 : t ≠ 3) : NoWays w p := fun cs fr => ⟨fun e => (by rw [h] at e; cases e; exact h1 rfl), fun e => (by rw [h] at e; cases e; exact h2 rfl)⟩
theorem CoinAt.but {w w' : World} {r : PRow} {v : Value} {p : Nat} (h : CoinAt w r v) (hb : But w.heap.size p w w') (hp : NoWays w p) : CoinAt w' r v := by
  obtain ⟨a, n, c, ys, h1, h2, h3, h4⟩ := h
  obtain ⟨h5, h6⟩ := ways_typed9 h2 h3 hb hp
  exact ⟨a, n, c, ys, h1, h5, h6, h4⟩
theorem CoinAt.below {w w' : World} {r : PRow} {v : Value} (h : CoinAt w r v) (hb : Below w.heap.size w w') : CoinAt w' r v := by
  obtain ⟨a, n, c, ys, h1, h2, h3, h4⟩ := h
  exact ⟨a, n, c, ys, h1, h2.below hb, h3.below hb, h4⟩
/-- What each place has: the coins of rows. -/
def CoinsOf (w : World) (rows : List PRow) (F : List UInt8 → Int → Option Value) : Prop :=
  (∀ s p, (∀ r ∈ rows, ¬ (r.tx = s ∧ r.place = p)) → F s p = none) ∧ ∀ r ∈ rows, ∃ v, F r.tx r.place = some v ∧ CoinAt w r v
/-- A row that may stand in a view. -/
structure RowOk (r : PRow) : Prop where
  tx : r.tx.length = 32
  place : Fits r.place
  out : outOk r.out.m r.out.ws = true
  low : 0 ≤ r.height
  high : r.height ≤ 1073741824
/-- How a view stands. -/
structure ViewAt (w : World) (pv : Value) (b N : Nat) (rows : List PRow) : Prop where
  has : ∃ vb, pv = .pointer (some ⟨vb, 0, none⟩) ∧ w.heap[vb]? = some (.cells #[.map (some b)] 173 (0, 0))
  few : N ≤ 100
  map : ∃ F, MapRef w b N rows.length F ∧ CoinsOf w rows F
  rising : Rising rows
  ok : ∀ r ∈ rows, RowOk r
theorem MapRef.isMap {w : World} {b N n : Nat} {F : List UInt8 → Int → Option Value} (h : MapRef w b N n F) : ∃ es cl, w.heap[b]? = some (.map es cl) := by
  obtain ⟨D, ⟨es, cl, hb, _⟩, _⟩ := h
  exact ⟨es, cl, hb⟩
theorem ViewAt.isMap {w : World} {pv : Value} {b N : Nat} {rows : List PRow} (h : ViewAt w pv b N rows) : ∃ es cl, w.heap[b]? = some (.map es cl) := by
  obtain ⟨F, h1, _⟩ := h.map
  exact h1.isMap
theorem ViewAt.below {w w' : World} {pv : Value} {b N : Nat} {rows : List PRow} (h : ViewAt w pv b N rows) (hb : Below w.heap.size w w') : ViewAt w' pv b N rows := by
  obtain ⟨vb, h1, h2⟩ := h.has
  obtain ⟨F, h3, h4, h5⟩ := h.map
  exact ⟨⟨vb, h1, (hb.block _ (lt_of_block h2)).trans h2⟩, h.few, ⟨F, h3.below hb, h4, fun r hr => by
    obtain ⟨v, h6, h7⟩ := h5 r hr
    exact ⟨v, h6, h7.below hb⟩⟩, h.rising, h.ok⟩
/-- Where another block is written: one of no ways, nor of numbers, nor a view, nor its map. -/
theorem ViewAt.but {w w' : World} {pv : Value} {b N p : Nat} {rows : List PRow} (h : ViewAt w pv b N rows) (hb : But w.heap.size p w w') (hp : NoWays w p) (hv : ∀ cs fr, w.heap[p]? ≠ some (.cells cs 173 fr)) (hne : b ≠ p) : ViewAt w' pv b N rows := by
  obtain ⟨vb, h1, h2⟩ := h.has
  obtain ⟨F, h3, h4, h5⟩ := h.map
  have hg : w.grownBy w' (some p) := ⟨hb.os, hb.tape, hb.output, hb.size, fun k hk hn => hb.block k hk (fun e => hn (by rw [e]))⟩
  exact ⟨⟨vb, h1, hb.heap h2 (lt_of_block h2) (fun e => hv _ _ (by rw [← e]; exact h2))⟩, h.few, ⟨F, h3.kept hg (fun e => hne (Option.some.inj e)), h4, fun r hr => by
    obtain ⟨v, h6, h7⟩ := h5 r hr
    exact ⟨v, h6, h7.but hb hp⟩⟩, h.rising, h.ok⟩
theorem ViewAt.hasIt {w : World} {pv : Value} {b N : Nat} {rows : List PRow} (h : ViewAt w pv b N rows) : Has w pv (some b) := by
  obtain ⟨vb, h1, h2⟩ := h.has
  exact .inr ⟨vb, h1, lt_of_block h2, cell_of_row _ _ _ _ _ _ h2⟩
theorem ViewAt.mapOr {w : World} {pv : Value} {b N : Nat} {rows : List PRow} (h : ViewAt w pv b N rows) : ∃ F, MapOr w (some b) F ∧ CoinsOf w rows F := by
  obtain ⟨F, h3, h4⟩ := h.map
  exact ⟨F, .inr ⟨b, N, _, rfl, h3, by have := h.few; omega⟩, h4⟩
set_option linter.unusedSimpArgs false in
set_option maxRecDepth 100000 in
set_option maxHeartbeats 12800000 in
theorem new_any (w : World) : Calls Tryz.prog 39 #[] w fun e w' => ∃ (vb : Nat), e = .returned (.pointer (some ⟨vb, 0, none⟩)) ∧ ViewAt w' (.pointer (some ⟨vb, 0, none⟩)) w.heap.size 0 [] ∧ w.heap.size ≤ vb ∧ Below w.heap.size w w' := by
  have hmm := @run_makeMap Tryz.prog
  have h1 : ((w.alloc (.map #[] 0)).alloc (.cells #[.map (some w.heap.size)] 173)).heap[w.heap.size + 1]? = some (.cells #[.map (some w.heap.size)] 173 (0, 0)) := heap_alloc_at _ _ _ (by simp)
  have hm : MapRef ((w.alloc (.map #[] 0)).alloc (.cells #[.map (some w.heap.size)] 173)) w.heap.size 0 0 (fun _ _ => none) := (MapRef.made w).below ((Below.refl _ _).alloc (Nat.le_refl _) _)
  have HV : ViewAt ((w.alloc (.map #[] 0)).alloc (.cells #[.map (some w.heap.size)] 173)) (.pointer (some ⟨w.heap.size + 1, 0, none⟩)) w.heap.size 0 [] :=
    ⟨⟨w.heap.size + 1, rfl, h1⟩, by omega, ⟨_, hm, fun _ _ _ => rfl, fun r hr => by cases hr⟩, ⟨List.Pairwise.nil, fun x hx => by cases hx⟩, fun r hr => by cases hr⟩
  have HVH := Lib.hid HV
  clear h1 hm HV
  go_enter Tryz.func39, Tryz.ntmps39
  go_wp2
  go_ret
  exact ⟨_, rfl, HVH.out, by omega, ((Below.refl _ _).alloc (Nat.le_refl _) _).alloc (by simp) _⟩
end Go.Proofs.YteddkkcheaghaaaGreatDoor
namespace Go.Proofs.YteddkkcheaghaaaGreatDoor
open Go.RowKit Go.Maps

theorem step_alloc9 {P : Program} {ops : Array Oper} {o : Oper} {tmps : Array Value} {ds : List Deferred} {w : World} {K : Act → World → Prop} {Q : Exit → Act → World → Prop} {E : Prop} {d : Nat} (hd : o.dst = some d) (hw : Region.wanted o (yielded ops tmps) = true) (ty : TypeId) (ho : o.op = .alloc ty) (cs : Array Value)
    {sz by' : Nat} (hi : (P.info? ty).map (fun i => (i.zero, i.size, i.bytes)) = some (some (.agg cs), sz, by'))
    (h : K { tmps := tmps.setIfInBounds d (.pointer (some ⟨w.heap.size, 0, none⟩)), defers := ds } (w.alloc (.cells cs ty))) :
    if Region.wanted o (yielded ops tmps) = true then Oper.wp P o { tmps := tmps, defers := ds } w K Q else E := by
  rw [if_pos hw]
  obtain ⟨ie, h1, h2, h3, _⟩ := info_parts hi
  have hrun : (Instr.alloc ty true (.tuple #[])).run P w = .ok (.pointer (some ⟨w.heap.size, 0, none⟩)) (w.alloc (.cells cs ty)) := by
    simp [Instr.alloc, zeroValue, typeInfo, h1, h2, newVar, newRow, Value.cells]
  unfold Oper.wp execOp
  simp only [ho, Sem.run_bind, hrun, Sem.run_pure, Result.andThen_ok]
  show K (Act.put _ o.dst _) _
  rw [hd]
  exact h
theorem step_store_row9 {P : Program} {ops : Array Oper} {o : Oper} {a : Act} {w : World} {K : Act → World → Prop} {Q : Exit → Act → World → Prop} {E : Prop} (hw : Region.wanted o (yielded ops a.tmps) = true) (ty : TypeId) (x y : Operand) (ho : o.op = .store ty x y)
    (g : Nat) (cells : Array Value) (hx : a.eval x = .pointer (some ⟨g, 0, none⟩)) (hy : a.eval y = .agg cells) (t : TypeId) (old : Array Value) (hg : w.heap[g]? = some (.cells old t (0, 0))) (hi : (P.info? ty).map (·.size) = some cells.size) (hold : old.size = cells.size) (h1 : cells.all (·.oneCell') = true)
    (h : K (a.put o.dst undef) (w.setRow g cells)) : if Region.wanted o (yielded ops a.tmps) = true then Oper.wp P o a w K Q else E := by
  rw [if_pos hw]
  exact wp_store_row ty x y ho g cells hx hy t old hg hi hold h1 h
theorem yields_lookup {P : Program} {ops : Array Oper} {S : World → Prop} {op : Oper} {a : Act} {t : TypeId} {x y : Operand} {cm : Bool} {m k v : Value} (hw : Region.wanted op (yielded ops a.tmps) = true) (ho : op.op = .lookup t x y cm) (hx : a.eval x = m) (hy : a.eval y = k) (h : ∀ w, S w → (Instr.lookup t m k cm).run P w = .ok v w) : YieldsIf P ops S op v a :=
  .inl ⟨hw, fun w hS => by
    unfold execOp
    simp only [ho, hx, hy, Sem.run_bind, h w hS, Result.andThen_ok, Sem.run_pure]⟩
theorem Tryz.zeroCoin : (Tryz.prog.info? 126).map (fun i => (i.zero, i.size, i.bytes)) = some (some (.agg #[.int .i64 0, .slice none 0 0, .int .i64 0]), 3, 40) := by kernel_rfl
def layCoin (w : World) (m : Int) (a : Option Addr) (n c : Nat) (h : Int) : World := (w.alloc (.cells #[.int .i64 0, .slice none 0 0, .int .i64 0] 126)).setRow w.heap.size #[.int .i64 m, .slice a n c, .int .i64 h]
theorem layCoin_is (w : World) (m : Int) (a : Option Addr) (n c : Nat) (h : Int) : (w.alloc (.cells #[.int .i64 0, .slice none 0 0, .int .i64 0] 126)).setRow w.heap.size #[.int .i64 m, .slice a n c, .int .i64 h] = layCoin w m a n c h := rfl
theorem layCoin_heap (w : World) (m : Int) (a : Option Addr) (n c : Nat) (h : Int) : (layCoin w m a n c h).heap[w.heap.size]? = some (.cells #[.int .i64 m, .slice a n c, .int .i64 h] 126 (0, 0)) := setRow_heap _ _ _ _ _ _ (heap_alloc_new _ _)
theorem layCoin_below {B : Nat} {w0 w : World} (hb : Below B w0 w) (hB : B ≤ w.heap.size) (m : Int) (a : Option Addr) (n c : Nat) (h : Int) : Below B w0 (layCoin w m a n c h) :=
  (hb.alloc hB _).trans ((but_setRow _ w.heap.size _).below9 hB (by have := hb.size; simp; omega))
/-- What a look-up gives, in every later world. -/
def LookRun (w : World) (mb : Option Nat) (s : List UInt8) (p : Int) (v : Value) (ok : Bool) : Prop := ∀ W, Below w.heap.size w W → (Instr.lookup 171 (.map mb) (.agg (refCells s p).toArray) true).run Tryz.prog W = .ok (.tuple #[v, .bool ok]) W
set_option linter.unusedSimpArgs false in
set_option maxRecDepth 100000 in
set_option maxHeartbeats 12800000 in
theorem get_any {w : World} {pv : Value} {mb : Option Nat} {s : List UInt8} {p m ht : Int} {a : Option Addr} {n c : Nat} {xs : List PWay} {ok : Bool} (hs : s.length = 32) (hv : Has w pv mb) (hl : LookRun w mb s p (coinV m a n c ht) ok) (hw : Ways w a n c xs) (hn0 : a = none ∨ 1 ≤ n) (hn : n ≤ 1000) (hk : FewKeys xs) :
    Calls Tryz.prog 100 #[pv, .agg (refCells s p).toArray] w fun e w' => ∃ (a' : Option Addr) (c' : Nat) (ys : List PWay), e = .returned (.tuple #[coinV m a' n c' ht, .bool ok]) ∧ Ways w' a' n c' ys ∧ ys.map PWay.strip = xs.map PWay.strip ∧ (a' = none ∨ 1 ≤ n) ∧ TypedW w' a' n ys ∧ Below w.heap.size w w' := by
  have b2 : Below w.heap.size w ((w.alloc (.cells (refCells s p).toArray 71)).alloc (.cells #[.int .i64 0, .slice none 0 0, .int .i64 0] 126)) := ((Below.refl _ _).alloc (Nat.le_refl _) _).alloc (by simp) _
  have h1 : ((w.alloc (.cells (refCells s p).toArray 71)).alloc (.cells #[.int .i64 0, .slice none 0 0, .int .i64 0] 126)).heap[w.heap.size]? = some (.cells (refCells s p).toArray 71 (0, 0)) := by
    rw [heap_alloc_old _ _ (by simp), heap_alloc_new]
  have h2 : ((w.alloc (.cells (refCells s p).toArray 71)).alloc (.cells #[.int .i64 0, .slice none 0 0, .int .i64 0] 126)).heap[w.heap.size + 1]? = some (.cells #[.int .i64 0, .slice none 0 0, .int .i64 0] 126 (0, 0)) := heap_alloc_at _ _ _ (by simp)
  have HV0 := Lib.hid hv
  have HW0 := Lib.hid hw
  have HL0 := Lib.hid hl
  have HK := Lib.hid hk
  have AR := Lib.hid (refSize (z := p) hs)
  clear hv hw hl hk
  go_enter Tryz.func100, Tryz.ntmps100
  go_upto_region 1 with (fail)
  revert b2 h1 h2
  generalize ((w.alloc (.cells (refCells s p).toArray 71)).alloc (.cells #[.int .i64 0, .slice none 0 0, .int .i64 0] 126)) = w2
  obtain ⟨g3, hg3⟩ : ∃ g, g = w.heap.size := ⟨_, rfl⟩
  obtain ⟨g4, hg4⟩ : ∃ g, g = w.heap.size + 1 := ⟨_, rfl⟩
  rw [← hg4, ← hg3]
  intro b2 h1 h2
  have HG4 : Hid (w.heap.size ≤ g4) := Lib.hid (by omega)
  rw [hg3] at b2
  have HB2 := Lib.hid b2
  have HV := Lib.hid (HV0.out.below b2)
  have HW2 := Lib.hid (HW0.out.below b2)
  have HL : Hid (∀ W : World, Below w2.heap.size w2 W → (Instr.lookup 171 (.map mb) (.agg (refCells s p).toArray) true).run Tryz.prog W = .ok (.tuple #[coinV m a n c ht, .bool ok]) W) := Lib.hid (fun W hW => HL0.out W (b2.trans (hW.mono b2.size)))
  have RG : Hid (∀ W : World, Below w2.heap.size w2 W → W.rangeAt g3 0 (refCells s p)) := Lib.hid (fun W hW => range_of ((hW.block _ (lt_of_block h1)).trans h1))
  have H4 := Lib.hid h2
  clear b2 h1 h2 hg3 hg4 HV0 HW0 HL0
  refine wp_region_held_drew (S := fun w' => Below w2.heap.size w2 w') (by kernel_rfl) (below_drew (Below.refl _ _)) (fun hHeld => ?_)
  refine tkP 0 rfl rfl ?_
  refine tkA 2 rfl rfl (yieldsIf_load_mid (by rfl) _ _ rfl g3 0 rfl (refCells s p) _ (fun w0 hSw => RG.out w0 hSw) Tryz.underlying71 rfl AR.out) ?_
  refine wpAnyH_ready (rs := [1, 7]) (by kernel_rfl) (by simp) ?_
  refine AllReadyH.cons rfl (fun K hK => ?_) ?_
  · go_simp
    refine (has_any (HV.out.below hHeld)).mono ?_
    rintro e w7 ⟨rfl, rfl⟩
    dsimp only
    refine hK.out _ _ (by (try dsimp only); exact hHeld) (fun hHeld => ?_)
    clear hK K
    refine tkA 3 rfl rfl (yields_lookup (by rfl) rfl rfl rfl (fun w0 hSw => HL.out w0 hSw)) ?_
    refine tkP 4 rfl rfl ?_
    refine tkP 5 rfl rfl ?_
    refine tkP 6 rfl rfl ?_
    refine tkR 7 rfl (fun K hK => ?_)
    refine step_alloc9 rfl (by rfl) 126 rfl #[.int .i64 0, .slice none 0 0, .int .i64 0] Tryz.zeroCoin ?_
    refine hK.out _ _ (by (try dsimp only); exact hHeld.alloc hHeld.size _) (fun hHeld => ?_)
    clear hK K
    refine tkR 8 rfl (fun K hK => ?_)
    refine step_store_row9 (by rfl) 126 _ _ rfl w2.drew.heap.size #[.int .i64 m, .slice a n c, .int .i64 ht] (by rfl) (by rfl) 126 #[.int .i64 0, .slice none 0 0, .int .i64 0] (heap_alloc_new _ _) (coin_size9 m ht a n c) rfl (coin_one9 m ht a n c) ?_
    refine hK.out _ _ (by (try dsimp only); exact layCoin_below (below_drew (Below.refl w2.heap.size w2)) (Nat.le_refl _) m a n c ht) (fun hHeld => ?_)
    clear hK K
    refine tkP 9 rfl rfl ?_
    refine wpAnyH_done (by kernel_rfl) ?_ _
    rw [layCoin_is]
    have h5 := layCoin_heap w2.drew m a n c ht
    have b5 := layCoin_below (below_drew (Below.refl w2.heap.size w2)) (Nat.le_refl _) m a n c ht
    revert h5 b5
    generalize layCoin w2.drew m a n c ht = w5
    have e8 : w2.drew.heap.size = w2.heap.size := rfl
    rw [e8]
    obtain ⟨g6, hg6⟩ : ∃ g, g = w2.heap.size := ⟨_, rfl⟩
    rw [← hg6]
    intro h5 b5
    rw [hg6] at b5
    have H5 := Lib.hid h5
    have HB5 := Lib.hid b5
    have HC5 := Lib.hid (copied_any (m := m) (ht := ht) (HW2.out.below b5) hn0 hn HK.out)
    have H45 := Lib.hid ((b5.block _ (lt_of_block H4.out)).trans H4.out)
    clear h5 b5 hg6
    try simp only [Act.put]
    go_wp2_with (first
      | (refine wpList_load_row rfl 126 _ rfl g6 rfl 126 #[.int .i64 m, .slice a n c, .int .i64 ht] (0, 0) _ H5.out Tryz.underlying126 rfl (coin_size9 m ht a n c) ?_)
      | (go_at_call 116; refine HC5.out.mono ?_; rintro e w7 ⟨a7, c7, ys, rfl, hw7, hst, hn7, ht7, hb7⟩; have HW7 := Lib.hid hw7; have HS7 := Lib.hid hst; have HN7 := Lib.hid hn7; have HT7 := Lib.hid ht7; have HB7 := Lib.hid hb7; have H47 := Lib.hid ((hb7.block _ (lt_of_block H45.out)).trans H45.out); clear hw7 hst hn7 ht7 hb7 HC5)
      | (refine wpList_store_row rfl 126 _ _ rfl g4 #[.int .i64 m, .slice a7 n c7, .int .i64 ht] rfl rfl 126 #[.int .i64 0, .slice none 0 0, .int .i64 0] H47.out (coin_size9 m ht a7 n c7) rfl (coin_one9 m ht a7 n c7) ?_)
      | fail)
    have h9 := setRow_heap w7 g4 _ #[.int .i64 m, .slice a7 n c7, .int .i64 ht] _ _ H47.out
    obtain ⟨hW9, hT9⟩ := ways_typed9 HW7.out HT7.out (but_setRow w7 g4 #[.int .i64 m, .slice a7 n c7, .int .i64 ht]) (noWays_cells H47.out (by decide) (by decide))
    have hB9 : Below w.heap.size w (w7.setRow g4 #[.int .i64 m, .slice a7 n c7, .int .i64 ht]) := (HB2.out.trans ((HB5.out.trans (HB7.out.mono HB5.out.size)).mono HB2.out.size)).trans ((but_setRow w7 g4 _).below9 HG4.out (Nat.le_trans HB2.out.size (Nat.le_trans HB5.out.size HB7.out.size)))
    exact bodyPost_ret (results_cell_then rfl _ _ g4 126 _ _ _ (.bool ok) rfl rfl h9 Tryz.underlying126 rfl (coin_size9 m ht a7 n c7)) rfl ⟨a7, c7, ys, rfl, hW9, HS7.out, HN7.out, hT9, hB9⟩
  refine AllReadyH.cons rfl (fun K hK => ?_) ?_
  · refine step_alloc9 rfl (by rfl) 126 rfl #[.int .i64 0, .slice none 0 0, .int .i64 0] Tryz.zeroCoin ?_
    refine hK.out _ _ (by (try dsimp only); exact hHeld.alloc hHeld.size _) (fun hHeld => ?_)
    clear hK K
    refine tkR 1 rfl (fun K hK => ?_)
    go_simp
    refine (has_any (HV.out.below hHeld)).mono ?_
    rintro e w7 ⟨rfl, rfl⟩
    dsimp only
    refine hK.out _ _ (by (try dsimp only); exact hHeld) (fun hHeld => ?_)
    clear hK K
    refine tkA 3 rfl rfl (yields_lookup (by rfl) rfl rfl rfl (fun w0 hSw => HL.out w0 hSw)) ?_
    refine tkP 4 rfl rfl ?_
    refine tkP 5 rfl rfl ?_
    refine tkP 6 rfl rfl ?_
    refine tkR 8 rfl (fun K hK => ?_)
    refine step_store_row9 (by rfl) 126 _ _ rfl w2.drew.heap.size #[.int .i64 m, .slice a n c, .int .i64 ht] (by rfl) (by rfl) 126 #[.int .i64 0, .slice none 0 0, .int .i64 0] (heap_alloc_new _ _) (coin_size9 m ht a n c) rfl (coin_one9 m ht a n c) ?_
    refine hK.out _ _ (by (try dsimp only); exact layCoin_below (below_drew (Below.refl w2.heap.size w2)) (Nat.le_refl _) m a n c ht) (fun hHeld => ?_)
    clear hK K
    refine tkP 9 rfl rfl ?_
    refine wpAnyH_done (by kernel_rfl) ?_ _
    rw [layCoin_is]
    have h5 := layCoin_heap w2.drew m a n c ht
    have b5 := layCoin_below (below_drew (Below.refl w2.heap.size w2)) (Nat.le_refl _) m a n c ht
    revert h5 b5
    generalize layCoin w2.drew m a n c ht = w5
    have e8 : w2.drew.heap.size = w2.heap.size := rfl
    rw [e8]
    obtain ⟨g6, hg6⟩ : ∃ g, g = w2.heap.size := ⟨_, rfl⟩
    rw [← hg6]
    intro h5 b5
    rw [hg6] at b5
    have H5 := Lib.hid h5
    have HB5 := Lib.hid b5
    have HC5 := Lib.hid (copied_any (m := m) (ht := ht) (HW2.out.below b5) hn0 hn HK.out)
    have H45 := Lib.hid ((b5.block _ (lt_of_block H4.out)).trans H4.out)
    clear h5 b5 hg6
    try simp only [Act.put]
    go_wp2_with (first
      | (refine wpList_load_row rfl 126 _ rfl g6 rfl 126 #[.int .i64 m, .slice a n c, .int .i64 ht] (0, 0) _ H5.out Tryz.underlying126 rfl (coin_size9 m ht a n c) ?_)
      | (go_at_call 116; refine HC5.out.mono ?_; rintro e w7 ⟨a7, c7, ys, rfl, hw7, hst, hn7, ht7, hb7⟩; have HW7 := Lib.hid hw7; have HS7 := Lib.hid hst; have HN7 := Lib.hid hn7; have HT7 := Lib.hid ht7; have HB7 := Lib.hid hb7; have H47 := Lib.hid ((hb7.block _ (lt_of_block H45.out)).trans H45.out); clear hw7 hst hn7 ht7 hb7 HC5)
      | (refine wpList_store_row rfl 126 _ _ rfl g4 #[.int .i64 m, .slice a7 n c7, .int .i64 ht] rfl rfl 126 #[.int .i64 0, .slice none 0 0, .int .i64 0] H47.out (coin_size9 m ht a7 n c7) rfl (coin_one9 m ht a7 n c7) ?_)
      | fail)
    have h9 := setRow_heap w7 g4 _ #[.int .i64 m, .slice a7 n c7, .int .i64 ht] _ _ H47.out
    obtain ⟨hW9, hT9⟩ := ways_typed9 HW7.out HT7.out (but_setRow w7 g4 #[.int .i64 m, .slice a7 n c7, .int .i64 ht]) (noWays_cells H47.out (by decide) (by decide))
    have hB9 : Below w.heap.size w (w7.setRow g4 #[.int .i64 m, .slice a7 n c7, .int .i64 ht]) := (HB2.out.trans ((HB5.out.trans (HB7.out.mono HB5.out.size)).mono HB2.out.size)).trans ((but_setRow w7 g4 _).below9 HG4.out (Nat.le_trans HB2.out.size (Nat.le_trans HB5.out.size HB7.out.size)))
    exact bodyPost_ret (results_cell_then rfl _ _ g4 126 _ _ _ (.bool ok) rfl rfl h9 Tryz.underlying126 rfl (coin_size9 m ht a7 n c7)) rfl ⟨a7, c7, ys, rfl, hW9, HS7.out, HN7.out, hT9, hB9⟩
  exact AllReadyH.nil
end Go.Proofs.YteddkkcheaghaaaGreatDoor
namespace Go.Proofs.YteddkkcheaghaaaGreatDoor
open Go.RowKit Go.Maps

theorem outOk_few {m : Int} {xs : List PWay} (h : outOk m xs = true) : FewKeys xs ∧ 1 ≤ xs.length ∧ xs.length ≤ 16 := by
  unfold outOk at h
  simp only [Bool.and_eq_true, decide_eq_true_eq, List.all_eq_true] at h
  obtain ⟨_, ⟨h1, h2⟩, h3⟩ := h
  refine ⟨fun x hx => ?_, h1, h2⟩
  have h4 := h3 x hx
  unfold wayOk at h4
  simp only [Bool.and_eq_true, decide_eq_true_eq] at h4
  omega
theorem strip_len {xs ys : List PWay} (h : ys.map PWay.strip = xs.map PWay.strip) : ys.length = xs.length := by
  have h1 := congrArg List.length h
  simpa using h1
theorem look_row {w : World} {pv : Value} {b N : Nat} {rows : List PRow} {r : PRow} (h : ViewAt w pv b N rows) (hr : r ∈ rows) : ∃ a n c ys, LookRun w (some b) r.tx r.place (coinV r.out.m a n c r.height) true ∧ Ways w a n c ys ∧ ys.map PWay.strip = r.out.ws.map PWay.strip ∧ 1 ≤ n ∧ n ≤ 16 ∧ FewKeys ys := by
  obtain ⟨F, h3, _, h5⟩ := h.map
  obtain ⟨v, h6, a, n, c, ys, rfl, h8, _, h10⟩ := h5 r hr
  have ho := h.ok r hr
  obtain ⟨f1, f2, f3⟩ := outOk_few ho.out
  have hl := strip_len h10
  refine ⟨a, n, c, ys, fun W hW => ?_, h8, h10, by rw [← h8.1]; omega, by rw [← h8.1]; omega, fewKeys_strip h10 f1⟩
  exact (h3.below hW).look Tryz.underlying171 (z := .agg #[.int .i64 0, .slice none 0 0, .int .i64 0]) (Tryz.zeroValue126 W) ho.tx ho.place h6
theorem look_no {w : World} {mb : Option Nat} {F : List UInt8 → Int → Option Value} {s : List UInt8} {p : Int} (h : MapOr w mb F) (hs : s.length = 32) (hp : Fits p) (hF : F s p = none) : LookRun w mb s p (coinV 0 none 0 0 0) false := fun W hW => by
  rcases h with ⟨rfl, rfl⟩ | ⟨b, N, m, rfl, hm, _⟩
  · obtain ⟨l, hl⟩ := key_ref hs hp
    have h9 := Maps.look_nil (w := W) true Tryz.keyRef Tryz.underlying171 (Tryz.zeroValue126 W) hl
    exact h9
  · exact (hm.below hW).look_no Tryz.underlying171 (z := .agg #[.int .i64 0, .slice none 0 0, .int .i64 0]) (Tryz.zeroValue126 W) hs hp hF
theorem get_row {w : World} {pv : Value} {b N : Nat} {rows : List PRow} {r : PRow} (h : ViewAt w pv b N rows) (hr : r ∈ rows) :
    Calls Tryz.prog 100 #[pv, .agg (refCells r.tx r.place).toArray] w fun e w' => ∃ v, e = .returned (.tuple #[v, .bool true]) ∧ CoinAt w' r v ∧ Below w.heap.size w w' := by
  obtain ⟨a, n, c, ys, h1, h2, h3, h4, h5, h6⟩ := look_row h hr
  refine (get_any (h.ok r hr).tx h.hasIt h1 h2 (.inr h4) (by omega) h6).mono ?_
  rintro e w' ⟨a', c', zs, rfl, k1, k2, _, k3, k4⟩
  exact ⟨_, rfl, ⟨a', n, c', zs, rfl, k1, k3, k2.trans h3⟩, k4⟩
/-- No row of a view is at a place. -/
def NoRow (rows : List PRow) (s : List UInt8) (p : Int) : Prop := ∀ r ∈ rows, ¬ (r.tx = s ∧ r.place = p)
end Go.Proofs.YteddkkcheaghaaaGreatDoor
namespace Go.Proofs.YteddkkcheaghaaaGreatDoor
open Go.RowKit Go.Maps

theorem step_mapUpdate9 {P : Program} {ops : Array Oper} {o : Oper} {a : Act} {w w' : World} {K : Act → World → Prop} {Q : Exit → Act → World → Prop} {E : Prop} {t : TypeId} {x y z : Operand} {m k v : Value} (hw : Region.wanted o (yielded ops a.tmps) = true) (ho : o.op = .mapUpdate t x y z) (hx : a.eval x = m) (hy : a.eval y = k) (hz : a.eval z = v) (hrun : (Instr.mapUpdate t m k v).run P w = .ok () w')
    (h : K (a.put o.dst undef) w') : if Region.wanted o (yielded ops a.tmps) = true then Oper.wp P o a w K Q else E := by
  rw [if_pos hw]
  unfold Oper.wp execOp
  simp only [ho, hx, hy, hz, Sem.run_bind, hrun, Sem.run_pure, Result.andThen_ok]
  exact h
theorem yields_build2 {P : Program} {ops : Array Oper} {S : World → Prop} {op : Oper} {a : Act} {t : TypeId} {x y : Operand} {u v : Value} {cells : Array Value} (hw : Region.wanted op (yielded ops a.tmps) = true) (ho : op.op = .build t #[(0, x), (1, y)]) (hx : a.eval x = u) (hy : a.eval y = v) (hf : P.built t [(0, u), (1, v)] = some cells) : YieldsIf P ops S op (.agg cells) a :=
  .inl ⟨hw, fun w _ => by
    have h := run_build w t #[(0, u), (1, v)] cells hf
    unfold execOp
    simp only [ho, List.map_toArray, List.map_cons, List.map_nil, hx, hy, Sem.run_bind, h, Result.andThen_ok, Sem.run_pure]⟩
theorem coin_built (m : Int) (a : Option Addr) (n c : Nat) (h : Int) : Tryz.prog.built 126 [(0, .agg #[.int .i64 m, .slice a n c]), (1, .int .i64 h)] = some #[.int .i64 m, .slice a n c, .int .i64 h] := by kernel_rfl
theorem but_grown9 {B b : Nat} {w w' : World} (h : w.grownBy w' (some b)) (hB : B ≤ w.heap.size) : But B b w w' := ⟨h.os, h.tape, h.output, h.size, fun k hk hp => h.block k (by omega) (fun e => hp (Option.some.inj e))⟩
/-- A row put in. -/
theorem view_put {w w7 w9 : World} {pv : Value} {b N : Nat} {rows : List PRow} {r : PRow} {v : Value} {F : List UInt8 → Int → Option Value} (h : ViewAt w pv b N rows) (hN : N + 1 ≤ 100) (hr : RowOk r) (hno : NoRow rows r.tx r.place) (hF : CoinsOf w rows F) (hC : CoinAt w7 r v) (hb : Below w.heap.size w w7)
    (hm : MapRef w9 b (N + 1) (rows.length + 1) (fun t q => if t = r.tx ∧ q = r.place then some v else F t q)) (hg : w7.grownBy w9 (some b)) : ViewAt w9 pv b (N + 1) (insRow r rows) := by
  have h7 := h.below hb
  obtain ⟨es, cl, hmap⟩ := h7.isMap
  have hbut : But w7.heap.size b w7 w9 := but_grown9 hg (Nat.le_refl _)
  obtain ⟨vb, e1, e2⟩ := h7.has
  refine ⟨⟨vb, e1, hbut.heap e2 (lt_of_block e2) (fun e => by rw [e, hmap] at e2; cases e2)⟩, hN, ⟨_, by rw [insRow_len]; exact hm, fun s p hs => ?_, fun x hx => ?_⟩, insRow_rising hr.tx h.rising hno, fun x hx => ?_⟩
  · have h1 := hs r (insRow_mem.2 (.inl rfl))
    rw [if_neg (fun e => h1 ⟨e.1.symm, e.2.symm⟩)]
    exact hF.1 s p (fun x hx => hs x (insRow_mem.2 (.inr hx)))
  · rcases insRow_mem.1 hx with rfl | hx
    · exact ⟨v, if_pos ⟨rfl, rfl⟩, hC.but hbut (noWays_map hmap)⟩
    · obtain ⟨u, h1, h2⟩ := hF.2 x hx
      exact ⟨u, by rw [if_neg (hno x hx)]; exact h1, (h2.below hb).but hbut (noWays_map hmap)⟩
  · rcases insRow_mem.1 hx with rfl | hx
    · exact hr
    · exact h.ok x hx
set_option linter.unusedSimpArgs false in
set_option maxRecDepth 100000 in
set_option maxHeartbeats 12800000 in
/-- It is put in. -/
theorem put_ok {w : World} {pv : Value} {b N : Nat} {rows : List PRow} {s : List UInt8} {p m ht : Int} {a : Option Addr} {n c : Nat} {xs : List PWay} (h : ViewAt w pv b N rows) (hN : N + 1 ≤ 100) (hs : s.length = 32) (hp : Fits p) (hno : NoRow rows s p) (hw : Ways w a n c xs) (hok : outOk m xs = true) (h0 : 0 ≤ ht) (h9 : ht ≤ 1073741824) :
    Calls Tryz.prog 88 #[pv, .agg (refCells s p).toArray, .agg #[.int .i64 m, .slice a n c], .int .i64 ht] w fun e w' => e = .returned (.int .i64 0) ∧ ViewAt w' pv b (N + 1) (insRow ⟨s, p, ⟨m, a, n, c, xs⟩, ht⟩ rows) ∧ But w.heap.size b w w' := by
  obtain ⟨F, hm, hF⟩ := h.map
  have hFn := hF.1 s p hno
  have hmo : MapOr w (some b) F := .inr ⟨b, N, _, rfl, hm, by omega⟩
  have AR := Lib.hid (refSize (s := s) (z := p) hs)
  have AS := Lib.hid (show (Tryz.prog.info? 71).map (·.size) = some (refCells s p).toArray.size by rw [List.size_toArray]; exact AR.out)
  have HL := Lib.hid (look_no hmo hs hp hFn)
  obtain ⟨f1, f2, f3⟩ := outOk_few hok
  have hn := hw.1
  have b2 : Below w.heap.size w ((w.alloc (.cells (refCells s p).toArray 71)).alloc (.cells #[.int .i64 m, .slice a n c] 107)) := ((Below.refl _ _).alloc (Nat.le_refl _) _).alloc (by simp) _
  have h1 : ((w.alloc (.cells (refCells s p).toArray 71)).alloc (.cells #[.int .i64 m, .slice a n c] 107)).heap[w.heap.size]? = some (.cells (refCells s p).toArray 71 (0, 0)) := by
    rw [heap_alloc_old _ _ (by simp), heap_alloc_new]
  have h2 : ((w.alloc (.cells (refCells s p).toArray 71)).alloc (.cells #[.int .i64 m, .slice a n c] 107)).heap[w.heap.size + 1]? = some (.cells #[.int .i64 m, .slice a n c] 107 (0, 0)) := heap_alloc_at _ _ _ (by simp)
  have HV := Lib.hid (h.hasIt.below b2)
  have HH := Lib.hid h
  have HRO : Hid (∀ W : World, Below w.heap.size w W → Calls Tryz.prog 42 #[.agg #[.int .i64 m, .slice a n c]] W fun e w' => e = .returned (.bool true) ∧ Below W.heap.size W w') := Lib.hid (fun W hW => by rw [← hok]; exact lockRightOut_any (hw.below hW))
  have hq := fun w => run_eql_map_nil_sl (P := Tryz.prog) w 171 _ _ (some b) Tryz.underlying171
  have hN6 : N ≤ 1000000 := by have := h.few; omega
  have hl' : ¬ ht < 0 := by omega
  have hh' : ¬ 1073741824 < ht := by omega
  have HM0 := Lib.hid hm
  have HNO := Lib.hid hFn
  have HS := Lib.hid hs
  have HP := Lib.hid hp
  have HCP : Hid (∀ W : World, Below w.heap.size w W → Calls Tryz.prog 116 #[coinV m a n c ht] W fun e w' => ∃ v, e = .returned v ∧ CoinAt w' ⟨s, p, ⟨m, a, n, c, xs⟩, ht⟩ v ∧ Below W.heap.size W w') := Lib.hid (fun W hW => by
    refine (copied_any (m := m) (ht := ht) (hw.below hW) (.inr (by omega)) (by omega) f1).mono ?_
    rintro e w' ⟨a', c', ys, rfl, k1, k2, _, k3, k4⟩
    exact ⟨_, rfl, ⟨a', n, c', ys, rfl, k1, k3, k2⟩, k4⟩)
  have HFN : Hid (∀ (w7 w9 : World) (v : Value), CoinAt w7 ⟨s, p, ⟨m, a, n, c, xs⟩, ht⟩ v → Below w.heap.size w w7 → MapRef w9 b (N + 1) (rows.length + 1) (fun t q => if t = s ∧ q = p then some v else F t q) → w7.grownBy w9 (some b) → ViewAt w9 pv b (N + 1) (insRow ⟨s, p, ⟨m, a, n, c, xs⟩, ht⟩ rows)) := Lib.hid (fun w7 w9 v k1 k2 k3 k4 => view_put h hN ⟨hs, hp, hok, h0, h9⟩ hno hF k1 k2 k3 k4)
  clear h hw hok hs hp hno hm hF hFn hmo hn f1 f2 f3
  generalize insRow ⟨s, p, ⟨m, a, n, c, xs⟩, ht⟩ rows = rows' at HFN ⊢
  go_enter Tryz.func88, Tryz.ntmps88
  go_upto_region 1 with (fail)
  revert HV
  revert b2 h1 h2
  generalize ((w.alloc (.cells (refCells s p).toArray 71)).alloc (.cells #[.int .i64 m, .slice a n c] 107)) = w2
  obtain ⟨g5, hg5⟩ : ∃ g, g = w.heap.size := ⟨_, rfl⟩
  obtain ⟨g6, hg6⟩ : ∃ g, g = w.heap.size + 1 := ⟨_, rfl⟩
  rw [← hg6, ← hg5]
  intro b2 h1 h2
  rw [hg5] at b2
  intro HV
  have HB2 := Lib.hid b2
  have H1 := Lib.hid h1
  have H2 := Lib.hid h2
  have c60 := cell_of_row w2 g6 0 _ _ _ h2
  have c61 := cell_of_row w2 g6 1 _ _ _ h2
  clear b2 h1 h2 hg5 hg6
  go_upto_region 2 with (first | (go_at_call 126; refine (has_any HV.out).mono ?_; rintro e w9 ⟨rfl, rfl⟩) | fail)
  go_upto_region 4 with (first | (go_at_call 42; refine (HRO.out _ HB2.out).mono ?_; rintro e w3 ⟨rfl, hb3⟩; have HB3 := Lib.hid (HB2.out.trans (hb3.mono HB2.out.size)); have HB23 := Lib.hid hb3; clear hb3) | fail)
  have hlk := HL.out w3 HB3.out
  have H13 := Lib.hid ((HB23.out.block _ (lt_of_block H1.out)).trans H1.out)
  have H23 := Lib.hid ((HB23.out.block _ (lt_of_block H2.out)).trans H2.out)
  unfold coinV at hlk
  clear c60 c61
  go_upto_region 5 with (first | (refine wpList_load_row rfl 71 _ rfl g5 rfl 71 (refCells s p).toArray (0, 0) _ H13.out Tryz.underlying71 rfl AS.out ?_) | (refine wpList_store_row rfl 126 _ _ rfl w3.heap.size #[.int .i64 0, .slice none 0 0, .int .i64 0] rfl rfl 126 #[.int .i64 0, .slice none 0 0, .int .i64 0] (heap_alloc_new _ _) (coin_size9 0 0 none 0 0) rfl (coin_one9 0 0 none 0 0) ?_) | fail)
  rw [layCoin_is]
  have b5 := layCoin_below HB3.out HB3.out.size 0 none 0 0 0
  have b35 := layCoin_below (Below.refl w3.heap.size w3) (Nat.le_refl _) 0 none 0 0 0
  revert b5 b35
  generalize layCoin w3 0 none 0 0 0 = w4
  intro b5 b35
  have HB5 := Lib.hid b5
  have RG0 := (b35.block _ (lt_of_block H13.out)).trans H13.out
  have RO0 := (b35.block _ (lt_of_block H23.out)).trans H23.out
  have HM := Lib.hid (HM0.out.below b5)
  obtain ⟨es, cl, hmap⟩ := HM.out.isMap
  have n5 : g5 ≠ b := fun e => by rw [e, hmap] at RG0; cases RG0
  have n6 : g6 ≠ b := fun e => by rw [e, hmap] at RO0; cases RO0
  have RG : Hid (∀ W : World, But w4.heap.size b w4 W → W.rangeAt g5 0 (refCells s p)) := Lib.hid (fun W hW => range_of (hW.heap RG0 (lt_of_block RG0) n5))
  have RO : Hid (∀ W : World, But w4.heap.size b w4 W → W.rangeAt g6 0 [Value.int .i64 m, .slice a n c]) := Lib.hid (fun W hW => range_of (cs := [Value.int .i64 m, .slice a n c]) (hW.heap RO0 (lt_of_block RO0) n6))
  have HC : Hid (∀ W : World, Below w4.heap.size w4 W → Calls Tryz.prog 116 #[coinV m a n c ht] W fun e w' => ∃ v, e = .returned v ∧ CoinAt w' ⟨s, p, ⟨m, a, n, c, xs⟩, ht⟩ v ∧ Below W.heap.size W w') := Lib.hid (fun W hW => HCP.out W (HB5.out.trans (hW.mono HB5.out.size)))
  have HFIN : Hid (∀ (w7 w9 : World) (v : Value), CoinAt w7 ⟨s, p, ⟨m, a, n, c, xs⟩, ht⟩ v → Below w4.heap.size w4 w7 → MapRef w9 b (N + 1) (rows.length + 1) (fun t q => if t = s ∧ q = p then some v else F t q) → w7.grownBy w9 (some b) → ViewAt w9 pv b (N + 1) rows' ∧ But w.heap.size b w w9) := Lib.hid (fun w7 w9 v k1 k2 k3 k4 => by
    have k5 := HB5.out.trans (k2.mono HB5.out.size)
    exact ⟨HFN.out w7 w9 v k1 k5 k3 k4, (But.of k5).trans (but_grown9 k4 k5.size)⟩)
  clear b5 b35 hlk RG0 RO0 hmap n5 n6 HL HM0 HCP HFN HRO HB2 HB3 HB23 H13 H23 H1 H2
  try simp only [Act.put]
  go_upto_region 7 with (fail)
  refine wp_region_held_drew (S := fun w' => But w4.heap.size b w4 w') (by kernel_rfl) ((But.refl _ _ _).drew) (fun hHeld => ?_)
  refine tkP 0 rfl rfl ?_
  refine tkA 1 rfl rfl (yieldsIf_load_mid (by rfl) _ _ rfl g5 0 rfl (refCells s p) _ (fun w0 hSw => RG.out w0 hSw) Tryz.underlying71 rfl AR.out) ?_
  refine tkA 2 rfl rfl (yieldsIf_load_mid (by rfl) _ _ rfl g6 0 rfl [Value.int .i64 m, .slice a n c] _ (fun w0 hSw => RO.out w0 hSw) Tryz.underlying107 rfl (by kernel_rfl)) ?_
  refine tkP 3 rfl rfl ?_
  refine tkA 4 rfl rfl (yields_build2 (by rfl) rfl (u := .agg #[.int .i64 m, .slice a n c]) (v := .int .i64 ht) rfl rfl (coin_built m a n c ht)) ?_
  refine tkR 5 rfl (fun K hK => ?_)
  go_simp
  refine (HC.out _ (below_drew (Below.refl _ _))).mono ?_
  rintro e w7 ⟨v7, rfl, hC7, hb7⟩
  dsimp only
  have HC7 := Lib.hid hC7
  have HB7 : Hid (Below w4.heap.size w4 w7) := Lib.hid ((below_drew (Below.refl _ _)).trans hb7)
  clear hC7 hb7
  refine hK.out _ _ (by (try dsimp only); exact But.of HB7.out) (fun hHeld => ?_)
  clear hK K
  refine tkR 6 rfl (fun K hK => ?_)
  obtain ⟨w9, hrun9, hm9, hg9⟩ := (HM.out.below HB7.out).put Tryz.underlying171 hN6 HS.out HP.out HNO.out v7
  refine step_mapUpdate9 (by rfl) rfl (by rfl) (by rfl) (by rfl) hrun9 ?_
  have HM9 := Lib.hid hm9
  have HG9 := Lib.hid hg9
  clear hrun9 hm9 hg9
  refine hK.out _ _ (by (try dsimp only); exact (But.of HB7.out).trans (but_grown9 HG9.out HB7.out.size)) (fun hHeld => ?_)
  clear hK K
  refine wpAnyH_done (by kernel_rfl) ?_ _
  go_wp2_with fail
  go_ret
  exact ⟨rfl, HFIN.out _ _ _ HC7.out HB7.out HM9.out HG9.out⟩
end Go.Proofs.YteddkkcheaghaaaGreatDoor
namespace Go.Proofs.YteddkkcheaghaaaGreatDoor
open Go.RowKit Go.Maps

theorem step_delete9 {P : Program} {ops : Array Oper} {o : Oper} {a : Act} {w w' : World} {K : Act → World → Prop} {Q : Exit → Act → World → Prop} {E : Prop} {t u ty : TypeId} {x y : Operand} {m k : Value} (hw : Region.wanted o (yielded ops a.tmps) = true) (ho : o.op = .call { callee := .builtin .delete, args := #[x, y], argTypes := #[t, u] }) (hty : o.type = ty) (hx : a.eval x = m) (hy : a.eval y = k)
    (hrun : (Builtin.delete_ #[t, u] ty #[m, k]).run P w = .ok (.tuple #[]) w') (h : K (a.put o.dst (.tuple #[])) w') : if Region.wanted o (yielded ops a.tmps) = true then Oper.wp P o a w K Q else E := by
  rw [if_pos hw]
  unfold Oper.wp execOp
  simp only [ho, hty, resolve, invoke, builtin, Sem.run_bind, Sem.run_pure, Result.andThen_ok, List.map_toArray, List.map_cons, List.map_nil, hx, hy, hrun]
  exact h
/-- Rows of unlike places. -/
theorem rising_apart {xs : List PRow} (h : Rising xs) {i j : Nat} (hi : i < xs.length) (hj : j < xs.length) (hne : i ≠ j) : ¬ (xs[i].tx = xs[j].tx ∧ xs[i].place = xs[j].place) := fun e => by
  rcases Nat.lt_or_gt_of_ne hne with h1 | h1
  · have h2 := List.pairwise_iff_getElem.1 h.1 i j hi hj h1
    unfold rowLess at h2
    rw [e.1, e.2, refLess_irrefl] at h2
    cases h2
  · have h2 := List.pairwise_iff_getElem.1 h.1 j i hj hi h1
    unfold rowLess at h2
    rw [e.1, e.2, refLess_irrefl] at h2
    cases h2
theorem view_drop {w w7 w9 : World} {pv : Value} {b N k : Nat} {rows : List PRow} {F : List UInt8 → Int → Option Value} (h : ViewAt w pv b N rows) (hk : k < rows.length) (hF : CoinsOf w rows F) (hb : Below w.heap.size w w7)
    (hm : MapRef w9 b N (rows.length - 1) (fun t q => if t = rows[k].tx ∧ q = rows[k].place then none else F t q)) (hg : w7.grownBy w9 (some b)) : ViewAt w9 pv b N (rows.eraseIdx k) := by
  have h7 := h.below hb
  obtain ⟨es, cl, hmap⟩ := h7.isMap
  have hbut : But w7.heap.size b w7 w9 := but_grown9 hg (Nat.le_refl _)
  obtain ⟨vb, e1, e2⟩ := h7.has
  refine ⟨⟨vb, e1, hbut.heap e2 (lt_of_block e2) (fun e => by rw [e, hmap] at e2; cases e2)⟩, h.few, ⟨_, by rw [List.length_eraseIdx, if_pos hk]; exact hm, fun s p hs => ?_, fun x hx => ?_⟩, rising_erase h.rising k, fun x hx => h.ok x ((List.eraseIdx_sublist rows k).subset hx)⟩
  · by_cases e : s = rows[k].tx ∧ p = rows[k].place
    · rw [if_pos e]
    · rw [if_neg e]
      refine hF.1 s p (fun x hx e3 => ?_)
      obtain ⟨i, hi, rfl⟩ := List.getElem_of_mem hx
      have hik : i ≠ k := fun e4 => by subst e4; exact e ⟨e3.1.symm, e3.2.symm⟩
      exact hs rows[i] (List.mem_eraseIdx_iff_getElem.2 ⟨i, hi, hik, rfl⟩) e3
  · obtain ⟨i, hi, hik, rfl⟩ := List.mem_eraseIdx_iff_getElem.1 hx
    obtain ⟨u, h1, h2⟩ := hF.2 rows[i] (List.getElem_mem hi)
    exact ⟨u, by rw [if_neg (rising_apart h.rising hi hk hik)]; exact h1, (h2.below hb).but hbut (noWays_map hmap)⟩
set_option linter.unusedSimpArgs false in
set_option maxRecDepth 100000 in
set_option maxHeartbeats 12800000 in
theorem take_row {w : World} {pv : Value} {b N k : Nat} {rows : List PRow} (h : ViewAt w pv b N rows) (hk : k < rows.length) :
    Calls Tryz.prog 55 #[pv, .agg (refCells rows[k].tx rows[k].place).toArray] w fun e w' => ∃ v, e = .returned (.tuple #[v, .int .i64 0]) ∧ CoinAt w' rows[k] v ∧ ViewAt w' pv b N (rows.eraseIdx k) ∧ But w.heap.size b w w' := by
  have hr := h.ok rows[k] (List.getElem_mem hk)
  obtain ⟨F, hm, hF⟩ := h.map
  obtain ⟨u, hFu, hcu⟩ := hF.2 rows[k] (List.getElem_mem hk)
  have hs := hr.tx
  have hp := hr.place
  obtain ⟨vb, hpv, hvb⟩ := h.has
  have HGET : Hid (∀ W : World, Below w.heap.size w W → Calls Tryz.prog 100 #[pv, .agg (refCells rows[k].tx rows[k].place).toArray] W fun e w' => ∃ v, e = .returned (.tuple #[v, .bool true]) ∧ CoinAt w' rows[k] v ∧ Below W.heap.size W w') := Lib.hid (fun W hW => get_row (h.below hW) (List.getElem_mem hk))
  have HDROP : Hid (∀ w7 w9 : World, Below w.heap.size w w7 → MapRef w9 b N (rows.length - 1) (fun t q => if t = rows[k].tx ∧ q = rows[k].place then none else F t q) → w7.grownBy w9 (some b) → ViewAt w9 pv b N (rows.eraseIdx k)) := Lib.hid (fun w7 w9 h1 h2 h3 => view_drop h hk hF h1 h2 h3)
  clear hcu
  generalize rows.eraseIdx k = rows' at HDROP ⊢
  generalize rows[k] = x at HGET HDROP hs hp hFu ⊢
  have HM0 := Lib.hid hm
  have HVB0 := Lib.hid hvb
  obtain ⟨s, hsx⟩ : ∃ s, s = x.tx := ⟨_, rfl⟩
  obtain ⟨p, hpx⟩ : ∃ p, p = x.place := ⟨_, rfl⟩
  rw [← hsx, ← hpx] at HGET HDROP hFu
  rw [← hsx] at hs
  rw [← hpx] at hp
  rw [← hsx, ← hpx]
  obtain ⟨len, hlen⟩ : ∃ l, l = rows.length := ⟨_, rfl⟩
  rw [← hlen] at HM0 HDROP
  subst hpv
  have HS := Lib.hid hs
  have HP := Lib.hid hp
  have HFV := Lib.hid hFu
  have b2 : Below w.heap.size w ((w.alloc (.cells (refCells s p).toArray 71)).alloc (.cells #[.int .i64 0, .slice none 0 0, .int .i64 0] 126)) := ((Below.refl _ _).alloc (Nat.le_refl _) _).alloc (by simp) _
  have h1 : ((w.alloc (.cells (refCells s p).toArray 71)).alloc (.cells #[.int .i64 0, .slice none 0 0, .int .i64 0] 126)).heap[w.heap.size]? = some (.cells (refCells s p).toArray 71 (0, 0)) := by
    rw [heap_alloc_old _ _ (by simp), heap_alloc_new]
  have h2 : ((w.alloc (.cells (refCells s p).toArray 71)).alloc (.cells #[.int .i64 0, .slice none 0 0, .int .i64 0] 126)).heap[w.heap.size + 1]? = some (.cells #[.int .i64 0, .slice none 0 0, .int .i64 0] 126 (0, 0)) := heap_alloc_at _ _ _ (by simp)
  have AR := Lib.hid (refSize (s := s) (z := p) hs)
  have AS := Lib.hid (show (Tryz.prog.info? 71).map (·.size) = some (refCells s p).toArray.size by rw [List.size_toArray]; exact AR.out)
  clear h hm hF hFu hvb hr hs hp hk hsx hpx hlen
  go_enter Tryz.func55, Tryz.ntmps55
  go_upto_region 1 with (fail)
  revert b2 h1 h2
  generalize ((w.alloc (.cells (refCells s p).toArray 71)).alloc (.cells #[.int .i64 0, .slice none 0 0, .int .i64 0] 126)) = w2
  obtain ⟨g3, hg3⟩ : ∃ g, g = w.heap.size := ⟨_, rfl⟩
  obtain ⟨g4, hg4⟩ : ∃ g, g = w.heap.size + 1 := ⟨_, rfl⟩
  rw [← hg4, ← hg3]
  intro b2 h1 h2
  rw [hg3] at b2
  have HB2 := Lib.hid b2
  have H1 := Lib.hid h1
  have H2 := Lib.hid h2
  have HG4 : Hid (w.heap.size ≤ g4) := Lib.hid (by omega)
  clear b2 h1 h2 hg3 hg4
  go_upto_region 2 with (first
    | (refine wpList_load_row rfl 71 _ rfl g3 rfl 71 (refCells s p).toArray (0, 0) _ H1.out Tryz.underlying71 rfl AS.out ?_)
    | (go_at_call 100; refine (HGET.out _ HB2.out).mono ?_; rintro e w3 ⟨v3, rfl, ⟨a, n, c, ys, rfl, hw3, ht3, hst3⟩, hb3⟩; have HB3 := Lib.hid hb3; have HW3 := Lib.hid hw3; have HT3 := Lib.hid ht3; have HST := Lib.hid hst3; obtain ⟨m, hm9⟩ : ∃ m, m = x.out.m := ⟨_, rfl⟩; obtain ⟨ht, hh9⟩ : ∃ h, h = x.height := ⟨_, rfl⟩; rw [← hm9, ← hh9]; unfold coinV; have HMM := Lib.hid hm9; have HHH := Lib.hid hh9; clear hb3 hw3 ht3 hst3 HGET hm9 hh9)
    | (refine wpList_store_row rfl 126 _ _ rfl w3.heap.size #[.int .i64 m, .slice a n c, .int .i64 ht] rfl rfl 126 #[.int .i64 0, .slice none 0 0, .int .i64 0] (heap_alloc_new _ _) (coin_size9 m ht a n c) rfl (coin_one9 m ht a n c) ?_)
    | fail)
  rw [layCoin_is]
  have b5 := layCoin_below (Below.refl w3.heap.size w3) (Nat.le_refl _) m a n c ht
  have h6 := layCoin_heap w3 m a n c ht
  revert b5 h6
  generalize layCoin w3 m a n c ht = w5
  obtain ⟨g6, hg6⟩ : ∃ g, g = w3.heap.size := ⟨_, rfl⟩
  rw [← hg6]
  intro b5 h6
  rw [hg6] at b5
  have HB35 := Lib.hid (HB3.out.trans (b5.mono HB3.out.size))
  have HB5 := Lib.hid (HB2.out.trans (HB35.out.mono HB2.out.size))
  have H6 := Lib.hid h6
  have H3 := Lib.hid ((HB35.out.block _ (lt_of_block H1.out)).trans H1.out)
  have H4 := Lib.hid ((HB35.out.block _ (lt_of_block H2.out)).trans H2.out)
  have HM := Lib.hid (HM0.out.below HB5.out)
  have HVB := Lib.hid ((HB5.out.block _ (lt_of_block HVB0.out)).trans HVB0.out)
  have HW5 := Lib.hid (HW3.out.below b5)
  have HT5 := Lib.hid (HT3.out.below b5)
  obtain ⟨es, cl, hmap⟩ := HM.out.isMap
  have N3 : Hid (g3 ≠ b) := Lib.hid (fun e => by have h8 := H3.out; rw [e, hmap] at h8; cases h8)
  have N4 : Hid (g4 ≠ b) := Lib.hid (fun e => by have h8 := H4.out; rw [e, hmap] at h8; cases h8)
  have N6 : Hid (g6 ≠ b) := Lib.hid (fun e => by have h8 := H6.out; rw [e, hmap] at h8; cases h8)
  have NV : vb ≠ b := fun e => by have h8 := HVB.out; rw [e, hmap] at h8; cases h8
  have RG : Hid (∀ W : World, But w5.heap.size b w5 W → W.rangeAt g3 0 (refCells s p)) := Lib.hid (fun W hW => range_of (hW.heap H3.out (lt_of_block H3.out) N3.out))
  have CV : Hid (∀ W : World, But w5.heap.size b w5 W → W.cell? ⟨vb, 0, none⟩ = some (.map (some b))) := Lib.hid (fun W hW => cell_of_row _ _ _ _ _ _ (hW.heap HVB.out (lt_of_block HVB.out) NV))
  have HFIN : Hid (∀ w9 : World, MapRef w9 b N (len - 1) (fun t q => if t = s ∧ q = p then none else F t q) → w5.grownBy w9 (some b) → ∀ g : Nat, w9.heap[g]? = some (.cells #[.int .i64 0, .slice none 0 0, .int .i64 0] 126 (0, 0)) → ∀ cs : Array Value, w.heap.size ≤ g → CoinAt (w9.setRow g cs) x (.agg #[.int .i64 m, .slice a n c, .int .i64 ht]) ∧ ViewAt (w9.setRow g cs) (.pointer (some ⟨vb, 0, none⟩)) b N rows' ∧ But w.heap.size b w (w9.setRow g cs)) := Lib.hid (fun w9 h1 h2 g hg cs hgw => by
    have k1 := HDROP.out w5 w9 HB5.out h1 h2
    have k2 : But w5.heap.size b w5 w9 := but_grown9 h2 (Nat.le_refl _)
    obtain ⟨k3, k4⟩ := ways_typed9 HW5.out HT5.out k2 (noWays_map hmap)
    have nw : NoWays w9 g := noWays_cells hg (by decide) (by decide)
    obtain ⟨k5, k6⟩ := ways_typed9 k3 k4 (but_setRow w9 g cs) nw
    obtain ⟨es9, cl9, hmap9⟩ := k1.isMap
    refine ⟨⟨a, n, c, ys, by rw [HMM.out, HHH.out]; rfl, k5, k6, HST.out⟩, k1.but (but_setRow w9 g cs) nw (fun cs2 fr e => by rw [hg] at e; cases e) (fun e => by rw [e, hg] at hmap9; cases hmap9), ?_⟩
    have k7 : But w.heap.size b w w9 := (But.of HB5.out).trans (k2.mono HB5.out.size)
    have k8 := but_setRow w9 g cs
    exact ⟨k8.os.trans k7.os, k8.tape.trans k7.tape, k8.output.trans k7.output, Nat.le_trans k7.size k8.size, fun k hk hkb => (k8.block k (Nat.lt_of_lt_of_le hk k7.size) (by omega)).trans (k7.block k hk hkb)⟩)
  clear b5 h6 hg6 hmap NV HB2 HB3 HW3 HT3 HM0 HVB0 HVB HDROP H1 H2 HW5 HT5 HST HMM HHH
  try simp only [Act.put]
  go_upto_region 4 with (fail)
  refine wp_region_held_drew (S := fun w' => But w5.heap.size b w5 w') (by kernel_rfl) ((But.refl _ _ _).drew) (fun hHeld => ?_)
  refine tkP 0 rfl rfl ?_
  refine tkP 1 rfl rfl ?_
  refine tkP 2 rfl rfl ?_
  refine tkA 3 rfl rfl (yields_cell (b := vb) (o := 0) (by rfl) rfl rfl (fun w0 hSw => CV.out w0 hSw) (fun w0 => Tryz.isAgg171 w0)) ?_
  refine tkA 4 rfl rfl (yieldsIf_load_mid (by rfl) _ _ rfl g3 0 rfl (refCells s p) _ (fun w0 hSw => RG.out w0 hSw) Tryz.underlying71 rfl AR.out) ?_
  refine tkR 5 rfl (fun K hK => ?_)
  obtain ⟨w9, hrun9, hm9, hg9⟩ := (HM.out.below (below_drew (Below.refl _ _))).drop Tryz.underlying171 HS.out HP.out HFV.out 0
  refine step_delete9 (by rfl) rfl rfl (by rfl) (by rfl) hrun9 ?_
  have HM9 := Lib.hid hm9
  have HG9 : Hid (w5.grownBy w9 (some b)) := Lib.hid ⟨hg9.os, hg9.tape, hg9.output, hg9.size, hg9.block⟩
  have H69 : Hid (w9.heap[g6]? = some (.cells #[.int .i64 m, .slice a n c, .int .i64 ht] 126 (0, 0))) := Lib.hid ((hg9.block g6 (lt_of_block H6.out) (fun e => N6.out (Option.some.inj e))).trans H6.out)
  have H49 : Hid (w9.heap[g4]? = some (.cells #[.int .i64 0, .slice none 0 0, .int .i64 0] 126 (0, 0))) := Lib.hid ((hg9.block g4 (lt_of_block H4.out) (fun e => N4.out (Option.some.inj e))).trans H4.out)
  clear hrun9 hm9 hg9
  refine hK.out _ _ (by (try dsimp only); exact but_grown9 HG9.out (Nat.le_refl _)) (fun hHeld => ?_)
  clear hK K
  refine wpAnyH_done (by kernel_rfl) ?_ _
  try simp only [Act.put]
  go_wp2_with (first
    | (refine wpList_load_row rfl 126 _ rfl g6 rfl 126 #[.int .i64 m, .slice a n c, .int .i64 ht] (0, 0) _ H69.out Tryz.underlying126 rfl (coin_size9 m ht a n c) ?_)
    | (refine wpList_store_row rfl 126 _ _ rfl g4 #[.int .i64 m, .slice a n c, .int .i64 ht] rfl rfl 126 #[.int .i64 0, .slice none 0 0, .int .i64 0] H49.out (coin_size9 m ht a n c) rfl (coin_one9 m ht a n c) ?_)
    | fail)
  have h9 := setRow_heap w9 g4 _ #[.int .i64 m, .slice a n c, .int .i64 ht] _ _ H49.out
  obtain ⟨hA, hB, hC⟩ := HFIN.out w9 HM9.out HG9.out g4 H49.out #[.int .i64 m, .slice a n c, .int .i64 ht] HG4.out
  exact bodyPost_ret (results_cell_then rfl _ _ g4 126 _ _ _ (.int .i64 0) rfl rfl h9 Tryz.underlying126 rfl (coin_size9 m ht a n c)) rfl ⟨_, rfl, hA, hB, hC⟩
end Go.Proofs.YteddkkcheaghaaaGreatDoor
namespace Go.Proofs.YteddkkcheaghaaaGreatDoor
open Go.RowKit Go.Maps

theorem fill_two (cs ds : List Value) (Z : Array Value) (hZ : Z.size = cs.length + ds.length) : Instr.fill ((#[(0, cs.length), (cs.length, ds.length)] : Array (Nat × Nat))[·]?) Z [(0, .agg cs.toArray), (1, .agg ds.toArray)] = some (cs ++ ds).toArray := by
  obtain ⟨f1, f2⟩ := Great.foldl_set 0 cs 0 Z
  have e0 : cs.toArray.zipIdx.foldl (fun cs (x : Value × Nat) => cs.setIfInBounds (0 + x.2) x.1) Z = ((cs.zipIdx 0).foldl (fun cs (x : Value × Nat) => cs.setIfInBounds (0 + x.2) x.1) Z) := by
    rw [← Array.foldl_toList, Array.toList_zipIdx]
  obtain ⟨I, hI⟩ : ∃ I, I = ((cs.zipIdx 0).foldl (fun cs (x : Value × Nat) => cs.setIfInBounds (0 + x.2) x.1) Z) := ⟨_, rfl⟩
  rw [← hI] at f1 f2 e0
  obtain ⟨g1, g2⟩ := Great.foldl_set cs.length ds 0 I
  have e1 : ds.toArray.zipIdx.foldl (fun ys9 (x : Value × Nat) => ys9.setIfInBounds (cs.length + x.2) x.1) I = ((ds.zipIdx 0).foldl (fun ys9 (x : Value × Nat) => ys9.setIfInBounds (cs.length + x.2) x.1) I) := by
    rw [← Array.foldl_toList, Array.toList_zipIdx]
  obtain ⟨M, hM⟩ : ∃ M, M = ((ds.zipIdx 0).foldl (fun ys9 (x : Value × Nat) => ys9.setIfInBounds (cs.length + x.2) x.1) I) := ⟨_, rfl⟩
  rw [← hM] at g1 g2 e1
  unfold Instr.fill
  simp only [show (#[(0, cs.length), (cs.length, ds.length)] : Array (Nat × Nat))[0]? = some (0, cs.length) from rfl]
  rw [if_neg (by simp [Value.cells]; omega)]
  rw [show (Value.agg cs.toArray).cells = cs.toArray from rfl, e0]
  unfold Instr.fill
  simp only [show (#[(0, cs.length), (cs.length, ds.length)] : Array (Nat × Nat))[1]? = some (cs.length, ds.length) from rfl]
  rw [if_neg (by simp [Value.cells]; omega)]
  rw [show (Value.agg ds.toArray).cells = ds.toArray from rfl, e1]
  unfold Instr.fill
  congr 1
  apply Array.ext_getElem?
  intro k
  have e9 : (cs ++ ds).toArray[k]? = if k < cs.length then cs[k]? else ds[k - cs.length]? := by rw [List.getElem?_toArray, List.getElem?_append]
  rw [g2 k, e9]
  by_cases h1 : k < cs.length
  · rw [if_neg (by omega), f2 k, if_pos (by omega), if_pos h1]
    rfl
  · rw [if_neg h1]
    by_cases h2 : k < cs.length + ds.length
    · rw [if_pos (by omega)]
      rfl
    · rw [if_neg (by omega), f2 k, if_neg (by omega), Array.getElem?_eq_none (by omega), List.getElem?_eq_none (by omega)]
theorem Tryz.rowFields : ∃ fs, Tryz.prog.underlying 132 = some (.struct fs) ∧ ∀ w : World, ((fs.mapM fun (f : Field) => do pure (f.offset, ← sizeOf f.type)) : Sem (Array (Nat × Nat))).run Tryz.prog w = .ok #[(0, 33), (33, 3)] w := by
  exact ⟨_, Tryz.underlying132, fun w => by kernel_rfl⟩
theorem Tryz.zeroRow9 : (Tryz.prog.info? 132).map (fun i => (i.zero, i.size, i.bytes)) = some (some (.agg noRow.cells.toArray), 36, 80) := by kernel_rfl
theorem run_build_row {s : List UInt8} {p : Int} (hs : s.length = 32) (m : Int) (a : Option Addr) (n c : Nat) (h : Int) (xs : List PWay) (w : World) : (Instr.build 132 #[(0, .agg (refCells s p).toArray), (1, coinV m a n c h)]).run Tryz.prog w = .ok (.agg (PRow.cells ⟨s, p, ⟨m, a, n, c, xs⟩, h⟩).toArray) w := by
  obtain ⟨ie, h1, h2, _, _⟩ := info_parts Tryz.zeroRow9
  obtain ⟨fs, hu, hm⟩ := Tryz.rowFields
  have hf := fill_two (refCells s p) [.int .i64 m, .slice a n c, .int .i64 h] noRow.cells.toArray (by rw [refCells_len hs]; rfl)
  rw [refCells_len hs] at hf
  have hz : (zeroValue 132).run Tryz.prog w = .ok (.agg noRow.cells.toArray) w := by simp [zeroValue, typeInfo, h1, h2]
  unfold Instr.build
  simp only [Sem.run_bind, hz, Result.andThen_ok, run_underlying hu, hm w]
  rw [show (Value.agg noRow.cells.toArray).cells = noRow.cells.toArray from rfl]
  have hf' : Instr.fill ((#[(0, 33), (33, 3)] : Array (Nat × Nat))[·]?) noRow.cells.toArray [(0, .agg (refCells s p).toArray), (1, coinV m a n c h)] = some (PRow.cells ⟨s, p, ⟨m, a, n, c, xs⟩, h⟩).toArray := by
    have e : PRow.cells ⟨s, p, ⟨m, a, n, c, xs⟩, h⟩ = refCells s p ++ [.int .i64 m, .slice a n c, .int .i64 h] := by simp [PRow.cells, refCells, POut.cells]
    rw [e]
    exact hf
  simp only [hf']
  rfl
def Tryz.rowAt9 : SortAt Tryz.prog rowK 129 132 := ⟨80, by omega, by show 36 ≤ 100000; omega, .agg noRow.cells.toArray, Tryz.underlying129, Tryz.zeroRow9, by kernel_rfl⟩
/-- What a row says, without where it lies. -/
def PRow.strip (r : PRow) : PRow := ⟨r.tx, r.place, ⟨r.out.m, none, 0, 0, r.out.ws.map PWay.strip⟩, r.height⟩
/-- A row that lies typed. -/
def TypedRow (w : World) (r : PRow) : Prop := RowIn w r ∧ TypedW w r.out.a r.out.n r.out.ws
theorem TypedRow.below {w w' : World} {r : PRow} (h : TypedRow w r) (hb : Below w.heap.size w w') : TypedRow w' r := ⟨h.1.below hb, h.2.below hb⟩
theorem TypedRow.but {w w' : World} {r : PRow} {p : Nat} (h : TypedRow w r) (hb : But w.heap.size p w w') (hp : NoWays w p) : TypedRow w' r := by
  obtain ⟨h1, h2⟩ := ways_typed9 h.1.out.ws h.2 hb hp
  exact ⟨⟨h.1.tx, h.1.place, ⟨h.1.out.m, h1⟩, h.1.height⟩, h2⟩
theorem TypedRow.grown {w w' : World} {r : PRow} {B : Nat} {v : Value} {rs : List PRow} (h : TypedRow w r) (ho : OwnOf rowK 132 w B v rs) (hg : w.grownBy w' v.ownBlock) : TypedRow w' r := by
  rcases ho.step hg with hb | ⟨g, cs, _, _, hh, hb⟩
  · exact h.below hb
  · exact h.but hb (noWays_cells hh (by decide) (by decide))
/-- The places of a view's rows, in order. -/
theorem places_rows {w : World} {rows : List PRow} {F : List UInt8 → Int → Option Value} {ss : List RefD} (hF : CoinsOf w rows F) (hr : Rising rows) (hok : ∀ r ∈ rows, RowOk r) (hs : SortedKeys F ss) : ss.length = rows.length ∧ ∀ j (h1 : j < ss.length) (h2 : j < rows.length), ss[j].tx = rows[j].tx ∧ ss[j].place = rows[j].place := by
  have e : ss.map (fun x : RefD => (⟨x.tx, x.place, noOut, 0⟩ : PRow)) = rows.map (fun r => (⟨r.tx, r.place, noOut, 0⟩ : PRow)) := by
    refine rising_one ⟨List.pairwise_map.2 (hs.1.imp (fun h => h)), fun x hx => ?_⟩ ⟨List.pairwise_map.2 (hr.1.imp (fun h => h)), fun x hx => ?_⟩ (fun x => ⟨fun hx => ?_, fun hx => ?_⟩)
    · obtain ⟨y, _, rfl⟩ := List.mem_map.1 hx
      exact y.hs
    · obtain ⟨y, hy, rfl⟩ := List.mem_map.1 hx
      exact hr.2 y hy
    · obtain ⟨y, hy, rfl⟩ := List.mem_map.1 hx
      have h1 := (hs.2 y).1 hy
      apply Classical.byContradiction
      intro hc
      refine h1 (hF.1 y.tx y.place (fun r hr9 e => hc (List.mem_map.2 ⟨r, hr9, ?_⟩)))
      rw [e.1, e.2]
    · obtain ⟨r, hr9, rfl⟩ := List.mem_map.1 hx
      obtain ⟨v, h1, _⟩ := hF.2 r hr9
      have h2 : (⟨r.tx, r.place, (hok r hr9).tx, (hok r hr9).place⟩ : RefD) ∈ ss := (hs.2 ⟨r.tx, r.place, (hok r hr9).tx, (hok r hr9).place⟩).2 (by rw [h1]; simp)
      exact List.mem_map.2 ⟨_, h2, rfl⟩
  have hl : ss.length = rows.length := by
    have h1 := congrArg List.length e
    simpa using h1
  refine ⟨hl, fun j h1 h2 => ?_⟩
  have h3 : (ss.map (fun x : RefD => (⟨x.tx, x.place, noOut, 0⟩ : PRow)))[j]? = (rows.map (fun r => (⟨r.tx, r.place, noOut, 0⟩ : PRow)))[j]? := by rw [e]
  simp [h1, h2] at h3
  exact h3
end Go.Proofs.YteddkkcheaghaaaGreatDoor
namespace Go.Proofs.YteddkkcheaghaaaGreatDoor
open Go.RowKit Go.Maps

/-- All that is no row of rows stays. -/
structure Kept9 (w w' : World) : Prop where
  same : ∀ (k : Nat) (o : Obj), w.heap[k]? = some o → (∀ cs fr, o ≠ Obj.cells cs 132 fr) → w'.heap[k]? = some o
theorem Kept9.refl (w : World) : Kept9 w w := ⟨fun _ _ h _ => h⟩
theorem Kept9.drew {w w' : World} (h : Kept9 w w') : Kept9 w w'.drew := ⟨h.same⟩
theorem Kept9.trans {a b c : World} (h : Kept9 a b) (k : Kept9 b c) : Kept9 a c := ⟨fun i o hi hn => k.same i o (h.same i o hi hn) hn⟩
theorem Kept9.of {w w' : World} (h : Below w.heap.size w w') : Kept9 w w' := ⟨fun k _ hk _ => (h.block k (Array.getElem?_eq_some_iff.1 hk).1).trans hk⟩
theorem Kept9.own {w w' : World} {B : Nat} {v : Value} {rs : List PRow} (h : OwnOf rowK 132 w B v rs) (hg : w.grownBy w' v.ownBlock) : Kept9 w w' := by
  rcases h.step hg with hb | ⟨g, cs, _, _, hh, hb⟩
  · exact Kept9.of hb
  · exact ⟨fun k o hk hn => (hb.block k (Array.getElem?_eq_some_iff.1 hk).1 (fun e => by
      rw [e, hh] at hk
      exact hn _ _ (Option.some.inj hk).symm)).trans hk⟩
theorem MapRef.same9 {w w' : World} {b N n : Nat} {F : List UInt8 → Int → Option Value} (h : MapRef w b N n F) (hb : w'.heap[b]? = w.heap[b]?) : MapRef w' b N n F := by
  obtain ⟨D, ⟨es, cl, h1, h2⟩, h3⟩ := h
  exact ⟨D, ⟨es, cl, hb.trans h1, h2⟩, h3⟩
theorem yields_build9 {P : Program} {ops : Array Oper} {S : World → Prop} {op : Oper} {a : Act} {t : TypeId} {x y : Operand} {u v r : Value} (hw : Region.wanted op (yielded ops a.tmps) = true) (ho : op.op = .build t #[(0, x), (1, y)]) (hx : a.eval x = u) (hy : a.eval y = v) (hf : ∀ w, (Instr.build t #[(0, u), (1, v)]).run P w = .ok r w) : YieldsIf P ops S op r a :=
  .inl ⟨hw, fun w _ => by
    unfold execOp
    simp only [ho, List.map_toArray, List.map_cons, List.map_nil, hx, hy, Sem.run_bind, hf w, Result.andThen_ok, Sem.run_pure]⟩
theorem wpList_layRef {ops : Array Oper} {rest : List Oper} {o : Oper} {a : Act} {w : World} {Q : Exit → Act → World → Prop} (hg : o.guard = none) (u v : Operand) (ho : o.op = .store 71 u v) (w0 : World) (x : RefD)
    (hx : a.eval u = .pointer (some ⟨w0.heap.size, 0, none⟩)) (hy : a.eval v = .agg x.cells.toArray) (hw : w = w0.alloc (.cells noRef.cells.toArray 71))
    (h : wpList Tryz.prog ops Q rest (a.put o.dst undef) (layRef w0 x)) : wpList Tryz.prog ops Q (o :: rest) a w := by
  subst hw
  exact wpList_store_row hg 71 u v ho w0.heap.size x.cells.toArray hx hy 71 noRef.cells.toArray (heap_alloc_new _ _) (refD_size x) (refD_zero x) (all_oneCell_toArray x.one) h
set_option linter.unusedSimpArgs false in
set_option maxRecDepth 100000 in
set_option maxHeartbeats 25600000 in
theorem all_any {w : World} {pv : Value} {b N : Nat} {rows : List PRow} (h : ViewAt w pv b N rows) (hn9 : rows.length ≤ 1000) :
    Calls Tryz.prog 56 #[pv] w fun e w' => ∃ (a : Option Addr) (c : Nat) (rs : List PRow), e = .returned (.slice a rows.length c) ∧ SliceOf rowK w' a rows.length c rs ∧ rs.map PRow.strip = rows.map PRow.strip ∧ Below w.heap.size w w' := by
  obtain ⟨F, hmo, hF⟩ := h.mapOr
  obtain ⟨vb, hpv, _⟩ := h.has
  have HPL := Lib.hid (places_any h.hasIt hmo)
  have HPR : Hid (∀ ss : List RefD, SortedKeys F ss → ss.length = rows.length ∧ ∀ j (h1 : j < ss.length) (h2 : j < rows.length), ss[j].tx = rows[j].tx ∧ ss[j].place = rows[j].place) := Lib.hid (fun ss hs => places_rows hF h.rising h.ok hs)
  subst hpv
  obtain ⟨len, hlen⟩ : ∃ l, l = rows.length := ⟨_, rfl⟩
  have HV := Lib.hid h
  have HLEN := Lib.hid hlen
  rw [← hlen] at hn9 ⊢
  clear h hmo hF hlen
  go_enter Tryz.func56, Tryz.ntmps56
  go_upto_region 3 with (first | (go_at_call 115; refine HPL.out.mono ?_; rintro e w3 ⟨v3, ss, rfl, hk3, ho3, hb3⟩; obtain ⟨hssl, hssg⟩ := HPR.out ss hk3; rw [← HLEN.out] at hssl; obtain ⟨as9, cs, rfl, _⟩ := ho3.shape; rw [hssl] at ho3 ⊢; have HSS := Lib.hid (ho3.slice (fun x _ => trivial)); have HB3 := Lib.hid hb3; have HSG := Lib.hid hssg; have HSL := Lib.hid hssl; clear hk3 ho3 hb3 hssg hssl HPL HPR) | fail)
  have hc63 : (cs : Int) ≤ 9223372036854775807 := by have h2 := HSS.out.2.2.1; unfold maxLen at h2; omega
  have hlc : (len : Int) ≤ (cs : Int) := by have h2 := HSS.out.2.1; omega
  go_loopw [3, 9] (fun v i wr => ∃ (j : Nat) (rs : List PRow), j ≤ len ∧ i = .int .i64 j ∧ rs.length = j ∧ OwnOf rowK 132 wr w3.heap.size v rs ∧ rs.map PRow.strip = (rows.take j).map PRow.strip ∧ (∀ r ∈ rs, TypedRow wr r) ∧ Below w3.heap.size w3 wr) (fun _ i _ => len - (intOf i).toNat)
  case atStart => exact ⟨0, [], Nat.zero_le _, rfl, rfl, OwnOf.nil _ _ _ _, by simp, (fun r hr => by cases hr), Below.refl _ _⟩
  case round =>
    obtain ⟨j, rs, hj, rfl, hrl, hown, hst, htr, hbr⟩ := hrel
    have HST := Lib.hid hst
    have HRL := Lib.hid hrl
    have HOWN := Lib.hid hown
    have HTR := Lib.hid htr
    have HBR := Lib.hid hbr
    obtain ⟨va, vc, rfl, _⟩ := hown.shape
    rw [hrl] at HOWN ⊢
    clear hst hown htr hbr hrl
    by_cases hjn : j < len
    · have f1 : (j : Int) < (len : Int) := by omega
      have f0 : (0 : Int) ≤ (j : Int) := by omega
      have ft : ((j : Int)).toNat = j := by omega
      have hVr := (HV.out.below HB3.out).below (HBR.out.mono (Nat.le_refl _))
      have hSr := HSS.out.below HBR.out
      obtain ⟨b1, o1, e1, hltb, hcc⟩ := hSr.2.2.2.2.2 (by omega)
      have hrx : wr.rangeAt b1 (o1 + j * 33) (ss.getD j noRef).cells := hcc j hjn
      have hjr : j < rows.length := by rw [← HLEN.out]; exact hjn
      have hjs : j < ss.length := by rw [HSL.out]; exact hjn
      obtain ⟨ht1, ht2⟩ := HSG.out j hjs hjr
      have hmem : rows[j] ∈ rows := List.getElem_mem hjr
      have hok := hVr.ok _ hmem
      obtain ⟨a, n, c, ys, hl, hw, hys, hn1, hn16, hfk⟩ := look_row hVr hmem
      have hstep : (rows.take (j + 1)).map PRow.strip = (rows.take j).map PRow.strip ++ [rows[j].strip] := by
        rw [List.take_succ_eq_append_getElem hjr, List.map_append]
        rfl
      have hgd : ss.getD j noRef = ss[j] := by rw [List.getD_eq_getElem?_getD, List.getElem?_eq_getElem hjs]; rfl
      obtain ⟨F2, hm2, hF2⟩ := hVr.map
      obtain ⟨u2, hu2, a2, n2, c2, ys2, rfl, hw2, _, hst2⟩ := hF2.2 _ hmem
      obtain ⟨vb2, hvb2, hvh2⟩ := hVr.has
      cases hvb2
      rw [hgd] at hrx
      revert hrx ht1 ht2
      generalize ss[j] = x
      intro hrx ht1 ht2
      obtain ⟨f1k, f2k, f3k⟩ := outOk_few hok.out
      have hys2l := strip_len hst2
      have hn2l := hw2.1
      have HCX : Hid (∀ W : World, Below wr.heap.size wr W → Calls Tryz.prog 116 #[coinV rows[j].out.m a2 n2 c2 rows[j].height] W fun e w' => ∃ (a' : Option Addr) (c' : Nat) (zs : List PWay), e = .returned (coinV rows[j].out.m a' n2 c' rows[j].height) ∧ Ways w' a' n2 c' zs ∧ zs.map PWay.strip = rows[j].out.ws.map PWay.strip ∧ TypedW w' a' n2 zs ∧ Below W.heap.size W w') := Lib.hid (fun W hW => by
        refine (copied_any (hw2.below hW) (.inr (by omega)) (by omega) (fewKeys_strip hst2 f1k)).mono ?_
        rintro e w' ⟨a', c', zs, rfl, k1, k2, _, k3, k4⟩
        exact ⟨a', c', zs, rfl, k1, k2.trans hst2, k3, k4⟩)
      have HFX : Hid (∀ (W : World) (a7 : Option Addr) (n7 c7 : Nat) (ys7 : List PWay), ys7.map PWay.strip = rows[j].out.ws.map PWay.strip → (rs ++ [(⟨x.tx, x.place, ⟨rows[j].out.m, a7, n7, c7, ys7⟩, rows[j].height⟩ : PRow)]).map PRow.strip = (rows.take (j + 1)).map PRow.strip) := Lib.hid (fun W a7 n7 c7 ys7 h7 => by
        rw [List.map_append, HST.out, hstep]
        congr 1
        show [PRow.strip _] = _
        unfold PRow.strip
        simp only [ht1, ht2, h7])
      have hmfit : Fits rows[j].out.m := by
        have h8 := hok.out
        unfold outOk at h8
        simp only [Bool.and_eq_true, decide_eq_true_eq] at h8
        constructor <;> omega
      have hhfit : Fits rows[j].height := by have h8 := hok.low; have h10 := hok.high; constructor <;> omega
      rw [← ht1, ← ht2] at hu2
      revert HCX HFX hu2 hmfit hhfit
      generalize rows[j].out.m = m
      generalize rows[j].height = ht
      generalize rows[j].out.ws = wsj
      intro hu2 HCX HFX hmfit hhfit
      have RX := Lib.hid hrx
      have HS := Lib.hid x.hs
      have HP := Lib.hid x.hp
      have HM := Lib.hid hmfit
      have HH := Lib.hid hhfit
      have HUF := Lib.hid hu2
      have HMR := Lib.hid hm2
      have HVH := Lib.hid hvh2
      have SX : Hid ((Tryz.prog.info? 71).map (·.size) = some x.cells.length) := Lib.hid (by rw [x.len]; exact Tryz.sizeRef)
      subst e1
      clear hVr hSr hcc hrx hok hl hw hys hn1 hn16 hfk hstep hgd hm2 hF2 hu2 hw2 hst2 hvh2 hmem hjr hjs ht1 ht2 f1k f2k f3k hys2l hn2l hltb hmfit hhfit a n c ys
      go_upto_region 5 with (first
        | (refine wpList_load_mid rfl 71 _ rfl b1 (o1 + j * 33) rfl x.cells _ RX.out Tryz.underlying71 rfl SX.out ?_)
        | (refine wpList_layRef rfl _ _ rfl wr x rfl rfl rfl ?_)
        | fail)
      have h5 := layRef_heap wr x
      have hwk : Below wr.heap.size wr (layRef wr x) := ⟨rfl, rfl, rfl, by rw [layRef_size]; omega, fun k hk => layRef_old wr x hk⟩
      have hlt : wr.heap.size < (layRef wr x).heap.size := by rw [layRef_size]; omega
      revert h5 hwk hlt
      generalize layRef wr x = w5
      obtain ⟨g5, hg5⟩ : ∃ g, g = wr.heap.size := ⟨_, rfl⟩
      rw [← hg5]
      intro h5 hwk hlt
      rw [hg5] at hwk
      have hvb5 := (hwk.block _ (lt_of_block HVH.out)).trans HVH.out
      obtain ⟨es2, cl2, hes2⟩ := (MapRef.below HMR.out hwk).isMap
      have HM5 := Lib.hid (MapRef.below HMR.out hwk)
      have CV : Hid (∀ W : World, Kept9 w5 W → W.cell? ⟨vb, 0, none⟩ = some (.map (some b))) := Lib.hid (fun W hW => cell_of_row W vb 0 _ _ _ (hW.same _ _ hvb5 (fun cs fr e => by injection e with _ e2 _; exact absurd e2 (by decide))))
      have RG : Hid (∀ W : World, Kept9 w5 W → W.rangeAt g5 0 x.cells) := Lib.hid (fun W hW => range_of (hW.same _ _ h5 (fun cs fr e => by injection e with _ e2 _; exact absurd e2 (by decide))))
      have HL : Hid (∀ W : World, Kept9 w5 W → (Instr.lookup 171 (.map (some b)) (.agg (refCells x.tx x.place).toArray) false).run Tryz.prog W = .ok (coinV m a2 n2 c2 ht) W) := Lib.hid (fun W hW => by
        have h7 := (MapRef.same9 HM5.out ((hW.same _ _ hes2 (fun cs fr e => by cases e)).trans hes2.symm)).get Tryz.underlying171 (z := .agg #[.int .i64 0, .slice none 0 0, .int .i64 0]) (Tryz.zeroValue126 W) x.hs x.hp
        rw [HUF.out] at h7
        exact h7)
      have HC := Lib.hid (HCX.out w5.drew (below_drew hwk))
      have HO5 := Lib.hid (HOWN.out.below hwk)
      have HTR5 : Hid (∀ r ∈ rs, TypedRow w5 r) := Lib.hid (fun r hr => (HTR.out r hr).below hwk)
      have HB5 : Hid (Below w3.heap.size w3 w5) := Lib.hid (HBR.out.trans (hwk.mono HBR.out.size))
      clear h5 hwk hlt hvb5 hes2 hg5 HVH HMR HM5 HUF HCX RX
      refine wp_region_held_drew (S := fun w' => Kept9 w5 w') (by kernel_rfl) ((Kept9.refl w5).drew) (fun hHeld => ?_)
      refine tkP 0 rfl rfl ?_
      refine tkA 1 rfl rfl (yieldsIf_load_mid (by rfl) _ _ rfl g5 0 rfl x.cells _ (fun w0 hSw => RG.out w0 hSw) Tryz.underlying71 rfl SX.out) ?_
      refine tkP 2 rfl rfl ?_
      refine tkP 3 rfl rfl ?_
      refine tkP 4 rfl rfl ?_
      refine tkA 5 rfl rfl (yields_cell (b := vb) (o := 0) (by rfl) rfl rfl (fun w0 hSw => CV.out w0 hSw) (fun w0 => Tryz.isAgg171 w0)) ?_
      refine tkA 6 rfl rfl (yieldsIf_load_mid (by rfl) _ _ rfl g5 0 rfl x.cells _ (fun w0 hSw => RG.out w0 hSw) Tryz.underlying71 rfl SX.out) ?_
      refine tkA 7 rfl rfl (yields_lookup (by rfl) rfl rfl rfl (fun w0 hSw => HL.out w0 hSw)) ?_
      refine tkR 8 rfl (fun K hK => ?_)
      go_simp
      refine HC.out.mono ?_
      rintro e w7 ⟨a7, c7, ys7, rfl, hw7, hst7, ht7, hb7⟩
      dsimp only
      have HB7 := Lib.hid ((below_drew (Below.refl w5.heap.size w5)).trans hb7)
      have HST7 := Lib.hid hst7
      have HT7 : Hid (TypedRow w7 (⟨x.tx, x.place, ⟨m, a7, n2, c7, ys7⟩, ht⟩ : PRow)) := Lib.hid ⟨⟨HS.out, HP.out, ⟨HM.out, hw7⟩, HH.out⟩, ht7⟩
      have HO7 := Lib.hid (HO5.out.below HB7.out)
      have HTR7 : Hid (∀ r ∈ rs, TypedRow w7 r) := Lib.hid (fun r hr => (HTR5.out r hr).below HB7.out)
      clear hw7 hst7 ht7 hb7 HC
      refine hK.out _ _ (by (try dsimp only); exact Kept9.of HB7.out) (fun hHeld => ?_)
      clear hK K
      refine tkA 9 rfl rfl (yields_build9 (by rfl) rfl (u := .agg x.cells.toArray) (v := coinV m a7 n2 c7 ht) rfl rfl (fun w => run_build_row HS.out m a7 n2 c7 ht ys7 w)) ?_
      refine tkR 10 rfl (fun K hK => ?_)
      refine step_lit_of Tryz.rowAt9 rfl (by rfl) rfl (x := (⟨x.tx, x.place, ⟨m, a7, n2, c7, ys7⟩, ht⟩ : PRow)) rfl (PRow.len HS.out) ?_
      intro p8 w8 hp8 hx8 hb8
      have HB8 := Lib.hid hb8
      have HX8 := Lib.hid hx8
      have HO8 := Lib.hid (HO7.out.below hb8)
      have HT8 := Lib.hid (HT7.out.below hb8)
      have HTR8 : Hid (∀ r ∈ rs, TypedRow w8 r) := Lib.hid (fun r hr => (HTR7.out r hr).below HB8.out)
      clear hp8 hx8 hb8 HO7 HT7 HTR7
      refine hK.out _ _ (by (try dsimp only); exact Kept9.of (HB7.out.trans (HB8.out.mono HB7.out.size))) (fun hHeld => ?_)
      clear hK K
      refine tkR 11 rfl (fun K hK => ?_)
      refine step_append_of Tryz.rowAt9 rfl (by rfl) _ _ rfl rfl w3.heap.size (.slice va j vc) rs rfl HO8.out p8 (⟨x.tx, x.place, ⟨m, a7, n2, c7, ys7⟩, ht⟩ : PRow) rfl HX8.out (PRow.len HS.out) (by rw [HRL.out]; omega) (Nat.le_trans HB5.out.size (Nat.le_trans HB7.out.size HB8.out.size)) ?_
      intro a9 c9 w9 ho9 hg9
      rw [HRL.out] at ho9 ⊢
      have HO9 := Lib.hid ho9
      have HG9 := Lib.hid hg9
      have HT9 := Lib.hid (HT8.out.grown HO8.out hg9)
      have HTR9 : Hid (∀ r ∈ rs ++ [(⟨x.tx, x.place, ⟨m, a7, n2, c7, ys7⟩, ht⟩ : PRow)], TypedRow w9 r) := Lib.hid (fun r hr => by
        rcases List.mem_append.1 hr with hr | hr
        · exact (HTR8.out r hr).grown HO8.out HG9.out
        · simp at hr
          subst hr
          exact HT9.out)
      have HB9 : Hid (Below w3.heap.size w3 w9) := Lib.hid ((HB5.out.trans ((HB7.out.trans (HB8.out.mono HB7.out.size)).mono HB5.out.size)).trans (HO8.out.grows hg9 (Nat.le_trans HB5.out.size (Nat.le_trans HB7.out.size HB8.out.size))))
      have HK9 : Hid (Kept9 w5 w9) := Lib.hid ((Kept9.of (HB7.out.trans (HB8.out.mono HB7.out.size))).trans (Kept9.own HO8.out hg9))
      clear ho9 hg9
      refine hK.out _ _ (by (try dsimp only); exact HK9.out) (fun hHeld => ?_)
      clear hK K
      refine tkP 12 rfl rfl ?_
      refine wpAnyH_done (by kernel_rfl) ?_ _
      try simp only [Act.put]
      go_wp2_with fail
      go_roundw
      case rel => exact ⟨j + 1, rs ++ [(⟨x.tx, x.place, ⟨m, a7, n2, c7, ys7⟩, ht⟩ : PRow)], by omega, by go_num, by rw [List.length_append, HRL.out]; rfl, HO9.out, HFX.out w9 a7 n2 c7 ys7 HST7.out, HTR9.out, HB9.out⟩
      case measure => simp [intOf]; omega
    · obtain rfl : j = len := by omega
      have f1 : ¬ ((j : Int) < (j : Int)) := by omega
      clear hjn hj hlc
      go_wp2_with fail
      go_ret
      refine ⟨va, vc, rfl, rs, HOWN.out.slice (fun r hr => (HTR.out r hr).1), ?_, HB3.out.trans (HBR.out.mono HB3.out.size)⟩
      rw [HST.out, HLEN.out, List.take_length]
end Go.Proofs.YteddkkcheaghaaaGreatDoor
