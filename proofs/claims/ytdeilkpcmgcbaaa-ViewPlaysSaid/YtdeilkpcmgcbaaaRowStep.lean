/- Law 9's step, ahead of its walks: rows in plain regions, what find finds, what a step leaves. -/
import Derived.Test.YtdeilkpcmgcbaaaAlike9
namespace Go.Proofs.Ytdeilkpcmgcbaaa
open Go.RowKit Go.Maps

theorem run_lit9 {α : Type} {P : Program} {K : Sort8 α} {ts t : TypeId} (S : SortAt P K ts t) {x : α} (hx : (K.cells x).length = K.size) (w : World) : (Instr.buildSlice ts 1 #[(0, .agg (K.cells x).toArray)]).run P w = .ok (.slice (some ⟨w.heap.size, 0, none⟩) 1 1) (w.alloc (.cells (K.cells x).toArray t)) := by
  obtain ⟨ie, h1, h2, h3, _⟩ := info_parts S.info
  have hk := S.ksmall
  have hp := K.pos
  have hf := fill_one K.pos hx ((Array.range (1 * K.size)).map (S.zero.cells[· % S.zero.cells.size]!)) (by simp)
  exact run_buildSlice w ts t 1 _ _ ie _ S.under h1 h2 (by rw [h3]; omega) (by rw [h3]; omega) (by rw [h3]; exact hf)
theorem wpList_lit9 {α : Type} {P : Program} {K : Sort8 α} {ts t : TypeId} (S : SortAt P K ts t) {ops : Array Oper} {rest : List Oper} {o : Oper} {A : Act} {w : World} {Q : Exit → Act → World → Prop} (hgd : o.guard = none) (u : Operand) (ho : o.op = .buildSlice ts 1 #[(0, u)]) (x : α) (hu : A.eval u = .agg (K.cells x).toArray) (hx : (K.cells x).length = K.size)
    (h : ∀ (p : Nat) (w' : World), w.heap.size ≤ p → w'.heap[p]? = some (.cells (K.cells x).toArray t (0, 0)) → Below w.heap.size w w' → wpList P ops Q rest (A.put o.dst (.slice (some ⟨p, 0, none⟩) 1 1)) w') : wpList P ops Q (o :: rest) A w := by
  refine wpList_plain hgd fun K' hK => ?_
  unfold Oper.wp execOp
  simp only [ho, Sem.run_bind, Sem.run_pure, Result.andThen_ok, List.map_toArray, List.map_cons, List.map_nil, hu, run_lit9 S hx w]
  exact hK _ _ (h _ _ (Nat.le_refl _) (heap_alloc_new _ _) ((Below.refl _ _).alloc (Nat.le_refl _) _))
theorem wpList_append9 {α : Type} {P : Program} {K : Sort8 α} {ts t : TypeId} (S : SortAt P K ts t) {ops : Array Oper} {rest : List Oper} {o : Oper} {A : Act} {w : World} {Q : Exit → Act → World → Prop} (hgd : o.guard = none) (u y : Operand)
    (ho : o.op = .call { callee := .builtin .append, args := #[u, y], argTypes := #[ts, ts] }) (hty : o.type = ts) (B : Nat) (v : Value) (xs : List α) (hu : A.eval u = v) (h : OwnOf K t w B v xs) (p : Nat) (x : α) (hy : A.eval y = .slice (some ⟨p, 0, none⟩) 1 1) {tp : TypeId} {fr : Nat × Nat} (hp : w.heap[p]? = some (.cells (K.cells x).toArray tp fr)) (hx : (K.cells x).length = K.size) (hb : xs.length + 1 ≤ 1000000) (hbase : B ≤ w.heap.size)
    (hk : ∀ a' c' w', OwnOf K t w' B (.slice a' (xs.length + 1) c') (xs ++ [x]) → w.grownBy w' v.ownBlock → wpList P ops Q rest (A.put o.dst (.slice a' (xs.length + 1) c')) w') : wpList P ops Q (o :: rest) A w := by
  refine wpList_plain hgd fun K' hK => ?_
  obtain ⟨a', c', w', h1, h2, h3⟩ := append_of S w B v xs h p x hp hx hb hbase
  unfold Oper.wp execOp
  simp only [ho, hty, resolve, invoke, builtin, Sem.run_bind, Sem.run_pure, Result.andThen_ok, List.map_toArray, List.map_cons, List.map_nil, hu, hy, h1]
  exact hK _ _ (hk a' c' w' h2 h3)
theorem wpList_build9 {P : Program} {ops : Array Oper} {rest : List Oper} {o : Oper} {A : Act} {w : World} {Q : Exit → Act → World → Prop} {t : TypeId} {x y : Operand} {u v r : Value} (hgd : o.guard = none) (ho : o.op = .build t #[(0, x), (1, y)]) (hx : A.eval x = u) (hy : A.eval y = v) (hf : ∀ w, (Instr.build t #[(0, u), (1, v)]).run P w = .ok r w)
    (h : wpList P ops Q rest (A.put o.dst r) w) : wpList P ops Q (o :: rest) A w := by
  refine wpList_plain hgd fun K' hK => ?_
  unfold Oper.wp execOp
  simp only [ho, List.map_toArray, List.map_cons, List.map_nil, hx, hy, Sem.run_bind, hf w, Result.andThen_ok, Sem.run_pure]
  exact hK _ _ h
theorem run_build_coin (m : Int) (a : Option Addr) (n c : Nat) (h : Int) (w : World) : (Instr.build 41 #[(0, .agg #[.int .i64 m, .slice a n c]), (1, .int .i64 h)]).run Try.prog w = .ok (coinV m a n c h) w := run_build w _ _ _ (coin_built m a n c h)
def layRow (w : World) (x : PRow) : World := (w.alloc (.cells noRow.cells.toArray 43)).setRow w.heap.size x.cells.toArray
theorem layRow_heap (w : World) (x : PRow) : (layRow w x).heap[w.heap.size]? = some (.cells x.cells.toArray 43 (0, 0)) := setRow_heap _ _ _ _ _ _ (heap_alloc_new _ _)
theorem layRow_below (w : World) (x : PRow) : Below w.heap.size w (layRow w x) :=
  ((Below.refl _ _).alloc (Nat.le_refl _) _).trans ((but_setRow _ w.heap.size _).below9 (Nat.le_refl _) (by simp))
theorem wpList_layRow {ops : Array Oper} {rest : List Oper} {o : Oper} {a : Act} {w : World} {Q : Exit → Act → World → Prop} (hg : o.guard = none) (u v : Operand) (ho : o.op = .store 43 u v) (w0 : World) (x : PRow) (hl : x.tx.length = 32)
    (hx : a.eval u = .pointer (some ⟨w0.heap.size, 0, none⟩)) (hy : a.eval v = .agg x.cells.toArray) (hw : w = w0.alloc (.cells noRow.cells.toArray 43))
    (h : wpList Try.prog ops Q rest (a.put o.dst undef) (layRow w0 x)) : wpList Try.prog ops Q (o :: rest) a w := by
  subst hw
  exact wpList_store_row hg 43 u v ho w0.heap.size x.cells.toArray hx hy 43 noRow.cells.toArray (heap_alloc_new _ _) (row_sizeA hl) (by rw [List.size_toArray, List.size_toArray, PRow.len hl]; first | exact (PRow.len (x := noRow) zero32_len) | exact (PRow.len (x := noRow) zero32_len).symm) (all_oneCell_toArray x.one) h
/-- What find finds. -/
theorem findIx_cases (s : List UInt8) (p : Int) : ∀ (xs : List PRow) (k : Nat), (∃ (j : Nat) (h : j < xs.length), findIx s p xs k = ((k + j : Nat) : Int) ∧ xs[j].tx = s ∧ xs[j].place = p) ∨ (findIx s p xs k = -1 ∧ NoRow xs s p)
  | [], k => .inr ⟨rfl, fun r hr => by cases hr⟩
  | x :: xs, k => by
    by_cases hx : x.tx = s ∧ x.place = p
    · refine .inl ⟨0, by simp, ?_, hx⟩
      rw [findIx, if_pos (by simp [hx])]
      rfl
    · have h1 : findIx s p (x :: xs) k = findIx s p xs (k + 1) := by
        rw [findIx, if_neg (by simpa using hx)]
      rw [h1]
      rcases findIx_cases s p xs (k + 1) with ⟨j, hj, e, h2⟩ | ⟨e, h2⟩
      · exact .inl ⟨j + 1, by simpa using hj, by rw [e]; congr 1; omega, h2⟩
      · refine .inr ⟨e, fun r hr => ?_⟩
        rcases List.mem_cons.1 hr with rfl | hr
        · exact hx
        · exact h2 r hr
/-- What a step leaves. -/
def StepOut (w0 w : World) (pv : Value) (b N : Nat) (e : Ending) (w' : World) : Prop := ∃ (a : Option Addr) (c : Nat) (rs : List PRow) (N' : Nat), e = .returned (.tuple #[.slice a rs.length c, .bool true]) ∧ LSt w0 w' pv b N' (.slice a rs.length c) rs ∧ N' ≤ N + 1 ∧ But w.heap.size b w w'
theorem below_but9 {w0 w w' : World} {b : Nat} (h0 : Below w0.heap.size w0 w) (hb : But w.heap.size b w w') (hn : w0.heap.size ≤ b) : Below w0.heap.size w0 w' :=
  ⟨hb.os.trans h0.os, hb.tape.trans h0.tape, hb.output.trans h0.output, Nat.le_trans h0.size hb.size, fun k hk => (hb.block k (Nat.lt_of_lt_of_le hk h0.size) (by omega)).trans (h0.block k hk)⟩
theorem LSt.after {w0 w w' : World} {pv lv : Value} {b N : Nat} {rs : List PRow} (h : LSt w0 w pv b N lv rs) (hb : Below w.heap.size w w') : LSt w0 w' pv b N lv rs :=
  ⟨h.view.below hb, h.list.below hb (h.below.trans (hb.mono h.below.size)), h.below.trans (hb.mono h.below.size), h.new⟩
theorem StepOut.same {w0 w w' : World} {pv : Value} {a : Option Addr} {c b N : Nat} {rs : List PRow} (h : LSt w0 w pv b N (.slice a rs.length c) rs) (hb : Below w.heap.size w w') : StepOut w0 w pv b N (.returned (.tuple #[.slice a rs.length c, .bool true])) w' :=
  ⟨a, c, rs, N, rfl, h.after hb, by omega, But.of hb⟩
/-- A call's parts, in a block of its own. -/
structure CallAt (w : World) (g : Nat) (k : Int) (s : List UInt8) (p m : Int) (a : Option Addr) (n c : Nat) (h : Int) : Prop where
  kind : w.cell? ⟨g, 0, none⟩ = some (.int .i64 k)
  ref : w.rangeAt g 1 (refCells s p)
  out : w.rangeAt g 34 [.int .i64 m, .slice a n c]
  height : w.cell? ⟨g, 36, none⟩ = some (.int .i64 h)
  lt : g < w.heap.size
theorem CallAt.below {w w' : World} {g : Nat} {k : Int} {s : List UInt8} {p m : Int} {a : Option Addr} {n c : Nat} {h : Int} (H : CallAt w g k s p m a n c h) (hb : Below w.heap.size w w') : CallAt w' g k s p m a n c h :=
  ⟨(hb.cell (p := ⟨g, 0, none⟩) H.lt).trans H.kind, rangeAt_below H.ref H.lt hb, rangeAt_below H.out H.lt hb, (hb.cell (p := ⟨g, 36, none⟩) H.lt).trans H.height, Nat.lt_of_lt_of_le H.lt hb.size⟩
theorem CallAt.but {w w' : World} {g q : Nat} {k : Int} {s : List UInt8} {p m : Int} {a : Option Addr} {n c : Nat} {h : Int} (H : CallAt w g k s p m a n c h) (hb : But w.heap.size q w w') (hq : g ≠ q) : CallAt w' g k s p m a n c h :=
  ⟨(hb.cell (a := ⟨g, 0, none⟩) H.lt hq).trans H.kind, fun i v hv => (hb.cell (a := ⟨g, 1 + i, none⟩) H.lt hq).trans (H.ref i v hv), fun i v hv => (hb.cell (a := ⟨g, 34 + i, none⟩) H.lt hq).trans (H.out i v hv), (hb.cell (a := ⟨g, 36, none⟩) H.lt hq).trans H.height, Nat.lt_of_lt_of_le H.lt hb.size⟩
theorem callAt_row {w : World} {g : Nat} {k : Int} {s : List UInt8} {p m : Int} {a : Option Addr} {n c : Nat} {xs : List PWay} {h : Int} {t : TypeId} {fr : Nat × Nat} (hs : s.length = 32) (hg : w.heap[g]? = some (.cells (PCall.cells ⟨k, ⟨s, p, ⟨m, a, n, c, xs⟩, h⟩⟩).toArray t fr)) : CallAt w g k s p m a n c h := by
  have hr := range_of hg
  have h1 : w.rangeAt g 1 (PRow.cells ⟨s, p, ⟨m, a, n, c, xs⟩, h⟩) := by
    have h9 := call_row (x := ⟨k, ⟨s, p, ⟨m, a, n, c, xs⟩, h⟩⟩) hr
    simpa using h9
  exact ⟨by have := hr 0 (.int .i64 k) rfl; simpa using this, row_ref h1, row_out hs h1, row_height hs h1, lt_of_block hg⟩
end Go.Proofs.Ytdeilkpcmgcbaaa
