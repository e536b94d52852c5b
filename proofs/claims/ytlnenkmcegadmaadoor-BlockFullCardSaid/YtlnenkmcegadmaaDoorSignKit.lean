/- Steps that walks of signing want: rows of signs of one, what the library does with one. -/
import Derived.Test.YtlnenkmcegadmaaDoorTxVar
import Derived.Test.YtlnenkmcegadmaaDoorLockSort
import Derived.Lib.BufferMore
namespace Go.Proofs.YtlnenkmcegadmaaDoor
open Go.RowKit

theorem wpList_append_of {α : Type} {P : Program} {K : Sort8 α} {ts t : TypeId} (S : SortAt P K ts t) {w : World} {ops : Array Oper} {rest : List Oper} {o : Oper} {A : Act} {Q : Exit → Act → World → Prop} (hgd : o.guard = none) (s x : Operand)
    (ho : o.op = .call { callee := .builtin .append, args := #[s, x], argTypes := #[ts, ts] }) (hty : o.type = ts) (B : Nat) (v : Value) (xs : List α) (hs : A.eval s = v) (hown : OwnOf K t w B v xs) (p : Nat) (y : α) (hx : A.eval x = .slice (some ⟨p, 0, none⟩) 1 1) {tp : TypeId} {fr : Nat × Nat} (hp : w.heap[p]? = some (.cells (K.cells y).toArray tp fr)) (hl : (K.cells y).length = K.size) (hb : xs.length + 1 ≤ 1000000) (hbase : B ≤ w.heap.size)
    (h : ∀ a' c' w', OwnOf K t w' B (.slice a' (xs.length + 1) c') (xs ++ [y]) → w.grownBy w' v.ownBlock → wpList P ops Q rest (A.put o.dst (.slice a' (xs.length + 1) c')) w') : wpList P ops Q (o :: rest) A w := by
  refine wpList_plain hgd fun K' hK => ?_
  obtain ⟨a', c', w', h1, h2, h3⟩ := append_of S w B v xs hown p y hp hl hb hbase
  unfold Oper.wp execOp
  simp only [ho, hty, resolve, invoke, builtin, Sem.run_bind, Sem.run_pure, Result.andThen_ok, List.map_toArray, List.map_cons, List.map_nil, hs, hx, h1]
  exact hK _ _ (h a' c' w' h2 h3)
/-- A store of what is there. -/
theorem store_same {w : World} {g i : Nat} {t : TypeId} {cs : Array Value} {v : Value} (h : w.heap[g]? = some (.cells cs t (0, 0))) (hi : cs[i]? = some v) : Below w.heap.size w (w.setCell ⟨g, i, none⟩ v) := by
  have hb : But w.heap.size g w (w.setCell ⟨g, i, none⟩ v) := (But.refl _ g _).setCell _ (.inl rfl) _
  refine ⟨hb.os, hb.tape, hb.output, hb.size, fun k hk => ?_⟩
  by_cases e : k = g
  · subst e
    rw [heap_setCell_same w k i cs t v h, h]
    congr 2
    apply Array.ext_getElem?
    intro j
    rw [Array.getElem?_setIfInBounds]
    by_cases e : i = j
    · subst e
      have hlt := (Array.getElem?_eq_some_iff.1 hi).1
      rw [if_pos rfl, if_pos hlt, hi]
    · rw [if_neg e]
  · exact hb.block k hk e
set_option linter.unusedSimpArgs false in
set_option maxRecDepth 100000 in
set_option maxHeartbeats 12800000 in
theorem cloneSign_nil (w : World) : Calls Tryd.prog 37 #[.slice none 0 0] w fun e w' => e = .returned (.slice none 0 0) ∧ w = w' := by
  have hq : ∀ W : World, (binOp .eql 48 (.slice none 0 0) (.slice none 0 0)).run Tryd.prog W = .ok (.bool true) W := fun W => Lib.run_eql_slice_nil_nil W _ _ Tryd.underlying48
  go_enter Tryd.func37, Tryd.ntmps37
  go_wp2
  go_ret
  exact ⟨rfl, rfl⟩
set_option linter.unusedSimpArgs false in
set_option maxRecDepth 100000 in
set_option maxHeartbeats 12800000 in
theorem indexSign_nil (f : Value) (w : World) : Calls Tryd.prog 64 #[.slice none 0 0, f] w fun e w' => e = .returned (.int .i64 (-1)) ∧ w = w' := by
  go_enter Tryd.func64, Tryd.ntmps64
  go_upto_region 2 with (fail)
  go_loop [8] (fun x => x = .int .i64 0) (fun _ => 0)
  case atStart => rfl
  case round =>
    subst hrel
    go_wp2
    go_ret
    exact ⟨rfl, rfl⟩
theorem deleteSign_nil (f : Value) (w : World) : Calls Tryd.prog 51 #[.slice none 0 0, f] w fun e w' => e = .returned (.slice none 0 0) ∧ w = w' := by
  go_enter Tryd.func51, Tryd.ntmps51
  go_wp2_with (first | (go_at_call 64; (with_reducible refine (indexSign_nil _ _).mono ?_); rintro e w9 ⟨rfl, rfl⟩) | fail)
  go_ret
  exact ⟨rfl, rfl⟩
set_option linter.unusedSimpArgs false in
set_option maxRecDepth 100000 in
set_option maxHeartbeats 12800000 in
theorem insertSign_one (a : Option Addr) (c : Nat) (f : Value) (w : World) : Calls Tryd.prog 81 #[.slice a 1 c, .int .i64 0, .int .i64 1, f] w fun e w' => e = .returned (.tuple #[]) ∧ w = w' := by
  go_enter Tryd.func81, Tryd.ntmps81
  go_upto_region 1 with (fail)
  go_loop [8] (fun x => x = .int .i64 1) (fun _ => 0)
  case atStart => rfl
  case round =>
    subst hrel
    go_wp2
    go_end0
    exact ⟨rfl, rfl⟩
theorem stableSign_one (a : Option Addr) (c : Nat) (f : Value) (w : World) : Calls Tryd.prog 67 #[.slice a 1 c, .int .i64 1, f] w fun e w' => e = .returned (.tuple #[]) ∧ w = w' := by
  go_enter Tryd.func67, Tryd.ntmps67
  go_upto_region 2 with (fail)
  go_loop [7, 8] (fun x y => x = .int .i64 0 ∧ y = .int .i64 20) (fun _ _ => 0)
  case atStart => exact ⟨rfl, rfl⟩
  case round =>
    obtain ⟨rfl, rfl⟩ := hrel
    go_wp2_with (first | (go_at_call 81; (with_reducible refine (insertSign_one _ _ _ _).mono ?_); rintro e w9 ⟨rfl, rfl⟩) | fail)
    go_loop [6] (fun x => x = .int .i64 20) (fun _ => 0)
    case atStart => rfl
    case round =>
      subst hrel
      go_wp2
      go_end0
      exact ⟨rfl, rfl⟩
theorem sortSign_one (a : Option Addr) (c : Nat) (f : Value) (w : World) : Calls Tryd.prog 54 #[.slice a 1 c, f] w fun e w' => e = .returned (.tuple #[]) ∧ w = w' := by
  go_enter Tryd.func54, Tryd.ntmps54
  go_wp2_with (first | (go_at_call 67; (with_reducible refine (stableSign_one _ _ _ _).mono ?_); rintro e w9 ⟨rfl, rfl⟩) | fail)
  go_end0
  exact ⟨rfl, rfl⟩
theorem compact_one (a : Option Addr) (c : Nat) (w : World) : Calls Tryd.prog 50 #[.slice a 1 c] w fun e w' => e = .returned (.slice a 1 c) ∧ w = w' := by
  go_enter Tryd.func50, Tryd.ntmps50
  go_wp2
  go_ret
  exact ⟨rfl, rfl⟩
theorem OwnOf.base {α : Type} {K : Sort8 α} {t : TypeId} {w : World} {B B' : Nat} {v : Value} {xs : List α} (h : OwnOf K t w B v xs) (hB : B' ≤ B) : OwnOf K t w B' v xs := by
  refine ⟨⟨h.1.1, ?_⟩, h.2⟩
  rcases h.1.2 with h0 | ⟨g, cap, cur, hv, hg, r⟩
  · exact .inl h0
  · exact .inr ⟨g, cap, cur, hv, Nat.le_trans hB hg, r⟩
theorem step_store_row {P : Program} {ops : Array Oper} {o : Oper} {a : Act} {w : World} {K : Act → World → Prop} {Q : Exit → Act → World → Prop} {E : Prop} (hw : Region.wanted o (yielded ops a.tmps) = true) (ty : TypeId) (x y : Operand) (ho : o.op = .store ty x y)
    (g : Nat) (cells : Array Value) (hx : a.eval x = .pointer (some ⟨g, 0, none⟩)) (hy : a.eval y = .agg cells) (t : TypeId) (old : Array Value) (hg : w.heap[g]? = some (.cells old t (0, 0))) (hi : (P.info? ty).map (·.size) = some cells.size) (hold : old.size = cells.size) (h1 : cells.all (·.oneCell') = true)
    (h : K (a.put o.dst undef) (w.setRow g cells)) : if Region.wanted o (yielded ops a.tmps) = true then Oper.wp P o a w K Q else E := by
  rw [if_pos hw]
  exact wp_store_row ty x y ho g cells hx hy t old hg hi hold h1 h
theorem step_alloc_of {P : Program} {ops : Array Oper} {o : Oper} {tmps : Array Value} {ds : List Deferred} {w : World} {K : Act → World → Prop} {Q : Exit → Act → World → Prop} {E : Prop} {d : Nat} (hd : o.dst = some d) (hw : Region.wanted o (yielded ops tmps) = true) (ty : TypeId) (ho : o.op = .alloc ty) (cs : Array Value)
    {sz by' : Nat} (hi : (P.info? ty).map (fun i => (i.zero, i.size, i.bytes)) = some (some (.agg cs), sz, by'))
    (h : ∀ p y, w.heap.size ≤ p → y.heap[p]? = some (.cells cs ty (0, 0)) → Below w.heap.size w y → K { tmps := tmps.setIfInBounds d (.pointer (some ⟨p, 0, none⟩)), defers := ds } y) :
    if Region.wanted o (yielded ops tmps) = true then Oper.wp P o { tmps := tmps, defers := ds } w K Q else E := by
  rw [if_pos hw]
  obtain ⟨ie, h1, h2, h3, _⟩ := info_parts hi
  have hrun : (Instr.alloc ty true (.tuple #[])).run P w = .ok (.pointer (some ⟨w.heap.size, 0, none⟩)) (w.alloc (.cells cs ty)) := by
    simp [Instr.alloc, zeroValue, typeInfo, h1, h2, newVar, newRow, Value.cells]
  unfold Oper.wp execOp
  simp only [ho, Sem.run_bind, hrun, Sem.run_pure, Result.andThen_ok]
  show K (Act.put _ o.dst _) _
  rw [hd]
  exact h _ _ (Nat.le_refl _) (heap_alloc_new _ _) ((Below.refl _ _).alloc (Nat.le_refl _) _)
theorem Tryd.zeroSum32 : (Tryd.prog.info? 23).map (fun i => (i.zero, i.size, i.bytes)) = some (some (.agg (cellsOf zero32).toArray), 32, 32) := by kernel_rfl
theorem Tryd.zeroTx160 : (Tryd.prog.info? 50).map (fun i => (i.zero, i.size, i.bytes)) = some (some (.agg noTx.cells.toArray), 40, 160) := by kernel_rfl
theorem Tryd.zeroSign40 : (Tryd.prog.info? 86).map (fun i => (i.zero, i.size, i.bytes)) = some (some (.agg noSign.cells.toArray), 33, 40) := by kernel_rfl
theorem Tryd.signFields : ∃ fs, Tryd.prog.underlying 86 = some (.struct fs) ∧ ∀ w : World, ((fs.mapM fun (f : Field) => do pure (f.offset, ← sizeOf f.type)) : Sem (Array (Nat × Nat))).run Tryd.prog w = .ok #[(0, 1), (1, 32)] w := by
  exact ⟨_, Tryd.underlying86, fun w => by kernel_rfl⟩
theorem fill_sign (s : List UInt8) (hs : s.length = 32) (z : Int) : Instr.fill ((#[(0, 1), (1, 32)] : Array (Nat × Nat))[·]?) noSign.cells.toArray [(0, .int .i64 z), (1, .agg (cellsOf s).toArray)] = some (PSign.cells ⟨z, s⟩).toArray := by
  have hl : (cellsOf s).length = 32 := by rw [cellsOf_len, hs]
  have hz : noSign.cells.length = 33 := rfl
  obtain ⟨I, hI⟩ : ∃ I, I = noSign.cells.toArray.setIfInBounds 0 (.int .i64 z) := ⟨_, rfl⟩
  have hIs : I.size = 33 := by rw [hI, Array.size_setIfInBounds]; rfl
  obtain ⟨g1, g2⟩ := Great.foldl_set 1 (cellsOf s) 0 I
  have e1 : (cellsOf s).toArray.zipIdx.foldl (fun cs (x : Value × Nat) => cs.setIfInBounds (1 + x.2) x.1) I = (((cellsOf s).zipIdx 0).foldl (fun cs (x : Value × Nat) => cs.setIfInBounds (1 + x.2) x.1) I) := by
    rw [← Array.foldl_toList, Array.toList_zipIdx]
  obtain ⟨M, hM⟩ : ∃ M, M = (((cellsOf s).zipIdx 0).foldl (fun cs (x : Value × Nat) => cs.setIfInBounds (1 + x.2) x.1) I) := ⟨_, rfl⟩
  rw [← hM] at g1 g2 e1
  unfold Instr.fill
  simp only [show (#[(0, 1), (1, 32)] : Array (Nat × Nat))[0]? = some (0, 1) from rfl]
  rw [if_neg (by simp [Value.cells, hz])]
  unfold Instr.fill
  simp only [show (#[(0, 1), (1, 32)] : Array (Nat × Nat))[1]? = some (1, 32) from rfl]
  rw [show ((Value.int IntKind.i64 z).cells.zipIdx.foldl (fun cs (x : Value × Nat) => cs.setIfInBounds (0 + x.2) x.1) noSign.cells.toArray) = I by rw [hI]; rfl]
  rw [if_neg (by simp [Value.cells, hl, hIs])]
  rw [show (Value.agg (cellsOf s).toArray).cells = (cellsOf s).toArray from rfl, e1]
  unfold Instr.fill
  congr 1
  apply Array.ext_getElem?
  intro k
  have eR : (PSign.cells ⟨z, s⟩).toArray[k]? = (PSign.cells ⟨z, s⟩)[k]? := by simp
  rw [g2 k, eR]
  unfold PSign.cells
  cases k with
  | zero =>
    rw [if_neg (by omega), hI, Array.getElem?_setIfInBounds]
    rfl
  | succ k =>
    rw [List.getElem?_cons_succ]
    by_cases h1 : k < 32
    · rw [if_pos (by omega)]
      congr 1
    · rw [if_neg (by omega), Array.getElem?_eq_none (by omega), List.getElem?_eq_none (by show (cellsOf s).length ≤ k; omega)]
theorem run_build_sign (s : List UInt8) (hs : s.length = 32) (z : Int) (w : World) : (Instr.build 86 #[(0, .int .i64 z), (1, .agg (cellsOf s).toArray)]).run Tryd.prog w = .ok (.agg (PSign.cells ⟨z, s⟩).toArray) w := by
  obtain ⟨ie, h1, h2, h3, _⟩ := info_parts Tryd.zeroSign40
  obtain ⟨fs, hu, hm⟩ := Tryd.signFields
  have hf := fill_sign s hs z
  have hz : (zeroValue 86).run Tryd.prog w = .ok (.agg noSign.cells.toArray) w := by simp [zeroValue, typeInfo, h1, h2]
  unfold Instr.build
  simp only [Sem.run_bind, hz, Result.andThen_ok, run_underlying hu, hm w]
  rw [show (Value.agg noSign.cells.toArray).cells = noSign.cells.toArray from rfl]
  simp only [hf]
  rfl
theorem run_lit_sgn {α : Type} {P : Program} {K : Sort8 α} {ts t : TypeId} (S : SortAt P K ts t) {x : α} (hx : (K.cells x).length = K.size) (w : World) : (Instr.buildSlice ts 1 #[(0, .agg (K.cells x).toArray)]).run P w = .ok (.slice (some ⟨w.heap.size, 0, none⟩) 1 1) (w.alloc (.cells (K.cells x).toArray t)) := by
  obtain ⟨ie, h1, h2, h3, _⟩ := info_parts S.info
  have hk := S.ksmall
  have hp := K.pos
  have hf := fill_one K.pos hx ((Array.range (1 * K.size)).map (S.zero.cells[· % S.zero.cells.size]!)) (by simp)
  exact run_buildSlice w ts t 1 _ _ ie _ S.under h1 h2 (by rw [h3]; omega) (by rw [h3]; omega) (by rw [h3]; exact hf)
theorem wpList_build_sign {ops : Array Oper} {rest : List Oper} {o : Oper} {A : Act} {w : World} {Q : Exit → Act → World → Prop} (hgd : o.guard = none) (u v : Operand) (ho : o.op = .build 86 #[(0, u), (1, v)]) (z : Int) (s : List UInt8) (hu : A.eval u = .int .i64 z) (hv : A.eval v = .agg (cellsOf s).toArray) (hs : s.length = 32) {Y : PSign} (hY : Y = ⟨z, s⟩)
    (h : wpList Tryd.prog ops Q rest (A.put o.dst (.agg Y.cells.toArray)) w) : wpList Tryd.prog ops Q (o :: rest) A w := by
  refine wpList_plain hgd fun K hK => ?_
  subst hY
  unfold Oper.wp execOp
  simp only [ho, Sem.run_bind, Sem.run_pure, Result.andThen_ok, List.map_toArray, List.map_cons, List.map_nil, hu, hv, run_build_sign s hs z w]
  exact hK _ _ h
theorem wpList_lit_of {α : Type} {P : Program} {K : Sort8 α} {ts t : TypeId} (S : SortAt P K ts t) {ops : Array Oper} {rest : List Oper} {o : Oper} {A : Act} {w : World} {Q : Exit → Act → World → Prop} (hgd : o.guard = none) (u : Operand) (ho : o.op = .buildSlice ts 1 #[(0, u)]) (x : α) (hu : A.eval u = .agg (K.cells x).toArray) (hx : (K.cells x).length = K.size)
    (h : ∀ (p : Nat) (w' : World), w.heap.size ≤ p → w'.heap[p]? = some (.cells (K.cells x).toArray t (0, 0)) → Below w.heap.size w w' → wpList P ops Q rest (A.put o.dst (.slice (some ⟨p, 0, none⟩) 1 1)) w') : wpList P ops Q (o :: rest) A w := by
  refine wpList_plain hgd fun K' hK => ?_
  unfold Oper.wp execOp
  simp only [ho, Sem.run_bind, Sem.run_pure, Result.andThen_ok, List.map_toArray, List.map_cons, List.map_nil, hu, run_lit_sgn S hx w]
  exact hK _ _ (h _ _ (Nat.le_refl _) (heap_alloc_new _ _) ((Below.refl _ _).alloc (Nat.le_refl _) _))
theorem varC_other {w w' : World} {g p : Nat} {t u : TypeId} {cs : List Value} {ds : Array Value} {fr : Nat × Nat} (h : VarC w g t cs) (hb : But w.heap.size p w w') (hp : w.heap[p]? = some (.cells ds u fr)) (hne : u ≠ t) : VarC w' g t cs := h.but hb h.lt (fun e => by
  unfold VarC at h
  rw [e, hp] at h
  simp at h
  exact hne h.2.1)
theorem ownZ_where {w : World} {B : Nat} {v : Value} {z : Int} (h : OwnZ w 3 B v [z]) : ∃ b c, v = .slice (some ⟨b, 0, none⟩) 1 c ∧ B ≤ b ∧ (∃ cur, w.heap[b]? = some (.cells cur 3 (0, 0))) ∧ w.cell? ⟨b, 0, none⟩ = some (.int .i64 z) ∧ 1 ≤ c ∧ c ≤ maxLen := by
  rcases h.1.2 with ⟨hv, h0⟩ | ⟨g, cap, cur, hv, hB, hh, h1, h2, h3, h4⟩
  · cases h0
  · refine ⟨g, cap, hv, hB, ⟨cur, hh⟩, ?_, h1, h2⟩
    have e : (cellsZ [z])[0]? = some (.int .i64 z) := rfl
    rw [← h4, List.getElem?_take, if_pos (show 0 < [z].length * 1 by simp)] at e
    rw [cell_of_row _ _ _ _ _ _ hh]
    simpa using e
end Go.Proofs.YtlnenkmcegadmaaDoor
