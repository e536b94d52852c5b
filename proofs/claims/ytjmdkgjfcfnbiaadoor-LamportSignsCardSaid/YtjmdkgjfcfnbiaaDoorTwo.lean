/- An array of two sums: a literal of it, its rows; a sum's literal without parts; an alloc in a region. No function of the program is named. -/
import Derived.Test.YtjmdkgjfcfnbiaaDoorUnder
import Derived.Test.YtjmdkgjfcfnbiaaDoorTake
import Derived.Great.FillDense
namespace Go.Proofs.YtjmdkgjfcfnbiaaDoor
open Go.RowKit

def zeros2 : List UInt8 := List.replicate 64 0
theorem Tryd.zeroSum : (Tryd.prog.info? 23).map (fun i => (i.zero, i.size, i.bytes)) = some (some (.agg (cellsOf zero32).toArray), 32, 32) := by kernel_rfl
theorem Tryd.zeroTwo : (Tryd.prog.info? 53).map (fun i => (i.zero, i.size, i.bytes)) = some (some (.agg (cellsOf zeros2).toArray), 64, 64) := by kernel_rfl
theorem Tryd.sizeTwo : (Tryd.prog.info? 53).map (·.size) = some 64 := by kernel_rfl
theorem run_two (s t : List UInt8) (hs : s.length = 32) (ht : t.length = 32) (w : World) : (Instr.build 53 #[(0, .agg (cellsOf s).toArray), (1, .agg (cellsOf t).toArray)]).run Tryd.prog w = .ok (.agg (cellsOf (s ++ t)).toArray) w := by
  obtain ⟨ie, h1, h2, h3, _⟩ := info_parts Tryd.zeroTwo
  obtain ⟨je, k1, k2, k3, _⟩ := info_parts Tryd.zeroSum
  have hf : Instr.fill (fun i => some (i * 32, 32)) (cellsOf zeros2).toArray [(0, .agg (cellsOf s).toArray), (1, .agg (cellsOf t).toArray)] = some (cellsOf (s ++ t)).toArray := by
    obtain ⟨r, h1, h2, h3⟩ := Great.fill_dense (s := 32) (by omega) [Value.agg (cellsOf s).toArray, Value.agg (cellsOf t).toArray] 0 (cellsOf zeros2).toArray (fun v hv => by
      rcases List.mem_cons.1 hv with rfl | hv
      · show (cellsOf s).toArray.size = 32
        rw [List.size_toArray, cellsOf_len, hs]
      · rcases List.mem_cons.1 hv with rfl | hv
        · show (cellsOf t).toArray.size = 32
          rw [List.size_toArray, cellsOf_len, ht]
        · cases hv) (by rw [List.size_toArray, cellsOf_len, show zeros2.length = 64 from rfl]; exact Nat.le_refl 64)
    refine Eq.trans h1 ?_
    congr 1
    apply Array.ext_getElem?
    intro k
    have hz : (cellsOf zeros2).toArray.size = 64 := by rw [List.size_toArray, cellsOf_len]; rfl
    rw [h3 k, cellsOf_append, show (cellsOf s ++ cellsOf t).toArray[k]? = (cellsOf s ++ cellsOf t)[k]? by simp]
    have ls : (cellsOf s).length = 32 := by rw [cellsOf_len, hs]
    have lt : (cellsOf t).length = 32 := by rw [cellsOf_len, ht]
    by_cases hk : k < 32
    · rw [if_pos (by simp; omega), List.getElem?_append_left (by omega)]
      rw [show k / 32 = 0 by omega, show k % 32 = k by omega]
      simp [Value.cells]
    · by_cases hk2 : k < 64
      · rw [if_pos (by simp; omega), List.getElem?_append_right (by omega), ls]
        rw [show k / 32 = 1 by omega, show k % 32 = k - 32 by omega]
        simp [Value.cells]
      · rw [if_neg (by simp; omega), Array.getElem?_eq_none (by omega), List.getElem?_eq_none (by rw [List.length_append]; omega)]
  simp [Instr.build, run_underlying Tryd.underlying53, sizeOf, typeInfo, zeroValue, h1, h2, k1, k3, Value.cells, hf]
/-- The literal, taken first. -/
theorem yields_two {ops : Array Oper} {S : World → Prop} {op : Oper} {a : Act} {x y : Operand} {s t : List UInt8} (hw : Region.wanted op (yielded ops a.tmps) = true) (ho : op.op = .build 53 #[(0, x), (1, y)]) (hx : a.eval x = .agg (cellsOf s).toArray) (hy : a.eval y = .agg (cellsOf t).toArray) (hs : s.length = 32) (ht : t.length = 32) :
    YieldsIf Tryd.prog ops S op (.agg (cellsOf (s ++ t)).toArray) a :=
  .inl ⟨hw, fun w _ => by
    have h := run_two s t hs ht w
    unfold execOp
    simp only [ho, List.map_toArray, List.map_cons, List.map_nil, hx, hy, Sem.run_bind, h, Result.andThen_ok, Sem.run_pure]⟩
/-- A new variable, in a region. -/
theorem step_alloc_at {ops : Array Oper} {o : Oper} {tmps : Array Value} {ds : List Deferred} {w : World} {K : Act → World → Prop} {Q : Exit → Act → World → Prop} {E : Prop} {d : Nat} (hd : o.dst = some d) (hw : Region.wanted o (yielded ops tmps) = true) (ty : TypeId) (ho : o.op = .alloc ty) (l : List UInt8)
    {sz by' : Nat} (hi : (Tryd.prog.info? ty).map (fun i => (i.zero, i.size, i.bytes)) = some (some (.agg (cellsOf l).toArray), sz, by'))
    (h : K { tmps := tmps.setIfInBounds d (.pointer (some ⟨w.heap.size, 0, none⟩)), defers := ds } (w.alloc (.cells (cellsOf l).toArray ty))) :
    if Region.wanted o (yielded ops tmps) = true then Oper.wp Tryd.prog o { tmps := tmps, defers := ds } w K Q else E := by
  rw [if_pos hw]
  obtain ⟨ie, h1, h2, h3, _⟩ := info_parts hi
  have hrun : (Instr.alloc ty true (.tuple #[])).run Tryd.prog w = .ok (.pointer (some ⟨w.heap.size, 0, none⟩)) (w.alloc (.cells (cellsOf l).toArray ty)) := by
    simp [Instr.alloc, zeroValue, typeInfo, h1, h2, newVar, newRow, Value.cells]
  unfold Oper.wp execOp
  simp only [ho, Sem.run_bind, hrun, Sem.run_pure, Result.andThen_ok]
  show K (Act.put _ o.dst _) _
  rw [hd]
  exact h
/-- A cut of bytes, '[A:B]'. -/
theorem run_cut_mid {b off n c A B : Nat} (hA : A ≤ B) (hB : B ≤ c) (hlt : A < c) (W : World) : (Instr.sliceAt 24 (.slice (some ⟨b, off, none⟩) n c) (some (.int .i64 (A : Int))) (some (.int .i64 (B : Int))) none).run Tryd.prog W = .ok (.slice (some ⟨b, off + A, none⟩) (B - A) (c - A)) W := by
  have hu : Tryd.prog.underlying 24 = some (.slice (Tryd.prog.elem 24)) := by kernel_rfl
  have hs : (sizeOf (Tryd.prog.elem 24)).run Tryd.prog W = .ok 1 W := by kernel_rfl
  rw [run_sliceAt_slice W _ _ _ _ _ hu, run_slice_lh W _ _ n c hu .i64 .i64 (A : Int) (B : Int) (by omega) (by omega) (by omega), hs]
  simp [Result.andThen, sliced, Addr.add, show c ≠ A by omega]
theorem yields_cut {ops : Array Oper} {S : World → Prop} {op : Oper} {a : Act} {x lo hi : Operand} {b off n c A B : Nat} {Ai Bi : Int} (hw : Region.wanted op (yielded ops a.tmps) = true) (ho : op.op = .slice 24 x (some lo) (some hi) none) (hx : a.eval x = .slice (some ⟨b, off, none⟩) n c)
    (hlo : a.eval lo = .int .i64 Ai) (hhi : a.eval hi = .int .i64 Bi) (eA : Ai = (A : Int)) (eB : Bi = (B : Int)) (hA : A ≤ B) (hB : B ≤ c) (hlt : A < c) (m d : Nat) (hm : B - A = m) (hd : c - A = d) :
    YieldsIf Tryd.prog ops S op (.slice (some ⟨b, off + A, none⟩) m d) a :=
  .inl ⟨hw, fun w _ => by
    subst eA eB hm hd
    have h := run_cut_mid (b := b) (off := off) (n := n) hA hB hlt w
    unfold execOp
    simp only [ho, hx, hlo, hhi, Option.map_some, Option.map_none, Sem.run_bind, h, Result.andThen_ok, Sem.run_pure]⟩
/-- A world with two sums more, both variables made ahead of both stores. -/
def layTwo (w : World) (d e : List UInt8) : World := (((w.alloc (.cells (cellsOf zero32).toArray 23)).alloc (.cells (cellsOf zero32).toArray 23)).setRow w.heap.size (cellsOf d).toArray).setRow (w.heap.size + 1) (cellsOf e).toArray
theorem layTwo_is (w : World) (d e : List UInt8) : (((w.alloc (.cells (cellsOf zero32).toArray 23)).alloc (.cells (cellsOf zero32).toArray 23)).setRow w.heap.size (cellsOf d).toArray).setRow (w.heap.size + 1) (cellsOf e).toArray = layTwo w d e := rfl
theorem two_first (w : World) : ((w.alloc (.cells (cellsOf zero32).toArray 23)).alloc (.cells (cellsOf zero32).toArray 23)).heap[w.heap.size]? = some (.cells (cellsOf zero32).toArray 23 (0, 0)) := by
  rw [heap_alloc_old _ _ (by simp), heap_alloc_new]
theorem two_next (w : World) (d : List UInt8) : (((w.alloc (.cells (cellsOf zero32).toArray 23)).alloc (.cells (cellsOf zero32).toArray 23)).setRow w.heap.size (cellsOf d).toArray).heap[w.heap.size + 1]? = some (.cells (cellsOf zero32).toArray 23 (0, 0)) := by
  rw [setRow_other _ _ _ _ (by omega)]
  exact heap_alloc_at _ _ _ (by simp)
theorem layTwo_first (w : World) (d e : List UInt8) : (layTwo w d e).heap[w.heap.size]? = some (.cells (cellsOf d).toArray 23 (0, 0)) := by
  unfold layTwo
  rw [setRow_other _ _ _ _ (by omega)]
  exact setRow_heap _ _ _ _ _ _ (two_first w)
theorem layTwo_next (w : World) (d e : List UInt8) : (layTwo w d e).heap[w.heap.size + 1]? = some (.cells (cellsOf e).toArray 23 (0, 0)) := setRow_heap _ _ _ _ _ _ (two_next w d)
theorem layTwo_self (w : World) (d e : List UInt8) : Below w.heap.size w (layTwo w d e) := by
  have b1 : Below w.heap.size w ((w.alloc (.cells (cellsOf zero32).toArray 23)).alloc (.cells (cellsOf zero32).toArray 23)) := ((Below.refl _ _).alloc (Nat.le_refl _) _).alloc (by simp) _
  have b2 := b1.trans (((but_setRow _ w.heap.size (cellsOf d).toArray).mono b1.size).below (Nat.le_refl _))
  exact b2.trans (((but_setRow _ (w.heap.size + 1) (cellsOf e).toArray).mono b2.size).below (by omega))
/-- One of two sums. -/
theorem two_row {w : World} {p b n : Nat} {s t : List UInt8} {ty : TypeId} {fr : Nat × Nat} (h : w.heap[p]? = some (.cells (cellsOf (s ++ t)).toArray ty fr)) (hs : s.length = 32) (ht : t.length = 32) (hb : b < 2) (hn : n = 32) : Row w (some ⟨p, b * 32, none⟩) n n (piece (s ++ t) b) := by
  subst hn
  have hl : (s ++ t).length = 64 := by rw [List.length_append, hs, ht]
  have hp : (piece (s ++ t) b).length = 32 := piece_len (by omega)
  refine ⟨hp, Nat.le_refl _, by unfold maxLen; omega, (fun e => by cases e), fun _ => ⟨p, b * 32, rfl, lt_of_block h, fun j hj => ?_⟩⟩
  rw [cell_of_row _ _ _ _ _ _ h]
  have e := cellsOf_get (l := s ++ t) (j := b * 32 + j) (by omega)
  simp only [List.getElem?_toArray]
  rw [e]
  unfold piece
  simp [List.getD, hj]
end Go.Proofs.YtjmdkgjfcfnbiaaDoor
