/- Ways, ins, outs and transactions that are built; literals of numbers, ways, ins and outs. No function of the program is named. -/
import Derived.Test.YtnepcjnnlfhplaaDoorLitsOf
import Derived.Test.YtnepcjnnlfhplaaDoorBuilds
import Derived.Test.YtnepcjnnlfhplaaDoorTx
import Derived.Test.YtnepcjnnlfhplaaDoorChanMem
namespace Go.Proofs.YtnepcjnnlfhplaaDoor
open Go.RowKit

theorem run_int14 (y : Int) (w : World) : (Instr.buildSlice 74 1 #[(0, .int .i64 y)]).run Tryd.prog w = .ok (.slice (some ⟨w.heap.size, 0, none⟩) 1 1) (w.alloc (.cells #[.int .i64 y] 3)) := by
  obtain ⟨ie, h1, h2, h3, _⟩ := info_parts (show (Tryd.prog.info? 3).map (fun i => (i.zero, i.size, i.bytes)) = some (some (.int .i64 0), 1, 8) by kernel_rfl)
  exact run_buildSlice w 74 3 1 _ _ ie _ Tryd.underlying74 h1 h2 (by rw [h3]; omega) (by rw [h3]; omega) (by rw [h3]; simp [Instr.fill, Value.cells]; rw [show Array.range 1 = #[0] by rfl]; simp)
/-- A literal of one number, in a plain region. -/
theorem wpList_int14 {ops : Array Oper} {rest : List Oper} {o : Oper} {A : Act} {w : World} {Q : Exit → Act → World → Prop} (hgd : o.guard = none) (u : Operand) (ho : o.op = .buildSlice 74 1 #[(0, u)]) (y : Int) (hu : A.eval u = .int .i64 y)
    (h : ∀ (p : Nat) (w' : World), w.heap.size ≤ p → w'.heap[p]? = some (.cells #[.int .i64 y] 3 (0, 0)) → Below w.heap.size w w' → wpList Tryd.prog ops Q rest (A.put o.dst (.slice (some ⟨p, 0, none⟩) 1 1)) w') : wpList Tryd.prog ops Q (o :: rest) A w := by
  refine wpList_plain hgd fun K' hK => ?_
  unfold Oper.wp execOp
  simp only [ho, Sem.run_bind, Sem.run_pure, Result.andThen_ok, List.map_toArray, List.map_cons, List.map_nil, hu, run_int14 y w]
  exact hK _ _ (h _ _ (Nat.le_refl _) (heap_alloc_new _ _) ((Below.refl _ _).alloc (Nat.le_refl _) _))
def wayK14 : Sort8 PWay := ⟨35, PWay.cells, WayIn, noWay, by omega, fun _ _ h => PWay.cells_len h.sum, PWay.cells_one, fun h hb => h.below hb⟩
theorem Tryd.zeroWay14 : (Tryd.prog.info? 76).map (fun i => (i.zero, i.size, i.bytes)) = some (some (.agg noWay.cells.toArray), 35, 72) := by kernel_rfl
theorem Tryd.zeroIn14 : (Tryd.prog.info? 70).map (fun i => (i.zero, i.size, i.bytes)) = some (some (.agg noIn.cells.toArray), 35, 72) := by kernel_rfl
theorem Tryd.zeroOut14 : (Tryd.prog.info? 73).map (fun i => (i.zero, i.size, i.bytes)) = some (some (.agg noOut.cells.toArray), 2, 32) := by kernel_rfl
theorem Tryd.zeroTx14 : (Tryd.prog.info? 31).map (fun i => (i.zero, i.size, i.bytes)) = some (some (.agg noTx.cells.toArray), 40, 160) := by kernel_rfl
def Tryd.wayAt14 : SortAt Tryd.prog wayK14 71 76 := ⟨72, by omega, by show 35 ≤ 100000; omega, .agg noWay.cells.toArray, Tryd.underlying71, Tryd.zeroWay14, rfl⟩
def Tryd.inAt14 : SortAt Tryd.prog inK 24 70 := ⟨72, by omega, by show 35 ≤ 100000; omega, .agg noIn.cells.toArray, Tryd.underlying24, Tryd.zeroIn14, rfl⟩
def Tryd.outAt14 : SortAt Tryd.prog outK 25 73 := ⟨32, by omega, by show 2 ≤ 100000; omega, .agg noOut.cells.toArray, Tryd.underlying25, Tryd.zeroOut14, rfl⟩
theorem ways_of14 {w : World} {a : Option Addr} {n c : Nat} {xs : List PWay} (h : SliceOf wayK14 w a n c xs) : Ways w a n c xs := h
theorem Tryd.wayFields14 : ∃ fs, Tryd.prog.underlying 76 = some (.struct fs) ∧ ∀ w : World, ((fs.mapM fun (f : Field) => do pure (f.offset, ← sizeOf f.type)) : Sem (Array (Nat × Nat))).run Tryd.prog w = .ok #[(0, 1), (1, 32), (33, 1), (34, 1)] w := ⟨_, Tryd.underlying76, fun w => by kernel_rfl⟩
theorem Tryd.inFields14 : ∃ fs, Tryd.prog.underlying 70 = some (.struct fs) ∧ ∀ w : World, ((fs.mapM fun (f : Field) => do pure (f.offset, ← sizeOf f.type)) : Sem (Array (Nat × Nat))).run Tryd.prog w = .ok #[(0, 33), (33, 1), (34, 1)] w := ⟨_, Tryd.underlying70, fun w => by kernel_rfl⟩
theorem noWay_parts : noWay.cells = ([.slice none 0 0] : List Value) ++ (cellsOf zero32 ++ [.int .i64 0, .int .i64 0]) := rfl
theorem noIn_parts : noIn.cells = refCells zero32 0 ++ ([.int .i64 0, .slice none 0 0] : List Value) := rfl
theorem build_way_keys (a : Option Addr) (n c : Nat) (ks : List Int) (w : World) : (Instr.build 76 ([(0, (.slice a n c : Value))] : List (Nat × Value)).toArray).run Tryd.prog w = .ok (.agg (PWay.cells ⟨a, n, c, ks, zero32, 0, 0⟩).toArray) w := by
  obtain ⟨fs, hu, hm⟩ := Tryd.wayFields14
  refine run_build_of hu hm Tryd.zeroWay14 ?_ w
  rw [show ([(0, (.slice a n c : Value))] : List (Nat × Value)).toArray.toList = [(0, .slice a n c)] from rfl, noWay_parts]
  rw [fill_step (off := 0) (n := 1) rfl (vs := [.slice a n c]) rfl rfl (by simp), spl_head (by rfl)]
  rfl
theorem build_way_wait (a : Option Addr) (n c : Nat) (ks : List Int) (z : Int) (w : World) : (Instr.build 76 ([(0, (.slice a n c : Value)), (3, .int .i64 z)] : List (Nat × Value)).toArray).run Tryd.prog w = .ok (.agg (PWay.cells ⟨a, n, c, ks, zero32, 0, z⟩).toArray) w := by
  obtain ⟨fs, hu, hm⟩ := Tryd.wayFields14
  refine run_build_of hu hm Tryd.zeroWay14 ?_ w
  rw [show ([(0, (.slice a n c : Value)), (3, .int .i64 z)] : List (Nat × Value)).toArray.toList = [(0, .slice a n c), (3, .int .i64 z)] from rfl, noWay_parts]
  rw [fill_step (off := 0) (n := 1) rfl (vs := [.slice a n c]) rfl rfl (by simp), spl_head (by rfl)]
  rw [fill_step (off := 34) (n := 1) rfl (vs := [.int .i64 z]) rfl rfl (by simp [cellsOf_len, zero32_len])]
  rw [show (([.slice a n c] : List Value) ++ (cellsOf zero32 ++ [.int .i64 0, .int .i64 0])) = (([.slice a n c] : List Value) ++ (cellsOf zero32 ++ [.int .i64 0])) ++ (([.int .i64 0] : List Value) ++ []) by simp, spl_at (by simp [cellsOf_len, zero32_len]) (by rfl)]
  unfold Instr.fill
  simp [PWay.cells]
theorem build_way_hash (a : Option Addr) (n c : Nat) (ks : List Int) {h : List UInt8} (hl : h.length = 32) (w : World) : (Instr.build 76 ([(0, (.slice a n c : Value)), (1, .agg (cellsOf h).toArray)] : List (Nat × Value)).toArray).run Tryd.prog w = .ok (.agg (PWay.cells ⟨a, n, c, ks, h, 0, 0⟩).toArray) w := by
  obtain ⟨fs, hu, hm⟩ := Tryd.wayFields14
  refine run_build_of hu hm Tryd.zeroWay14 ?_ w
  rw [show ([(0, (.slice a n c : Value)), (1, .agg (cellsOf h).toArray)] : List (Nat × Value)).toArray.toList = [(0, .slice a n c), (1, .agg (cellsOf h).toArray)] from rfl, noWay_parts]
  rw [fill_step (off := 0) (n := 1) rfl (vs := [.slice a n c]) rfl rfl (by simp), spl_head (by rfl)]
  rw [fill_step (off := 1) (n := 32) rfl (vs := cellsOf h) rfl (by rw [cellsOf_len, hl]) (by simp [cellsOf_len, zero32_len])]
  rw [spl_at (k := 1) (cs := [.slice a n c]) (by rfl) (by rw [cellsOf_len, cellsOf_len, hl]; rfl)]
  unfold Instr.fill
  simp [PWay.cells]
theorem build_in14 {s : List UInt8} (z : Int) (hl : s.length = 32) (w : World) : (Instr.build 70 ([(0, (.agg (refCells s z).toArray : Value))] : List (Nat × Value)).toArray).run Tryd.prog w = .ok (.agg (PIn.cells ⟨s, z, 0, none, 0, 0, []⟩).toArray) w := by
  obtain ⟨fs, hu, hm⟩ := Tryd.inFields14
  refine run_build_of hu hm Tryd.zeroIn14 ?_ w
  rw [show ([(0, (.agg (refCells s z).toArray : Value))] : List (Nat × Value)).toArray.toList = [(0, .agg (refCells s z).toArray)] from rfl, noIn_parts]
  rw [fill_step (off := 0) (n := 33) rfl (vs := refCells s z) rfl (refCells_len hl) (by simp [refCells_len, zero32_len]), spl_head (by rw [refCells_len hl, refCells_len zero32_len])]
  unfold Instr.fill
  simp [PIn.cells, refCells]
theorem build_out14 (m : Int) (a : Option Addr) (n c : Nat) (xs : List PWay) (w : World) : (Instr.build 73 ([(0, (.int .i64 m : Value)), (1, .slice a n c)] : List (Nat × Value)).toArray).run Tryd.prog w = .ok (.agg (POut.cells ⟨m, a, n, c, xs⟩).toArray) w := by kernel_rfl
theorem build_tx14 (ia : Option Addr) (inn ic : Nat) (ins : List PIn) (oa : Option Addr) (on oc : Nat) (outs : List POut) (w : World) : (Instr.build 31 ([(0, (.slice ia inn ic : Value)), (1, .slice oa on oc)] : List (Nat × Value)).toArray).run Tryd.prog w = .ok (.agg (PTx.cells ⟨ia, inn, ic, ins, oa, on, oc, outs, noOp, none, 0, 0, []⟩).toArray) w := by kernel_rfl
end Go.Proofs.YtnepcjnnlfhplaaDoor
