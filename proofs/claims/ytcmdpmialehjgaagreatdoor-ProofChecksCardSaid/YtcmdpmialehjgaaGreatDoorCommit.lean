/- Channels in memory. No function of the program is named. States of a channel in memory. No function of the program is named. Literals of things of any kind, any number of them, in plain and in drawn regions; a block of such things as a slice. No function, type or variable of the program is named. Structs built, out of the table of their fields. No function, type or variable of the program is named. Ways, ins, outs and transactions that are built; literals of numbers, ways, ins and outs. No function of the program is named. What law 14's rightChannel and right come to. What law 14's build comes to: a commitment. Blocks that a call has laid anew: numbers, ways, outs, ins of commitments; each stays where older blocks are written. No function of the program is named. The outs of a commitment: what the code's otherOf, spendFund, outs come to. -/
import Derived.Test.YtcmdpmialehjgaaGreatDoorSliceOf
import Derived.Test.YtcmdpmialehjgaaGreatDoorTx
import Derived.Great.FillDense
import Derived.Test.YtcmdpmialehjgaaGreatDoorSteps
import Derived.Test.YtcmdpmialehjgaaGreatDoorWanted
import Derived.Test.YtcmdpmialehjgaaGreatDoorLock
import Derived.Test.YtcmdpmialehjgaaGreatDoorMemory
import Derived.Deep.CutRange
namespace Go.Proofs.YtcmdpmialehjgaaGreatDoor
open Go.RowKit

theorem range_append {w : World} {b o : Nat} {cs ds : List Value} (h : w.rangeAt b o (cs ++ ds)) : w.rangeAt b o cs ∧ w.rangeAt b (o + cs.length) ds :=
  ⟨fun j v hv => h j v (by rw [List.getElem?_append_left (List.getElem?_eq_some_iff.1 hv).1]; exact hv), fun j v hv => by
    rw [Nat.add_assoc]
    exact h (cs.length + j) v (by rw [List.getElem?_append_right (by omega), Nat.add_sub_cancel_left]; exact hv)⟩
theorem range_cons {w : World} {b o : Nat} {v : Value} {ds : List Value} (h : w.rangeAt b o (v :: ds)) : w.cell? ⟨b, o, none⟩ = some v ∧ w.rangeAt b (o + 1) ds :=
  ⟨h 0 v rfl, fun j u hu => by
    rw [show o + 1 + j = o + (j + 1) by omega]
    exact h (j + 1) u (by rw [List.getElem?_cons_succ]; exact hu)⟩
structure PChan where
  id : Int
  client : Int
  peer : Int
  ftx : List UInt8
  fat : Int
  cap : Int
  wait : Int
  window : Int
def PChan.cells (x : PChan) : List Value := .int .i64 x.id :: .int .i64 x.client :: .int .i64 x.peer :: (refCells x.ftx x.fat ++ [.int .i64 x.cap, .int .i64 x.wait, .int .i64 x.window])
def noChan : PChan := ⟨0, 0, 0, zero32, 0, 0, 0, 0⟩
structure ChanIn (x : PChan) : Prop where
  id : Fits x.id
  client : Fits x.client
  peer : Fits x.peer
  ftx : x.ftx.length = 32
  fat : Fits x.fat
  cap : Fits x.cap
  wait : Fits x.wait
  window : Fits x.window
theorem noChan_in : ChanIn noChan := ⟨by constructor <;> decide, by constructor <;> decide, by constructor <;> decide, rfl, by constructor <;> decide, by constructor <;> decide, by constructor <;> decide, by constructor <;> decide⟩
theorem PChan.len {x : PChan} (h : x.ftx.length = 32) : x.cells.length = 39 := by simp [PChan.cells, refCells_len h]
theorem refCells_one (s : List UInt8) (z : Int) : ∀ v ∈ refCells s z, v.oneCell' = true := by
  intro v hv
  simp only [refCells, List.mem_append, List.mem_cons, List.not_mem_nil, or_false] at hv
  rcases hv with hv | rfl
  · exact cellsOf_one _ v hv
  · rfl
theorem PChan.one (x : PChan) : ∀ v ∈ x.cells, v.oneCell' = true := by
  intro v hv
  simp only [PChan.cells, List.mem_cons, List.mem_append, List.not_mem_nil, or_false] at hv
  rcases hv with rfl | rfl | rfl | hv | rfl | rfl | rfl
  all_goals first | rfl | exact refCells_one _ _ v hv
theorem chan_id {w : World} {b o : Nat} {x : PChan} (h : w.rangeAt b o x.cells) : w.cell? ⟨b, o, none⟩ = some (.int .i64 x.id) := (range_cons h).1
theorem Tryz.sizeChan : (Tryz.prog.info? 49).map (·.size) = some 39 := by kernel_rfl
theorem chan_size {x : PChan} (h : x.ftx.length = 32) : (Tryz.prog.info? 49).map (·.size) = some x.cells.length := by rw [PChan.len h]; exact Tryz.sizeChan
theorem chan_sizeA {x : PChan} (h : x.ftx.length = 32) : (Tryz.prog.info? 49).map (·.size) = some x.cells.toArray.size := by rw [List.size_toArray]; exact chan_size h
/-- The parts of a channel that lies somewhere. -/
structure ChanAt (w : World) (b o : Nat) (x : PChan) : Prop where
  id : w.cell? ⟨b, o, none⟩ = some (.int .i64 x.id)
  client : w.cell? ⟨b, o + 1, none⟩ = some (.int .i64 x.client)
  peer : w.cell? ⟨b, o + 2, none⟩ = some (.int .i64 x.peer)
  fund : w.rangeAt b (o + 3) (refCells x.ftx x.fat)
  fat : w.cell? ⟨b, o + 35, none⟩ = some (.int .i64 x.fat)
  cap : w.cell? ⟨b, o + 36, none⟩ = some (.int .i64 x.cap)
  wait : w.cell? ⟨b, o + 37, none⟩ = some (.int .i64 x.wait)
  window : w.cell? ⟨b, o + 38, none⟩ = some (.int .i64 x.window)
theorem chan_at {w : World} {b o : Nat} {x : PChan} (hf : x.ftx.length = 32) (h : w.rangeAt b o x.cells) : ChanAt w b o x := by
  have h0 := range_cons h
  have h1 := range_cons h0.2
  have h2 := range_cons h1.2
  have h3 := range_append h2.2
  have h4 := h3.2
  rw [refCells_len hf] at h4
  have h5 := range_cons h4
  have h6 := range_cons h5.2
  have h7 := range_cons h6.2
  have h8 := (range_append h3.1).2
  rw [cellsOf_len, hf] at h8
  exact ⟨h0.1, h1.1, h2.1, h3.1, (range_cons h8).1, h5.1, h6.1, h7.1⟩
end Go.Proofs.YtcmdpmialehjgaaGreatDoor
namespace Go.Proofs.YtcmdpmialehjgaaGreatDoor
open Go.RowKit

structure PState where
  n : Int
  client : Int
  peer : Int
  h0 : List UInt8
  h1 : List UInt8
def PState.cells (x : PState) : List Value := .int .i64 x.n :: .int .i64 x.client :: .int .i64 x.peer :: (cellsOf x.h0 ++ cellsOf x.h1)
structure StateIn (x : PState) : Prop where
  n : Fits x.n
  client : Fits x.client
  peer : Fits x.peer
  h0 : x.h0.length = 32
  h1 : x.h1.length = 32
theorem PState.len {x : PState} (h : StateIn x) : x.cells.length = 67 := by simp [PState.cells, cellsOf_len, h.h0, h.h1]
theorem PState.one (x : PState) : ∀ v ∈ x.cells, v.oneCell' = true := by
  intro v hv
  simp only [PState.cells, List.mem_cons, List.mem_append] at hv
  rcases hv with rfl | rfl | rfl | hv | hv
  all_goals first | rfl | exact cellsOf_one _ v hv
/-- The parts of a state that lies somewhere. -/
structure StateAt (w : World) (b o : Nat) (x : PState) : Prop where
  n : w.cell? ⟨b, o, none⟩ = some (.int .i64 x.n)
  client : w.cell? ⟨b, o + 1, none⟩ = some (.int .i64 x.client)
  peer : w.cell? ⟨b, o + 2, none⟩ = some (.int .i64 x.peer)
  h0 : w.rangeAt b (o + 3) (cellsOf x.h0)
  h1 : w.rangeAt b (o + 35) (cellsOf x.h1)
end Go.Proofs.YtcmdpmialehjgaaGreatDoor
namespace Go.Proofs.YtcmdpmialehjgaaGreatDoor
open Go.RowKit
variable {α : Type}

theorem fill_of (K : Sort8 α) (xs : List α) (hx : ∀ x ∈ xs, (K.cells x).length = K.size) (init : Array Value) (hi : init.size = xs.length * K.size) :
    Instr.fill (fun i => some (i * K.size, K.size)) init (((xs.map fun x => Value.agg (K.cells x).toArray).zipIdx 0).map fun x => (x.2, x.1)) = some (xs.flatMap K.cells).toArray := by
  have hp := K.pos
  obtain ⟨r, h1, h2, h3⟩ := Great.fill_dense (s := K.size) hp (xs.map fun x => Value.agg (K.cells x).toArray) 0 init (fun v hv => by
    obtain ⟨x, hxx, rfl⟩ := List.mem_map.1 hv
    show (K.cells x).toArray.size = K.size
    rw [List.size_toArray]
    exact hx x hxx) (by rw [List.length_map, hi, Nat.zero_add]; exact Nat.le_refl _)
  rw [h1]
  congr 1
  apply Array.ext_getElem?
  intro k
  rw [h3 k, List.length_map, Nat.zero_mul, Nat.zero_add, show (xs.flatMap K.cells).toArray[k]? = (xs.flatMap K.cells)[k]? by simp]
  have hlen := cells_flat_len (f := K.cells) (k := K.size) hx
  by_cases hk : k < xs.length * K.size
  · rw [if_pos ⟨Nat.zero_le _, hk⟩]
    have hd : k / K.size < xs.length := Nat.div_lt_of_lt_mul (by rw [Nat.mul_comm]; exact hk)
    have hm : k % K.size < K.size := Nat.mod_lt _ hp
    have h4 := flat_get (d := K.dflt) hx (j := k / K.size) (i := k % K.size) hd hm
    rw [Nat.div_add_mod' k K.size] at h4
    rw [h4]
    simp [List.getD, hd, Value.cells]
  · rw [if_neg (by omega), Array.getElem?_eq_none (by omega), List.getElem?_eq_none (by omega)]
theorem run_lits {P : Program} {K : Sort8 α} {ts t : TypeId} (S : SortAt P K ts t) (xs : List α) (hx : ∀ x ∈ xs, (K.cells x).length = K.size) {n : Nat} (hn : xs.length = n) (h0 : 0 < n) (hm : n ≤ 100) {vs : Array (Nat × Value)} (hv : vs.toList = ((xs.map fun x => Value.agg (K.cells x).toArray).zipIdx 0).map fun x => (x.2, x.1)) (w : World) :
    (Instr.buildSlice ts n vs).run P w = .ok (.slice (some ⟨w.heap.size, 0, none⟩) n n) (w.alloc (.cells (xs.flatMap K.cells).toArray t)) := by
  subst hn
  obtain ⟨ie, h1, h2, h3, _⟩ := info_parts S.info
  have hk := S.ksmall
  have hp := K.pos
  have hb : xs.length * K.size ≤ 100 * 100000 := Nat.mul_le_mul hm hk
  have hq : 0 < xs.length * K.size := Nat.mul_pos h0 hp
  have hf := fill_of K xs hx ((Array.range (xs.length * K.size)).map (S.zero.cells[· % S.zero.cells.size]!)) (by simp)
  rw [← hv] at hf
  exact run_buildSlice w ts t xs.length vs _ ie _ S.under h1 h2 (by rw [h3]; omega) (by rw [h3]; omega) (by rw [h3]; exact hf)
section
variable {P : Program} {K : Sort8 α} {ts t : TypeId} {ops : Array Oper} {rest : List Oper} {o : Oper} {w : World} {Q : Exit → Act → World → Prop}
theorem step_lits (S : SortAt P K ts t) {C : Act → World → Prop} {E : Prop} {tmps : Array Value} {ds : List Deferred} {d : Nat} (hd : o.dst = some d) (hw : Region.wanted o (yielded ops tmps) = true) {n : Nat} {us : Array (Nat × Operand)} (ho : o.op = .buildSlice ts n us) (xs : List α) (hn : xs.length = n) (h0 : 0 < n) (hm : n ≤ 100) (hx : ∀ x ∈ xs, (K.cells x).length = K.size)
    (hv : (us.toList.map fun f => (f.1, Act.eval { tmps := tmps, defers := ds } f.2)) = ((xs.map fun x => Value.agg (K.cells x).toArray).zipIdx 0).map fun x => (x.2, x.1))
    (h : ∀ (p : Nat) (w' : World), w.heap.size ≤ p → w'.heap[p]? = some (.cells (xs.flatMap K.cells).toArray t (0, 0)) → Below w.heap.size w w' → C { tmps := tmps.setIfInBounds d (.slice (some ⟨p, 0, none⟩) n n), defers := ds } w') :
    if Region.wanted o (yielded ops tmps) = true then Oper.wp P o { tmps := tmps, defers := ds } w C Q else E := by
  rw [if_pos hw]
  have e : (us.map fun f => (f.1, Act.eval { tmps := tmps, defers := ds } f.2)).toList = ((xs.map fun x => Value.agg (K.cells x).toArray).zipIdx 0).map fun x => (x.2, x.1) := by rw [Array.toList_map]; exact hv
  unfold Oper.wp execOp
  simp only [ho, Sem.run_bind, Sem.run_pure, Result.andThen_ok, run_lits S xs hx hn h0 hm e w]
  show C (Act.put _ o.dst _) _
  rw [hd]
  exact h _ _ (Nat.le_refl _) (heap_alloc_new _ _) ((Below.refl _ _).alloc (Nat.le_refl _) _)
end
/-- A block of so many things. -/
theorem slice_lits {K : Sort8 α} {w : World} {g n : Nat} {xs : List α} {t : TypeId} {fr : Nat × Nat} (h : w.heap[g]? = some (.cells (xs.flatMap K.cells).toArray t fr)) (hn : xs.length = n) (hm : n ≤ 1000) (hx : ∀ x ∈ xs, K.ok w x) : SliceOf K w (some ⟨g, 0, none⟩) n n xs := by
  have hl : ∀ x ∈ xs, (K.cells x).length = K.size := fun x hxx => K.len w x (hx x hxx)
  refine ⟨hn, Nat.le_refl _, by unfold maxLen; omega, (fun e => by cases e), hx, fun _ => ⟨g, 0, rfl, lt_of_block h, fun j hj i v hv => ?_⟩⟩
  have hj' : j < xs.length := by omega
  have hi : i < K.size := by
    have h5 := (List.getElem?_eq_some_iff.1 hv).1
    rw [List.getD_eq_getElem?_getD, List.getElem?_eq_getElem hj', Option.getD_some, hl _ (List.getElem_mem hj')] at h5
    exact h5
  rw [Nat.zero_add, cell_of_row w g _ _ _ _ h, List.getElem?_toArray, flat_get (d := K.dflt) hl hj' hi]
  exact hv
end Go.Proofs.YtcmdpmialehjgaaGreatDoor
namespace Go.Proofs.YtcmdpmialehjgaaGreatDoor
open Go.RowKit

/-! ### Builds -/
theorem foldl_spl (off : Nat) : ∀ (vs : List Value) (s : Nat) (Z : List Value), (vs.zipIdx s).foldl (fun cs (x : Value × Nat) => cs.setIfInBounds (off + x.2) x.1) Z.toArray = (spl Z (off + s) vs).toArray
  | [], _, _ => rfl
  | v :: vs, s, Z => by
    have ih := foldl_spl off vs (s + 1) (Z.set (off + s) v)
    rw [List.zipIdx_cons, List.foldl_cons]
    show List.foldl _ (Z.toArray.setIfInBounds (off + s) v) _ = _
    rw [List.setIfInBounds_toArray, ih]
    rfl
theorem fill_step {place : Nat → Option (Nat × Nat)} {i off n : Nat} {v : Value} {rest : List (Nat × Value)} {Z vs : List Value} (hp : place i = some (off, n)) (hc : v.cells = vs.toArray) (hv : vs.length = n) (hZ : off + n ≤ Z.length) :
    Instr.fill place Z.toArray ((i, v) :: rest) = Instr.fill place (spl Z off vs).toArray rest := by
  have e := foldl_spl off vs 0 Z
  rw [Nat.add_zero] at e
  have e2 : v.cells.zipIdx.foldl (fun cs (x : Value × Nat) => cs.setIfInBounds (off + x.2) x.1) Z.toArray = (spl Z off vs).toArray := by
    rw [hc, ← Array.foldl_toList, Array.toList_zipIdx]
    exact e
  conv => lhs; unfold Instr.fill
  simp only [hp]
  rw [if_neg (by rw [hc]; simp; omega)]
  exact congrArg (fun z => Instr.fill place z rest) e2
/-- A struct's build, out of the table of its fields. -/
theorem run_build_of {P : Program} {t : TypeId} {fs : Array Field} {pl : Array (Nat × Nat)} {Z : List Value} {sz by' : Nat} {parts : Array (Nat × Value)} {cs : List Value} (hu : P.underlying t = some (.struct fs)) (hm : ∀ w : World, ((fs.mapM fun (f : Field) => do pure (f.offset, ← sizeOf f.type)) : Sem (Array (Nat × Nat))).run P w = .ok pl w)
    (hi : (P.info? t).map (fun i => (i.zero, i.size, i.bytes)) = some (some (.agg Z.toArray), sz, by')) (hf : Instr.fill (pl[·]?) Z.toArray parts.toList = some cs.toArray) (w : World) : (Instr.build t parts).run P w = .ok (.agg cs.toArray) w := by
  obtain ⟨ie, h1, h2, _, _⟩ := info_parts hi
  have hz : (zeroValue t).run P w = .ok (.agg Z.toArray) w := by simp [zeroValue, typeInfo, h1, h2]
  unfold Instr.build
  simp only [Sem.run_bind, hz, Result.andThen_ok, run_underlying hu, hm w]
  rw [show (Value.agg Z.toArray).cells = Z.toArray from rfl]
  simp only [hf]
  rfl
theorem spl_head {us bs cs : List Value} (h : us.length = bs.length) : spl (us ++ cs) 0 bs = bs ++ cs := by
  have h9 := spl_mid bs us [] cs h
  simpa using h9
theorem spl_at {k : Nat} {cs us bs es : List Value} (hk : k = cs.length) (h : us.length = bs.length) : spl (cs ++ (us ++ es)) k bs = cs ++ (bs ++ es) := by
  subst hk
  exact spl_mid bs us cs es h
end Go.Proofs.YtcmdpmialehjgaaGreatDoor
namespace Go.Proofs.YtcmdpmialehjgaaGreatDoor
open Go.RowKit

theorem run_int14 (y : Int) (w : World) : (Instr.buildSlice 80 1 #[(0, .int .i64 y)]).run Tryz.prog w = .ok (.slice (some ⟨w.heap.size, 0, none⟩) 1 1) (w.alloc (.cells #[.int .i64 y] 3)) := by
  obtain ⟨ie, h1, h2, h3, _⟩ := info_parts (show (Tryz.prog.info? 3).map (fun i => (i.zero, i.size, i.bytes)) = some (some (.int .i64 0), 1, 8) by kernel_rfl)
  exact run_buildSlice w 80 3 1 _ _ ie _ Tryz.underlying80 h1 h2 (by rw [h3]; omega) (by rw [h3]; omega) (by rw [h3]; simp [Instr.fill, Value.cells]; rw [show Array.range 1 = #[0] by rfl]; simp)
def wayK14 : Sort8 PWay := ⟨35, PWay.cells, WayIn, noWay, by omega, fun _ _ h => PWay.cells_len h.sum, PWay.cells_one, fun h hb => h.below hb⟩
theorem Tryz.zeroWay14 : (Tryz.prog.info? 82).map (fun i => (i.zero, i.size, i.bytes)) = some (some (.agg noWay.cells.toArray), 35, 72) := by kernel_rfl
theorem Tryz.zeroIn14 : (Tryz.prog.info? 76).map (fun i => (i.zero, i.size, i.bytes)) = some (some (.agg noIn.cells.toArray), 35, 72) := by kernel_rfl
theorem Tryz.zeroOut14 : (Tryz.prog.info? 79).map (fun i => (i.zero, i.size, i.bytes)) = some (some (.agg noOut.cells.toArray), 2, 32) := by kernel_rfl
theorem Tryz.zeroTx14 : (Tryz.prog.info? 56).map (fun i => (i.zero, i.size, i.bytes)) = some (some (.agg noTx.cells.toArray), 40, 160) := by kernel_rfl
def Tryz.wayAt14 : SortAt Tryz.prog wayK14 77 82 := ⟨72, by omega, by show 35 ≤ 100000; omega, .agg noWay.cells.toArray, Tryz.underlying77, Tryz.zeroWay14, rfl⟩
def Tryz.outAt14 : SortAt Tryz.prog outK 51 79 := ⟨32, by omega, by show 2 ≤ 100000; omega, .agg noOut.cells.toArray, Tryz.underlying51, Tryz.zeroOut14, rfl⟩
theorem ways_of14 {w : World} {a : Option Addr} {n c : Nat} {xs : List PWay} (h : SliceOf wayK14 w a n c xs) : Ways w a n c xs := h
theorem Tryz.wayFields14 : ∃ fs, Tryz.prog.underlying 82 = some (.struct fs) ∧ ∀ w : World, ((fs.mapM fun (f : Field) => do pure (f.offset, ← sizeOf f.type)) : Sem (Array (Nat × Nat))).run Tryz.prog w = .ok #[(0, 1), (1, 32), (33, 1), (34, 1)] w := ⟨_, Tryz.underlying82, fun w => by kernel_rfl⟩
theorem noWay_parts : noWay.cells = ([.slice none 0 0] : List Value) ++ (cellsOf zero32 ++ [.int .i64 0, .int .i64 0]) := rfl
theorem build_way_wait (a : Option Addr) (n c : Nat) (ks : List Int) (z : Int) (w : World) : (Instr.build 82 ([(0, (.slice a n c : Value)), (3, .int .i64 z)] : List (Nat × Value)).toArray).run Tryz.prog w = .ok (.agg (PWay.cells ⟨a, n, c, ks, zero32, 0, z⟩).toArray) w := by
  obtain ⟨fs, hu, hm⟩ := Tryz.wayFields14
  refine run_build_of hu hm Tryz.zeroWay14 ?_ w
  rw [show ([(0, (.slice a n c : Value)), (3, .int .i64 z)] : List (Nat × Value)).toArray.toList = [(0, .slice a n c), (3, .int .i64 z)] from rfl, noWay_parts]
  rw [fill_step (off := 0) (n := 1) rfl (vs := [.slice a n c]) rfl rfl (by simp), spl_head (by rfl)]
  rw [fill_step (off := 34) (n := 1) rfl (vs := [.int .i64 z]) rfl rfl (by simp [cellsOf_len, zero32_len])]
  rw [show (([.slice a n c] : List Value) ++ (cellsOf zero32 ++ [.int .i64 0, .int .i64 0])) = (([.slice a n c] : List Value) ++ (cellsOf zero32 ++ [.int .i64 0])) ++ (([.int .i64 0] : List Value) ++ []) by simp, spl_at (by simp [cellsOf_len, zero32_len]) (by rfl)]
  unfold Instr.fill
  simp [PWay.cells]
theorem build_way_hash (a : Option Addr) (n c : Nat) (ks : List Int) {h : List UInt8} (hl : h.length = 32) (w : World) : (Instr.build 82 ([(0, (.slice a n c : Value)), (1, .agg (cellsOf h).toArray)] : List (Nat × Value)).toArray).run Tryz.prog w = .ok (.agg (PWay.cells ⟨a, n, c, ks, h, 0, 0⟩).toArray) w := by
  obtain ⟨fs, hu, hm⟩ := Tryz.wayFields14
  refine run_build_of hu hm Tryz.zeroWay14 ?_ w
  rw [show ([(0, (.slice a n c : Value)), (1, .agg (cellsOf h).toArray)] : List (Nat × Value)).toArray.toList = [(0, .slice a n c), (1, .agg (cellsOf h).toArray)] from rfl, noWay_parts]
  rw [fill_step (off := 0) (n := 1) rfl (vs := [.slice a n c]) rfl rfl (by simp), spl_head (by rfl)]
  rw [fill_step (off := 1) (n := 32) rfl (vs := cellsOf h) rfl (by rw [cellsOf_len, hl]) (by simp [cellsOf_len, zero32_len])]
  rw [spl_at (k := 1) (cs := [.slice a n c]) (by rfl) (by rw [cellsOf_len, cellsOf_len, hl]; rfl)]
  unfold Instr.fill
  simp [PWay.cells]
theorem build_out14 (m : Int) (a : Option Addr) (n c : Nat) (xs : List PWay) (w : World) : (Instr.build 79 ([(0, (.int .i64 m : Value)), (1, .slice a n c)] : List (Nat × Value)).toArray).run Tryz.prog w = .ok (.agg (POut.cells ⟨m, a, n, c, xs⟩).toArray) w := by kernel_rfl
end Go.Proofs.YtcmdpmialehjgaaGreatDoor
namespace Go.Proofs.YtcmdpmialehjgaaGreatDoor
open Go.RowKit

theorem build_zero14 (w : World) : (Instr.build 23 ([] : List (Nat × Value)).toArray).run Tryz.prog w = .ok (.agg (cellsOf zero32).toArray) w := by kernel_rfl
end Go.Proofs.YtcmdpmialehjgaaGreatDoor
namespace Go.Proofs.YtcmdpmialehjgaaGreatDoor
open Go.RowKit

theorem fits0_14 : Fits 0 := by constructor <;> decide
/-- A commitment: of the channel's fund, its owner's part by two ways, the other one's. -/
def ownP (c : PChan) (a1 a2 a3 : Option Addr) (me other mine : Int) (h : List UInt8) : POut := ⟨mine, a1, 2, 2, [⟨a2, 1, 1, [me], zero32, 0, c.wait⟩, ⟨a3, 1, 1, [other], h, 0, 0⟩]⟩
def herP (a4 a5 : Option Addr) (other hers : Int) : POut := ⟨hers, a4, 1, 1, [⟨a5, 1, 1, [other], zero32, 0, 0⟩]⟩
end Go.Proofs.YtcmdpmialehjgaaGreatDoor
namespace Go.Proofs.YtcmdpmialehjgaaGreatDoor
open Go.RowKit

/-- A new block. -/
structure Laid14 (B : Nat) (w : World) (p : Nat) (o : Obj) : Prop where
  new : B ≤ p
  is : w.heap[p]? = some o
theorem Laid14.keep {B p : Nat} {w w' : World} {o : Obj} (h : Laid14 B w p o) (hb : Below w.heap.size w w') : Laid14 B w' p o := ⟨h.new, Go.Proofs.YtcmdpmialehjgaaGreatDoor.keep hb h.is⟩
theorem Laid14.old {B B' p : Nat} {w : World} {o : Obj} (h : Laid14 B w p o) (hB : B' ≤ B) : Laid14 B' w p o := ⟨Nat.le_trans hB h.new, h.is⟩
def intO (z : Int) : Obj := .cells #[.int .i64 z] 3 (0, 0)
def waysO (xs : List PWay) : Obj := .cells (xs.flatMap wayK14.cells).toArray 82 (0, 0)
def outsO (xs : List POut) : Obj := .cells (xs.flatMap outK.cells).toArray 79 (0, 0)
def herW (p : Nat) (key : Int) : PWay := ⟨some ⟨p, 0, none⟩, 1, 1, [key], zero32, 0, 0⟩
/-- A key alone, at once. -/
structure HerAt (B : Nat) (w : World) (p q : Nat) (key : Int) : Prop where
  ks : Laid14 B w p (intO key)
  ws : Laid14 B w q (waysO [herW p key])
structure OwnAt (B : Nat) (w : World) (p1 p2 p3 : Nat) (me other wait : Int) (h : List UInt8) : Prop where
  k1 : Laid14 B w p1 (intO me)
  k2 : Laid14 B w p2 (intO other)
  ws : Laid14 B w p3 (waysO [⟨some ⟨p1, 0, none⟩, 1, 1, [me], zero32, 0, wait⟩, ⟨some ⟨p2, 0, none⟩, 1, 1, [other], h, 0, 0⟩])
/-- The outs of a commitment. -/
structure OutsAt (B : Nat) (w : World) (c : PChan) (me other own rest : Int) (h : List UInt8) (p1 p2 p3 p4 p5 p6 : Nat) : Prop where
  o1 : OwnAt B w p1 p2 p3 me other c.wait h
  o2 : HerAt B w p4 p5 other
  ls : Laid14 B w p6 (outsO [ownP c (some ⟨p3, 0, none⟩) (some ⟨p1, 0, none⟩) (some ⟨p2, 0, none⟩) me other own h, herP (some ⟨p5, 0, none⟩) (some ⟨p4, 0, none⟩) other rest])
/-- The outs of what closes in peace. -/
structure PeaceAt (B : Nat) (w : World) (c : PChan) (mine hers : Int) (p1 p2 p3 p4 p5 : Nat) : Prop where
  a : HerAt B w p1 p2 c.client
  b : HerAt B w p3 p4 c.peer
  ls : Laid14 B w p5 (outsO [herP (some ⟨p2, 0, none⟩) (some ⟨p1, 0, none⟩) c.client mine, herP (some ⟨p4, 0, none⟩) (some ⟨p3, 0, none⟩) c.peer hers])
theorem HerAt.keep {B : Nat} {w w2 : World} {p q : Nat} {key : Int} (k : HerAt B w p q key) (hb : Below w.heap.size w w2) : HerAt B w2 p q key := ⟨k.ks.keep hb, k.ws.keep hb⟩
theorem HerAt.old {B B2 : Nat} {w : World} {p q : Nat} {key : Int} (k : HerAt B w p q key) (hB : B2 ≤ B) : HerAt B2 w p q key := ⟨k.ks.old hB, k.ws.old hB⟩
theorem HerAt.ways {B p q : Nat} {w : World} {key : Int} (h : HerAt B w p q key) (hk : Fits key) : Ways w (some ⟨q, 0, none⟩) 1 1 [herW p key] := ways_of14 (slice_lits (K := wayK14) h.ws.is rfl (by omega) (by
  intro x hx
  simp at hx
  subst hx
  exact ⟨numbers_one h.ks.is hk, zero32_len, fits0_14, fits0_14⟩))
theorem OutsAt.slice {B : Nat} {w : World} {c : PChan} {me other own rest : Int} {h : List UInt8} {p1 p2 p3 p4 p5 p6 : Nat} (k : OutsAt B w c me other own rest h p1 p2 p3 p4 p5 p6) (hc : ChanIn c) (f1 : Fits me) (f2 : Fits other) (f3 : Fits own) (f4 : Fits rest) (hl : h.length = 32) :
    SliceOf outK w (some ⟨p6, 0, none⟩) 2 2 [ownP c (some ⟨p3, 0, none⟩) (some ⟨p1, 0, none⟩) (some ⟨p2, 0, none⟩) me other own h, herP (some ⟨p5, 0, none⟩) (some ⟨p4, 0, none⟩) other rest] := by
  have w1 : Ways w (some ⟨p3, 0, none⟩) 2 2 [⟨some ⟨p1, 0, none⟩, 1, 1, [me], zero32, 0, c.wait⟩, ⟨some ⟨p2, 0, none⟩, 1, 1, [other], h, 0, 0⟩] := ways_of14 (slice_lits (K := wayK14) k.o1.ws.is rfl (by omega) (by
    intro x hx
    simp at hx
    rcases hx with rfl | rfl
    · exact ⟨numbers_one k.o1.k1.is f1, zero32_len, fits0_14, hc.wait⟩
    · exact ⟨numbers_one k.o1.k2.is f2, hl, fits0_14, fits0_14⟩))
  have w2 := k.o2.ways f2
  refine slice_lits (K := outK) k.ls.is rfl (by omega) ?_
  intro x hx
  simp at hx
  rcases hx with rfl | rfl
  · exact ⟨f3, w1⟩
  · exact ⟨f4, w2⟩
theorem PeaceAt.slice {B : Nat} {w : World} {c : PChan} {mine hers : Int} {p1 p2 p3 p4 p5 : Nat} (k : PeaceAt B w c mine hers p1 p2 p3 p4 p5) (hc : ChanIn c) (f3 : Fits mine) (f4 : Fits hers) :
    SliceOf outK w (some ⟨p5, 0, none⟩) 2 2 [herP (some ⟨p2, 0, none⟩) (some ⟨p1, 0, none⟩) c.client mine, herP (some ⟨p4, 0, none⟩) (some ⟨p3, 0, none⟩) c.peer hers] := by
  have w1 := k.a.ways hc.client
  have w2 := k.b.ways hc.peer
  refine slice_lits (K := outK) k.ls.is rfl (by omega) ?_
  intro x hx
  simp at hx
  rcases hx with rfl | rfl
  · exact ⟨f3, w1⟩
  · exact ⟨f4, w2⟩
end Go.Proofs.YtcmdpmialehjgaaGreatDoor
namespace Go.Proofs.YtcmdpmialehjgaaGreatDoor
open Go.RowKit

theorem step_int14 {ops : Array Oper} {o : Oper} {tmps : Array Value} {ds : List Deferred} {w : World} {K : Act → World → Prop} {Q : Exit → Act → World → Prop} {E : Prop} {d : Nat} {u : Operand} {y : Int} (hd : o.dst = some d) (hw : Region.wanted o (yielded ops tmps) = true) (ho : o.op = .buildSlice 80 1 #[(0, u)])
    (hu : Act.eval { tmps := tmps, defers := ds } u = .int .i64 y)
    (h : ∀ (p : Nat) (w' : World), w.heap.size ≤ p → w'.heap[p]? = some (.cells #[.int .i64 y] 3 (0, 0)) → Below w.heap.size w w' → K { tmps := tmps.setIfInBounds d (.slice (some ⟨p, 0, none⟩) 1 1), defers := ds } w') :
    if Region.wanted o (yielded ops tmps) = true then Oper.wp Tryz.prog o { tmps := tmps, defers := ds } w K Q else E := by
  rw [if_pos hw]
  unfold Oper.wp execOp
  simp only [ho, Sem.run_bind, Sem.run_pure, Result.andThen_ok, List.map_toArray, List.map_cons, List.map_nil, hu, run_int14 y w]
  show K (Act.put _ o.dst _) _
  rw [hd]
  exact h _ _ (Nat.le_refl _) (heap_alloc_new _ _) ((Below.refl _ _).alloc (Nat.le_refl _) _)
theorem Tryz.zeroPair14 : (Tryz.prog.info? 101).map (fun i => (i.zero, i.size, i.bytes)) = some (some (.agg #[.int .i64 0, .int .i64 0]), 2, 16) := by kernel_rfl
theorem build_pair14 (a b : Int) (w : World) : (Instr.build 101 ([(0, (.int .i64 a : Value)), (1, .int .i64 b)] : List (Nat × Value)).toArray).run Tryz.prog w = .ok (.agg #[.int .i64 a, .int .i64 b]) w := by kernel_rfl
theorem otherOf_any (w : World) {z : Int} (hz : z = 0 ∨ z = 1) : Calls Tryz.prog 91 #[.int .i64 z] w fun e w' => e = .returned (.int .i64 (1 - z)) ∧ w = w' := by
  rcases hz with rfl | rfl
  all_goals
    go_enter Tryz.func91, Tryz.ntmps91
    go_wp2
    go_ret
    exact ⟨rfl, rfl⟩
theorem to_at14 (key m : Int) (w : World) : Calls Tryz.prog 92 #[.int .i64 key, .int .i64 m] w fun e w' => ∃ p q : Nat, e = .returned (.agg (POut.cells (herP (some ⟨q, 0, none⟩) (some ⟨p, 0, none⟩) key m)).toArray) ∧ HerAt w.heap.size w' p q key ∧ Below w.heap.size w w' := by
  go_enter Tryz.func92, Tryz.ntmps92
  go_wp2
  refine bodyPost_ret (results_cell_row rfl _ _ w.heap.size 79 #[.int .i64 m, .slice (some ⟨w.heap.size + 1 + 1, 0, none⟩) 1 1] (0, 0) _ rfl (by rw [heap_alloc_old _ _ (by simp; omega), heap_alloc_old _ _ (by simp)]; exact heap_alloc_new _ _) Tryz.underlying79 rfl (by kernel_rfl)) rfl ?_
  refine ⟨w.heap.size + 1, w.heap.size + 1 + 1, rfl, ⟨⟨by omega, ?_⟩, ⟨by omega, ?_⟩⟩, ?_⟩
  · rw [heap_alloc_old _ _ (by simp)]
    exact heap_alloc_at _ _ _ (by simp)
  · exact heap_alloc_at _ _ _ (by simp)
  · exact (((Below.refl _ _).alloc (Nat.le_refl _) _).alloc (by simp) _).alloc (by simp; omega) _
set_option linter.unusedSimpArgs false in
set_option maxRecDepth 100000 in
set_option maxHeartbeats 6400000 in
theorem outs0_any {w : World} {c : PChan} {h : List UInt8} {own rest : Int} (hc : ChanIn c) (hh : h.length = 32) :
    Calls Tryz.prog 63 #[.agg c.cells.toArray, .int .i64 0, .int .i64 own, .int .i64 rest, .agg (cellsOf h).toArray] w fun e w' => ∃ p1 p2 p3 p4 p5 p6 : Nat, e = .returned (.slice (some ⟨p6, 0, none⟩) 2 2) ∧ OutsAt w.heap.size w' c c.client c.peer own rest h p1 p2 p3 p4 p5 p6 ∧ Below w.heap.size w w' := by
  have HC := Lib.hid hc
  have HHL := Lib.hid hh
  have SZH : Hid ((Tryz.prog.info? 23).map (·.size) = some (cellsOf h).length) := Lib.hid (by rw [cellsOf_len, hh]; exact Tryz.size23)
  have HOF : Hid (∀ W : World, Calls Tryz.prog 91 #[.int .i64 0] W fun e w' => e = .returned (.int .i64 1) ∧ W = w') := Lib.hid fun W => otherOf_any W (.inl rfl)
  clear hc hh
  go_enter Tryz.func63, Tryz.ntmps63
  go_upto_region 1 with (fail)
  have b1 : Below w.heap.size w ((w.alloc (.cells c.cells.toArray 49)).alloc (.cells (cellsOf h).toArray 23)) := ((Below.refl _ _).alloc (Nat.le_refl _) _).alloc (by simp) _
  have h1 : ((w.alloc (.cells c.cells.toArray 49)).alloc (.cells (cellsOf h).toArray 23)).heap[w.heap.size]? = some (.cells c.cells.toArray 49 (0, 0)) := by
    rw [heap_alloc_old _ _ (by simp), heap_alloc_new]
  have h2 : ((w.alloc (.cells c.cells.toArray 49)).alloc (.cells (cellsOf h).toArray 23)).heap[w.heap.size + 1]? = some (.cells (cellsOf h).toArray 23 (0, 0)) := heap_alloc_at _ _ _ (by simp)
  revert b1 h1 h2
  generalize ((w.alloc (.cells c.cells.toArray 49)).alloc (.cells (cellsOf h).toArray 23)) = w1
  obtain ⟨g, hg⟩ : ∃ g, g = w.heap.size := ⟨_, rfl⟩
  rw [← hg]
  intro b1 h1 h2
  rw [hg] at b1
  have HB1 := Lib.hid b1
  have H1 := Lib.hid h1
  have H2 := Lib.hid h2
  have hat := chan_at HC.out.ftx (range_of h1)
  have c1 := hat.client
  have c2 := hat.peer
  rw [Nat.zero_add] at c1 c2
  clear hat b1 h1 h2 hg
  go_upto_region 3 with (first | (refine wpList_build10 rfl rfl (vs := [(0, .int .i64 c.client), (1, .int .i64 c.peer)]) rfl (build_pair14 _ _) ?_; go_frame) | (refine wpList_var rfl rfl 101 rfl _ _ rfl #[.int .i64 0, .int .i64 0] Tryz.zeroPair14 rfl [.int .i64 c.client, .int .i64 c.peer] (fun _ => rfl) (fun _ => rfl) rfl (by simp [Value.oneCell']) ?_; intro q w2 hq hh hb; go_frame; have d0 := (range_cons (range_of hh)).1; have d1 := (range_cons (range_cons (range_of hh)).2).1; rw [Nat.zero_add] at d1; have HD := Lib.hid d0; have HQL := Lib.hid (lt_of_block hh); have HB2 := Lib.hid (bthen HB1.out hb); have H12 := Lib.hid (keep hb H1.out); have H22 := Lib.hid (keep hb H2.out); clear hq hh hb c1 c2) | (go_at_call 91; (with_reducible refine (HOF.out _).mono ?_); rintro e w3 ⟨rfl, rfl⟩) | fail)
  have HGL := Lib.hid (lt_of_block H12.out)
  have HE : Hid (w2.cell? ⟨g, 37, none⟩ = some (.int .i64 c.wait)) := Lib.hid (by have h9 := (chan_at HC.out.ftx (range_of H12.out)).wait; rw [Nat.zero_add] at h9; exact h9)
  clear d0 d1
  go_cut [13] from 23 to 36 (fun u w' => ∃ p14 p4 p9 p12 : Nat, u = .pointer (some ⟨p14, 0, none⟩) ∧ w'.heap[p14]? = some (.cells (POut.cells (ownP c (some ⟨p12, 0, none⟩) (some ⟨p4, 0, none⟩) (some ⟨p9, 0, none⟩) c.client c.peer own h)).toArray 79 (0, 0)) ∧ (w2.heap.size ≤ p4 ∧ w'.heap[p4]? = some (.cells #[.int .i64 c.client] 3 (0, 0))) ∧ (w2.heap.size ≤ p9 ∧ w'.heap[p9]? = some (.cells #[.int .i64 c.peer] 3 (0, 0))) ∧ (w2.heap.size ≤ p12 ∧ w'.heap[p12]? = some (.cells (([⟨some ⟨p4, 0, none⟩, 1, 1, [c.client], zero32, 0, c.wait⟩, ⟨some ⟨p9, 0, none⟩, 1, 1, [c.peer], h, 0, 0⟩] : List PWay).flatMap wayK14.cells).toArray 82 (0, 0))) ∧ Below w2.heap.size w2 w')
  case first =>
    try simp only [Act.put]
    refine wp_region_held_drew (S := fun w' => Below w2.heap.size w2 w') (by kernel_rfl) (below_drew (Below.refl _ _)) (fun hHeld => ?_)
    refine tkP 0 rfl rfl ?_
    refine tkP 1 rfl rfl ?_
    refine tkP 2 rfl rfl ?_
    refine tkA 3 rfl rfl (yields_cell (b := q) (o := 0) (by rfl) rfl rfl (fun w0 hSw => (Below.cell hSw (p := ⟨q, 0, none⟩) HQL.out).trans HD.out) (fun w0 => Tryz.isAgg3 w0)) ?_
    refine tkP 5 rfl rfl ?_
    refine tkA 6 rfl rfl (yields_cell (b := g) (o := 37) (by rfl) rfl rfl (fun w0 hSw => (Below.cell hSw (p := ⟨g, 37, none⟩) HGL.out).trans HE.out) (fun w0 => Tryz.isAgg3 w0)) ?_
    refine tkP 8 rfl rfl ?_
    refine tkA 10 rfl rfl (yieldsIf_load_mid (by rfl) _ _ rfl (g + 1) 0 rfl (cellsOf h) _ (fun w0 hSw => range_of (keep hSw H22.out)) Tryz.underlying23 rfl SZH.out) ?_
    refine wpAnyH_ready (rs := [4, 9, 14]) (by kernel_rfl) (by simp) (AllReadyH.cons rfl (fun K hK => ?_) (AllReadyH.cons rfl (fun K hK => ?_) (AllReadyH.cons rfl (fun K hK => ?_) AllReadyH.nil)))
    all_goals (first | (refine step_int14 (d := 27) (y := c.client) rfl (by rfl) rfl (by rfl) ?_; intro p4 y1 hp hh hb; (try (have HPp9 := Lib.hid (keep hb HPp9.out))); (try (have HPp12 := Lib.hid (keep hb HPp12.out))); (try (have HPp14 := Lib.hid (keep hb HPp14.out))); have NNp4 : Hid (w2.heap.size ≤ p4) := Lib.hid (Nat.le_trans (Below.size hHeld) hp); have HPp4 := Lib.hid hh; have HX := Lib.hid (bthen hHeld hb); clear hp hh hb; refine hK.out _ _ (by (try dsimp only); exact HX.out) (fun hHeld => ?_); clear hK K) | (refine step_int14 (d := 32) (y := c.peer) rfl (by rfl) rfl (by rfl) ?_; intro p9 y1 hp hh hb; (try (have HPp4 := Lib.hid (keep hb HPp4.out))); (try (have HPp12 := Lib.hid (keep hb HPp12.out))); (try (have HPp14 := Lib.hid (keep hb HPp14.out))); have NNp9 : Hid (w2.heap.size ≤ p9) := Lib.hid (Nat.le_trans (Below.size hHeld) hp); have HPp9 := Lib.hid hh; have HX := Lib.hid (bthen hHeld hb); clear hp hh hb; refine hK.out _ _ (by (try dsimp only); exact HX.out) (fun hHeld => ?_); clear hK K) | (refine step_alloc10 (d := 13) rfl (by rfl) 79 rfl noOut.cells.toArray Tryz.zeroOut14 ?_; intro p14 y1 hp hh hb; (try (have HPp4 := Lib.hid (keep hb HPp4.out))); (try (have HPp9 := Lib.hid (keep hb HPp9.out))); (try (have HPp12 := Lib.hid (keep hb HPp12.out))); have NNp14 : Hid (w2.heap.size ≤ p14) := Lib.hid (Nat.le_trans (Below.size hHeld) hp); have HPp14 := Lib.hid hh; have HX := Lib.hid (bthen hHeld hb); clear hp hh hb; refine hK.out _ _ (by (try dsimp only); exact HX.out) (fun hHeld => ?_); clear hK K))
    all_goals (try (refine tkA (hr := by decide +kernel) 7 rfl rfl (yields_build10 (by rfl) rfl (vs := [(0, .slice (some ⟨p4, 0, none⟩) 1 1), (3, .int .i64 c.wait)]) (by rfl) (build_way_wait _ _ _ [c.client] _)) ?_))
    all_goals (try (refine tkA (hr := by decide +kernel) 11 rfl rfl (yields_build10 (by rfl) rfl (vs := [(0, .slice (some ⟨p9, 0, none⟩) 1 1), (1, .agg (cellsOf h).toArray)]) (by rfl) (build_way_hash _ _ _ [c.peer] HHL.out)) ?_))
    all_goals (first | (refine wpAnyH_ready (rs := [4, 9]) (by decide +kernel) (by simp) (AllReadyH.cons rfl (fun K hK => ?_) (AllReadyH.cons rfl (fun K hK => ?_) AllReadyH.nil))) | (refine wpAnyH_ready (rs := [4, 14]) (by decide +kernel) (by simp) (AllReadyH.cons rfl (fun K hK => ?_) (AllReadyH.cons rfl (fun K hK => ?_) AllReadyH.nil))) | (refine wpAnyH_ready (rs := [9, 14]) (by decide +kernel) (by simp) (AllReadyH.cons rfl (fun K hK => ?_) (AllReadyH.cons rfl (fun K hK => ?_) AllReadyH.nil))))
    all_goals (first | (refine step_int14 (d := 27) (y := c.client) rfl (by rfl) rfl (by rfl) ?_; intro p4 y1 hp hh hb; (try (have HPp9 := Lib.hid (keep hb HPp9.out))); (try (have HPp12 := Lib.hid (keep hb HPp12.out))); (try (have HPp14 := Lib.hid (keep hb HPp14.out))); have NNp4 : Hid (w2.heap.size ≤ p4) := Lib.hid (Nat.le_trans (Below.size hHeld) hp); have HPp4 := Lib.hid hh; have HX := Lib.hid (bthen hHeld hb); clear hp hh hb; refine hK.out _ _ (by (try dsimp only); exact HX.out) (fun hHeld => ?_); clear hK K) | (refine step_int14 (d := 32) (y := c.peer) rfl (by rfl) rfl (by rfl) ?_; intro p9 y1 hp hh hb; (try (have HPp4 := Lib.hid (keep hb HPp4.out))); (try (have HPp12 := Lib.hid (keep hb HPp12.out))); (try (have HPp14 := Lib.hid (keep hb HPp14.out))); have NNp9 : Hid (w2.heap.size ≤ p9) := Lib.hid (Nat.le_trans (Below.size hHeld) hp); have HPp9 := Lib.hid hh; have HX := Lib.hid (bthen hHeld hb); clear hp hh hb; refine hK.out _ _ (by (try dsimp only); exact HX.out) (fun hHeld => ?_); clear hK K) | (refine step_alloc10 (d := 13) rfl (by rfl) 79 rfl noOut.cells.toArray Tryz.zeroOut14 ?_; intro p14 y1 hp hh hb; (try (have HPp4 := Lib.hid (keep hb HPp4.out))); (try (have HPp9 := Lib.hid (keep hb HPp9.out))); (try (have HPp12 := Lib.hid (keep hb HPp12.out))); have NNp14 : Hid (w2.heap.size ≤ p14) := Lib.hid (Nat.le_trans (Below.size hHeld) hp); have HPp14 := Lib.hid hh; have HX := Lib.hid (bthen hHeld hb); clear hp hh hb; refine hK.out _ _ (by (try dsimp only); exact HX.out) (fun hHeld => ?_); clear hK K))
    all_goals (try (refine tkA (hr := by decide +kernel) 7 rfl rfl (yields_build10 (by rfl) rfl (vs := [(0, .slice (some ⟨p4, 0, none⟩) 1 1), (3, .int .i64 c.wait)]) (by rfl) (build_way_wait _ _ _ [c.client] _)) ?_))
    all_goals (try (refine tkA (hr := by decide +kernel) 11 rfl rfl (yields_build10 (by rfl) rfl (vs := [(0, .slice (some ⟨p9, 0, none⟩) 1 1), (1, .agg (cellsOf h).toArray)]) (by rfl) (build_way_hash _ _ _ [c.peer] HHL.out)) ?_))
    all_goals (first | (refine wpAnyH_ready (rs := [12, 14]) (by decide +kernel) (by simp) (AllReadyH.cons rfl (fun K hK => ?_) (AllReadyH.cons rfl (fun K hK => ?_) AllReadyH.nil))) | (refine tkR (hr := by decide +kernel) 4 rfl (fun K hK => ?_)) | (refine tkR (hr := by decide +kernel) 9 rfl (fun K hK => ?_)))
    all_goals (first | (refine step_int14 (d := 27) (y := c.client) rfl (by rfl) rfl (by rfl) ?_; intro p4 y1 hp hh hb; (try (have HPp9 := Lib.hid (keep hb HPp9.out))); (try (have HPp12 := Lib.hid (keep hb HPp12.out))); (try (have HPp14 := Lib.hid (keep hb HPp14.out))); have NNp4 : Hid (w2.heap.size ≤ p4) := Lib.hid (Nat.le_trans (Below.size hHeld) hp); have HPp4 := Lib.hid hh; have HX := Lib.hid (bthen hHeld hb); clear hp hh hb; refine hK.out _ _ (by (try dsimp only); exact HX.out) (fun hHeld => ?_); clear hK K) | (refine step_int14 (d := 32) (y := c.peer) rfl (by rfl) rfl (by rfl) ?_; intro p9 y1 hp hh hb; (try (have HPp4 := Lib.hid (keep hb HPp4.out))); (try (have HPp12 := Lib.hid (keep hb HPp12.out))); (try (have HPp14 := Lib.hid (keep hb HPp14.out))); have NNp9 : Hid (w2.heap.size ≤ p9) := Lib.hid (Nat.le_trans (Below.size hHeld) hp); have HPp9 := Lib.hid hh; have HX := Lib.hid (bthen hHeld hb); clear hp hh hb; refine hK.out _ _ (by (try dsimp only); exact HX.out) (fun hHeld => ?_); clear hK K) | (refine step_lits Tryz.wayAt14 (d := 35) rfl (by rfl) rfl [⟨some ⟨p4, 0, none⟩, 1, 1, [c.client], zero32, 0, c.wait⟩, ⟨some ⟨p9, 0, none⟩, 1, 1, [c.peer], h, 0, 0⟩] rfl (by decide) (by decide) (by intro x hx; simp at hx; rcases hx with rfl | rfl; exact PWay.cells_len zero32_len; exact PWay.cells_len HHL.out) (by rfl) ?_; intro p12 y1 hp hh hb; (try (have HPp4 := Lib.hid (keep hb HPp4.out))); (try (have HPp9 := Lib.hid (keep hb HPp9.out))); (try (have HPp14 := Lib.hid (keep hb HPp14.out))); have NNp12 : Hid (w2.heap.size ≤ p12) := Lib.hid (Nat.le_trans (Below.size hHeld) hp); have HPp12 := Lib.hid hh; have HX := Lib.hid (bthen hHeld hb); clear hp hh hb; refine hK.out _ _ (by (try dsimp only); exact HX.out) (fun hHeld => ?_); clear hK K) | (refine step_alloc10 (d := 13) rfl (by rfl) 79 rfl noOut.cells.toArray Tryz.zeroOut14 ?_; intro p14 y1 hp hh hb; (try (have HPp4 := Lib.hid (keep hb HPp4.out))); (try (have HPp9 := Lib.hid (keep hb HPp9.out))); (try (have HPp12 := Lib.hid (keep hb HPp12.out))); have NNp14 : Hid (w2.heap.size ≤ p14) := Lib.hid (Nat.le_trans (Below.size hHeld) hp); have HPp14 := Lib.hid hh; have HX := Lib.hid (bthen hHeld hb); clear hp hh hb; refine hK.out _ _ (by (try dsimp only); exact HX.out) (fun hHeld => ?_); clear hK K))
    all_goals (try (refine tkA (hr := by decide +kernel) 7 rfl rfl (yields_build10 (by rfl) rfl (vs := [(0, .slice (some ⟨p4, 0, none⟩) 1 1), (3, .int .i64 c.wait)]) (by rfl) (build_way_wait _ _ _ [c.client] _)) ?_))
    all_goals (try (refine tkA (hr := by decide +kernel) 11 rfl rfl (yields_build10 (by rfl) rfl (vs := [(0, .slice (some ⟨p9, 0, none⟩) 1 1), (1, .agg (cellsOf h).toArray)]) (by rfl) (build_way_hash _ _ _ [c.peer] HHL.out)) ?_))
    all_goals (try (refine tkA (hr := by decide +kernel) 13 rfl rfl (yields_build10 (by rfl) rfl (vs := [(0, .int .i64 own), (1, .slice (some ⟨p12, 0, none⟩) 2 2)]) (by rfl) (build_out14 own _ _ _ [⟨some ⟨p4, 0, none⟩, 1, 1, [c.client], zero32, 0, c.wait⟩, ⟨some ⟨p9, 0, none⟩, 1, 1, [c.peer], h, 0, 0⟩])) ?_))
    all_goals (first | (refine tkR (hr := by decide +kernel) 12 rfl (fun K hK => ?_)) | (refine tkR (hr := by decide +kernel) 14 rfl (fun K hK => ?_)))
    all_goals (first | (refine step_lits Tryz.wayAt14 (d := 35) rfl (by rfl) rfl [⟨some ⟨p4, 0, none⟩, 1, 1, [c.client], zero32, 0, c.wait⟩, ⟨some ⟨p9, 0, none⟩, 1, 1, [c.peer], h, 0, 0⟩] rfl (by decide) (by decide) (by intro x hx; simp at hx; rcases hx with rfl | rfl; exact PWay.cells_len zero32_len; exact PWay.cells_len HHL.out) (by rfl) ?_; intro p12 y1 hp hh hb; (try (have HPp4 := Lib.hid (keep hb HPp4.out))); (try (have HPp9 := Lib.hid (keep hb HPp9.out))); (try (have HPp14 := Lib.hid (keep hb HPp14.out))); have NNp12 : Hid (w2.heap.size ≤ p12) := Lib.hid (Nat.le_trans (Below.size hHeld) hp); have HPp12 := Lib.hid hh; have HX := Lib.hid (bthen hHeld hb); clear hp hh hb; refine hK.out _ _ (by (try dsimp only); exact HX.out) (fun hHeld => ?_); clear hK K) | (refine step_alloc10 (d := 13) rfl (by rfl) 79 rfl noOut.cells.toArray Tryz.zeroOut14 ?_; intro p14 y1 hp hh hb; (try (have HPp4 := Lib.hid (keep hb HPp4.out))); (try (have HPp9 := Lib.hid (keep hb HPp9.out))); (try (have HPp12 := Lib.hid (keep hb HPp12.out))); have NNp14 : Hid (w2.heap.size ≤ p14) := Lib.hid (Nat.le_trans (Below.size hHeld) hp); have HPp14 := Lib.hid hh; have HX := Lib.hid (bthen hHeld hb); clear hp hh hb; refine hK.out _ _ (by (try dsimp only); exact HX.out) (fun hHeld => ?_); clear hK K))
    all_goals (try (refine tkA (hr := by decide +kernel) 13 rfl rfl (yields_build10 (by rfl) rfl (vs := [(0, .int .i64 own), (1, .slice (some ⟨p12, 0, none⟩) 2 2)]) (by rfl) (build_out14 own _ _ _ [⟨some ⟨p4, 0, none⟩, 1, 1, [c.client], zero32, 0, c.wait⟩, ⟨some ⟨p9, 0, none⟩, 1, 1, [c.peer], h, 0, 0⟩])) ?_))
    all_goals (refine tkR 15 rfl (fun K hK => ?_))
    all_goals (refine step_row10 (by rfl) 79 _ _ rfl p14 (POut.cells (ownP c (some ⟨p12, 0, none⟩) (some ⟨p4, 0, none⟩) (some ⟨p9, 0, none⟩) c.client c.peer own h)) (by rfl) (by rfl) 79 noOut.cells HPp14.out (by kernel_rfl) rfl (POut.one _) (fun y1 hh hb => ?_); have HX := Lib.hid (But.in hHeld hb NNp14.out); have HPp4 := Lib.hid ((hb.block p4 (lt_of_block HPp4.out) (fun e => by have h9 := HPp4.out; rw [e, HPp14.out] at h9; simp at h9)).trans HPp4.out); have HPp9 := Lib.hid ((hb.block p9 (lt_of_block HPp9.out) (fun e => by have h9 := HPp9.out; rw [e, HPp14.out] at h9; simp at h9)).trans HPp9.out); have HPp12 := Lib.hid ((hb.block p12 (lt_of_block HPp12.out) (fun e => by have h9 := HPp12.out; rw [e, HPp14.out] at h9; simp at h9)).trans HPp12.out); have HPp14 := Lib.hid hh; clear hh hb; refine hK.out _ _ (by (try dsimp only); exact HX.out) (fun hHeld => ?_); clear hK K)
    all_goals (refine wpAnyH_done (by kernel_rfl) ?_ _)
    all_goals (clear hHeld; go_wp2_with fail; go_meet; exact ⟨p14, p4, p9, p12, rfl, HPp14.out, ⟨NNp4.out, HPp4.out⟩, ⟨NNp9.out, HPp9.out⟩, ⟨NNp12.out, HPp12.out⟩, HX.out⟩)
  case rest =>
    obtain ⟨p14, p4, p9, p12, rfl, hp14, hl4, hl9, hl12, hx⟩ := hcut
    rename World => w5
    have HPp14 := Lib.hid hp14
    have HL4 := Lib.hid hl4
    have HL9 := Lib.hid hl9
    have HL12 := Lib.hid hl12
    have HX := Lib.hid hx
    clear hp14 hl4 hl9 hl12 hx
    go_upto_region 4 with (fail)
    refine wp_region_held_drew (S := fun w' => Below w5.heap.size w5 w') (by kernel_rfl) (below_drew (Below.refl _ _)) (fun hHeld => ?_)
    refine tkA 0 rfl rfl (yieldsIf_load_mid (by rfl) _ _ rfl p14 0 rfl (POut.cells (ownP c (some ⟨p12, 0, none⟩) (some ⟨p4, 0, none⟩) (some ⟨p9, 0, none⟩) c.client c.peer own h)) _ (fun w0 hSw => range_of (keep hSw HPp14.out)) Tryz.underlying79 rfl (by kernel_rfl)) ?_
    refine tkP 1 rfl rfl ?_
    refine tkP 2 rfl rfl ?_
    refine tkR 3 rfl (fun K hK => ?_)
    have HCT := Lib.hid (fun (W : World) => to_at14 c.peer rest W)
    go_simp
    go_wp2_with ((go_at_call 92; (with_reducible refine (HCT.out _).mono ?_); rintro e z3 ⟨av, bv, rfl, hw3, hb⟩; have HW3 := Lib.hid hw3; have HZ3 := Lib.hid (bthen hHeld hb); clear hw3 hb HCT))
    refine hK.out _ _ (by (try dsimp only); exact HZ3.out) (fun hHeld => ?_)
    clear hK K
    refine tkR 4 rfl (fun K hK => ?_)
    refine step_lits Tryz.outAt14 (d := 41) rfl (by rfl) rfl [(ownP c (some ⟨p12, 0, none⟩) (some ⟨p4, 0, none⟩) (some ⟨p9, 0, none⟩) c.client c.peer own h), (herP (some ⟨bv, 0, none⟩) (some ⟨av, 0, none⟩) c.peer rest)] rfl (by decide) (by decide) (by intro x hx; simp at hx; rcases hx with rfl | rfl; rfl; rfl) (by rfl) ?_
    intro p16 z4 hp hh hb
    have HP16 := Lib.hid hh
    have HZ4 := Lib.hid (bthen HZ3.out hb)
    have HW4 := Lib.hid (HW3.out.keep hb)
    have N16 := Lib.hid (Nat.le_trans HZ3.out.size hp)
    clear hp hh hb
    refine hK.out _ _ (by (try dsimp only); exact HZ4.out) (fun hHeld => ?_)
    clear hK K
    refine tkP 5 rfl rfl ?_
    refine wpAnyH_done (by kernel_rfl) ?_ _
    clear hHeld
    go_wp2_with fail
    go_ret
    have n2 := HB2.out.size
    have n5 := HX.out.size
    have m4 := HL4.out.1
    have m9 := HL9.out.1
    have m12 := HL12.out.1
    have m16 := N16.out
    have n9 : w5.drew.heap.size = w5.heap.size := rfl
    exact ⟨p4, p9, p12, av, bv, p16, rfl, ⟨⟨⟨by omega, keep HZ4.out HL4.out.2⟩, ⟨by omega, keep HZ4.out HL9.out.2⟩, ⟨by omega, keep HZ4.out HL12.out.2⟩⟩, HW4.out.old (by omega), ⟨by omega, HP16.out⟩⟩, bthen (bthen HB2.out HX.out) HZ4.out⟩
set_option linter.unusedSimpArgs false in
set_option maxRecDepth 100000 in
set_option maxHeartbeats 6400000 in
theorem outs1_any {w : World} {c : PChan} {h : List UInt8} {own rest : Int} (hc : ChanIn c) (hh : h.length = 32) :
    Calls Tryz.prog 63 #[.agg c.cells.toArray, .int .i64 1, .int .i64 own, .int .i64 rest, .agg (cellsOf h).toArray] w fun e w' => ∃ p1 p2 p3 p4 p5 p6 : Nat, e = .returned (.slice (some ⟨p6, 0, none⟩) 2 2) ∧ OutsAt w.heap.size w' c c.peer c.client own rest h p1 p2 p3 p4 p5 p6 ∧ Below w.heap.size w w' := by
  have HC := Lib.hid hc
  have HHL := Lib.hid hh
  have SZH : Hid ((Tryz.prog.info? 23).map (·.size) = some (cellsOf h).length) := Lib.hid (by rw [cellsOf_len, hh]; exact Tryz.size23)
  have HOF : Hid (∀ W : World, Calls Tryz.prog 91 #[.int .i64 1] W fun e w' => e = .returned (.int .i64 0) ∧ W = w') := Lib.hid fun W => otherOf_any W (.inr rfl)
  clear hc hh
  go_enter Tryz.func63, Tryz.ntmps63
  go_upto_region 1 with (fail)
  have b1 : Below w.heap.size w ((w.alloc (.cells c.cells.toArray 49)).alloc (.cells (cellsOf h).toArray 23)) := ((Below.refl _ _).alloc (Nat.le_refl _) _).alloc (by simp) _
  have h1 : ((w.alloc (.cells c.cells.toArray 49)).alloc (.cells (cellsOf h).toArray 23)).heap[w.heap.size]? = some (.cells c.cells.toArray 49 (0, 0)) := by
    rw [heap_alloc_old _ _ (by simp), heap_alloc_new]
  have h2 : ((w.alloc (.cells c.cells.toArray 49)).alloc (.cells (cellsOf h).toArray 23)).heap[w.heap.size + 1]? = some (.cells (cellsOf h).toArray 23 (0, 0)) := heap_alloc_at _ _ _ (by simp)
  revert b1 h1 h2
  generalize ((w.alloc (.cells c.cells.toArray 49)).alloc (.cells (cellsOf h).toArray 23)) = w1
  obtain ⟨g, hg⟩ : ∃ g, g = w.heap.size := ⟨_, rfl⟩
  rw [← hg]
  intro b1 h1 h2
  rw [hg] at b1
  have HB1 := Lib.hid b1
  have H1 := Lib.hid h1
  have H2 := Lib.hid h2
  have hat := chan_at HC.out.ftx (range_of h1)
  have c1 := hat.client
  have c2 := hat.peer
  rw [Nat.zero_add] at c1 c2
  clear hat b1 h1 h2 hg
  go_upto_region 3 with (first | (refine wpList_build10 rfl rfl (vs := [(0, .int .i64 c.client), (1, .int .i64 c.peer)]) rfl (build_pair14 _ _) ?_; go_frame) | (refine wpList_var rfl rfl 101 rfl _ _ rfl #[.int .i64 0, .int .i64 0] Tryz.zeroPair14 rfl [.int .i64 c.client, .int .i64 c.peer] (fun _ => rfl) (fun _ => rfl) rfl (by simp [Value.oneCell']) ?_; intro q w2 hq hh hb; go_frame; have d0 := (range_cons (range_of hh)).1; have d1 := (range_cons (range_cons (range_of hh)).2).1; rw [Nat.zero_add] at d1; have HD := Lib.hid d1; have HQL := Lib.hid (lt_of_block hh); have HB2 := Lib.hid (bthen HB1.out hb); have H12 := Lib.hid (keep hb H1.out); have H22 := Lib.hid (keep hb H2.out); clear hq hh hb c1 c2) | (go_at_call 91; (with_reducible refine (HOF.out _).mono ?_); rintro e w3 ⟨rfl, rfl⟩) | fail)
  have HGL := Lib.hid (lt_of_block H12.out)
  have HE : Hid (w2.cell? ⟨g, 37, none⟩ = some (.int .i64 c.wait)) := Lib.hid (by have h9 := (chan_at HC.out.ftx (range_of H12.out)).wait; rw [Nat.zero_add] at h9; exact h9)
  clear d0 d1
  go_cut [13] from 23 to 36 (fun u w' => ∃ p14 p4 p9 p12 : Nat, u = .pointer (some ⟨p14, 0, none⟩) ∧ w'.heap[p14]? = some (.cells (POut.cells (ownP c (some ⟨p12, 0, none⟩) (some ⟨p4, 0, none⟩) (some ⟨p9, 0, none⟩) c.peer c.client own h)).toArray 79 (0, 0)) ∧ (w2.heap.size ≤ p4 ∧ w'.heap[p4]? = some (.cells #[.int .i64 c.peer] 3 (0, 0))) ∧ (w2.heap.size ≤ p9 ∧ w'.heap[p9]? = some (.cells #[.int .i64 c.client] 3 (0, 0))) ∧ (w2.heap.size ≤ p12 ∧ w'.heap[p12]? = some (.cells (([⟨some ⟨p4, 0, none⟩, 1, 1, [c.peer], zero32, 0, c.wait⟩, ⟨some ⟨p9, 0, none⟩, 1, 1, [c.client], h, 0, 0⟩] : List PWay).flatMap wayK14.cells).toArray 82 (0, 0))) ∧ Below w2.heap.size w2 w')
  case first =>
    try simp only [Act.put]
    refine wp_region_held_drew (S := fun w' => Below w2.heap.size w2 w') (by kernel_rfl) (below_drew (Below.refl _ _)) (fun hHeld => ?_)
    refine tkP 0 rfl rfl ?_
    refine tkP 1 rfl rfl ?_
    refine tkP 2 rfl rfl ?_
    refine tkA 3 rfl rfl (yields_cell (b := q) (o := 1) (by rfl) rfl rfl (fun w0 hSw => (Below.cell hSw (p := ⟨q, 1, none⟩) HQL.out).trans HD.out) (fun w0 => Tryz.isAgg3 w0)) ?_
    refine tkP 5 rfl rfl ?_
    refine tkA 6 rfl rfl (yields_cell (b := g) (o := 37) (by rfl) rfl rfl (fun w0 hSw => (Below.cell hSw (p := ⟨g, 37, none⟩) HGL.out).trans HE.out) (fun w0 => Tryz.isAgg3 w0)) ?_
    refine tkP 8 rfl rfl ?_
    refine tkA 10 rfl rfl (yieldsIf_load_mid (by rfl) _ _ rfl (g + 1) 0 rfl (cellsOf h) _ (fun w0 hSw => range_of (keep hSw H22.out)) Tryz.underlying23 rfl SZH.out) ?_
    refine wpAnyH_ready (rs := [4, 9, 14]) (by kernel_rfl) (by simp) (AllReadyH.cons rfl (fun K hK => ?_) (AllReadyH.cons rfl (fun K hK => ?_) (AllReadyH.cons rfl (fun K hK => ?_) AllReadyH.nil)))
    all_goals (first | (refine step_int14 (d := 27) (y := c.peer) rfl (by rfl) rfl (by rfl) ?_; intro p4 y1 hp hh hb; (try (have HPp9 := Lib.hid (keep hb HPp9.out))); (try (have HPp12 := Lib.hid (keep hb HPp12.out))); (try (have HPp14 := Lib.hid (keep hb HPp14.out))); have NNp4 : Hid (w2.heap.size ≤ p4) := Lib.hid (Nat.le_trans (Below.size hHeld) hp); have HPp4 := Lib.hid hh; have HX := Lib.hid (bthen hHeld hb); clear hp hh hb; refine hK.out _ _ (by (try dsimp only); exact HX.out) (fun hHeld => ?_); clear hK K) | (refine step_int14 (d := 32) (y := c.client) rfl (by rfl) rfl (by rfl) ?_; intro p9 y1 hp hh hb; (try (have HPp4 := Lib.hid (keep hb HPp4.out))); (try (have HPp12 := Lib.hid (keep hb HPp12.out))); (try (have HPp14 := Lib.hid (keep hb HPp14.out))); have NNp9 : Hid (w2.heap.size ≤ p9) := Lib.hid (Nat.le_trans (Below.size hHeld) hp); have HPp9 := Lib.hid hh; have HX := Lib.hid (bthen hHeld hb); clear hp hh hb; refine hK.out _ _ (by (try dsimp only); exact HX.out) (fun hHeld => ?_); clear hK K) | (refine step_alloc10 (d := 13) rfl (by rfl) 79 rfl noOut.cells.toArray Tryz.zeroOut14 ?_; intro p14 y1 hp hh hb; (try (have HPp4 := Lib.hid (keep hb HPp4.out))); (try (have HPp9 := Lib.hid (keep hb HPp9.out))); (try (have HPp12 := Lib.hid (keep hb HPp12.out))); have NNp14 : Hid (w2.heap.size ≤ p14) := Lib.hid (Nat.le_trans (Below.size hHeld) hp); have HPp14 := Lib.hid hh; have HX := Lib.hid (bthen hHeld hb); clear hp hh hb; refine hK.out _ _ (by (try dsimp only); exact HX.out) (fun hHeld => ?_); clear hK K))
    all_goals (try (refine tkA (hr := by decide +kernel) 7 rfl rfl (yields_build10 (by rfl) rfl (vs := [(0, .slice (some ⟨p4, 0, none⟩) 1 1), (3, .int .i64 c.wait)]) (by rfl) (build_way_wait _ _ _ [c.peer] _)) ?_))
    all_goals (try (refine tkA (hr := by decide +kernel) 11 rfl rfl (yields_build10 (by rfl) rfl (vs := [(0, .slice (some ⟨p9, 0, none⟩) 1 1), (1, .agg (cellsOf h).toArray)]) (by rfl) (build_way_hash _ _ _ [c.client] HHL.out)) ?_))
    all_goals (first | (refine wpAnyH_ready (rs := [4, 9]) (by decide +kernel) (by simp) (AllReadyH.cons rfl (fun K hK => ?_) (AllReadyH.cons rfl (fun K hK => ?_) AllReadyH.nil))) | (refine wpAnyH_ready (rs := [4, 14]) (by decide +kernel) (by simp) (AllReadyH.cons rfl (fun K hK => ?_) (AllReadyH.cons rfl (fun K hK => ?_) AllReadyH.nil))) | (refine wpAnyH_ready (rs := [9, 14]) (by decide +kernel) (by simp) (AllReadyH.cons rfl (fun K hK => ?_) (AllReadyH.cons rfl (fun K hK => ?_) AllReadyH.nil))))
    all_goals (first | (refine step_int14 (d := 27) (y := c.peer) rfl (by rfl) rfl (by rfl) ?_; intro p4 y1 hp hh hb; (try (have HPp9 := Lib.hid (keep hb HPp9.out))); (try (have HPp12 := Lib.hid (keep hb HPp12.out))); (try (have HPp14 := Lib.hid (keep hb HPp14.out))); have NNp4 : Hid (w2.heap.size ≤ p4) := Lib.hid (Nat.le_trans (Below.size hHeld) hp); have HPp4 := Lib.hid hh; have HX := Lib.hid (bthen hHeld hb); clear hp hh hb; refine hK.out _ _ (by (try dsimp only); exact HX.out) (fun hHeld => ?_); clear hK K) | (refine step_int14 (d := 32) (y := c.client) rfl (by rfl) rfl (by rfl) ?_; intro p9 y1 hp hh hb; (try (have HPp4 := Lib.hid (keep hb HPp4.out))); (try (have HPp12 := Lib.hid (keep hb HPp12.out))); (try (have HPp14 := Lib.hid (keep hb HPp14.out))); have NNp9 : Hid (w2.heap.size ≤ p9) := Lib.hid (Nat.le_trans (Below.size hHeld) hp); have HPp9 := Lib.hid hh; have HX := Lib.hid (bthen hHeld hb); clear hp hh hb; refine hK.out _ _ (by (try dsimp only); exact HX.out) (fun hHeld => ?_); clear hK K) | (refine step_alloc10 (d := 13) rfl (by rfl) 79 rfl noOut.cells.toArray Tryz.zeroOut14 ?_; intro p14 y1 hp hh hb; (try (have HPp4 := Lib.hid (keep hb HPp4.out))); (try (have HPp9 := Lib.hid (keep hb HPp9.out))); (try (have HPp12 := Lib.hid (keep hb HPp12.out))); have NNp14 : Hid (w2.heap.size ≤ p14) := Lib.hid (Nat.le_trans (Below.size hHeld) hp); have HPp14 := Lib.hid hh; have HX := Lib.hid (bthen hHeld hb); clear hp hh hb; refine hK.out _ _ (by (try dsimp only); exact HX.out) (fun hHeld => ?_); clear hK K))
    all_goals (try (refine tkA (hr := by decide +kernel) 7 rfl rfl (yields_build10 (by rfl) rfl (vs := [(0, .slice (some ⟨p4, 0, none⟩) 1 1), (3, .int .i64 c.wait)]) (by rfl) (build_way_wait _ _ _ [c.peer] _)) ?_))
    all_goals (try (refine tkA (hr := by decide +kernel) 11 rfl rfl (yields_build10 (by rfl) rfl (vs := [(0, .slice (some ⟨p9, 0, none⟩) 1 1), (1, .agg (cellsOf h).toArray)]) (by rfl) (build_way_hash _ _ _ [c.client] HHL.out)) ?_))
    all_goals (first | (refine wpAnyH_ready (rs := [12, 14]) (by decide +kernel) (by simp) (AllReadyH.cons rfl (fun K hK => ?_) (AllReadyH.cons rfl (fun K hK => ?_) AllReadyH.nil))) | (refine tkR (hr := by decide +kernel) 4 rfl (fun K hK => ?_)) | (refine tkR (hr := by decide +kernel) 9 rfl (fun K hK => ?_)))
    all_goals (first | (refine step_int14 (d := 27) (y := c.peer) rfl (by rfl) rfl (by rfl) ?_; intro p4 y1 hp hh hb; (try (have HPp9 := Lib.hid (keep hb HPp9.out))); (try (have HPp12 := Lib.hid (keep hb HPp12.out))); (try (have HPp14 := Lib.hid (keep hb HPp14.out))); have NNp4 : Hid (w2.heap.size ≤ p4) := Lib.hid (Nat.le_trans (Below.size hHeld) hp); have HPp4 := Lib.hid hh; have HX := Lib.hid (bthen hHeld hb); clear hp hh hb; refine hK.out _ _ (by (try dsimp only); exact HX.out) (fun hHeld => ?_); clear hK K) | (refine step_int14 (d := 32) (y := c.client) rfl (by rfl) rfl (by rfl) ?_; intro p9 y1 hp hh hb; (try (have HPp4 := Lib.hid (keep hb HPp4.out))); (try (have HPp12 := Lib.hid (keep hb HPp12.out))); (try (have HPp14 := Lib.hid (keep hb HPp14.out))); have NNp9 : Hid (w2.heap.size ≤ p9) := Lib.hid (Nat.le_trans (Below.size hHeld) hp); have HPp9 := Lib.hid hh; have HX := Lib.hid (bthen hHeld hb); clear hp hh hb; refine hK.out _ _ (by (try dsimp only); exact HX.out) (fun hHeld => ?_); clear hK K) | (refine step_lits Tryz.wayAt14 (d := 35) rfl (by rfl) rfl [⟨some ⟨p4, 0, none⟩, 1, 1, [c.peer], zero32, 0, c.wait⟩, ⟨some ⟨p9, 0, none⟩, 1, 1, [c.client], h, 0, 0⟩] rfl (by decide) (by decide) (by intro x hx; simp at hx; rcases hx with rfl | rfl; exact PWay.cells_len zero32_len; exact PWay.cells_len HHL.out) (by rfl) ?_; intro p12 y1 hp hh hb; (try (have HPp4 := Lib.hid (keep hb HPp4.out))); (try (have HPp9 := Lib.hid (keep hb HPp9.out))); (try (have HPp14 := Lib.hid (keep hb HPp14.out))); have NNp12 : Hid (w2.heap.size ≤ p12) := Lib.hid (Nat.le_trans (Below.size hHeld) hp); have HPp12 := Lib.hid hh; have HX := Lib.hid (bthen hHeld hb); clear hp hh hb; refine hK.out _ _ (by (try dsimp only); exact HX.out) (fun hHeld => ?_); clear hK K) | (refine step_alloc10 (d := 13) rfl (by rfl) 79 rfl noOut.cells.toArray Tryz.zeroOut14 ?_; intro p14 y1 hp hh hb; (try (have HPp4 := Lib.hid (keep hb HPp4.out))); (try (have HPp9 := Lib.hid (keep hb HPp9.out))); (try (have HPp12 := Lib.hid (keep hb HPp12.out))); have NNp14 : Hid (w2.heap.size ≤ p14) := Lib.hid (Nat.le_trans (Below.size hHeld) hp); have HPp14 := Lib.hid hh; have HX := Lib.hid (bthen hHeld hb); clear hp hh hb; refine hK.out _ _ (by (try dsimp only); exact HX.out) (fun hHeld => ?_); clear hK K))
    all_goals (try (refine tkA (hr := by decide +kernel) 7 rfl rfl (yields_build10 (by rfl) rfl (vs := [(0, .slice (some ⟨p4, 0, none⟩) 1 1), (3, .int .i64 c.wait)]) (by rfl) (build_way_wait _ _ _ [c.peer] _)) ?_))
    all_goals (try (refine tkA (hr := by decide +kernel) 11 rfl rfl (yields_build10 (by rfl) rfl (vs := [(0, .slice (some ⟨p9, 0, none⟩) 1 1), (1, .agg (cellsOf h).toArray)]) (by rfl) (build_way_hash _ _ _ [c.client] HHL.out)) ?_))
    all_goals (try (refine tkA (hr := by decide +kernel) 13 rfl rfl (yields_build10 (by rfl) rfl (vs := [(0, .int .i64 own), (1, .slice (some ⟨p12, 0, none⟩) 2 2)]) (by rfl) (build_out14 own _ _ _ [⟨some ⟨p4, 0, none⟩, 1, 1, [c.peer], zero32, 0, c.wait⟩, ⟨some ⟨p9, 0, none⟩, 1, 1, [c.client], h, 0, 0⟩])) ?_))
    all_goals (first | (refine tkR (hr := by decide +kernel) 12 rfl (fun K hK => ?_)) | (refine tkR (hr := by decide +kernel) 14 rfl (fun K hK => ?_)))
    all_goals (first | (refine step_lits Tryz.wayAt14 (d := 35) rfl (by rfl) rfl [⟨some ⟨p4, 0, none⟩, 1, 1, [c.peer], zero32, 0, c.wait⟩, ⟨some ⟨p9, 0, none⟩, 1, 1, [c.client], h, 0, 0⟩] rfl (by decide) (by decide) (by intro x hx; simp at hx; rcases hx with rfl | rfl; exact PWay.cells_len zero32_len; exact PWay.cells_len HHL.out) (by rfl) ?_; intro p12 y1 hp hh hb; (try (have HPp4 := Lib.hid (keep hb HPp4.out))); (try (have HPp9 := Lib.hid (keep hb HPp9.out))); (try (have HPp14 := Lib.hid (keep hb HPp14.out))); have NNp12 : Hid (w2.heap.size ≤ p12) := Lib.hid (Nat.le_trans (Below.size hHeld) hp); have HPp12 := Lib.hid hh; have HX := Lib.hid (bthen hHeld hb); clear hp hh hb; refine hK.out _ _ (by (try dsimp only); exact HX.out) (fun hHeld => ?_); clear hK K) | (refine step_alloc10 (d := 13) rfl (by rfl) 79 rfl noOut.cells.toArray Tryz.zeroOut14 ?_; intro p14 y1 hp hh hb; (try (have HPp4 := Lib.hid (keep hb HPp4.out))); (try (have HPp9 := Lib.hid (keep hb HPp9.out))); (try (have HPp12 := Lib.hid (keep hb HPp12.out))); have NNp14 : Hid (w2.heap.size ≤ p14) := Lib.hid (Nat.le_trans (Below.size hHeld) hp); have HPp14 := Lib.hid hh; have HX := Lib.hid (bthen hHeld hb); clear hp hh hb; refine hK.out _ _ (by (try dsimp only); exact HX.out) (fun hHeld => ?_); clear hK K))
    all_goals (try (refine tkA (hr := by decide +kernel) 13 rfl rfl (yields_build10 (by rfl) rfl (vs := [(0, .int .i64 own), (1, .slice (some ⟨p12, 0, none⟩) 2 2)]) (by rfl) (build_out14 own _ _ _ [⟨some ⟨p4, 0, none⟩, 1, 1, [c.peer], zero32, 0, c.wait⟩, ⟨some ⟨p9, 0, none⟩, 1, 1, [c.client], h, 0, 0⟩])) ?_))
    all_goals (refine tkR 15 rfl (fun K hK => ?_))
    all_goals (refine step_row10 (by rfl) 79 _ _ rfl p14 (POut.cells (ownP c (some ⟨p12, 0, none⟩) (some ⟨p4, 0, none⟩) (some ⟨p9, 0, none⟩) c.peer c.client own h)) (by rfl) (by rfl) 79 noOut.cells HPp14.out (by kernel_rfl) rfl (POut.one _) (fun y1 hh hb => ?_); have HX := Lib.hid (But.in hHeld hb NNp14.out); have HPp4 := Lib.hid ((hb.block p4 (lt_of_block HPp4.out) (fun e => by have h9 := HPp4.out; rw [e, HPp14.out] at h9; simp at h9)).trans HPp4.out); have HPp9 := Lib.hid ((hb.block p9 (lt_of_block HPp9.out) (fun e => by have h9 := HPp9.out; rw [e, HPp14.out] at h9; simp at h9)).trans HPp9.out); have HPp12 := Lib.hid ((hb.block p12 (lt_of_block HPp12.out) (fun e => by have h9 := HPp12.out; rw [e, HPp14.out] at h9; simp at h9)).trans HPp12.out); have HPp14 := Lib.hid hh; clear hh hb; refine hK.out _ _ (by (try dsimp only); exact HX.out) (fun hHeld => ?_); clear hK K)
    all_goals (refine wpAnyH_done (by kernel_rfl) ?_ _)
    all_goals (clear hHeld; go_wp2_with fail; go_meet; exact ⟨p14, p4, p9, p12, rfl, HPp14.out, ⟨NNp4.out, HPp4.out⟩, ⟨NNp9.out, HPp9.out⟩, ⟨NNp12.out, HPp12.out⟩, HX.out⟩)
  case rest =>
    obtain ⟨p14, p4, p9, p12, rfl, hp14, hl4, hl9, hl12, hx⟩ := hcut
    rename World => w5
    have HPp14 := Lib.hid hp14
    have HL4 := Lib.hid hl4
    have HL9 := Lib.hid hl9
    have HL12 := Lib.hid hl12
    have HX := Lib.hid hx
    clear hp14 hl4 hl9 hl12 hx
    go_upto_region 4 with (fail)
    refine wp_region_held_drew (S := fun w' => Below w5.heap.size w5 w') (by kernel_rfl) (below_drew (Below.refl _ _)) (fun hHeld => ?_)
    refine tkA 0 rfl rfl (yieldsIf_load_mid (by rfl) _ _ rfl p14 0 rfl (POut.cells (ownP c (some ⟨p12, 0, none⟩) (some ⟨p4, 0, none⟩) (some ⟨p9, 0, none⟩) c.peer c.client own h)) _ (fun w0 hSw => range_of (keep hSw HPp14.out)) Tryz.underlying79 rfl (by kernel_rfl)) ?_
    refine tkP 1 rfl rfl ?_
    refine tkP 2 rfl rfl ?_
    refine tkR 3 rfl (fun K hK => ?_)
    have HCT := Lib.hid (fun (W : World) => to_at14 c.client rest W)
    go_simp
    go_wp2_with ((go_at_call 92; (with_reducible refine (HCT.out _).mono ?_); rintro e z3 ⟨av, bv, rfl, hw3, hb⟩; have HW3 := Lib.hid hw3; have HZ3 := Lib.hid (bthen hHeld hb); clear hw3 hb HCT))
    refine hK.out _ _ (by (try dsimp only); exact HZ3.out) (fun hHeld => ?_)
    clear hK K
    refine tkR 4 rfl (fun K hK => ?_)
    refine step_lits Tryz.outAt14 (d := 41) rfl (by rfl) rfl [(ownP c (some ⟨p12, 0, none⟩) (some ⟨p4, 0, none⟩) (some ⟨p9, 0, none⟩) c.peer c.client own h), (herP (some ⟨bv, 0, none⟩) (some ⟨av, 0, none⟩) c.client rest)] rfl (by decide) (by decide) (by intro x hx; simp at hx; rcases hx with rfl | rfl; rfl; rfl) (by rfl) ?_
    intro p16 z4 hp hh hb
    have HP16 := Lib.hid hh
    have HZ4 := Lib.hid (bthen HZ3.out hb)
    have HW4 := Lib.hid (HW3.out.keep hb)
    have N16 := Lib.hid (Nat.le_trans HZ3.out.size hp)
    clear hp hh hb
    refine hK.out _ _ (by (try dsimp only); exact HZ4.out) (fun hHeld => ?_)
    clear hK K
    refine tkP 5 rfl rfl ?_
    refine wpAnyH_done (by kernel_rfl) ?_ _
    clear hHeld
    go_wp2_with fail
    go_ret
    have n2 := HB2.out.size
    have n5 := HX.out.size
    have m4 := HL4.out.1
    have m9 := HL9.out.1
    have m12 := HL12.out.1
    have m16 := N16.out
    have n9 : w5.drew.heap.size = w5.heap.size := rfl
    exact ⟨p4, p9, p12, av, bv, p16, rfl, ⟨⟨⟨by omega, keep HZ4.out HL4.out.2⟩, ⟨by omega, keep HZ4.out HL9.out.2⟩, ⟨by omega, keep HZ4.out HL12.out.2⟩⟩, HW4.out.old (by omega), ⟨by omega, HP16.out⟩⟩, bthen (bthen HB2.out HX.out) HZ4.out⟩
end Go.Proofs.YtcmdpmialehjgaaGreatDoor
