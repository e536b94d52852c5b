/- Literals of things of any kind, any number of them, in plain and in drawn regions; a block of such things as a slice. No function, type or variable of the program is named. Ways, ins, outs and transactions that are built; literals of numbers, ways, ins and outs. No function of the program is named. A transaction's rows while it is copied: what is written into cells that hold slices. No function of the program is named. slices.Clone at ins, outs and signs: rows of their own of the same things. bytes.Clone, slices.Clone at numbers: the same bytes, the same numbers, in a row of their own. What tx.copied comes to, of any transaction: one that says the same, its rows new. -/
import Derived.Test.YteddkkcheaghaaaGreatDoorSliceOf
import Derived.Great.FillDense
import Derived.Test.YteddkkcheaghaaaGreatDoorBuilds
import Derived.Test.YteddkkcheaghaaaGreatDoorTx
import Derived.Test.YteddkkcheaghaaaGreatDoorChanm
import Derived.Test.YteddkkcheaghaaaGreatDoorViewr
import Derived.Test.YteddkkcheaghaaaGreatDoorMemory
import Derived.Test.YteddkkcheaghaaaGreatDoorShelf
import Derived.Test.YteddkkcheaghaaaGreatDoorSteps
import Derived.Deep.CutRange
import Derived.Lib.BufferMore
namespace Go.Proofs.YteddkkcheaghaaaGreatDoor
open Go.RowKit
variable {α : Type}

section
variable {P : Program} {K : Sort8 α} {ts t : TypeId} {ops : Array Oper} {rest : List Oper} {o : Oper} {w : World} {Q : Exit → Act → World → Prop}
end
end Go.Proofs.YteddkkcheaghaaaGreatDoor
namespace Go.Proofs.YteddkkcheaghaaaGreatDoor
open Go.RowKit

theorem run_int14 (y : Int) (w : World) : (Instr.buildSlice 38 1 #[(0, .int .i64 y)]).run Tryz.prog w = .ok (.slice (some ⟨w.heap.size, 0, none⟩) 1 1) (w.alloc (.cells #[.int .i64 y] 3)) := by
  obtain ⟨ie, h1, h2, h3, _⟩ := info_parts (show (Tryz.prog.info? 3).map (fun i => (i.zero, i.size, i.bytes)) = some (some (.int .i64 0), 1, 8) by kernel_rfl)
  exact run_buildSlice w 38 3 1 _ _ ie _ Tryz.underlying38 h1 h2 (by rw [h3]; omega) (by rw [h3]; omega) (by rw [h3]; simp [Instr.fill, Value.cells]; rw [show Array.range 1 = #[0] by rfl]; simp)
def wayK14 : Sort8 PWay := ⟨35, PWay.cells, WayIn, noWay, by omega, fun _ _ h => PWay.cells_len h.sum, PWay.cells_one, fun h hb => h.below hb⟩
theorem Tryz.zeroWay14 : (Tryz.prog.info? 170).map (fun i => (i.zero, i.size, i.bytes)) = some (some (.agg noWay.cells.toArray), 35, 72) := by kernel_rfl
theorem Tryz.zeroIn14 : (Tryz.prog.info? 93).map (fun i => (i.zero, i.size, i.bytes)) = some (some (.agg noIn.cells.toArray), 35, 72) := by kernel_rfl
theorem Tryz.zeroOut14 : (Tryz.prog.info? 107).map (fun i => (i.zero, i.size, i.bytes)) = some (some (.agg noOut.cells.toArray), 2, 32) := by kernel_rfl
theorem Tryz.zeroTx14 : (Tryz.prog.info? 50).map (fun i => (i.zero, i.size, i.bytes)) = some (some (.agg noTx.cells.toArray), 40, 160) := by kernel_rfl
def Tryz.wayAt14 : SortAt Tryz.prog wayK14 105 170 := ⟨72, by omega, by show 35 ≤ 100000; omega, .agg noWay.cells.toArray, Tryz.underlying105, Tryz.zeroWay14, rfl⟩
def Tryz.inAt14 : SortAt Tryz.prog inK 44 93 := ⟨72, by omega, by show 35 ≤ 100000; omega, .agg noIn.cells.toArray, Tryz.underlying44, Tryz.zeroIn14, rfl⟩
def Tryz.outAt14 : SortAt Tryz.prog outK 22 107 := ⟨32, by omega, by show 2 ≤ 100000; omega, .agg noOut.cells.toArray, Tryz.underlying22, Tryz.zeroOut14, rfl⟩
theorem Tryz.inFields14 : ∃ fs, Tryz.prog.underlying 93 = some (.struct fs) ∧ ∀ w : World, ((fs.mapM fun (f : Field) => do pure (f.offset, ← sizeOf f.type)) : Sem (Array (Nat × Nat))).run Tryz.prog w = .ok #[(0, 33), (33, 1), (34, 1)] w := ⟨_, Tryz.underlying93, fun w => by kernel_rfl⟩
theorem noIn_parts : noIn.cells = refCells zero32 0 ++ ([.int .i64 0, .slice none 0 0] : List Value) := rfl
theorem build_in14 {s : List UInt8} (z : Int) (hl : s.length = 32) (w : World) : (Instr.build 93 ([(0, (.agg (refCells s z).toArray : Value))] : List (Nat × Value)).toArray).run Tryz.prog w = .ok (.agg (PIn.cells ⟨s, z, 0, none, 0, 0, []⟩).toArray) w := by
  obtain ⟨fs, hu, hm⟩ := Tryz.inFields14
  refine run_build_of hu hm Tryz.zeroIn14 ?_ w
  rw [show ([(0, (.agg (refCells s z).toArray : Value))] : List (Nat × Value)).toArray.toList = [(0, .agg (refCells s z).toArray)] from rfl, noIn_parts]
  rw [fill_step (off := 0) (n := 33) rfl (vs := refCells s z) rfl (refCells_len hl) (by simp [refCells_len, zero32_len]), spl_head (by rw [refCells_len hl, refCells_len zero32_len])]
  unfold Instr.fill
  simp [PIn.cells, refCells]
theorem build_tx14 (ia : Option Addr) (inn ic : Nat) (ins : List PIn) (oa : Option Addr) (on oc : Nat) (outs : List POut) (w : World) : (Instr.build 50 ([(0, (.slice ia inn ic : Value)), (1, .slice oa on oc)] : List (Nat × Value)).toArray).run Tryz.prog w = .ok (.agg (PTx.cells ⟨ia, inn, ic, ins, oa, on, oc, outs, noOp, none, 0, 0, []⟩).toArray) w := by kernel_rfl
end Go.Proofs.YteddkkcheaghaaaGreatDoor
namespace Go.Proofs.YteddkkcheaghaaaGreatDoor
open Go.RowKit

/-- What holds of the block that a slice lies in, if it has things. -/
def AllO (P : Nat → Prop) (n : Nat) (a : Option Addr) : Prop := 0 < n → ∀ x, a = some x → P x.block
theorem AllO.mono {P Q : Nat → Prop} {n : Nat} {a : Option Addr} (h : AllO P n a) (k : ∀ b, P b → Q b) : AllO Q n a := fun h0 x e => k _ (h h0 x e)
/-- A cell that holds a slice. -/
def SliceCell (w : World) (g o : Nat) : Prop := ∃ a n c, w.cell? ⟨g, o, none⟩ = some (.slice a n c)
theorem row_setCell {w : World} {a : Option Addr} {n c g o : Nat} {l : List UInt8} (h : Row w a n c l) (hs : SliceCell w g o) (v : Value) : Row (w.setCell ⟨g, o, none⟩ v) a n c l := by
  obtain ⟨h1, h2, h3, h4, h5⟩ := h
  refine ⟨h1, h2, h3, h4, fun h0 => ?_⟩
  obtain ⟨b, off, rfl, hlt, hc⟩ := h5 h0
  refine ⟨b, off, rfl, by simpa using hlt, fun j hj => ?_⟩
  rw [cell_set_other (fun e => ?_)]
  · exact hc j hj
  · obtain ⟨a', n', c', hs⟩ := hs
    have h9 := hc j hj
    rw [← e, hs] at h9
    cases h9
theorem InIn.set {w : World} {y : PIn} {g o : Nat} (h : InIn w y) (hs : SliceCell w g o) (v : Value) : InIn (w.setCell ⟨g, o, none⟩ v) y := ⟨h.tx, h.place, h.way, row_setCell h.pre hs v⟩
theorem OpIn.set {w : World} {y : POp} {g o : Nat} (h : OpIn w y) (hs : SliceCell w g o) (v : Value) : OpIn (w.setCell ⟨g, o, none⟩ v) y := ⟨h.kind, h.tower, h.channel, h.amount, h.root, row_setCell h.data hs v⟩
theorem signs_setCell {w : World} {a : Option Addr} {n c g o : Nat} {xs : List PSign} (h : SliceOf signK w a n c xs) (hs : SliceCell w g o) (v : Value) : SliceOf signK (w.setCell ⟨g, o, none⟩ v) a n c xs := by
  obtain ⟨h1, h2, h3, h4, h4b, h5⟩ := h
  refine ⟨h1, h2, h3, h4, h4b, fun h0 => ?_⟩
  obtain ⟨b, off, rfl, hlt, hc⟩ := h5 h0
  refine ⟨b, off, rfl, by simpa using hlt, fun j hj k u hu => ?_⟩
  rw [cell_set_other (fun e => ?_)]
  · exact hc j hj k u hu
  · obtain ⟨a', n', c', hs⟩ := hs
    have h9 := hc j hj k u hu
    rw [← e, hs] at h9
    have h8 := List.mem_of_getElem? hu
    simp only [signK, PSign.cells, List.mem_cons, cellsOf, List.mem_map] at h8
    rcases h8 with rfl | ⟨z, _, rfl⟩ <;> cases h9
theorem Ways.set {w : World} {a : Option Addr} {n c g o : Nat} {xs : List PWay} (h : Ways w a n c xs) (hs : SliceCell w g o) (hne : AllO (· ≠ g) n a) (v : Value) : Ways (w.setCell ⟨g, o, none⟩ v) a n c xs := by
  obtain ⟨a', n', c', hs⟩ := hs
  exact ways_setCell h hs (fun z e => by cases e) hne
theorem OutIn.set {w : World} {y : POut} {g o : Nat} (h : OutIn w y) (hs : SliceCell w g o) (hne : AllO (· ≠ g) y.n y.a) (v : Value) : OutIn (w.setCell ⟨g, o, none⟩ v) y := ⟨h.m, h.ws.set hs hne v⟩
section
variable {α : Type} {K : Sort8 α}
theorem SliceOf.kept {w : World} {a : Option Addr} {n c g o : Nat} {xs : List α} {v : Value} (h : SliceOf K w a n c xs) (hne : AllO (· ≠ g) n a) (hx : ∀ x ∈ xs, K.ok (w.setCell ⟨g, o, none⟩ v) x) : SliceOf K (w.setCell ⟨g, o, none⟩ v) a n c xs :=
  h.moved (B := w.heap.size) (p := g) (fun h0 x e => ⟨h.block h0 x e, hne h0 x e⟩) hx (but_setCell9 w g o v)
theorem getD_set_self {xs : List α} {i : Nat} {x d : α} (hi : i < xs.length) : (xs.set i x).getD i d = x := by rw [List.getD_eq_getElem?_getD, List.getElem?_set_self hi]; rfl
theorem getD_set_ne {xs : List α} {i j : Nat} {x d : α} (h : j ≠ i) : (xs.set i x).getD j d = xs.getD j d := by rw [List.getD_eq_getElem?_getD, List.getElem?_set_ne (fun e => h e.symm), ← List.getD_eq_getElem?_getD]
/-- A cell of a row is written: one thing is another one now. -/
theorem SliceOf.put {w : World} {g n c i off : Nat} {xs : List α} {v : Value} (h : SliceOf K w (some ⟨g, 0, none⟩) n c xs) (hi : i < n) (ho : off < K.size) (x' : α) (hc : K.cells x' = (K.cells (xs.getD i K.dflt)).set off v)
    (hok : ∀ x ∈ xs.set i x', K.ok (w.setCell ⟨g, i * K.size + off, none⟩ v) x) : SliceOf K (w.setCell ⟨g, i * K.size + off, none⟩ v) (some ⟨g, 0, none⟩) n c (xs.set i x') := by
  have hlen : ∀ j, j < n → (K.cells (xs.getD j K.dflt)).length = K.size := fun j hj => K.len w _ (h.get hj)
  obtain ⟨h1, h2, h3, h4, _, h5⟩ := h
  have hil : i < xs.length := by omega
  obtain ⟨b, o, e, hlt, hr⟩ := h5 (by omega)
  cases e
  refine ⟨by rw [List.length_set]; exact h1, h2, h3, h4, hok, fun _ => ⟨g, 0, rfl, by simpa using hlt, fun j hj k u hu => ?_⟩⟩
  rw [Nat.zero_add]
  by_cases hji : j = i
  · subst hji
    rw [getD_set_self hil, hc] at hu
    by_cases hk : k = off
    · subst hk
      rw [List.getElem?_set_self (by rw [hlen j hj]; exact ho)] at hu
      cases hu
      obtain ⟨u0, hu0⟩ : ∃ u0, (K.cells (xs.getD j K.dflt))[k]? = some u0 := ⟨_, List.getElem?_eq_getElem (by rw [hlen j hj]; exact ho)⟩
      have h9 := hr j hj k u0 hu0
      rw [Nat.zero_add] at h9
      exact cell_set_same h9
    · rw [List.getElem?_set_ne (fun e => hk e.symm)] at hu
      rw [cell_set_other (fun e => hk (by have h9 := congrArg Addr.off e; simp at h9; omega))]
      have h9 := hr j hj k u hu
      rw [Nat.zero_add] at h9
      exact h9
  · rw [getD_set_ne hji] at hu
    have hk : k < K.size := by rw [← hlen j hj]; exact (List.getElem?_eq_some_iff.1 hu).1
    rw [cell_set_other (fun e => by
      have h9 := congrArg Addr.off e
      simp at h9
      rcases Nat.lt_or_gt_of_ne hji with hlt2 | hlt2
      · have h8 := Nat.mul_le_mul_right K.size (show j + 1 ≤ i by omega)
        rw [Nat.succ_mul] at h8
        omega
      · have h8 := Nat.mul_le_mul_right K.size (show i + 1 ≤ j by omega)
        rw [Nat.succ_mul] at h8
        omega)]
    have h9 := hr j hj k u hu
    rw [Nat.zero_add] at h9
    exact h9
theorem mem_getD15 {xs : List α} {m : Nat} {d : α} (h : m < xs.length) : xs.getD m d ∈ xs := by
  rw [List.getD_eq_getElem?_getD, List.getElem?_eq_getElem h]
  exact List.getElem_mem h
theorem mem_set_cases {xs : List α} {i : Nat} {x x' d : α} (h : x ∈ xs.set i x') : x = x' ∨ ∃ j, j < xs.length ∧ j ≠ i ∧ x = xs.getD j d := by
  obtain ⟨j, hj, rfl⟩ := List.getElem_of_mem h
  rw [List.length_set] at hj
  by_cases hji : j = i
  · subst hji
    exact .inl (List.getElem_set_self _)
  · refine .inr ⟨j, hj, hji, ?_⟩
    rw [List.getElem_set_ne (fun e => hji e.symm), List.getD_eq_getElem?_getD, List.getElem?_eq_getElem hj]
    rfl
theorem map_set_same {β : Type} {f : α → β} {xs : List α} {i : Nat} {x' d : α} (hi : i < xs.length) (hf : f x' = f (xs.getD i d)) : (xs.set i x').map f = xs.map f := by
  apply List.ext_getElem?
  intro j
  rw [List.getElem?_map, List.getElem?_map]
  by_cases hji : j = i
  · subst hji
    rw [List.getElem?_set_self hi, List.getElem?_eq_getElem hi, Option.map_some, Option.map_some, hf, List.getD_eq_getElem?_getD, List.getElem?_eq_getElem hi]
    rfl
  · rw [List.getElem?_set_ne (fun e => hji e.symm)]
end
def PIn.at15 (y : PIn) (a : Option Addr) (n c : Nat) : PIn := ⟨y.tx, y.place, y.way, a, n, c, y.pre⟩
def POut.at15 (z : POut) (a : Option Addr) (n c : Nat) (ws : List PWay) : POut := ⟨z.m, a, n, c, ws⟩
theorem PIn.cells_at (y : PIn) (hl : y.tx.length = 32) (a : Option Addr) (n c : Nat) : (y.at15 a n c).cells = y.cells.set 34 (.slice a n c) := by
  simp [PIn.cells, PIn.at15, cellsOf_len, hl]
theorem PIn.cell34 (y : PIn) (hl : y.tx.length = 32) : y.cells[34]? = some (.slice y.a y.n y.c) := by simp [PIn.cells, cellsOf_len, hl]
theorem POut.cells_at (z : POut) (a : Option Addr) (n c : Nat) (ws : List PWay) : (z.at15 a n c ws).cells = z.cells.set 1 (.slice a n c) := rfl

theorem row_stays {w : World} {k : Nat} {t : TypeId} (h : ∃ cur, w.heap[k]? = some (.cells cur t (0, 0))) (g o : Nat) (v : Value) : ∃ cur, (w.setCell ⟨g, o, none⟩ v).heap[k]? = some (.cells cur t (0, 0)) := by
  obtain ⟨cur, hh⟩ := h
  by_cases e : k = g
  · subst e
    exact ⟨_, heap_setCell_eq hh o v⟩
  · exact ⟨cur, (heap_setCell_ne e v).trans hh⟩
theorem frozen_row {w : World} {k : Nat} {t : TypeId} {cur : Array Value} (h : w.heap[k]? = some (.cells cur t (0, 0))) (i : Nat) : w.frozen? ⟨k, i, none⟩ = false := by simp [World.frozen?, h]
/-- A transaction's box while it is copied: its rows are new, what they say is the same. -/
structure CpSt (w0 : World) (g r B1 : Nat) (t : PTx) (sg : Option Addr) (cg : Nat) (X : List Value) (ai : Option Addr) (ci : Nat) (ao : Option Addr) (co : Nat) (ys : List PIn) (zs : List POut) (w : World) : Prop where
  box : w.heap[g]? = some (.cells X.toArray 50 (0, 0))
  ins : SliceOf inK w ai t.inn ci ys
  outs : SliceOf outK w ao t.on co zs
  op : OpIn w t.op
  sgs : SliceOf signK w sg t.sn cg t.signs
  newS : AllO (fun b => b ≠ r ∧ w0.heap.size ≤ b) t.sn sg
  sIns : ys.map PIn.strip = t.ins.map PIn.strip
  sOuts : zs.map POut.strip = t.outs.map POut.strip
  res : w.heap[r]? = some (.cells noTx.cells.toArray 50 (0, 0))
  newI : 0 < t.inn → ∃ gi, ai = some ⟨gi, 0, none⟩ ∧ r < gi ∧ gi < B1
  newO : 0 < t.on → ∃ go, ao = some ⟨go, 0, none⟩ ∧ r < go ∧ go < B1
  two : ∀ gi go, 0 < t.inn → 0 < t.on → ai = some ⟨gi, 0, none⟩ → ao = some ⟨go, 0, none⟩ → gi ≠ go
  rowI : ∀ gi, 0 < t.inn → ai = some ⟨gi, 0, none⟩ → ∃ cur, w.heap[gi]? = some (.cells cur 93 (0, 0))
  rowO : ∀ go, 0 < t.on → ao = some ⟨go, 0, none⟩ → ∃ cur, w.heap[go]? = some (.cells cur 107 (0, 0))
  far : ∀ z ∈ zs, AllO (fun b => b < w0.heap.size ∨ B1 ≤ b) z.n z.a
  apI : ∀ y ∈ ys, AllO (· ≠ r) y.n y.a
  apK : ∀ z ∈ zs, ∀ u ∈ z.ws, AllO (· ≠ r) u.n u.a
  apD : AllO (· ≠ r) t.op.n t.op.a
  lo : w0.heap.size ≤ g
  gr : g < r
  hi : r < B1
  size : B1 ≤ w.heap.size
  below : Below w0.heap.size w0 w
section
variable {w0 w w' : World} {g r B1 : Nat} {t : PTx} {sg : Option Addr} {cg : Nat} {X : List Value} {ai : Option Addr} {ci : Nat} {ao : Option Addr} {co : Nat} {ys : List PIn} {zs : List POut}
theorem CpSt.more (h : CpSt w0 g r B1 t sg cg X ai ci ao co ys zs w) (hb : Below w.heap.size w w') : CpSt w0 g r B1 t sg cg X ai ci ao co ys zs w' :=
  ⟨(hb.block _ (lt_of_block h.box)).trans h.box, h.ins.below hb, h.outs.below hb, h.op.below hb, h.sgs.below hb, h.newS, h.sIns, h.sOuts, (hb.block _ (lt_of_block h.res)).trans h.res, h.newI, h.newO, h.two, (fun gi h0 e => (h.rowI gi h0 e).elim fun cur hh => ⟨cur, (hb.block _ (lt_of_block hh)).trans hh⟩), (fun go h0 e => (h.rowO go h0 e).elim fun cur hh => ⟨cur, (hb.block _ (lt_of_block hh)).trans hh⟩), h.far, h.apI, h.apK, h.apD, h.lo, h.gr, h.hi, Nat.le_trans h.size hb.size, h.below.trans (hb.mono h.below.size)⟩
/-- The box itself is written: one of its slices. -/
theorem CpSt.putBox (h : CpSt w0 g r B1 t sg cg X ai ci ao co ys zs w) {o : Nat} (hs : SliceCell w g o) (v : Value) : CpSt w0 g r B1 t sg cg (X.set o v) ai ci ao co ys zs (w.setCell ⟨g, o, none⟩ v) := by
  have hlo := h.lo
  have hgr := h.gr
  have hhi := h.hi
  refine ⟨?_, ?_, ?_, h.op.set hs _, signs_setCell h.sgs hs _, h.newS, h.sIns, h.sOuts, (heap_setCell_ne (by omega) _).trans h.res, h.newI, h.newO, h.two, (fun k h0 e2 => row_stays (h.rowI k h0 e2) _ _ _), (fun k h0 e2 => row_stays (h.rowO k h0 e2) _ _ _), h.far, h.apI, h.apK, h.apD, h.lo, h.gr, h.hi, by simpa using h.size, h.below.setCell (p := ⟨g, o, none⟩) hlo _⟩
  · have h9 := heap_setCell_eq h.box o v
    rw [List.setIfInBounds_toArray] at h9
    exact h9
  · refine h.ins.kept (fun h0 x e => ?_) (fun x hx => InIn.set (h.ins.2.2.2.2.1 x hx) hs _)
    obtain ⟨gi, e3, l1, l2⟩ := h.newI h0
    rw [e] at e3
    cases e3
    show gi ≠ g
    omega
  · refine h.outs.kept (fun h0 x e => ?_) (fun x hx => OutIn.set (h.outs.2.2.2.2.1 x hx) hs ((h.far x hx).mono fun b hb => by omega) _)
    obtain ⟨go, e3, l1, l2⟩ := h.newO h0
    rw [e] at e3
    cases e3
    show go ≠ g
    omega
theorem CpSt.inCell (h : CpSt w0 g r B1 t sg cg X ai ci ao co ys zs w) {gi j : Nat} (e : ai = some ⟨gi, 0, none⟩) (hj : j < t.inn) : w.cell? ⟨gi, j * 35 + 34, none⟩ = some (.slice (ys.getD j noIn).a (ys.getD j noIn).n (ys.getD j noIn).c) := by
  obtain ⟨b, off, e2, _, hc⟩ := h.ins.2.2.2.2.2 (by omega)
  rw [e] at e2
  cases e2
  have hl : InIn w (ys.getD j noIn) := h.ins.get hj
  have h9 := hc j hj 34 _ (PIn.cell34 _ hl.tx)
  rw [Nat.zero_add] at h9
  exact h9
theorem CpSt.outCell (h : CpSt w0 g r B1 t sg cg X ai ci ao co ys zs w) {go j : Nat} (e : ao = some ⟨go, 0, none⟩) (hj : j < t.on) : w.cell? ⟨go, j * 2 + 1, none⟩ = some (.slice (zs.getD j noOut).a (zs.getD j noOut).n (zs.getD j noOut).c) := by
  obtain ⟨b, off, e2, _, hc⟩ := h.outs.2.2.2.2.2 (by omega)
  rw [e] at e2
  cases e2
  have h9 := hc j hj 1 (.slice (zs.getD j noOut).a (zs.getD j noOut).n (zs.getD j noOut).c) rfl
  rw [Nat.zero_add] at h9
  exact h9
/-- What an in shows is elsewhere. -/
theorem CpSt.putPre (h : CpSt w0 g r B1 t sg cg X ai ci ao co ys zs w) {gi j : Nat} (e : ai = some ⟨gi, 0, none⟩) (hj : j < t.inn) {a' : Option Addr} {n' c' : Nat} (hr : Row w a' n' c' (ys.getD j noIn).pre) (hn : AllO (· ≠ r) n' a') :
    CpSt w0 g r B1 t sg cg X ai ci ao co (ys.set j ((ys.getD j noIn).at15 a' n' c')) zs (w.setCell ⟨gi, j * 35 + 34, none⟩ (.slice a' n' c')) := by
  obtain ⟨gi', e2, l1, l2⟩ := h.newI (by omega)
  rw [e] at e2
  cases e2
  have hs : SliceCell w gi (j * 35 + 34) := ⟨_, _, _, h.inCell e hj⟩
  have hyl : j < ys.length := by rw [h.ins.1]; exact hj
  have hok : InIn w (ys.getD j noIn) := h.ins.get hj
  subst e
  have hlo := h.lo
  have hgr := h.gr
  refine ⟨(heap_setCell_ne (by omega) _).trans h.box, ?_, ?_, h.op.set hs _, signs_setCell h.sgs hs _, h.newS, ?_, h.sOuts, (heap_setCell_ne (by omega) _).trans h.res, h.newI, h.newO, h.two, (fun k h0 e2 => row_stays (h.rowI k h0 e2) _ _ _), (fun k h0 e2 => row_stays (h.rowO k h0 e2) _ _ _), h.far, (fun y hy => by
    rcases mem_set_cases (d := noIn) hy with rfl | ⟨k, hk, _, rfl⟩
    · exact hn
    · exact h.apI _ (h.ins.mem (by rw [← h.ins.1]; exact hk))), h.apK, h.apD, h.lo, h.gr, h.hi, by simpa using h.size, h.below.setCell (p := ⟨gi, j * 35 + 34, none⟩) (by show w0.heap.size ≤ gi; omega) _⟩
  · refine SliceOf.put (K := inK) (off := 34) h.ins hj (by show 34 < 35; omega) _ (PIn.cells_at _ hok.tx _ _ _) (fun x hx => ?_)
    rcases mem_set_cases (d := noIn) hx with rfl | ⟨k, hk, _, rfl⟩
    · exact ⟨hok.tx, hok.place, hok.way, row_setCell hr hs _⟩
    · exact InIn.set (h.ins.get (by rw [← h.ins.1]; exact hk)) hs _
  · refine h.outs.kept (fun h0 x e => ?_) (fun x hx => OutIn.set (h.outs.2.2.2.2.1 x hx) hs ((h.far x hx).mono fun b hb => by omega) _)
    obtain ⟨go, e3, _⟩ := h.newO h0
    rw [e] at e3
    cases e3
    exact fun e4 => h.two gi go (by omega) h0 rfl e e4.symm
  · rw [map_set_same (d := noIn) hyl (by rfl)]
    exact h.sIns
/-- An out's ways are elsewhere. -/
theorem CpSt.putWays (h : CpSt w0 g r B1 t sg cg X ai ci ao co ys zs w) {go j : Nat} (e : ao = some ⟨go, 0, none⟩) (hj : j < t.on) {a' : Option Addr} {n' c' : Nat} (hr : Ways w a' n' c' (zs.getD j noOut).ws) (hf : AllO (B1 ≤ ·) n' a') :
    CpSt w0 g r B1 t sg cg X ai ci ao co ys (zs.set j ((zs.getD j noOut).at15 a' n' c' (zs.getD j noOut).ws)) (w.setCell ⟨go, j * 2 + 1, none⟩ (.slice a' n' c')) := by
  obtain ⟨go', e2, l1, l2⟩ := h.newO (by omega)
  rw [e] at e2
  cases e2
  have hs : SliceCell w go (j * 2 + 1) := ⟨_, _, _, h.outCell e hj⟩
  have hzl : j < zs.length := by rw [h.outs.1]; exact hj
  have hok : OutIn w (zs.getD j noOut) := h.outs.get hj
  subst e
  have hlo := h.lo
  have hgr := h.gr
  refine ⟨(heap_setCell_ne (by omega) _).trans h.box, ?_, ?_, h.op.set hs _, signs_setCell h.sgs hs _, h.newS, h.sIns, ?_, (heap_setCell_ne (by omega) _).trans h.res, h.newI, h.newO, h.two, (fun k h0 e2 => row_stays (h.rowI k h0 e2) _ _ _), (fun k h0 e2 => row_stays (h.rowO k h0 e2) _ _ _), fun z hz => ?_, h.apI, (fun z hz => by
    rcases mem_set_cases (d := noOut) hz with rfl | ⟨k, hk, _, rfl⟩
    · exact h.apK (zs.getD j noOut) (h.outs.mem hj)
    · exact h.apK _ (h.outs.mem (by rw [← h.outs.1]; exact hk))), h.apD, h.lo, h.gr, h.hi, by simpa using h.size, h.below.setCell (p := ⟨go, j * 2 + 1, none⟩) (by show w0.heap.size ≤ go; omega) _⟩
  · refine h.ins.kept (fun h0 x e => ?_) (fun x hx => InIn.set (h.ins.2.2.2.2.1 x hx) hs _)
    obtain ⟨gi, e3, _⟩ := h.newI h0
    rw [e] at e3
    cases e3
    exact h.two gi go h0 (by omega) e rfl
  · refine SliceOf.put (K := outK) (off := 1) h.outs hj (by show 1 < 2; omega) _ (POut.cells_at _ _ _ _ _) (fun x hx => ?_)
    rcases mem_set_cases (d := noOut) hx with rfl | ⟨k, hk, _, rfl⟩
    · exact ⟨hok.m, Ways.set hr hs (hf.mono fun b hb => by omega) _⟩
    · have hk' : k < t.on := by rw [← h.outs.1]; exact hk
      exact OutIn.set (h.outs.get hk') hs ((h.far _ (h.outs.mem hk')).mono fun b hb => by omega) _
  · rw [map_set_same (d := noOut) hzl (by rfl)]
    exact h.sOuts
  · rcases mem_set_cases (d := noOut) hz with rfl | ⟨k, hk, _, rfl⟩
    · exact hf.mono fun b hb => .inr hb
    · exact h.far _ (h.outs.mem (by rw [← h.outs.1]; exact hk))
/-- A way's keys are elsewhere: the ways of one out, the others lie in other blocks. -/
theorem CpSt.putKey (h : CpSt w0 g r B1 t sg cg X ai ci ao co ys zs w) {gw j i : Nat} (hj : j < t.on) (e : (zs.getD j noOut).a = some ⟨gw, 0, none⟩) (hi : i < (zs.getD j noOut).n) (hB : B1 ≤ gw) (hd : ∀ k, k < t.on → k ≠ j → AllO (· ≠ gw) (zs.getD k noOut).n (zs.getD k noOut).a)
    {a' : Option Addr} {n' c' : Nat} (hr : Numbers w a' n' c' ((zs.getD j noOut).ws.getD i noWay).ks) (hn : AllO (· ≠ r) n' a') :
    CpSt w0 g r B1 t sg cg X ai ci ao co ys (zs.set j ((zs.getD j noOut).at15 (some ⟨gw, 0, none⟩) (zs.getD j noOut).n (zs.getD j noOut).c ((zs.getD j noOut).ws.set i (((zs.getD j noOut).ws.getD i noWay).at9 a' n' c')))) (w.setCell ⟨gw, i * 35, none⟩ (.slice a' n' c')) := by
  have hzl : j < zs.length := by rw [h.outs.1]; exact hj
  have hok : OutIn w (zs.getD j noOut) := h.outs.get hj
  have hws := hok.ws
  rw [e] at hws
  have hs : SliceCell w gw (i * 35) := by
    obtain ⟨b, off, e2, _, hc⟩ := hws.2.2.2.2.2 (by omega)
    cases e2
    have h9 := way_keys (hc i hi)
    rw [Nat.zero_add] at h9
    exact ⟨_, _, _, h9⟩
  have hwl : i < (zs.getD j noOut).ws.length := by rw [hws.1]; exact hi
  have h0g := h.below.size
  have hlo := h.lo
  have hgr := h.gr
  have hhi := h.hi
  refine ⟨(heap_setCell_ne (by omega) _).trans h.box, ?_, ?_, h.op.set hs _, signs_setCell h.sgs hs _, h.newS, h.sIns, ?_, (heap_setCell_ne (by omega) _).trans h.res, h.newI, h.newO, h.two, (fun k h0 e2 => row_stays (h.rowI k h0 e2) _ _ _), (fun k h0 e2 => row_stays (h.rowO k h0 e2) _ _ _), fun z hz => ?_, h.apI, (fun z hz => by
    rcases mem_set_cases (d := noOut) hz with rfl | ⟨k, hk, _, rfl⟩
    · intro u hu
      rcases mem_set_cases (d := noWay) hu with rfl | ⟨m, hm, _, rfl⟩
      · exact hn
      · exact h.apK (zs.getD j noOut) (h.outs.mem hj) _ (mem_getD15 hm)
    · exact h.apK _ (h.outs.mem (by rw [← h.outs.1]; exact hk))), h.apD, h.lo, h.gr, h.hi, by simpa using h.size, h.below.setCell (p := ⟨gw, i * 35, none⟩) (by show w0.heap.size ≤ gw; omega) _⟩
  · refine h.ins.kept (fun h0 x e => ?_) (fun x hx => InIn.set (h.ins.2.2.2.2.1 x hx) hs _)
    obtain ⟨gi, e3, _, l2⟩ := h.newI h0
    rw [e] at e3
    cases e3
    show gi ≠ gw
    omega
  · have hout : ∀ x ∈ zs.set j ((zs.getD j noOut).at15 (some ⟨gw, 0, none⟩) (zs.getD j noOut).n (zs.getD j noOut).c ((zs.getD j noOut).ws.set i (((zs.getD j noOut).ws.getD i noWay).at9 a' n' c'))), OutIn (w.setCell ⟨gw, i * 35, none⟩ (.slice a' n' c')) x := fun x hx => by
      rcases mem_set_cases (d := noOut) hx with rfl | ⟨k, hk, hkj, rfl⟩
      · exact ⟨hok.m, ways_key_set hws hi hr⟩
      · have hk' : k < t.on := by rw [← h.outs.1]; exact hk
        exact OutIn.set (h.outs.get hk') hs (hd k hk' hkj) _
    obtain ⟨h1, h2, h3, h4, _, h5⟩ := h.outs
    refine ⟨by rw [List.length_set]; exact h1, h2, h3, h4, hout, fun h0 => ?_⟩
    obtain ⟨b, off, e2, hlt, hc⟩ := h5 h0
    obtain ⟨go, e3, _, l2⟩ := h.newO h0
    rw [e2] at e3
    simp at e3
    obtain ⟨e4, rfl⟩ := e3
    refine ⟨b, 0, e2, by simpa using hlt, fun k hk u v hv => ?_⟩
    have hcell : outK.cells ((zs.set j ((zs.getD j noOut).at15 (some ⟨gw, 0, none⟩) (zs.getD j noOut).n (zs.getD j noOut).c ((zs.getD j noOut).ws.set i (((zs.getD j noOut).ws.getD i noWay).at9 a' n' c')))).getD k outK.dflt) = outK.cells (zs.getD k outK.dflt) := by
      by_cases hkj : k = j
      · subst hkj
        rw [getD_set_self hzl]
        show POut.cells _ = POut.cells (zs.getD k noOut)
        unfold POut.cells POut.at15
        rw [e]
      · rw [getD_set_ne hkj]
    rw [hcell] at hv
    rw [cell_set_other (fun e5 => by have h9 := congrArg Addr.block e5; simp at h9; omega)]
    exact hc k hk u v hv
  · rw [map_set_same (d := noOut) hzl (by
      show POut.strip _ = POut.strip (zs.getD j noOut)
      unfold POut.strip POut.at15
      dsimp only
      rw [List.length_set, strip_set hwl])]
    exact h.sOuts
  · rcases mem_set_cases (d := noOut) hz with rfl | ⟨k, hk, _, rfl⟩
    · exact fun _ x e5 => by
        cases e5
        exact .inr hB
    · exact h.far _ (h.outs.mem (by rw [← h.outs.1]; exact hk))
/-- The result's block is written: all that was copied stays. -/
theorem CpSt.last (h : CpSt w0 g r B1 t sg cg X ai ci ao co ys zs w) (hb : But w.heap.size r w w') : SliceOf inK w' ai t.inn ci ys ∧ SliceOf outK w' ao t.on co zs ∧ SliceOf signK w' sg t.sn cg t.signs := by
  have hgr := h.gr
  have hlo := h.lo
  have hhi := h.hi
  refine ⟨?_, ?_, ?_⟩
  · refine h.ins.moved (B := w.heap.size) (p := r) (fun h0 x e => ⟨h.ins.block h0 x e, ?_⟩) (fun y hy => ?_) hb
    · obtain ⟨gi, e3, l1, _⟩ := h.newI h0
      rw [e] at e3
      cases e3
      show gi ≠ r
      omega
    · have hy1 : InIn w y := h.ins.2.2.2.2.1 y hy
      exact ⟨hy1.tx, hy1.place, hy1.way, hy1.pre.but hb (fun h0 b off e => h.apI y hy h0 _ e)⟩
  · refine h.outs.moved (B := w.heap.size) (p := r) (fun h0 x e => ⟨h.outs.block h0 x e, ?_⟩) (fun z hz => ?_) hb
    · obtain ⟨go, e3, l1, _⟩ := h.newO h0
      rw [e] at e3
      cases e3
      show go ≠ r
      omega
    · have hz1 : OutIn w z := h.outs.2.2.2.2.1 z hz
      refine ⟨hz1.m, SliceOf.moved (K := wayK9) (B := w.heap.size) (p := r) hz1.ws (fun h0 x e => ⟨SliceOf.block (K := wayK9) hz1.ws h0 x e, ?_⟩) (fun u hu => ?_) hb⟩
      · have h9 := h.far z hz h0 x e
        show x.block ≠ r
        omega
      · have hu1 : WayIn w u := hz1.ws.2.2.2.2.1 u hu
        exact ⟨hu1.keys.butO (B := w.heap.size) (pb := r) (fun h0 x e => ⟨by
          obtain ⟨b, off, e2, hlt, _⟩ := hu1.keys.2.2.2.2.2 h0
          rw [e] at e2
          cases e2
          exact hlt, h.apK z hz u hu h0 x e⟩) hb, hu1.sum, hu1.after, hu1.wait⟩
  · exact h.sgs.moved (B := w.heap.size) (p := r) (fun h0 x e => ⟨h.sgs.block h0 x e, (h.newS h0 x e).1⟩) (fun y hy => (show SignIn y from h.sgs.2.2.2.2.1 y hy)) hb
end
end Go.Proofs.YteddkkcheaghaaaGreatDoor
namespace Go.Proofs.YteddkkcheaghaaaGreatDoor
open Go.RowKit

theorem cloneIns_any {w : World} {a : Option Addr} {n c : Nat} {xs : List PIn} (h : SliceOf inK w a n c xs) (hn0 : a = none ∨ 1 ≤ n) (hn : n ≤ 1000) :
    Calls Tryz.prog 135 #[.slice a n c] w fun e w' => ∃ (a' : Option Addr) (c' : Nat), e = .returned (.slice a' n c') ∧ SliceOf inK w' a' n c' xs ∧ (a' = none ∨ 1 ≤ n) ∧ (1 ≤ n → ∃ g cur, a' = some ⟨g, 0, none⟩ ∧ w.heap.size ≤ g ∧ w'.heap[g]? = some (.cells cur 93 (0, 0))) ∧ Below w.heap.size w w' := by
  by_cases h0 : 1 ≤ n
  · obtain ⟨b, off, rfl, hlt, hc⟩ := h.2.2.2.2.2 h0
    obtain ⟨i0, hi, hz0, hz1, hz2⟩ := info_parts (show (Tryz.prog.info? 93).map (fun i => (i.zero, i.size, i.bytes)) = some (some (.agg noIn.cells.toArray), 35, 72) by kernel_rfl)
    have hall : ∀ x ∈ xs, (PIn.cells x).length = 35 := fun x hx => PIn.len (show InIn w x from h.2.2.2.2.1 x hx).tx
    have hlen : (xs.flatMap PIn.cells).length = n * 35 := by rw [cells_flat_len hall, h.1]
    refine (AnyE.slices_Clone Tryz.laysIns i0 (.agg noIn.cells.toArray) 35 72 hi hz0 hz1 hz2 (by kernel_rfl) (by omega) (by intro w; kernel_rfl) b off n c (xs.flatMap PIn.cells) w hlen (by unfold maxLen; omega) (by omega) (fun j u hj => ?_) (fun u hu => ?_)).mono ?_
    · have hjl : j < n * 35 := by rw [← hlen]; exact (List.getElem?_eq_some_iff.1 hj).1
      have h1 : j / 35 < n := Nat.div_lt_of_lt_mul (by omega)
      have h2 : j % 35 < 35 := Nat.mod_lt _ (by omega)
      have h3 := flat_get (d := noIn) hall (j := j / 35) (i := j % 35) (by rw [h.1]; exact h1) h2
      have h4 : j / 35 * 35 + j % 35 = j := Nat.div_add_mod' j 35
      rw [h4, hj] at h3
      have h5 := hc (j / 35) h1 (j % 35) u h3.symm
      replace h5 : w.cell? ⟨b, off + j / 35 * 35 + j % 35, none⟩ = some u := h5
      rw [show off + j / 35 * 35 + j % 35 = off + j by omega] at h5
      exact h5
    · obtain ⟨x, hx, hu⟩ := List.mem_flatMap.1 hu
      exact PIn.one x u hu
    · rintro e w' ⟨v', rfl, ho, hne, hb⟩
      have hO : OwnOf inK 93 w' w.heap.size v' xs := ⟨by rw [h.1]; exact ho, hall⟩
      rcases ho.2 with ⟨_, hz⟩ | ⟨g, cap, cur, rfl, hB, hh, _⟩
      · omega
      · refine ⟨_, _, rfl, ?_, .inr h0, fun _ => ⟨g, cur, rfl, hB, hh⟩, hb⟩
        exact hO.slice (fun x hx => inK.below (h.2.2.2.2.1 x hx) hb)
  · obtain rfl : n = 0 := by omega
    obtain rfl : a = none := hn0.resolve_right h0
    obtain rfl : xs = [] := List.eq_nil_of_length_eq_zero h.1
    refine (AnyE.slices_Clone_nil Tryz.laysIns 0 c w).mono ?_
    rintro e w' ⟨rfl, rfl⟩
    exact ⟨none, 0, rfl, SliceOf.nil _ _, .inl rfl, fun h => by omega, Below.refl _ _⟩
theorem cloneOuts_any {w : World} {a : Option Addr} {n c : Nat} {xs : List POut} (h : SliceOf outK w a n c xs) (hn0 : a = none ∨ 1 ≤ n) (hn : n ≤ 1000) :
    Calls Tryz.prog 136 #[.slice a n c] w fun e w' => ∃ (a' : Option Addr) (c' : Nat), e = .returned (.slice a' n c') ∧ SliceOf outK w' a' n c' xs ∧ (a' = none ∨ 1 ≤ n) ∧ (1 ≤ n → ∃ g cur, a' = some ⟨g, 0, none⟩ ∧ w.heap.size ≤ g ∧ w'.heap[g]? = some (.cells cur 107 (0, 0))) ∧ Below w.heap.size w w' := by
  by_cases h0 : 1 ≤ n
  · obtain ⟨b, off, rfl, hlt, hc⟩ := h.2.2.2.2.2 h0
    obtain ⟨i0, hi, hz0, hz1, hz2⟩ := info_parts (show (Tryz.prog.info? 107).map (fun i => (i.zero, i.size, i.bytes)) = some (some (.agg noOut.cells.toArray), 2, 32) by kernel_rfl)
    have hall : ∀ x ∈ xs, (POut.cells x).length = 2 := fun x hx => rfl
    have hlen : (xs.flatMap POut.cells).length = n * 2 := by rw [cells_flat_len hall, h.1]
    refine (AnyE.slices_Clone Tryz.laysOuts i0 (.agg noOut.cells.toArray) 2 32 hi hz0 hz1 hz2 (by kernel_rfl) (by omega) (by intro w; kernel_rfl) b off n c (xs.flatMap POut.cells) w hlen (by unfold maxLen; omega) (by omega) (fun j u hj => ?_) (fun u hu => ?_)).mono ?_
    · have hjl : j < n * 2 := by rw [← hlen]; exact (List.getElem?_eq_some_iff.1 hj).1
      have h1 : j / 2 < n := Nat.div_lt_of_lt_mul (by omega)
      have h2 : j % 2 < 2 := Nat.mod_lt _ (by omega)
      have h3 := flat_get (d := noOut) hall (j := j / 2) (i := j % 2) (by rw [h.1]; exact h1) h2
      have h4 : j / 2 * 2 + j % 2 = j := Nat.div_add_mod' j 2
      rw [h4, hj] at h3
      have h5 := hc (j / 2) h1 (j % 2) u h3.symm
      replace h5 : w.cell? ⟨b, off + j / 2 * 2 + j % 2, none⟩ = some u := h5
      rw [show off + j / 2 * 2 + j % 2 = off + j by omega] at h5
      exact h5
    · obtain ⟨x, hx, hu⟩ := List.mem_flatMap.1 hu
      exact POut.one x u hu
    · rintro e w' ⟨v', rfl, ho, hne, hb⟩
      have hO : OwnOf outK 107 w' w.heap.size v' xs := ⟨by rw [h.1]; exact ho, hall⟩
      rcases ho.2 with ⟨_, hz⟩ | ⟨g, cap, cur, rfl, hB, hh, _⟩
      · omega
      · refine ⟨_, _, rfl, ?_, .inr h0, fun _ => ⟨g, cur, rfl, hB, hh⟩, hb⟩
        exact hO.slice (fun x hx => outK.below (h.2.2.2.2.1 x hx) hb)
  · obtain rfl : n = 0 := by omega
    obtain rfl : a = none := hn0.resolve_right h0
    obtain rfl : xs = [] := List.eq_nil_of_length_eq_zero h.1
    refine (AnyE.slices_Clone_nil Tryz.laysOuts 0 c w).mono ?_
    rintro e w' ⟨rfl, rfl⟩
    exact ⟨none, 0, rfl, SliceOf.nil _ _, .inl rfl, fun h => by omega, Below.refl _ _⟩
theorem cloneSigns_any {w : World} {a : Option Addr} {n c : Nat} {xs : List PSign} (h : SliceOf signK w a n c xs) (hn0 : a = none ∨ 1 ≤ n) (hn : n ≤ 1000) :
    Calls Tryz.prog 137 #[.slice a n c] w fun e w' => ∃ (a' : Option Addr) (c' : Nat), e = .returned (.slice a' n c') ∧ SliceOf signK w' a' n c' xs ∧ (1 ≤ n ∨ (a' = none ∧ c' = 0)) ∧ (1 ≤ n → ∃ g cur, a' = some ⟨g, 0, none⟩ ∧ w.heap.size ≤ g ∧ w'.heap[g]? = some (.cells cur 162 (0, 0))) ∧ Below w.heap.size w w' := by
  by_cases h0 : 1 ≤ n
  · obtain ⟨b, off, rfl, hlt, hc⟩ := h.2.2.2.2.2 h0
    obtain ⟨i0, hi, hz0, hz1, hz2⟩ := info_parts (show (Tryz.prog.info? 162).map (fun i => (i.zero, i.size, i.bytes)) = some (some (.agg noSign.cells.toArray), 33, 40) by kernel_rfl)
    have hall : ∀ x ∈ xs, (PSign.cells x).length = 33 := fun x hx => PSign.len (show SignIn x from h.2.2.2.2.1 x hx).sum
    have hlen : (xs.flatMap PSign.cells).length = n * 33 := by rw [cells_flat_len hall, h.1]
    refine (AnyE.slices_Clone Tryz.laysSigns i0 (.agg noSign.cells.toArray) 33 40 hi hz0 hz1 hz2 (by kernel_rfl) (by omega) (by intro w; kernel_rfl) b off n c (xs.flatMap PSign.cells) w hlen (by unfold maxLen; omega) (by omega) (fun j u hj => ?_) (fun u hu => ?_)).mono ?_
    · have hjl : j < n * 33 := by rw [← hlen]; exact (List.getElem?_eq_some_iff.1 hj).1
      have h1 : j / 33 < n := Nat.div_lt_of_lt_mul (by omega)
      have h2 : j % 33 < 33 := Nat.mod_lt _ (by omega)
      have h3 := flat_get (d := noSign) hall (j := j / 33) (i := j % 33) (by rw [h.1]; exact h1) h2
      have h4 : j / 33 * 33 + j % 33 = j := Nat.div_add_mod' j 33
      rw [h4, hj] at h3
      have h5 := hc (j / 33) h1 (j % 33) u h3.symm
      replace h5 : w.cell? ⟨b, off + j / 33 * 33 + j % 33, none⟩ = some u := h5
      rw [show off + j / 33 * 33 + j % 33 = off + j by omega] at h5
      exact h5
    · obtain ⟨x, hx, hu⟩ := List.mem_flatMap.1 hu
      exact PSign.one x u hu
    · rintro e w' ⟨v', rfl, ho, hne, hb⟩
      have hO : OwnOf signK 162 w' w.heap.size v' xs := ⟨by rw [h.1]; exact ho, hall⟩
      rcases ho.2 with ⟨_, hz⟩ | ⟨g, cap, cur, rfl, hB, hh, _⟩
      · omega
      · refine ⟨_, _, rfl, ?_, .inl h0, fun _ => ⟨g, cur, rfl, hB, hh⟩, hb⟩
        exact hO.slice (fun x hx => signK.below (h.2.2.2.2.1 x hx) hb)
  · obtain rfl : n = 0 := by omega
    obtain rfl : a = none := hn0.resolve_right h0
    obtain rfl : xs = [] := List.eq_nil_of_length_eq_zero h.1
    refine (AnyE.slices_Clone_nil Tryz.laysSigns 0 c w).mono ?_
    rintro e w' ⟨rfl, rfl⟩
    exact ⟨none, 0, rfl, SliceOf.nil _ _, .inr ⟨rfl, rfl⟩, fun h => by omega, Below.refl _ _⟩
end Go.Proofs.YteddkkcheaghaaaGreatDoor
namespace Go.Proofs.YteddkkcheaghaaaGreatDoor
open Go.RowKit

theorem cloneB_any {w : World} {a : Option Addr} {n c : Nat} {l : List UInt8} (h : Row w a n c l) (hn : n ≤ 100000) :
    Calls Tryz.prog 138 #[.slice a n c] w fun e w' => ∃ (a' : Option Addr) (c' : Nat), e = .returned (.slice a' n c') ∧ Row w' a' n c' l ∧ (∀ x, a' = some x → w.heap.size ≤ x.block) ∧ Below w.heap.size w w' := by
  cases a with
  | none =>
    have hc := h.2.2.2.1 rfl
    obtain rfl : n = 0 := by have := h.2.1; omega
    obtain rfl : l = [] := List.eq_nil_of_length_eq_zero h.1
    exact (Tryz.bytes_Clone_nil 0 c w).mono fun e w' ⟨he, hw⟩ => ⟨none, 0, he, Row.nil _, (fun x e => by cases e), by rw [hw]; exact Below.refl _ _⟩
  | some ad =>
    refine (Tryz.bytes_Clone_at ad n c (l.map fun b => ((b.toNat : Nat) : Int)) w (by rw [List.length_map]; exact h.1) (by omega) (fun i hi => ?_)).mono fun e w' ⟨v, he, ho, _, hb⟩ => ?_
    · obtain ⟨b, off, e, _, hc⟩ := h.2.2.2.2 (by omega)
      cases e
      have hl : i < l.length := by rw [h.1]; exact hi
      have h9 := hc i hi
      rw [List.getD_eq_getElem?_getD, List.getElem?_eq_getElem hl, Option.getD_some] at h9
      rw [List.getD_eq_getElem?_getD, List.getElem?_map, List.getElem?_eq_getElem hl, show (⟨b, off, none⟩ : Addr).add i = ⟨b, off + i, none⟩ by unfold Addr.add; split <;> simp_all]
      exact h9
    · have ho2 : Own w' w.heap.size v l := by
        rw [List.map_map, ← h.1] at ho
        exact ho
      obtain ⟨a', c', rfl, hnew⟩ := ho2.shape
      have hr := ho2.row
      rw [h.1] at hr
      exact ⟨a', c', by rw [he, h.1], hr, hnew, hb⟩
theorem cloneZ_new {w : World} {a : Option Addr} {n c : Nat} {zs : List Int} (h : Numbers w a n c zs) (hn : n ≤ 100000) :
    Calls Tryz.prog 78 #[.slice a n c] w fun e w' => ∃ (a' : Option Addr) (c' : Nat), e = .returned (.slice a' n c') ∧ Numbers w' a' n c' zs ∧ (∀ x, a' = some x → w.heap.size ≤ x.block) ∧ Below w.heap.size w w' := by
  refine (clone_any h hn).mono fun e w' ⟨v, he, ho, hb⟩ => ?_
  obtain ⟨a', c', rfl, hnew⟩ := ho.shape
  have h9 := ho.numbers
  rw [h.1] at h9
  exact ⟨a', c', by rw [he, h.1], h9, hnew, hb⟩
end Go.Proofs.YteddkkcheaghaaaGreatDoor
namespace Go.Proofs.YteddkkcheaghaaaGreatDoor
open Go.RowKit

/-- No more than some. -/
structure FewTxS (t : PTx) : Prop where
  inn : t.inn ≤ 1000
  on : t.on ≤ 1000
  ia : t.ia = none ∨ 1 ≤ t.inn
  oa : t.oa = none ∨ 1 ≤ t.on
  pre : ∀ y ∈ t.ins, y.n ≤ 100000
  ws : ∀ z ∈ t.outs, (z.a = none ∨ 1 ≤ z.n) ∧ z.n ≤ 1000
  ks : ∀ z ∈ t.outs, ∀ u ∈ z.ws, u.ks.length ≤ 100000
  data : t.op.n ≤ 100000
  sn : t.sn ≤ 1000
  sa : t.sa = none ∨ 1 ≤ t.sn
/-- .. and no signs. -/
structure FewTx (t : PTx) : Prop where
  inn : t.inn ≤ 1000
  on : t.on ≤ 1000
  ia : t.ia = none ∨ 1 ≤ t.inn
  oa : t.oa = none ∨ 1 ≤ t.on
  pre : ∀ y ∈ t.ins, y.n ≤ 100000
  ws : ∀ z ∈ t.outs, (z.a = none ∨ 1 ≤ z.n) ∧ z.n ≤ 1000
  ks : ∀ z ∈ t.outs, ∀ u ∈ z.ws, u.ks.length ≤ 100000
  data : t.op.n ≤ 100000
  sa : t.sa = none
  sn : t.sn = 0
  sc : t.sc = 0
  signs : t.signs = []
/-- What holds of all blocks that a transaction without signs lies in. -/
structure AllTx (P : Nat → Prop) (y : PTx) : Prop where
  ia : AllO P y.inn y.ia
  oa : AllO P y.on y.oa
  pre : ∀ x ∈ y.ins, AllO P x.n x.a
  ws : ∀ z ∈ y.outs, AllO P z.n z.a
  ks : ∀ z ∈ y.outs, ∀ u ∈ z.ws, AllO P u.n u.a
  data : AllO P y.op.n y.op.a
theorem box_cell {w0 w : World} {g r B1 : Nat} {t : PTx} {sg : Option Addr} {cg : Nat} {X : List Value} {ai : Option Addr} {ci : Nat} {ao : Option Addr} {co : Nat} {ys : List PIn} {zs : List POut} (h : CpSt w0 g r B1 t sg cg X ai ci ao co ys zs w) {k : Nat} {v : Value} (hx : X[k]? = some v) : w.cell? ⟨g, k, none⟩ = some v := by
  rw [cell_of_row _ _ _ _ _ _ h.box, List.getElem?_toArray]
  exact hx
/-- A new row: where it lies. -/
def NewAt (B : Nat) (w : World) (T : TypeId) (n : Nat) (a : Option Addr) : Prop := 0 < n → ∃ g cur, a = some ⟨g, 0, none⟩ ∧ B ≤ g ∧ w.heap[g]? = some (.cells cur T (0, 0))
theorem NewAt.more {B : Nat} {w w' : World} {T : TypeId} {n : Nat} {a : Option Addr} (h : NewAt B w T n a) (hb : Below w.heap.size w w') : NewAt B w' T n a := fun h0 => by
  obtain ⟨g, cur, e, l, hh⟩ := h h0
  exact ⟨g, cur, e, l, (hb.block _ (lt_of_block hh)).trans hh⟩
theorem NewAt.set {B : Nat} {w : World} {T : TypeId} {n : Nat} {a : Option Addr} (h : NewAt B w T n a) (k o : Nat) (v : Value) : NewAt B (w.setCell ⟨k, o, none⟩ v) T n a := fun h0 => by
  obtain ⟨g, cur, e, l, hh⟩ := h h0
  obtain ⟨cur', h9⟩ := row_stays ⟨cur, hh⟩ k o v
  exact ⟨g, cur', e, l, h9⟩
theorem NewAt.all {B : Nat} {w : World} {T : TypeId} {n : Nat} {a : Option Addr} (h : NewAt B w T n a) : AllO (B ≤ ·) n a := fun h0 x e => by
  obtain ⟨g, cur, e2, l, _⟩ := h h0
  rw [e] at e2
  cases e2
  exact l
theorem new_row15 {w w' : World} {T : TypeId} {n : Nat} {a : Option Addr} (h : 1 ≤ n → ∃ g cur, a = some ⟨g, 0, none⟩ ∧ w.heap.size ≤ g ∧ w'.heap[g]? = some (.cells cur T (0, 0))) : NewAt w.heap.size w' T n a := fun h0 => h (by omega)
theorem two_rows15 {B : Nat} {w : World} {T T' : TypeId} {n m : Nat} {a b : Option Addr} {w' : World} (h : NewAt B w T n a) (k : NewAt w.heap.size w' T' m b) : ∀ gi go, 0 < n → 0 < m → a = some ⟨gi, 0, none⟩ → b = some ⟨go, 0, none⟩ → gi ≠ go := fun gi go h0 h1 e1 e2 => by
  obtain ⟨g, _, e3, _, hh⟩ := h h0
  obtain ⟨g', _, e4, l, _⟩ := k h1
  rw [e1] at e3
  rw [e2] at e4
  cases e3
  cases e4
  have := lt_of_block hh
  omega
theorem begun15 {w0 w : World} {g r Bi Bo : Nat} {t : PTx} {sg : Option Addr} {cg : Nat} {X : List Value} {ai : Option Addr} {ci : Nat} {ao : Option Addr} {co : Nat} (hv : w.heap[g]? = some (.cells X.toArray 50 (0, 0))) (hr : w.heap[r]? = some (.cells noTx.cells.toArray 50 (0, 0)))
    (hi : SliceOf inK w ai t.inn ci t.ins) (ho : SliceOf outK w ao t.on co t.outs) (hsg : SliceOf signK w sg t.sn cg t.signs) (hsn : AllO (fun b => b ≠ r ∧ w0.heap.size ≤ b) t.sn sg) (ht : TxIn w0 t) (ni : NewAt Bi w 93 t.inn ai) (no : NewAt Bo w 107 t.on ao) (li : r < Bi) (lo : r < Bo)
    (two : ∀ gi go, 0 < t.inn → 0 < t.on → ai = some ⟨gi, 0, none⟩ → ao = some ⟨go, 0, none⟩ → gi ≠ go) (hg : w0.heap.size ≤ g) (hgr : g < r) (hb : Below w0.heap.size w0 w) : CpSt w0 g r w.heap.size t sg cg X ai ci ao co t.ins t.outs w := by
  have hrl := lt_of_block hr
  have hrow : ∀ {n c : Nat} {a : Option Addr} {l : List UInt8}, Row w0 a n c l → AllO (· ≠ r) n a := fun h h0 x e => by
    obtain ⟨b, off, e2, hlt, _⟩ := h.2.2.2.2 h0
    rw [e] at e2
    cases e2
    show b ≠ r
    omega
  have hnum : ∀ {n c : Nat} {a : Option Addr} {l : List Int}, Numbers w0 a n c l → AllO (· ≠ r) n a := fun h h0 x e => by
    obtain ⟨b, off, e2, hlt, _⟩ := h.2.2.2.2.2 h0
    rw [e] at e2
    cases e2
    show b ≠ r
    omega
  refine ⟨hv, hi, ho, ht.op.below hb, hsg, hsn, rfl, rfl, hr, fun h0 => ?_, fun h0 => ?_, two, fun gi h0 e => ?_, fun go h0 e => ?_, fun z hz h0 x e => ?_, fun y hy => ?_, fun z hz u hu => ?_, hrow ht.op.data, hg, hgr, hrl, Nat.le_refl _, hb⟩
  · obtain ⟨gi, cur, e, l, hh⟩ := ni h0
    exact ⟨gi, e, by omega, lt_of_block hh⟩
  · obtain ⟨go, cur, e, l, hh⟩ := no h0
    exact ⟨go, e, by omega, lt_of_block hh⟩
  · obtain ⟨g2, cur, e2, _, hh⟩ := ni h0
    rw [e] at e2
    cases e2
    exact ⟨cur, hh⟩
  · obtain ⟨g2, cur, e2, _, hh⟩ := no h0
    rw [e] at e2
    cases e2
    exact ⟨cur, hh⟩
  · exact .inl (SliceOf.block (K := wayK9) (show OutIn w0 z from ht.outs.2.2.2.2.1 z hz).ws h0 x e)
  · exact hrow (show InIn w0 y from ht.ins.2.2.2.2.1 y hy).pre
  · exact hnum (show WayIn w0 u from (show OutIn w0 z from ht.outs.2.2.2.2.1 z hz).ws.2.2.2.2.1 u hu).keys
theorem zeroWay15 : (Tryz.prog.info? 170).map (fun i => (i.zero, i.size, i.bytes)) = some (some (.agg noWay.cells.toArray), 35, 72) := by kernel_rfl
theorem noTx15 : (Tryz.prog.info? 50).map (fun i => (i.zero, i.size, i.bytes)) = some (some (.agg noTx.cells.toArray), 40, 160) := by kernel_rfl
theorem tx_cells15 (t : PTx) (hl : t.op.root.length = 32) (a b c : Value) : ((t.cells.set 0 a).set 1 b).set 39 c = a :: b :: (t.op.cells ++ [c]) := by
  have h9 := POp.len hl
  show a :: b :: ((t.op.cells ++ [Value.slice t.sa t.sn t.sc]).set 37 c) = _
  rw [List.set_append_right _ _ (by omega), h9]
  rfl
theorem op_slot15 (x : POp) (hl : x.root.length = 32) (a : Option Addr) (n c : Nat) : x.cells.set 36 (.slice a n c) = POp.cells ⟨x.kind, x.tower, x.channel, x.amount, x.root, a, n, c, x.data⟩ := by
  simp [POp.cells, cellsOf_len, hl]
/-- The ways of an out while they are copied. -/
theorem way_at15 {w0 w : World} {g r B1 : Nat} {t : PTx} {sg : Option Addr} {cg : Nat} {X : List Value} {ai : Option Addr} {ci : Nat} {ao : Option Addr} {co : Nat} {ys : List PIn} {zs : List POut} {y : POut} {gw wc i j : Nat} {us : List PWay} (h : CpSt w0 g r B1 t sg cg X ai ci ao co ys (zs.set j (y.at15 (some ⟨gw, 0, none⟩) y.n wc us)) w) (hj : j < t.on) (hz : j < zs.length) (hi : i < y.n) :
    WayIn w (us.getD i noWay) ∧ w.rangeAt gw (i * 35) (us.getD i noWay).cells := by
  have h1 : OutIn w ((zs.set j (y.at15 (some ⟨gw, 0, none⟩) y.n wc us)).getD j noOut) := h.outs.get hj
  rw [getD_set_self hz] at h1
  have hw : Ways w (some ⟨gw, 0, none⟩) y.n wc us := h1.ws
  obtain ⟨b, off, e, _, hc⟩ := hw.2.2.2.2.2 (by omega)
  cases e
  have h9 := hc i hi
  rw [Nat.zero_add] at h9
  exact ⟨hw.way hi, h9⟩
theorem way_cap15 {w0 w : World} {g r B1 : Nat} {t : PTx} {sg : Option Addr} {cg : Nat} {X : List Value} {ai : Option Addr} {ci : Nat} {ao : Option Addr} {co : Nat} {ys : List PIn} {zs : List POut} {y : POut} {wa : Option Addr} {wc j : Nat} {us : List PWay} (h : CpSt w0 g r B1 t sg cg X ai ci ao co ys (zs.set j (y.at15 wa y.n wc us)) w) (hj : j < t.on) (hz : j < zs.length) : y.n ≤ wc ∧ wc ≤ maxLen := by
  have h1 : OutIn w ((zs.set j (y.at15 wa y.n wc us)).getD j noOut) := h.outs.get hj
  rw [getD_set_self hz] at h1
  have hw : Ways w wa y.n wc us := h1.ws
  exact ⟨hw.2.1, hw.2.2.1⟩
theorem way_len15 {w0 w : World} {g r B1 : Nat} {t : PTx} {sg : Option Addr} {cg : Nat} {X : List Value} {ai : Option Addr} {ci : Nat} {ao : Option Addr} {co : Nat} {ys : List PIn} {zs : List POut} {y : POut} {wa : Option Addr} {wc j : Nat} {us : List PWay} (h : CpSt w0 g r B1 t sg cg X ai ci ao co ys (zs.set j (y.at15 wa y.n wc us)) w) (hj : j < t.on) (hz : j < zs.length) : us.length = y.n := by
  have h1 : OutIn w ((zs.set j (y.at15 wa y.n wc us)).getD j noOut) := h.outs.get hj
  rw [getD_set_self hz] at h1
  exact h1.ws.1
theorem way_slot15 {w0 w : World} {g r B1 : Nat} {t : PTx} {sg : Option Addr} {cg : Nat} {X : List Value} {ai : Option Addr} {ci : Nat} {ao : Option Addr} {co : Nat} {ys : List PIn} {zs : List POut} {y : POut} {gw wc i j : Nat} {us : List PWay} (h : CpSt w0 g r B1 t sg cg X ai ci ao co ys (zs.set j (y.at15 (some ⟨gw, 0, none⟩) y.n wc us)) w) (hj : j < t.on) (hz : j < zs.length) (hi : i < y.n) :
    w.cell? ⟨gw, i * 35, none⟩ = some (.slice (us.getD i noWay).a (us.getD i noWay).n (us.getD i noWay).c) := way_keys (way_at15 h hj hz hi).2
theorem put_key15 {w0 w : World} {g r B1 : Nat} {t : PTx} {sg : Option Addr} {cg : Nat} {X : List Value} {ai : Option Addr} {ci : Nat} {ao : Option Addr} {co : Nat} {ys : List PIn} {zs : List POut} {y : POut} {gw wc i j : Nat} {us : List PWay} (h : CpSt w0 g r B1 t sg cg X ai ci ao co ys (zs.set j (y.at15 (some ⟨gw, 0, none⟩) y.n wc us)) w) (hj : j < t.on) (hz : j < zs.length) (hi : i < y.n) (hB : B1 ≤ gw)
    (hd : ∀ k, k < t.on → k ≠ j → AllO (· ≠ gw) (zs.getD k noOut).n (zs.getD k noOut).a) {a' : Option Addr} {n' c' : Nat} (hr : Numbers w a' n' c' (us.getD i noWay).ks) (hn : AllO (· ≠ r) n' a') :
    CpSt w0 g r B1 t sg cg X ai ci ao co ys (zs.set j (y.at15 (some ⟨gw, 0, none⟩) y.n wc (us.set i ((us.getD i noWay).at9 a' n' c')))) (w.setCell ⟨gw, i * 35, none⟩ (.slice a' n' c')) := by
  have e : (zs.set j (y.at15 (some ⟨gw, 0, none⟩) y.n wc us)).getD j noOut = y.at15 (some ⟨gw, 0, none⟩) y.n wc us := getD_set_self hz
  have h9 := h.putKey (gw := gw) (j := j) (i := i) (a' := a') (n' := n') (c' := c') hj (by rw [e]; rfl) (by rw [e]; exact hi) hB (fun k hk hkj => by rw [getD_set_ne hkj]; exact hd k hk hkj) (by rw [e]; exact hr) hn
  rw [e, List.set_set] at h9
  exact h9
set_option linter.unusedSimpArgs false in
set_option maxRecDepth 100000 in
set_option maxHeartbeats 6400000 in
theorem txCopiedS_any {w : World} {t : PTx} (ht : TxIn w t) (hf : FewTxS t) :
    Calls Tryz.prog 77 #[.agg t.cells.toArray] w fun e w' => ∃ y : PTx, e = .returned (.agg y.cells.toArray) ∧ TxIn w' y ∧ y.strip = t.strip ∧ AllTx (w.heap.size ≤ ·) y ∧ AllO (w.heap.size ≤ ·) y.sn y.sa ∧ y.sn = t.sn ∧ y.signs = t.signs ∧ (1 ≤ t.sn ∨ (y.sa = none ∧ y.sc = 0)) ∧ Below w.heap.size w w' := by
  have hx0 : t.cells[0]? = some (.slice t.ia t.inn t.ic) := rfl
  have hx1 : t.cells[1]? = some (.slice t.oa t.on t.oc) := rfl
  have hx39 : t.cells[39]? = some (.slice t.sa t.sn t.sc) := by
    have h9 := POp.len ht.op.root
    show (t.op.cells ++ [Value.slice t.sa t.sn t.sc])[37]? = _
    rw [List.getElem?_append_right (by omega), h9]
    rfl
  have hxl : t.cells.length = 40 := PTx.len ht.op.root
  have hzz := tx_cells15 t ht.op.root
  obtain ⟨X, hX⟩ : ∃ X, t.cells = X := ⟨_, rfl⟩
  rw [hX] at hx0 hx1 hx39 hxl hzz ⊢
  have HX0 := Lib.hid hx0
  have HX1 := Lib.hid hx1
  have HX39 := Lib.hid hx39
  have HXL := Lib.hid hxl
  have HZZ := Lib.hid hzz
  have HT := Lib.hid ht
  have HF := Lib.hid hf
  have hi63 := ht.ins.len63
  have ho63 := ht.outs.len63
  clear hX hx0 hx1 hx39 hxl hzz ht hf
  go_enter Tryz.func77, Tryz.ntmps77
  go_upto_region 1 with (first | (refine wpList_new rfl 50 rfl noTx.cells.toArray noTx15 ?_; intro r w1 hr hh hb; go_frame) | fail)
  have b0 : Below w.heap.size w (w.alloc (.cells X.toArray 50)) := (Below.refl _ _).alloc (Nat.le_refl _) _
  have h1 := keep hb (heap_alloc_new w (.cells X.toArray 50))
  have b1 := bthen b0 hb
  have hr2 : w.heap.size < r := by
    have h9 : (w.alloc (.cells X.toArray 50)).heap.size = w.heap.size + 1 := by simp
    omega
  obtain ⟨g, hg⟩ : ∃ g, g = w.heap.size := ⟨_, rfl⟩
  rw [← hg] at h1 ⊢
  have HV : Hid (w1.drew.heap[g]? = some (.cells X.toArray 50 (0, 0))) := Lib.hid h1
  have HR : Hid (w1.drew.heap[r]? = some (.cells noTx.cells.toArray 50 (0, 0))) := Lib.hid hh
  have HBW : Hid (Below w.heap.size w w1.drew) := Lib.hid (below_drew b1)
  have HLO : Hid (w.heap.size ≤ g) := Lib.hid (by omega)
  have HGR : Hid (g < r) := Lib.hid (by omega)
  clear b0 h1 b1 hr hh hb hr2 hg
  go_cut [3] from 7 to 18 (fun u w' => u = undef ∧ ∃ ai ci ao co sg cg B1, (1 ≤ t.sn ∨ (sg = none ∧ cg = 0)) ∧ CpSt w g r B1 t sg cg (((X.set 0 (.slice ai t.inn ci)).set 1 (.slice ao t.on co)).set 39 (.slice sg t.sn cg)) ai ci ao co t.ins t.outs w')
  case first =>
    refine wp_region_held_drew (S := fun _ => True) (by kernel_rfl) trivial (fun hHeld => ?_)
    refine tkP 0 rfl rfl ?_
    refine tkP 3 rfl rfl ?_
    refine tkP 6 rfl rfl ?_
    refine wpAnyH_ready (rs := [1, 4, 7]) (by kernel_rfl) (by simp) (AllReadyH.cons rfl (fun K hK => ?_) (AllReadyH.cons rfl (fun K hK => ?_) (AllReadyH.cons rfl (fun K hK => ?_) AllReadyH.nil)))
    all_goals (first | (refine step_cell (d := 8) rfl (by rfl) 44 _ rfl g 0 rfl (.slice t.ia t.inn t.ic) (by rw [cell_of_row _ _ _ _ _ _ HV.out, List.getElem?_toArray]; exact HX0.out) (Tryz.isAgg44 _) ?_; refine hK.out _ _ (by (try dsimp only); all_goals trivial) (fun hHeld => ?_); clear hK K) | (refine step_cell (d := 11) rfl (by rfl) 22 _ rfl g 1 rfl (.slice t.oa t.on t.oc) (by rw [cell_of_row _ _ _ _ _ _ HV.out, List.getElem?_toArray]; exact HX1.out) (Tryz.isAgg22 _) ?_; refine hK.out _ _ (by (try dsimp only); all_goals trivial) (fun hHeld => ?_); clear hK K) | (refine step_cell (d := 14) rfl (by rfl) 48 _ rfl g 39 rfl (.slice t.sa t.sn t.sc) (by rw [cell_of_row _ _ _ _ _ _ HV.out, List.getElem?_toArray]; exact HX39.out) (Tryz.isAgg48 _) ?_; refine hK.out _ _ (by (try dsimp only); all_goals trivial) (fun hHeld => ?_); clear hK K))
    all_goals (first | (refine wpAnyH_ready (rs := [2, 4, 7]) (by decide +kernel) (by simp) (AllReadyH.cons rfl (fun K hK => ?_) (AllReadyH.cons rfl (fun K hK => ?_) (AllReadyH.cons rfl (fun K hK => ?_) AllReadyH.nil)))) | (refine wpAnyH_ready (rs := [1, 4]) (by decide +kernel) (by simp) (AllReadyH.cons rfl (fun K hK => ?_) (AllReadyH.cons rfl (fun K hK => ?_) AllReadyH.nil))) | (refine wpAnyH_ready (rs := [1, 7]) (by decide +kernel) (by simp) (AllReadyH.cons rfl (fun K hK => ?_) (AllReadyH.cons rfl (fun K hK => ?_) AllReadyH.nil))))
    all_goals (first | (refine step_cell (d := 8) rfl (by rfl) 44 _ rfl g 0 rfl (.slice t.ia t.inn t.ic) (by rw [cell_of_row _ _ _ _ _ _ HV.out, List.getElem?_toArray]; exact HX0.out) (Tryz.isAgg44 _) ?_; refine hK.out _ _ (by (try dsimp only); all_goals trivial) (fun hHeld => ?_); clear hK K) | (refine step_cell (d := 11) rfl (by rfl) 22 _ rfl g 1 rfl (.slice t.oa t.on t.oc) (by rw [cell_of_row _ _ _ _ _ _ HV.out, List.getElem?_toArray]; exact HX1.out) (Tryz.isAgg22 _) ?_; refine hK.out _ _ (by (try dsimp only); all_goals trivial) (fun hHeld => ?_); clear hK K) | (refine step_cell (d := 14) rfl (by rfl) 48 _ rfl g 39 rfl (.slice t.sa t.sn t.sc) (by rw [cell_of_row _ _ _ _ _ _ HV.out, List.getElem?_toArray]; exact HX39.out) (Tryz.isAgg48 _) ?_; refine hK.out _ _ (by (try dsimp only); all_goals trivial) (fun hHeld => ?_); clear hK K) | (have HCx := Lib.hid (cloneIns_any (HT.out.ins.below HBW.out) HF.out.ia HF.out.inn); have HRI := Lib.hid (lt_of_block HR.out); go_simp; go_wp2_with ((go_at_call 135; (with_reducible refine (HCx.out).mono ?_); rintro e y1 ⟨ai, ci, rfl, hi, _, hgi, hb⟩; have HV := Lib.hid (keep hb HV.out); have HR := Lib.hid (keep hb HR.out); have HBW := Lib.hid (bthen HBW.out hb); (try (have HI := Lib.hid (HI.out.below hb))); (try (have HO := Lib.hid (HO.out.below hb))); (try (have HSG := Lib.hid (HSG.out.below hb))); (try (have HGI := Lib.hid (HGI.out.more hb))); (try (have HGO := Lib.hid (HGO.out.more hb))); have HI := Lib.hid hi; have HGI := Lib.hid (new_row15 hgi); clear hi hgi hb HCx)); refine hK.out _ _ (by (try dsimp only); all_goals trivial) (fun hHeld => ?_); clear hK K))
    all_goals (first | (refine wpAnyH_ready (rs := [2, 4]) (by decide +kernel) (by simp) (AllReadyH.cons rfl (fun K hK => ?_) (AllReadyH.cons rfl (fun K hK => ?_) AllReadyH.nil))) | (refine wpAnyH_ready (rs := [2, 7]) (by decide +kernel) (by simp) (AllReadyH.cons rfl (fun K hK => ?_) (AllReadyH.cons rfl (fun K hK => ?_) AllReadyH.nil))) | (refine wpAnyH_ready (rs := [4, 7]) (by decide +kernel) (by simp) (AllReadyH.cons rfl (fun K hK => ?_) (AllReadyH.cons rfl (fun K hK => ?_) AllReadyH.nil))) | (refine wpAnyH_ready (rs := [1]) (by decide +kernel) (by simp) (AllReadyH.cons rfl (fun K hK => ?_) AllReadyH.nil)))
    all_goals (first | (refine step_cell (d := 8) rfl (by rfl) 44 _ rfl g 0 rfl (.slice t.ia t.inn t.ic) (by rw [cell_of_row _ _ _ _ _ _ HV.out, List.getElem?_toArray]; exact HX0.out) (Tryz.isAgg44 _) ?_; refine hK.out _ _ (by (try dsimp only); all_goals trivial) (fun hHeld => ?_); clear hK K) | (refine step_cell (d := 11) rfl (by rfl) 22 _ rfl g 1 rfl (.slice t.oa t.on t.oc) (by rw [cell_of_row _ _ _ _ _ _ HV.out, List.getElem?_toArray]; exact HX1.out) (Tryz.isAgg22 _) ?_; refine hK.out _ _ (by (try dsimp only); all_goals trivial) (fun hHeld => ?_); clear hK K) | (refine step_cell (d := 14) rfl (by rfl) 48 _ rfl g 39 rfl (.slice t.sa t.sn t.sc) (by rw [cell_of_row _ _ _ _ _ _ HV.out, List.getElem?_toArray]; exact HX39.out) (Tryz.isAgg48 _) ?_; refine hK.out _ _ (by (try dsimp only); all_goals trivial) (fun hHeld => ?_); clear hK K) | (have HCx := Lib.hid (cloneIns_any (HT.out.ins.below HBW.out) HF.out.ia HF.out.inn); have HRI := Lib.hid (lt_of_block HR.out); go_simp; go_wp2_with ((go_at_call 135; (with_reducible refine (HCx.out).mono ?_); rintro e y1 ⟨ai, ci, rfl, hi, _, hgi, hb⟩; have HV := Lib.hid (keep hb HV.out); have HR := Lib.hid (keep hb HR.out); have HBW := Lib.hid (bthen HBW.out hb); (try (have HI := Lib.hid (HI.out.below hb))); (try (have HO := Lib.hid (HO.out.below hb))); (try (have HSG := Lib.hid (HSG.out.below hb))); (try (have HGI := Lib.hid (HGI.out.more hb))); (try (have HGO := Lib.hid (HGO.out.more hb))); have HI := Lib.hid hi; have HGI := Lib.hid (new_row15 hgi); clear hi hgi hb HCx)); refine hK.out _ _ (by (try dsimp only); all_goals trivial) (fun hHeld => ?_); clear hK K))
    all_goals (first | (refine wpAnyH_ready (rs := [5, 7]) (by decide +kernel) (by simp) (AllReadyH.cons rfl (fun K hK => ?_) (AllReadyH.cons rfl (fun K hK => ?_) AllReadyH.nil))) | (refine wpAnyH_ready (rs := [2]) (by decide +kernel) (by simp) (AllReadyH.cons rfl (fun K hK => ?_) AllReadyH.nil)) | (refine wpAnyH_ready (rs := [4]) (by decide +kernel) (by simp) (AllReadyH.cons rfl (fun K hK => ?_) AllReadyH.nil)))
    all_goals (first | (refine step_cell (d := 11) rfl (by rfl) 22 _ rfl g 1 rfl (.slice t.oa t.on t.oc) (by rw [cell_of_row _ _ _ _ _ _ HV.out, List.getElem?_toArray]; exact HX1.out) (Tryz.isAgg22 _) ?_; refine hK.out _ _ (by (try dsimp only); all_goals trivial) (fun hHeld => ?_); clear hK K) | (refine step_cell (d := 14) rfl (by rfl) 48 _ rfl g 39 rfl (.slice t.sa t.sn t.sc) (by rw [cell_of_row _ _ _ _ _ _ HV.out, List.getElem?_toArray]; exact HX39.out) (Tryz.isAgg48 _) ?_; refine hK.out _ _ (by (try dsimp only); all_goals trivial) (fun hHeld => ?_); clear hK K) | (have HCx := Lib.hid (cloneIns_any (HT.out.ins.below HBW.out) HF.out.ia HF.out.inn); have HRI := Lib.hid (lt_of_block HR.out); go_simp; go_wp2_with ((go_at_call 135; (with_reducible refine (HCx.out).mono ?_); rintro e y1 ⟨ai, ci, rfl, hi, _, hgi, hb⟩; have HV := Lib.hid (keep hb HV.out); have HR := Lib.hid (keep hb HR.out); have HBW := Lib.hid (bthen HBW.out hb); (try (have HI := Lib.hid (HI.out.below hb))); (try (have HO := Lib.hid (HO.out.below hb))); (try (have HSG := Lib.hid (HSG.out.below hb))); (try (have HGI := Lib.hid (HGI.out.more hb))); (try (have HGO := Lib.hid (HGO.out.more hb))); have HI := Lib.hid hi; have HGI := Lib.hid (new_row15 hgi); clear hi hgi hb HCx)); refine hK.out _ _ (by (try dsimp only); all_goals trivial) (fun hHeld => ?_); clear hK K) | (have HCx := Lib.hid (cloneOuts_any (HT.out.outs.below HBW.out) HF.out.oa HF.out.on); have HRO := Lib.hid (lt_of_block HR.out); go_simp; go_wp2_with ((go_at_call 136; (with_reducible refine (HCx.out).mono ?_); rintro e y1 ⟨ao, co, rfl, ho, _, hgo, hb⟩; have HTWO := Lib.hid (two_rows15 HGI.out (new_row15 hgo)); have HV := Lib.hid (keep hb HV.out); have HR := Lib.hid (keep hb HR.out); have HBW := Lib.hid (bthen HBW.out hb); (try (have HI := Lib.hid (HI.out.below hb))); (try (have HO := Lib.hid (HO.out.below hb))); (try (have HSG := Lib.hid (HSG.out.below hb))); (try (have HGI := Lib.hid (HGI.out.more hb))); (try (have HGO := Lib.hid (HGO.out.more hb))); have HO := Lib.hid ho; have HGO := Lib.hid (new_row15 hgo); clear ho hgo hb HCx)); refine hK.out _ _ (by (try dsimp only); all_goals trivial) (fun hHeld => ?_); clear hK K))
    all_goals (try (refine tkP (hr := by decide +kernel) 9 rfl rfl ?_))
    all_goals (first | (refine wpAnyH_ready (rs := [5]) (by decide +kernel) (by simp) (AllReadyH.cons rfl (fun K hK => ?_) AllReadyH.nil)) | (refine wpAnyH_ready (rs := [7]) (by decide +kernel) (by simp) (AllReadyH.cons rfl (fun K hK => ?_) AllReadyH.nil)))
    all_goals (first | (refine step_cell (d := 14) rfl (by rfl) 48 _ rfl g 39 rfl (.slice t.sa t.sn t.sc) (by rw [cell_of_row _ _ _ _ _ _ HV.out, List.getElem?_toArray]; exact HX39.out) (Tryz.isAgg48 _) ?_; refine hK.out _ _ (by (try dsimp only); all_goals trivial) (fun hHeld => ?_); clear hK K) | (have HCx := Lib.hid (cloneOuts_any (HT.out.outs.below HBW.out) HF.out.oa HF.out.on); have HRO := Lib.hid (lt_of_block HR.out); go_simp; go_wp2_with ((go_at_call 136; (with_reducible refine (HCx.out).mono ?_); rintro e y1 ⟨ao, co, rfl, ho, _, hgo, hb⟩; have HTWO := Lib.hid (two_rows15 HGI.out (new_row15 hgo)); have HV := Lib.hid (keep hb HV.out); have HR := Lib.hid (keep hb HR.out); have HBW := Lib.hid (bthen HBW.out hb); (try (have HI := Lib.hid (HI.out.below hb))); (try (have HO := Lib.hid (HO.out.below hb))); (try (have HSG := Lib.hid (HSG.out.below hb))); (try (have HGI := Lib.hid (HGI.out.more hb))); (try (have HGO := Lib.hid (HGO.out.more hb))); have HO := Lib.hid ho; have HGO := Lib.hid (new_row15 hgo); clear ho hgo hb HCx)); refine hK.out _ _ (by (try dsimp only); all_goals trivial) (fun hHeld => ?_); clear hK K))
    all_goals (try (refine tkP (hr := by decide +kernel) 9 rfl rfl ?_))
    all_goals (refine tkR 8 rfl (fun K hK => ?_))
    all_goals (have HCx := Lib.hid (cloneSigns_any (HT.out.signs.below HBW.out) HF.out.sa HF.out.sn); have HRS := Lib.hid (lt_of_block HR.out); go_simp; go_wp2_with ((go_at_call 137; (with_reducible refine (HCx.out).mono ?_); rintro e y1 ⟨sg, cg, rfl, hs, hs0, hgs, hb⟩; have HS0 := Lib.hid hs0; have HNS : Hid (AllO (fun b => b ≠ r ∧ w.heap.size ≤ b) t.sn sg) := Lib.hid ((new_row15 hgs).all.mono fun b hb2 => ⟨by have h9 := HRS.out; omega, by have h9 := HBW.out.size; omega⟩); have HV := Lib.hid (keep hb HV.out); have HR := Lib.hid (keep hb HR.out); have HBW := Lib.hid (bthen HBW.out hb); (try (have HI := Lib.hid (HI.out.below hb))); (try (have HO := Lib.hid (HO.out.below hb))); (try (have HSG := Lib.hid (HSG.out.below hb))); (try (have HGI := Lib.hid (HGI.out.more hb))); (try (have HGO := Lib.hid (HGO.out.more hb))); have HSG := Lib.hid hs; clear hs hs0 hgs hb HCx)); refine hK.out _ _ (by (try dsimp only); all_goals trivial) (fun hHeld => ?_); clear hK K)
    all_goals (refine tkR 10 rfl (fun K hK => ?_))
    all_goals (have HC := Lib.hid (begun15 HV.out HR.out HI.out HO.out HSG.out HNS.out HT.out HGI.out HGO.out HRI.out HRO.out HTWO.out HLO.out HGR.out HBW.out); have hc := box_cell HC.out (k := 0) (v := .slice t.ia t.inn t.ic) HX0.out; refine step_store_cell (by rfl) 44 _ _ rfl g 0 (by rfl) (.slice ai t.inn ci) (by rfl) (.slice t.ia t.inn t.ic) hc (frozen_row HC.out.box 0) (by kernel_rfl) rfl ?_; have HC := Lib.hid (HC.out.putBox (o := 0) ⟨_, _, _, hc⟩ (.slice ai t.inn ci)); clear hc; revert HC; generalize World.setCell _ _ _ = y1; intro HC; refine hK.out _ _ (by (try dsimp only); all_goals trivial) (fun hHeld => ?_); clear hK K)
    all_goals (refine tkP 11 rfl rfl ?_)
    all_goals (refine tkR 12 rfl (fun K hK => ?_))
    all_goals (have hc := box_cell HC.out (k := 1) (v := .slice t.oa t.on t.oc) (by rw [List.getElem?_set_ne (by decide)]; exact HX1.out); refine step_store_cell (by rfl) 22 _ _ rfl g 1 (by rfl) (.slice ao t.on co) (by rfl) (.slice t.oa t.on t.oc) hc (frozen_row HC.out.box 1) (by kernel_rfl) rfl ?_; have HC := Lib.hid (HC.out.putBox (o := 1) ⟨_, _, _, hc⟩ (.slice ao t.on co)); clear hc; revert HC; generalize World.setCell _ _ _ = y1; intro HC; refine hK.out _ _ (by (try dsimp only); all_goals trivial) (fun hHeld => ?_); clear hK K)
    all_goals (refine tkP 13 rfl rfl ?_)
    all_goals (refine tkR 14 rfl (fun K hK => ?_))
    all_goals (have hc := box_cell HC.out (k := 39) (v := .slice t.sa t.sn t.sc) (by rw [List.getElem?_set_ne (by decide), List.getElem?_set_ne (by decide)]; exact HX39.out); refine step_store_cell (by rfl) 48 _ _ rfl g 39 (by rfl) (.slice sg t.sn cg) (by rfl) (.slice t.sa t.sn t.sc) hc (frozen_row HC.out.box 39) (by kernel_rfl) rfl ?_; have HC := Lib.hid (HC.out.putBox (o := 39) ⟨_, _, _, hc⟩ (.slice sg t.sn cg)); clear hc; revert HC; generalize World.setCell _ _ _ = y1; intro HC; refine hK.out _ _ (by (try dsimp only); all_goals trivial) (fun hHeld => ?_); clear hK K)
    all_goals (refine wpAnyH_done (by kernel_rfl) ?_ _)
    all_goals (clear hHeld; go_wp2_with fail; go_meet; exact ⟨rfl, _, _, _, _, _, _, _, HS0.out, HC.out⟩)
  case rest =>
    obtain ⟨rfl, ai, ci, ao, co, sg, cg, B1, hs0, hc⟩ := hcut
    have HS0 := Lib.hid hs0
    clear hs0
    obtain ⟨Z, hZ⟩ : ∃ Z, (((X.set 0 (.slice ai t.inn ci)).set 1 (.slice ao t.on co)).set 39 (.slice sg t.sn cg)) = Z := ⟨_, rfl⟩
    rw [hZ] at hc
    rw [HZZ.out] at hZ
    have HC := Lib.hid hc
    have HZE := Lib.hid hZ.symm
    have HZ0 : Hid (Z[0]? = some (Value.slice ai t.inn ci)) := Lib.hid (by rw [← hZ]; rfl)
    have HZ1 : Hid (Z[1]? = some (Value.slice ao t.on co)) := Lib.hid (by rw [← hZ]; rfl)
    have HZ38 : Hid (Z[38]? = some (Value.slice t.op.a t.op.n t.op.c)) := Lib.hid (by
      rw [← hZ]
      show (t.op.cells ++ [Value.slice sg t.sn cg])[36]? = _
      rw [List.getElem?_append_left (by rw [POp.len HT.out.op.root]; decide)]
      simp [POp.cells, cellsOf_len, HT.out.op.root])
    clear hc hZ
    have hb0 := box_cell HC.out HZ0.out
    go_upto_region 3 with (fail)
    clear hb0
    go_loopw [22] (fun x wr => ∃ (j : Nat) (ys : List PIn), j ≤ t.inn ∧ x = .int .i64 j ∧ CpSt w g r B1 t sg cg Z ai ci ao co ys t.outs wr ∧ (∀ k, j ≤ k → k < t.inn → ys.getD k noIn = t.ins.getD k noIn) ∧ ∀ k, k < j → AllO (w.heap.size ≤ ·) (ys.getD k noIn).n (ys.getD k noIn).a) (fun x _ => t.inn - (intOf x).toNat)
    case atStart => exact ⟨0, t.ins, Nat.zero_le _, rfl, HC.out, (fun _ _ _ => rfl), fun k hk => absurd hk (by omega)⟩
    case round =>
      obtain ⟨j, ys, hj, rfl, hcp, hsame, hni⟩ := hrel
      have HC := Lib.hid hcp
      have HSAME := Lib.hid hsame
      have HNEWI := Lib.hid hni
      clear hcp hsame hni
      by_cases hjn : j < t.inn
      · have f1 : (j : Int) < (t.inn : Int) := by omega
        have f0 : (0 : Int) ≤ (j : Int) := by omega
        have ft : ((j : Int)).toNat = j := by omega
        obtain ⟨gi, rfl, l1, l2⟩ := HC.out.newI (by omega)
        clear l1 l2
        have HJ := Lib.hid hjn
        have HYL : Hid (j < ys.length) := Lib.hid (by rw [HC.out.ins.1]; exact hjn)
        have hnc : (t.inn : Int) ≤ (ci : Int) := by have h9 := HC.out.ins.2.1; omega
        have hc63 : (ci : Int) ≤ 9223372036854775807 := by have h2 := HC.out.ins.2.2.1; unfold maxLen at h2; omega
        obtain ⟨y, hy⟩ : ∃ y, y = ys.getD j noIn := ⟨_, rfl⟩
        have HY := Lib.hid hy
        have hyt : y = t.ins.getD j noIn := hy.trans (HSAME.out j (Nat.le_refl _) hjn)
        have HYI : Hid (InIn wr.drew y) := Lib.hid (by rw [hy]; exact (HC.out.more (below_drew (Below.refl wr.heap.size wr))).ins.get hjn)
        have HYN := Lib.hid (HF.out.pre y (by rw [hyt]; exact HT.out.ins.mem hjn))
        clear hy hyt
        go_upto_region 5 with (fail)
        have HC := Lib.hid (HC.out.more (below_drew (Below.refl wr.heap.size wr)))
        refine wp_region_held_drew (S := fun w' => w'.cell? ⟨g, 0, none⟩ = some (Value.slice (some ⟨gi, 0, none⟩) t.inn ci)) (by kernel_rfl) (box_cell HC.out HZ0.out) (fun hHeld => ?_)
        refine tkP 0 rfl rfl ?_
        refine tkA 1 rfl rfl (yields_cell (b := g) (o := 0) (by rfl) rfl rfl (fun w0 hSw => hSw) (fun w0 => Tryz.isAgg44 w0)) ?_
        refine tkP 2 rfl rfl ?_
        refine tkP 3 rfl rfl ?_
        refine tkA 4 rfl rfl (yields_cell (b := g) (o := 0) (by rfl) rfl rfl (fun w0 hSw => hSw) (fun w0 => Tryz.isAgg44 w0)) ?_
        refine tkP 5 rfl rfl ?_
        refine tkP 6 rfl rfl ?_
        refine tkP 7 rfl rfl ?_
        refine tkR 8 rfl (fun K hK => ?_)
        refine step_cell (d := 33) rfl (by rfl) 45 _ rfl gi (j * 35 + 34) rfl (.slice y.a y.n y.c) (by have h9 := HC.out.inCell rfl HJ.out; rw [← HY.out] at h9; exact h9) (Tryz.isAgg45 _) ?_
        refine hK.out _ _ (by (try dsimp only); exact hHeld) (fun hHeld => ?_)
        clear hK K
        refine tkR 9 rfl (fun K hK => ?_)
        have HCx := Lib.hid (cloneB_any (HYI.out.pre) HYN.out)
        have HRS := Lib.hid (lt_of_block HC.out.res)
        go_simp
        go_wp2_with ((go_at_call 138; (with_reducible refine (HCx.out).mono ?_); rintro e y2 ⟨pa, pc, rfl, hr, hnew, hb⟩; have HP := Lib.hid hr; have HPN : Hid (AllO (· ≠ r) y.n pa) := Lib.hid (fun _ x e => by have h8 := hnew x e; have h7 := HRS.out; show x.block ≠ r; omega); have HPW : Hid (AllO (w.heap.size ≤ ·) y.n pa) := Lib.hid (fun _ x e => by have h8 := hnew x e; have h7 := HC.out.below.size; show w.heap.size ≤ x.block; omega); have HC := Lib.hid (HC.out.more hb); clear hr hnew hb HCx))
        refine hK.out _ _ (by (try dsimp only); exact box_cell HC.out HZ0.out) (fun hHeld => ?_)
        clear hK K
        refine tkP 10 rfl rfl ?_
        refine tkP 11 rfl rfl ?_
        refine tkR 12 rfl (fun K hK => ?_)
        have hc := HC.out.inCell rfl HJ.out
        rw [← HY.out] at hc
        obtain ⟨cur, hcur⟩ := HC.out.rowI gi (by have := HJ.out; omega) rfl
        refine step_store_cell (by rfl) 45 _ _ rfl gi (j * 35 + 34) (by rfl) (.slice pa y.n pc) (by rfl) (.slice y.a y.n y.c) hc (frozen_row hcur _) (by kernel_rfl) rfl ?_
        have HC := Lib.hid (HC.out.putPre (a' := pa) (n' := y.n) (c' := pc) rfl HJ.out (by rw [← HY.out]; exact HP.out) HPN.out)
        clear hc hcur cur
        revert HC
        generalize World.setCell _ _ _ = y3
        intro HC
        refine hK.out _ _ (by (try dsimp only); exact box_cell HC.out HZ0.out) (fun hHeld => ?_)
        clear hK K
        refine wpAnyH_done (by kernel_rfl) ?_ _
        clear hHeld
        go_wp2_with fail
        go_roundw
        case rel =>
          refine ⟨j + 1, _, by omega, by go_num, HC.out, (fun k h1 h2 => (getD_set_ne (show k ≠ j by omega)).trans (HSAME.out k (by omega) h2)), fun k hk => ?_⟩
          by_cases hkj : k = j
          · subst hkj
            rw [getD_set_self HYL.out]
            exact HPW.out
          · rw [getD_set_ne hkj]
            exact HNEWI.out k (by omega)
        case measure => simp [intOf]; omega
      · have f1 : ¬ (j : Int) < (t.inn : Int) := by omega
        have hb1 := box_cell HC.out HZ1.out
        go_upto_region 8 with (fail)
        have HNI : Hid (∀ k, k < t.inn → AllO (w.heap.size ≤ ·) (ys.getD k noIn).n (ys.getD k noIn).a) := Lib.hid (fun k hk => HNEWI.out k (by omega))
        clear hb1 hjn HSAME HNEWI
        go_loopw [41] (fun x wr => ∃ (j : Nat) (zs : List POut), j ≤ t.on ∧ x = .int .i64 j ∧ CpSt w g r B1 t sg cg Z ai ci ao co ys zs wr ∧ (∀ k, j ≤ k → k < t.on → zs.getD k noOut = t.outs.getD k noOut) ∧ (∀ k, k < j → AllO (w.heap.size ≤ ·) (zs.getD k noOut).n (zs.getD k noOut).a) ∧ ∀ k, k < j → ∀ u ∈ (zs.getD k noOut).ws, AllO (w.heap.size ≤ ·) u.n u.a) (fun x _ => t.on - (intOf x).toNat)
        case atStart => exact ⟨0, t.outs, Nat.zero_le _, rfl, HC.out, (fun _ _ _ => rfl), (fun k hk => absurd hk (by omega)), fun k hk => absurd hk (by omega)⟩
        case round =>
          obtain ⟨j, zs, hj, rfl, hcp, hsame, hnw, hnk⟩ := hrel
          obtain ⟨wq, rfl⟩ : ∃ q, q = wr := ⟨_, rfl⟩
          have HC := Lib.hid hcp
          have HSAME := Lib.hid hsame
          have HNEW := Lib.hid hnw
          have HNK := Lib.hid hnk
          clear hcp hsame hnw hnk
          by_cases hjn : j < t.on
          · have f1 : (j : Int) < (t.on : Int) := by omega
            have f0 : (0 : Int) ≤ (j : Int) := by omega
            have ft : ((j : Int)).toNat = j := by omega
            obtain ⟨go, rfl, l1, l2⟩ := HC.out.newO (by omega)
            clear l1 l2
            have HJ := Lib.hid hjn
            have HZLEN := Lib.hid HC.out.outs.1
            have hnc : (t.on : Int) ≤ (co : Int) := by have h9 := HC.out.outs.2.1; omega
            have hc63 : (co : Int) ≤ 9223372036854775807 := by have h2 := HC.out.outs.2.2.1; unfold maxLen at h2; omega
            obtain ⟨y, hy⟩ : ∃ y, y = zs.getD j noOut := ⟨_, rfl⟩
            have HY := Lib.hid hy
            have hyt : y = t.outs.getD j noOut := hy.trans (HSAME.out j (Nat.le_refl _) hjn)
            have hmem : y ∈ t.outs := by rw [hyt]; exact HT.out.outs.mem hjn
            have HYI : Hid (OutIn wq.drew y) := Lib.hid (by rw [hy]; exact (HC.out.more (below_drew (Below.refl wq.heap.size wq))).outs.get hjn)
            have HYN := Lib.hid (HF.out.ws y hmem)
            have HYK := Lib.hid (HF.out.ks y hmem)
            have HQS := Lib.hid HC.out.below.size
            clear hy hyt hmem
            go_upto_region 10 with (fail)
            have HC := Lib.hid (HC.out.more (below_drew (Below.refl wq.heap.size wq)))
            refine wp_region_held_drew (S := fun w' => w'.cell? ⟨g, 1, none⟩ = some (Value.slice (some ⟨go, 0, none⟩) t.on co)) (by kernel_rfl) (box_cell HC.out HZ1.out) (fun hHeld => ?_)
            refine tkP 0 rfl rfl ?_
            refine tkA 1 rfl rfl (yields_cell (b := g) (o := 1) (by rfl) rfl rfl (fun w0 hSw => hSw) (fun w0 => Tryz.isAgg22 w0)) ?_
            refine tkP 2 rfl rfl ?_
            refine tkP 3 rfl rfl ?_
            refine tkA 4 rfl rfl (yields_cell (b := g) (o := 1) (by rfl) rfl rfl (fun w0 hSw => hSw) (fun w0 => Tryz.isAgg22 w0)) ?_
            refine tkP 5 rfl rfl ?_
            refine tkP 6 rfl rfl ?_
            refine tkP 7 rfl rfl ?_
            refine tkR 8 rfl (fun K hK => ?_)
            refine step_cell (d := 52) rfl (by rfl) 105 _ rfl go (j * 2 + 1) rfl (.slice y.a y.n y.c) (by have h9 := HC.out.outCell rfl HJ.out; rw [← HY.out] at h9; exact h9) (Tryz.isAgg105 _) ?_
            refine hK.out _ _ (by (try dsimp only); exact hHeld) (fun hHeld => ?_)
            clear hK K
            refine tkR 9 rfl (fun K hK => ?_)
            have HCx := Lib.hid (cloneWays_any HYI.out.ws HYN.out.1 HYN.out.2)
            have HSZ := Lib.hid HC.out.size
            have HOLD := Lib.hid (fun (k : Nat) (hk : k < t.on) => SliceOf.block (K := wayK9) (show OutIn wq.drew (zs.getD k noOut) from HC.out.outs.get hk).ws)
            go_simp
            go_wp2_with ((go_at_call 139; (with_reducible refine (HCx.out).mono ?_); rintro e y2 ⟨wa, wc, rfl, hr, _, hgw, hb⟩; have HP := Lib.hid hr; have HGW := Lib.hid (new_row15 hgw); have HC := Lib.hid (HC.out.more hb); clear hr hgw hb HCx))
            refine hK.out _ _ (by (try dsimp only); exact box_cell HC.out HZ1.out) (fun hHeld => ?_)
            clear hK K
            refine tkP 10 rfl rfl ?_
            refine tkP 11 rfl rfl ?_
            refine tkR 12 rfl (fun K hK => ?_)
            have hc := HC.out.outCell rfl HJ.out
            rw [← HY.out] at hc
            obtain ⟨cur, hcur⟩ := HC.out.rowO go (by have := HJ.out; omega) rfl
            refine step_store_cell (by rfl) 105 _ _ rfl go (j * 2 + 1) (by rfl) (.slice wa y.n wc) (by rfl) (.slice y.a y.n y.c) hc (frozen_row hcur _) (by kernel_rfl) rfl ?_
            have HGW := Lib.hid (HGW.out.set go (j * 2 + 1) (.slice wa y.n wc))
            have HC := Lib.hid (HC.out.putWays (a' := wa) (n' := y.n) (c' := wc) rfl HJ.out (by rw [← HY.out]; exact HP.out) (HGW.out.all.mono fun b hb => Nat.le_trans HSZ.out hb))
            rw [← HY.out] at HC
            clear hc hcur cur
            revert HGW HC
            generalize World.setCell _ _ _ = y3
            intro HGW HC
            refine hK.out _ _ (by (try dsimp only); exact box_cell HC.out HZ1.out) (fun hHeld => ?_)
            clear hK K
            refine wpAnyH_done (by kernel_rfl) ?_ _
            clear hHeld
            have HZL : Hid (j < zs.length) := Lib.hid (by rw [HZLEN.out]; exact HJ.out)
            have hb1 := box_cell HC.out HZ1.out
            have hb2 := HC.out.outCell rfl HJ.out
            rw [getD_set_self HZL.out] at hb2
            replace hb2 : _ = some (Value.slice wa y.n wc) := hb2
            go_upto_region 12 with (fail)
            clear hb1 hb2
            have hwn := HYI.out.ws.1
            have hw63 : (y.n : Int) ≤ 9223372036854775807 := SliceOf.len63 (K := wayK9) HYI.out.ws
            go_loopw [63] (fun x wr => ∃ (i : Nat) (us : List PWay), i ≤ y.n ∧ x = .int .i64 i ∧ CpSt w g r B1 t sg cg Z ai ci (some ⟨go, 0, none⟩) co ys (zs.set j (y.at15 wa y.n wc us)) wr ∧ NewAt wq.heap.size wr 170 y.n wa ∧ (∀ k, i ≤ k → k < y.n → us.getD k noWay = y.ws.getD k noWay) ∧ ∀ k, k < i → AllO (w.heap.size ≤ ·) (us.getD k noWay).n (us.getD k noWay).a) (fun x _ => y.n - (intOf x).toNat)
            case atStart => exact ⟨0, y.ws, Nat.zero_le _, rfl, HC.out, HGW.out, (fun _ _ _ => rfl), fun k hk => absurd hk (by omega)⟩
            case round =>
              obtain ⟨i, us, hi, rfl, hcp, hgw, hsu, hnu⟩ := hrel
              have HUW := Lib.hid (way_len15 hcp HJ.out HZL.out)
              have HC := Lib.hid hcp
              have HGW := Lib.hid hgw
              have HSU := Lib.hid hsu
              have HNU := Lib.hid hnu
              clear hcp hgw hsu hnu
              by_cases hin : i < y.n
              · have f1 : (i : Int) < (y.n : Int) := by omega
                have f0 : (0 : Int) ≤ (i : Int) := by omega
                have ft : ((i : Int)).toNat = i := by omega
                obtain ⟨gw, cur, rfl, hgl, hcur⟩ := HGW.out (by omega)
                have HI1 := Lib.hid hin
                have HUL : Hid (i < us.length) := Lib.hid (by rw [HUW.out]; exact hin)
                have HB1 : Hid (B1 ≤ gw) := Lib.hid (Nat.le_trans HSZ.out hgl)
                have HFARK : Hid (∀ k, k < t.on → k ≠ j → AllO (· ≠ gw) (zs.getD k noOut).n (zs.getD k noOut).a) := Lib.hid (fun k hk hkj h0 x e => by have h9 := HOLD.out k hk h0 x e; have h8 : wq.drew.heap.size = wq.heap.size := rfl; show x.block ≠ gw; omega)
                have hwi := way_at15 HC.out HJ.out HZL.out hin
                obtain ⟨u, hu⟩ : ∃ u, u = us.getD i noWay := ⟨_, rfl⟩
                rw [← hu] at hwi
                have HU := Lib.hid hu
                have HUI := Lib.hid hwi.1
                have RU := Lib.hid hwi.2
                have HUN : Hid (u.n ≤ 100000) := Lib.hid (by have h9 := HYK.out _ (mem_getD15 (d := noWay) (by rw [hwn]; exact hin)); rw [← HSU.out i (Nat.le_refl _) hin, ← hu] at h9; rw [← hwi.1.keys.1]; exact h9)
                have SU := Lib.hid (way_size hwi.1.sum)
                have hwc : (y.n : Int) ≤ (wc : Int) := by have h9 := way_cap15 HC.out HJ.out HZL.out; omega
                have hwc63 : (wc : Int) ≤ 9223372036854775807 := by have h9 := way_cap15 HC.out HJ.out HZL.out; unfold maxLen at h9; omega
                have HWR := Lib.hid (lt_of_block hcur)
                clear hwi hu hgl hcur cur
                go_upto_region 14 with (first | (refine wpList_load_mid rfl 170 _ rfl gw (i * 35) rfl u.cells _ RU.out Tryz.underlying170 rfl SU.out ?_) | (refine wpList_new rfl 170 rfl noWay.cells.toArray zeroWay15 ?_; intro p6 w5 hp5 hh5 hb5; go_frame) | (refine wpList_row10 rfl 170 _ _ rfl p6 u.cells rfl rfl 170 noWay.cells hh5 SU.out (by rw [PWay.cells_len HUI.out.sum]; rfl) u.cells_one ?_; intro w6 hh6 hb6) | fail)
                have hbr := But.in hb5 hb6 hp5
                have HC := Lib.hid (HC.out.more hbr)
                have HGW := Lib.hid (HGW.out.more hbr)
                have H6 := Lib.hid hh6
                have HUI := Lib.hid (HUI.out.below hbr)
                have HNE6 : Hid (p6 ≠ gw) := Lib.hid (by have h9 := HWR.out; omega)
                clear hbr hp5 hh5 hb5 hh6 hb6 RU
                have HC := Lib.hid (HC.out.more (below_drew (Below.refl w6.heap.size w6)))
                have HGW := Lib.hid (HGW.out.more (below_drew (Below.refl w6.heap.size w6)))
                have H6 := Lib.hid (keep (below_drew (Below.refl w6.heap.size w6)) H6.out)
                have HUI := Lib.hid (HUI.out.below (below_drew (Below.refl w6.heap.size w6)))
                try simp only [Act.put]
                refine wp_region_held_drew (S := fun w' => w'.cell? ⟨g, 1, none⟩ = some (Value.slice (some ⟨go, 0, none⟩) t.on co) ∧ w'.cell? ⟨go, j * 2 + 1, none⟩ = some (Value.slice (some ⟨gw, 0, none⟩) y.n wc) ∧ w'.cell? ⟨p6, 0, none⟩ = some (Value.slice u.a u.n u.c)) (by kernel_rfl) (⟨box_cell HC.out HZ1.out, (by have h9 := HC.out.outCell rfl HJ.out; rw [getD_set_self HZL.out] at h9; exact h9), (by rw [cell_of_row _ _ _ _ _ _ H6.out, List.getElem?_toArray]; rfl)⟩) (fun hHeld => ?_)
                refine tkP 0 rfl rfl ?_
                refine tkA 1 rfl rfl (yields_cell (b := g) (o := 1) (by rfl) rfl rfl (fun w0 hSw => hSw.1) (fun w0 => Tryz.isAgg22 w0)) ?_
                refine tkP 2 rfl rfl ?_
                refine tkP 3 rfl rfl ?_
                refine tkP 4 rfl rfl ?_
                refine tkA 5 rfl rfl (yields_cell (b := go) (o := (j * 2 + 1)) (by rfl) rfl rfl (fun w0 hSw => hSw.2.1) (fun w0 => Tryz.isAgg105 w0)) ?_
                refine tkP 6 rfl rfl ?_
                refine tkP 7 rfl rfl ?_
                refine tkA 8 rfl rfl (yields_cell (b := p6) (o := 0) (by rfl) rfl rfl (fun w0 hSw => hSw.2.2) (fun w0 => Tryz.isAgg38 w0)) ?_
                refine tkR 9 rfl (fun K hK => ?_)
                have HCx := Lib.hid (cloneZ_new HUI.out.keys HUN.out)
                have HRS := Lib.hid (lt_of_block HC.out.res)
                go_simp
                go_wp2_with ((go_at_call 78; (with_reducible refine (HCx.out).mono ?_); rintro e y1 ⟨ka, kc, rfl, hr, hnew, hb⟩; have HP := Lib.hid hr; have HPN : Hid (AllO (· ≠ r) u.n ka) := Lib.hid (fun _ x e => by have h8 := hnew x e; have h7 := HRS.out; show x.block ≠ r; omega); have HPW : Hid (AllO (w.heap.size ≤ ·) u.n ka) := Lib.hid (fun _ x e => by have h8 := hnew x e; have h7 := HC.out.below.size; show w.heap.size ≤ x.block; omega); have HC := Lib.hid (HC.out.more hb); have HGW := Lib.hid (HGW.out.more hb); have H6 := Lib.hid (keep hb H6.out); have HUI := Lib.hid (HUI.out.below hb); clear hr hnew hb HCx))
                refine hK.out _ _ (by (try dsimp only); exact ⟨box_cell HC.out HZ1.out, (by have h9 := HC.out.outCell rfl HJ.out; rw [getD_set_self HZL.out] at h9; exact h9), (by rw [cell_of_row _ _ _ _ _ _ H6.out, List.getElem?_toArray]; rfl)⟩) (fun hHeld => ?_)
                clear hK K
                refine tkP 10 rfl rfl ?_
                refine tkP 11 rfl rfl ?_
                refine tkR 12 rfl (fun K hK => ?_)
                obtain ⟨gw2, cur, e2, hgl, hcur⟩ := HGW.out (by have := HI1.out; omega)
                cases e2
                have hc := way_slot15 HC.out HJ.out HZL.out HI1.out
                rw [← HU.out] at hc
                refine step_store_cell (by rfl) 38 _ _ rfl gw (i * 35) (by rfl) (.slice ka u.n kc) (by rfl) (.slice u.a u.n u.c) hc (frozen_row hcur _) (by kernel_rfl) rfl ?_
                have HGW := Lib.hid (HGW.out.set gw (i * 35) (.slice ka u.n kc))
                have HC := Lib.hid (put_key15 HC.out HJ.out HZL.out HI1.out HB1.out HFARK.out (by rw [← HU.out]; exact HP.out) HPN.out)
                rw [← HU.out] at HC
                have hne6 : p6 ≠ gw := HNE6.out
                have H6 := Lib.hid ((heap_setCell_ne (o := i * 35) hne6 (.slice ka u.n kc)).trans H6.out)
                clear hc hcur cur hgl
                revert HGW HC H6
                generalize World.setCell _ _ _ = y2
                intro HGW HC H6
                refine hK.out _ _ (by (try dsimp only); exact ⟨box_cell HC.out HZ1.out, (by have h9 := HC.out.outCell rfl HJ.out; rw [getD_set_self HZL.out] at h9; exact h9), (by rw [cell_of_row _ _ _ _ _ _ H6.out, List.getElem?_toArray]; rfl)⟩) (fun hHeld => ?_)
                clear hK K
                refine wpAnyH_done (by kernel_rfl) ?_ _
                clear hHeld
                go_wp2_with fail
                go_roundw
                case rel =>
                  refine ⟨i + 1, _, by omega, by go_num, HC.out, HGW.out, (fun k h1 h2 => (getD_set_ne (show k ≠ i by omega)).trans (HSU.out k (by omega) h2)), fun k hk => ?_⟩
                  by_cases hki : k = i
                  · subst hki
                    rw [getD_set_self HUL.out]
                    exact HPW.out
                  · rw [getD_set_ne hki]
                    exact HNU.out k (by omega)
                case measure => simp [intOf]; omega
              · have f1 : ¬ (i : Int) < (y.n : Int) := by omega
                go_wp2_with fail
                go_roundw
                case rel =>
                  refine ⟨j + 1, _, by omega, by go_num, HC.out, (fun k h1 h2 => (getD_set_ne (show k ≠ j by omega)).trans (HSAME.out k (by omega) h2)), (fun k hk => ?_), fun k hk => ?_⟩
                  · by_cases hkj : k = j
                    · subst hkj
                      rw [getD_set_self HZL.out]
                      exact HGW.out.all.mono fun b hb => Nat.le_trans HQS.out hb
                    · rw [getD_set_ne hkj]
                      exact HNEW.out k (by omega)
                  · by_cases hkj : k = j
                    · subst hkj
                      rw [getD_set_self HZL.out]
                      intro u hu
                      obtain ⟨m, hm, rfl⟩ := List.getElem_of_mem (show u ∈ us from hu)
                      have h9 := HNU.out m (by have := HUW.out; omega)
                      rw [List.getD_eq_getElem?_getD, List.getElem?_eq_getElem hm] at h9
                      exact h9
                    · rw [getD_set_ne hkj]
                      exact HNK.out k (by omega)
                case measure => simp [intOf]; omega
          · have f1 : ¬ (j : Int) < (t.on : Int) := by omega
            have HCB := Lib.hid (cloneB_any HC.out.op.data HF.out.data)
            have c38 := box_cell HC.out HZ38.out
            have HRS := Lib.hid (lt_of_block HC.out.res)
            go_upto_region 18 with (first | (go_at_call 138; (with_reducible refine (HCB.out).mono ?_); rintro e w8 ⟨da, dc, rfl, hr, hnew, hb⟩; have HP := Lib.hid hr; have HDW : Hid (AllO (w.heap.size ≤ ·) t.op.n da) := Lib.hid (fun _ x e => by have h8 := hnew x e; have h7 := HC.out.below.size; show w.heap.size ≤ x.block; omega); have HDN : Hid (AllO (· ≠ r) t.op.n da) := Lib.hid (fun _ x e => by have h8 := hnew x e; have h7 := HRS.out; show x.block ≠ r; omega); have HC := Lib.hid (HC.out.more hb); have c38 := box_cell HC.out HZ38.out; have f38 := frozen_row HC.out.box 38; clear hr hnew hb) | fail)
            have HP := Lib.hid (row_setCell HP.out ⟨_, _, _, c38⟩ (.slice da t.op.n dc))
            have HC := Lib.hid (HC.out.putBox (o := 38) ⟨_, _, _, c38⟩ (.slice da t.op.n dc))
            clear c38 f38
            revert HP HC
            generalize World.setCell w8 _ _ = w9
            intro HP HC
            obtain ⟨y, hy⟩ : ∃ y, y = (⟨ai, t.inn, ci, ys, ao, t.on, co, zs, ⟨t.op.kind, t.op.tower, t.op.channel, t.op.amount, t.op.root, da, t.op.n, dc, t.op.data⟩, sg, t.sn, cg, t.signs⟩ : PTx) := ⟨_, rfl⟩
            have hyc : Z.set 38 (.slice da t.op.n dc) = y.cells := by
              rw [hy, HZE.out]
              show Value.slice ai t.inn ci :: Value.slice ao t.on co :: ((t.op.cells ++ [Value.slice sg t.sn cg]).set 36 (.slice da t.op.n dc)) = _
              rw [List.set_append_left _ _ (by rw [POp.len HC.out.op.root]; decide), op_slot15 _ HC.out.op.root]
              rfl
            rw [hyc] at HC
            have HY := Lib.hid hy
            have SY : Hid ((Tryz.prog.info? 50).map (·.size) = some y.cells.length) := Lib.hid (by rw [hy]; exact tx_size HC.out.op.root)
            clear hy hyc
            go_wp2_with (first | (refine wpList_load_row rfl 50 _ rfl g rfl 50 y.cells.toArray (0, 0) _ HC.out.box Tryz.underlying50 rfl (by rw [List.size_toArray]; exact SY.out) ?_) | (refine wpList_row10 rfl 50 _ _ rfl r y.cells rfl rfl 50 noTx.cells HC.out.res SY.out (by have h9 := SY.out; have h8 := PTx.len (x := y) (by rw [HY.out]; exact HC.out.op.root); rw [h8]; rfl) y.one ?_; intro w10 hh10 hb10) | fail)
            refine bodyPost_ret (results_cell_row rfl _ _ r 50 y.cells.toArray (0, 0) _ rfl hh10 Tryz.underlying50 rfl (by rw [List.size_toArray]; exact SY.out)) rfl ?_
            have hcl := HC.out.last hb10
            have hlo := HC.out.lo
            have hgr := HC.out.gr
            refine ⟨y, rfl, ?_, ?_, ?_, ?_, by rw [HY.out], by rw [HY.out], by rw [HY.out]; exact HS0.out, But.in HC.out.below hb10 (by omega)⟩
            · rw [HY.out]
              exact ⟨hcl.1, hcl.2.1, ⟨HC.out.op.kind, HC.out.op.tower, HC.out.op.channel, HC.out.op.amount, HC.out.op.root, HP.out.but hb10 (fun h0 b off e => HDN.out h0 _ e)⟩, hcl.2.2⟩
            · rw [HY.out]
              have e1 := HC.out.sIns
              have e2 := HC.out.sOuts
              have e3 : ys.length = t.ins.length := by have h9 := congrArg List.length e1; simpa using h9
              have e4 : zs.length = t.outs.length := by have h9 := congrArg List.length e2; simpa using h9
              show PTx.mk none ys.length 0 (ys.map PIn.strip) none zs.length 0 (zs.map POut.strip) t.op.strip none t.signs.length 0 t.signs = PTx.mk none t.ins.length 0 (t.ins.map PIn.strip) none t.outs.length 0 (t.outs.map POut.strip) t.op.strip none t.signs.length 0 t.signs
              rw [e1, e2, e3, e4]
            · rw [HY.out]
              refine ⟨fun h0 x e => ?_, fun h0 x e => ?_, fun x hx => ?_, fun z hz => ?_, fun z hz => ?_, HDW.out⟩
              · obtain ⟨gi, e2, l1, _⟩ := HC.out.newI h0
                rw [show ai = _ from e2] at e
                cases e
                show w.heap.size ≤ gi
                omega
              · obtain ⟨go, e2, l1, _⟩ := HC.out.newO h0
                rw [show ao = _ from e2] at e
                cases e
                show w.heap.size ≤ go
                omega
              · obtain ⟨k, hk, rfl⟩ := List.getElem_of_mem (show x ∈ ys from hx)
                have h9 := HNI.out k (by have := HC.out.ins.1; omega)
                rw [List.getD_eq_getElem?_getD, List.getElem?_eq_getElem hk] at h9
                exact h9
              · obtain ⟨k, hk, rfl⟩ := List.getElem_of_mem (show z ∈ zs from hz)
                have h9 := HNEW.out k (by have := HC.out.outs.1; omega)
                rw [List.getD_eq_getElem?_getD, List.getElem?_eq_getElem hk] at h9
                exact h9
              · obtain ⟨k, hk, rfl⟩ := List.getElem_of_mem (show z ∈ zs from hz)
                have h9 := HNK.out k (by have := HC.out.outs.1; omega)
                rw [List.getD_eq_getElem?_getD, List.getElem?_eq_getElem hk] at h9
                exact h9
            · rw [HY.out]
              exact HC.out.newS.mono fun b hb2 => hb2.2
/-- .. of one without signs. -/
theorem txCopied_any {w : World} {t : PTx} (ht : TxIn w t) (hf : FewTx t) :
    Calls Tryz.prog 77 #[.agg t.cells.toArray] w fun e w' => ∃ y : PTx, e = .returned (.agg y.cells.toArray) ∧ TxIn w' y ∧ y.strip = t.strip ∧ AllTx (w.heap.size ≤ ·) y ∧ y.sa = none ∧ y.sn = 0 ∧ y.sc = 0 ∧ y.signs = [] ∧ Below w.heap.size w w' := by
  refine (txCopiedS_any ht ⟨hf.inn, hf.on, hf.ia, hf.oa, hf.pre, hf.ws, hf.ks, hf.data, by rw [hf.sn]; omega, .inl hf.sa⟩).mono ?_
  rintro e w' ⟨y, rfl, h1, h2, h3, _, h5, h6, h7, h8⟩
  have h9 := h7.resolve_left (by rw [hf.sn]; omega)
  exact ⟨y, rfl, h1, h2, h3, h9.1, h5.trans hf.sn, h9.2, h6.trans hf.signs, h8⟩
end Go.Proofs.YteddkkcheaghaaaGreatDoor
