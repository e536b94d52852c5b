/- A transaction's rows while it is copied: what is written into cells that hold slices. No function of the program is named. -/
import Derived.Test.YtlnenkmcegadmaaDoorSetCells
import Derived.Test.YtlnenkmcegadmaaDoorTx
namespace Go.Proofs.YtlnenkmcegadmaaDoor
open Go.RowKit

/-- What holds of the block that a slice lies in, if it has things. -/
def AllO (P : Nat → Prop) (n : Nat) (a : Option Addr) : Prop := 0 < n → ∀ x, a = some x → P x.block
theorem AllO.mono {P Q : Nat → Prop} {n : Nat} {a : Option Addr} (h : AllO P n a) (k : ∀ b, P b → Q b) : AllO Q n a := fun h0 x e => k _ (h h0 x e)
/-- A cell that holds a slice. -/
def SliceCell (w : World) (g o : Nat) : Prop := ∃ a n c, w.cell? ⟨g, o, none⟩ = some (.slice a n c)
theorem row_setCell {w : World} {a : Option Addr} {n c g o : Nat} {l : List UInt8} (h : Row w a n c l) (hs : SliceCell w g o) (v : Value) : Row (w.setCell ⟨g, o, none⟩ v) a n c l := by
  obtain ⟨h1, h2, h3, h4, h5⟩ := h
  refine ⟨h1, h2, h3, h4, fun h0 => ?_⟩
  obtain ⟨b, off, rfl, hlt, hc⟩ := h5 h0
  refine ⟨b, off, rfl, by simpa using hlt, fun j hj => ?_⟩
  rw [cell_set_other (fun e => ?_)]
  · exact hc j hj
  · obtain ⟨a', n', c', hs⟩ := hs
    have h9 := hc j hj
    rw [← e, hs] at h9
    cases h9
theorem InIn.set {w : World} {y : PIn} {g o : Nat} (h : InIn w y) (hs : SliceCell w g o) (v : Value) : InIn (w.setCell ⟨g, o, none⟩ v) y := ⟨h.tx, h.place, h.way, row_setCell h.pre hs v⟩
theorem OpIn.set {w : World} {y : POp} {g o : Nat} (h : OpIn w y) (hs : SliceCell w g o) (v : Value) : OpIn (w.setCell ⟨g, o, none⟩ v) y := ⟨h.kind, h.tower, h.channel, h.amount, h.root, row_setCell h.data hs v⟩
theorem signs_setCell {w : World} {a : Option Addr} {n c g o : Nat} {xs : List PSign} (h : SliceOf signK w a n c xs) (hs : SliceCell w g o) (v : Value) : SliceOf signK (w.setCell ⟨g, o, none⟩ v) a n c xs := by
  obtain ⟨h1, h2, h3, h4, h4b, h5⟩ := h
  refine ⟨h1, h2, h3, h4, h4b, fun h0 => ?_⟩
  obtain ⟨b, off, rfl, hlt, hc⟩ := h5 h0
  refine ⟨b, off, rfl, by simpa using hlt, fun j hj k u hu => ?_⟩
  rw [cell_set_other (fun e => ?_)]
  · exact hc j hj k u hu
  · obtain ⟨a', n', c', hs⟩ := hs
    have h9 := hc j hj k u hu
    rw [← e, hs] at h9
    have h8 := List.mem_of_getElem? hu
    simp only [signK, PSign.cells, List.mem_cons, cellsOf, List.mem_map] at h8
    rcases h8 with rfl | ⟨z, _, rfl⟩ <;> cases h9
theorem Ways.set {w : World} {a : Option Addr} {n c g o : Nat} {xs : List PWay} (h : Ways w a n c xs) (hs : SliceCell w g o) (hne : AllO (· ≠ g) n a) (v : Value) : Ways (w.setCell ⟨g, o, none⟩ v) a n c xs := by
  obtain ⟨a', n', c', hs⟩ := hs
  exact ways_setCell h hs (fun z e => by cases e) hne
theorem OutIn.set {w : World} {y : POut} {g o : Nat} (h : OutIn w y) (hs : SliceCell w g o) (hne : AllO (· ≠ g) y.n y.a) (v : Value) : OutIn (w.setCell ⟨g, o, none⟩ v) y := ⟨h.m, h.ws.set hs hne v⟩
section
variable {α : Type} {K : Sort8 α}
theorem SliceOf.kept {w : World} {a : Option Addr} {n c g o : Nat} {xs : List α} {v : Value} (h : SliceOf K w a n c xs) (hne : AllO (· ≠ g) n a) (hx : ∀ x ∈ xs, K.ok (w.setCell ⟨g, o, none⟩ v) x) : SliceOf K (w.setCell ⟨g, o, none⟩ v) a n c xs :=
  h.moved (B := w.heap.size) (p := g) (fun h0 x e => ⟨h.block h0 x e, hne h0 x e⟩) hx (but_setCell9 w g o v)
theorem getD_set_self {xs : List α} {i : Nat} {x d : α} (hi : i < xs.length) : (xs.set i x).getD i d = x := by rw [List.getD_eq_getElem?_getD, List.getElem?_set_self hi]; rfl
theorem getD_set_ne {xs : List α} {i j : Nat} {x d : α} (h : j ≠ i) : (xs.set i x).getD j d = xs.getD j d := by rw [List.getD_eq_getElem?_getD, List.getElem?_set_ne (fun e => h e.symm), ← List.getD_eq_getElem?_getD]
/-- A cell of a row is written: one thing is another one now. -/
theorem SliceOf.put {w : World} {g n c i off : Nat} {xs : List α} {v : Value} (h : SliceOf K w (some ⟨g, 0, none⟩) n c xs) (hi : i < n) (ho : off < K.size) (x' : α) (hc : K.cells x' = (K.cells (xs.getD i K.dflt)).set off v)
    (hok : ∀ x ∈ xs.set i x', K.ok (w.setCell ⟨g, i * K.size + off, none⟩ v) x) : SliceOf K (w.setCell ⟨g, i * K.size + off, none⟩ v) (some ⟨g, 0, none⟩) n c (xs.set i x') := by
  have hlen : ∀ j, j < n → (K.cells (xs.getD j K.dflt)).length = K.size := fun j hj => K.len w _ (h.get hj)
  obtain ⟨h1, h2, h3, h4, _, h5⟩ := h
  have hil : i < xs.length := by omega
  obtain ⟨b, o, e, hlt, hr⟩ := h5 (by omega)
  cases e
  refine ⟨by rw [List.length_set]; exact h1, h2, h3, h4, hok, fun _ => ⟨g, 0, rfl, by simpa using hlt, fun j hj k u hu => ?_⟩⟩
  rw [Nat.zero_add]
  by_cases hji : j = i
  · subst hji
    rw [getD_set_self hil, hc] at hu
    by_cases hk : k = off
    · subst hk
      rw [List.getElem?_set_self (by rw [hlen j hj]; exact ho)] at hu
      cases hu
      obtain ⟨u0, hu0⟩ : ∃ u0, (K.cells (xs.getD j K.dflt))[k]? = some u0 := ⟨_, List.getElem?_eq_getElem (by rw [hlen j hj]; exact ho)⟩
      have h9 := hr j hj k u0 hu0
      rw [Nat.zero_add] at h9
      exact cell_set_same h9
    · rw [List.getElem?_set_ne (fun e => hk e.symm)] at hu
      rw [cell_set_other (fun e => hk (by have h9 := congrArg Addr.off e; simp at h9; omega))]
      have h9 := hr j hj k u hu
      rw [Nat.zero_add] at h9
      exact h9
  · rw [getD_set_ne hji] at hu
    have hk : k < K.size := by rw [← hlen j hj]; exact (List.getElem?_eq_some_iff.1 hu).1
    rw [cell_set_other (fun e => by
      have h9 := congrArg Addr.off e
      simp at h9
      rcases Nat.lt_or_gt_of_ne hji with hlt2 | hlt2
      · have h8 := Nat.mul_le_mul_right K.size (show j + 1 ≤ i by omega)
        rw [Nat.succ_mul] at h8
        omega
      · have h8 := Nat.mul_le_mul_right K.size (show i + 1 ≤ j by omega)
        rw [Nat.succ_mul] at h8
        omega)]
    have h9 := hr j hj k u hu
    rw [Nat.zero_add] at h9
    exact h9
/-- One thing of a row is another one of the same cells. -/
theorem SliceOf.swap {w : World} {a : Option Addr} {n c i : Nat} {xs : List α} (h : SliceOf K w a n c xs) (x' : α) (hc : K.cells x' = K.cells (xs.getD i K.dflt)) (hx : K.ok w x') : SliceOf K w a n c (xs.set i x') := by
  obtain ⟨h1, h2, h3, h4, h6, h5⟩ := h
  refine ⟨by rw [List.length_set]; exact h1, h2, h3, h4, fun x hxx => ?_, fun h0 => ?_⟩
  · rcases List.mem_or_eq_of_mem_set hxx with hxx | rfl
    · exact h6 x hxx
    · exact hx
  · obtain ⟨b, off, e, hlt, hr⟩ := h5 h0
    refine ⟨b, off, e, hlt, fun j hj => ?_⟩
    by_cases hji : j = i
    · subst hji
      rw [getD_set_self (by omega), hc]
      exact hr j hj
    · rw [getD_set_ne hji]
      exact hr j hj
theorem mem_getD15 {xs : List α} {m : Nat} {d : α} (h : m < xs.length) : xs.getD m d ∈ xs := by
  rw [List.getD_eq_getElem?_getD, List.getElem?_eq_getElem h]
  exact List.getElem_mem h
theorem mem_set_cases {xs : List α} {i : Nat} {x x' d : α} (h : x ∈ xs.set i x') : x = x' ∨ ∃ j, j < xs.length ∧ j ≠ i ∧ x = xs.getD j d := by
  obtain ⟨j, hj, rfl⟩ := List.getElem_of_mem h
  rw [List.length_set] at hj
  by_cases hji : j = i
  · subst hji
    exact .inl (List.getElem_set_self _)
  · refine .inr ⟨j, hj, hji, ?_⟩
    rw [List.getElem_set_ne (fun e => hji e.symm), List.getD_eq_getElem?_getD, List.getElem?_eq_getElem hj]
    rfl
theorem map_set_same {β : Type} {f : α → β} {xs : List α} {i : Nat} {x' d : α} (hi : i < xs.length) (hf : f x' = f (xs.getD i d)) : (xs.set i x').map f = xs.map f := by
  apply List.ext_getElem?
  intro j
  rw [List.getElem?_map, List.getElem?_map]
  by_cases hji : j = i
  · subst hji
    rw [List.getElem?_set_self hi, List.getElem?_eq_getElem hi, Option.map_some, Option.map_some, hf, List.getD_eq_getElem?_getD, List.getElem?_eq_getElem hi]
    rfl
  · rw [List.getElem?_set_ne (fun e => hji e.symm)]
end
def PIn.at15 (y : PIn) (a : Option Addr) (n c : Nat) : PIn := ⟨y.tx, y.place, y.way, a, n, c, y.pre⟩
def POut.at15 (z : POut) (a : Option Addr) (n c : Nat) (ws : List PWay) : POut := ⟨z.m, a, n, c, ws⟩
theorem PIn.cells_at (y : PIn) (hl : y.tx.length = 32) (a : Option Addr) (n c : Nat) : (y.at15 a n c).cells = y.cells.set 34 (.slice a n c) := by
  simp [PIn.cells, PIn.at15, cellsOf_len, hl]
theorem PIn.cell34 (y : PIn) (hl : y.tx.length = 32) : y.cells[34]? = some (.slice y.a y.n y.c) := by simp [PIn.cells, cellsOf_len, hl]
theorem POut.cells_at (z : POut) (a : Option Addr) (n c : Nat) (ws : List PWay) : (z.at15 a n c ws).cells = z.cells.set 1 (.slice a n c) := rfl

theorem row_stays {w : World} {k : Nat} {t : TypeId} (h : ∃ cur, w.heap[k]? = some (.cells cur t (0, 0))) (g o : Nat) (v : Value) : ∃ cur, (w.setCell ⟨g, o, none⟩ v).heap[k]? = some (.cells cur t (0, 0)) := by
  obtain ⟨cur, hh⟩ := h
  by_cases e : k = g
  · subst e
    exact ⟨_, heap_setCell_eq hh o v⟩
  · exact ⟨cur, (heap_setCell_ne e v).trans hh⟩
theorem frozen_row {w : World} {k : Nat} {t : TypeId} {cur : Array Value} (h : w.heap[k]? = some (.cells cur t (0, 0))) (i : Nat) : w.frozen? ⟨k, i, none⟩ = false := by simp [World.frozen?, h]
/-- Where a row of some type lies. -/
def RowAt15 (w : World) (T : TypeId) (n : Nat) (a : Option Addr) : Prop := 0 < n → ∃ g cur, a = some ⟨g, 0, none⟩ ∧ w.heap[g]? = some (.cells cur T (0, 0))
theorem RowAt15.more {w w' : World} {T : TypeId} {n : Nat} {a : Option Addr} (h : RowAt15 w T n a) (hb : Below w.heap.size w w') : RowAt15 w' T n a := fun h0 => by
  obtain ⟨g, cur, e, hh⟩ := h h0
  exact ⟨g, cur, e, (hb.block _ (lt_of_block hh)).trans hh⟩
theorem RowAt15.set {w : World} {T : TypeId} {n : Nat} {a : Option Addr} (h : RowAt15 w T n a) (k o : Nat) (v : Value) : RowAt15 (w.setCell ⟨k, o, none⟩ v) T n a := fun h0 => by
  obtain ⟨g, cur, e, hh⟩ := h h0
  obtain ⟨cur', h9⟩ := row_stays ⟨cur, hh⟩ k o v
  exact ⟨g, cur', e, h9⟩
/-- A transaction's box while it is copied: its rows are new, what they say is the same. -/
structure CpSt (w0 : World) (g r B1 : Nat) (t : PTx) (sg : Option Addr) (cg : Nat) (X : List Value) (ai : Option Addr) (ci : Nat) (ao : Option Addr) (co : Nat) (ys : List PIn) (zs : List POut) (w : World) : Prop where
  box : w.heap[g]? = some (.cells X.toArray 50 (0, 0))
  ins : SliceOf inK w ai t.inn ci ys
  outs : SliceOf outK w ao t.on co zs
  op : OpIn w t.op
  sgs : SliceOf signK w sg t.sn cg t.signs
  newS : AllO (fun b => b ≠ r ∧ w0.heap.size ≤ b ∧ b < B1) t.sn sg
  sIns : ys.map PIn.strip = t.ins.map PIn.strip
  sOuts : zs.map POut.strip = t.outs.map POut.strip
  res : w.heap[r]? = some (.cells noTx.cells.toArray 50 (0, 0))
  newI : 0 < t.inn → ∃ gi, ai = some ⟨gi, 0, none⟩ ∧ r < gi ∧ gi < B1
  newO : 0 < t.on → ∃ go, ao = some ⟨go, 0, none⟩ ∧ r < go ∧ go < B1
  two : ∀ gi go, 0 < t.inn → 0 < t.on → ai = some ⟨gi, 0, none⟩ → ao = some ⟨go, 0, none⟩ → gi ≠ go
  rowI : ∀ gi, 0 < t.inn → ai = some ⟨gi, 0, none⟩ → ∃ cur, w.heap[gi]? = some (.cells cur 76 (0, 0))
  rowO : ∀ go, 0 < t.on → ao = some ⟨go, 0, none⟩ → ∃ cur, w.heap[go]? = some (.cells cur 79 (0, 0))
  rowS : RowAt15 w 86 t.sn sg
  far : ∀ z ∈ zs, AllO (fun b => b < w0.heap.size ∨ B1 ≤ b) z.n z.a
  apI : ∀ y ∈ ys, AllO (· ≠ r) y.n y.a
  apK : ∀ z ∈ zs, ∀ u ∈ z.ws, AllO (· ≠ r) u.n u.a
  apD : AllO (· ≠ r) t.op.n t.op.a
  lo : w0.heap.size ≤ g
  gr : g < r
  hi : r < B1
  size : B1 ≤ w.heap.size
  below : Below w0.heap.size w0 w
section
variable {w0 w w' : World} {g r B1 : Nat} {t : PTx} {sg : Option Addr} {cg : Nat} {X : List Value} {ai : Option Addr} {ci : Nat} {ao : Option Addr} {co : Nat} {ys : List PIn} {zs : List POut}
theorem CpSt.more (h : CpSt w0 g r B1 t sg cg X ai ci ao co ys zs w) (hb : Below w.heap.size w w') : CpSt w0 g r B1 t sg cg X ai ci ao co ys zs w' :=
  ⟨(hb.block _ (lt_of_block h.box)).trans h.box, h.ins.below hb, h.outs.below hb, h.op.below hb, h.sgs.below hb, h.newS, h.sIns, h.sOuts, (hb.block _ (lt_of_block h.res)).trans h.res, h.newI, h.newO, h.two, (fun gi h0 e => (h.rowI gi h0 e).elim fun cur hh => ⟨cur, (hb.block _ (lt_of_block hh)).trans hh⟩), (fun go h0 e => (h.rowO go h0 e).elim fun cur hh => ⟨cur, (hb.block _ (lt_of_block hh)).trans hh⟩), h.rowS.more hb, h.far, h.apI, h.apK, h.apD, h.lo, h.gr, h.hi, Nat.le_trans h.size hb.size, h.below.trans (hb.mono h.below.size)⟩
/-- The box itself is written: one of its slices. -/
theorem CpSt.putBox (h : CpSt w0 g r B1 t sg cg X ai ci ao co ys zs w) {o : Nat} (hs : SliceCell w g o) (v : Value) : CpSt w0 g r B1 t sg cg (X.set o v) ai ci ao co ys zs (w.setCell ⟨g, o, none⟩ v) := by
  have hlo := h.lo
  have hgr := h.gr
  have hhi := h.hi
  refine ⟨?_, ?_, ?_, h.op.set hs _, signs_setCell h.sgs hs _, h.newS, h.sIns, h.sOuts, (heap_setCell_ne (by omega) _).trans h.res, h.newI, h.newO, h.two, (fun k h0 e2 => row_stays (h.rowI k h0 e2) _ _ _), (fun k h0 e2 => row_stays (h.rowO k h0 e2) _ _ _), h.rowS.set _ _ _, h.far, h.apI, h.apK, h.apD, h.lo, h.gr, h.hi, by simpa using h.size, h.below.setCell (p := ⟨g, o, none⟩) hlo _⟩
  · have h9 := heap_setCell_eq h.box o v
    rw [List.setIfInBounds_toArray] at h9
    exact h9
  · refine h.ins.kept (fun h0 x e => ?_) (fun x hx => InIn.set (h.ins.2.2.2.2.1 x hx) hs _)
    obtain ⟨gi, e3, l1, l2⟩ := h.newI h0
    rw [e] at e3
    cases e3
    show gi ≠ g
    omega
  · refine h.outs.kept (fun h0 x e => ?_) (fun x hx => OutIn.set (h.outs.2.2.2.2.1 x hx) hs ((h.far x hx).mono fun b hb => by omega) _)
    obtain ⟨go, e3, l1, l2⟩ := h.newO h0
    rw [e] at e3
    cases e3
    show go ≠ g
    omega
theorem cell_range {w : World} {b o k : Nat} {cs : List Value} {v : Value} (h : w.rangeAt b o cs) (hv : cs[k]? = some v) : w.cell? ⟨b, o + k, none⟩ = some v := h k v hv
theorem CpSt.inCell (h : CpSt w0 g r B1 t sg cg X ai ci ao co ys zs w) {gi j : Nat} (e : ai = some ⟨gi, 0, none⟩) (hj : j < t.inn) : w.cell? ⟨gi, j * 35 + 34, none⟩ = some (.slice (ys.getD j noIn).a (ys.getD j noIn).n (ys.getD j noIn).c) := by
  obtain ⟨b, off, e2, _, hc⟩ := h.ins.2.2.2.2.2 (by omega)
  rw [e] at e2
  cases e2
  have hl : InIn w (ys.getD j noIn) := h.ins.get hj
  have h9 := hc j hj 34 _ (PIn.cell34 _ hl.tx)
  rw [Nat.zero_add] at h9
  exact h9
theorem CpSt.outCell (h : CpSt w0 g r B1 t sg cg X ai ci ao co ys zs w) {go j : Nat} (e : ao = some ⟨go, 0, none⟩) (hj : j < t.on) : w.cell? ⟨go, j * 2 + 1, none⟩ = some (.slice (zs.getD j noOut).a (zs.getD j noOut).n (zs.getD j noOut).c) := by
  obtain ⟨b, off, e2, _, hc⟩ := h.outs.2.2.2.2.2 (by omega)
  rw [e] at e2
  cases e2
  have h9 := hc j hj 1 (.slice (zs.getD j noOut).a (zs.getD j noOut).n (zs.getD j noOut).c) rfl
  rw [Nat.zero_add] at h9
  exact h9
/-- What an in shows is elsewhere. -/
theorem CpSt.putPre (h : CpSt w0 g r B1 t sg cg X ai ci ao co ys zs w) {gi j : Nat} (e : ai = some ⟨gi, 0, none⟩) (hj : j < t.inn) {a' : Option Addr} {n' c' : Nat} (hr : Row w a' n' c' (ys.getD j noIn).pre) (hn : AllO (· ≠ r) n' a') :
    CpSt w0 g r B1 t sg cg X ai ci ao co (ys.set j ((ys.getD j noIn).at15 a' n' c')) zs (w.setCell ⟨gi, j * 35 + 34, none⟩ (.slice a' n' c')) := by
  obtain ⟨gi', e2, l1, l2⟩ := h.newI (by omega)
  rw [e] at e2
  cases e2
  have hs : SliceCell w gi (j * 35 + 34) := ⟨_, _, _, h.inCell e hj⟩
  have hyl : j < ys.length := by rw [h.ins.1]; exact hj
  have hok : InIn w (ys.getD j noIn) := h.ins.get hj
  subst e
  have hlo := h.lo
  have hgr := h.gr
  refine ⟨(heap_setCell_ne (by omega) _).trans h.box, ?_, ?_, h.op.set hs _, signs_setCell h.sgs hs _, h.newS, ?_, h.sOuts, (heap_setCell_ne (by omega) _).trans h.res, h.newI, h.newO, h.two, (fun k h0 e2 => row_stays (h.rowI k h0 e2) _ _ _), (fun k h0 e2 => row_stays (h.rowO k h0 e2) _ _ _), h.rowS.set _ _ _, h.far, (fun y hy => by
    rcases mem_set_cases (d := noIn) hy with rfl | ⟨k, hk, _, rfl⟩
    · exact hn
    · exact h.apI _ (h.ins.mem (by rw [← h.ins.1]; exact hk))), h.apK, h.apD, h.lo, h.gr, h.hi, by simpa using h.size, h.below.setCell (p := ⟨gi, j * 35 + 34, none⟩) (by show w0.heap.size ≤ gi; omega) _⟩
  · refine SliceOf.put (K := inK) (off := 34) h.ins hj (by show 34 < 35; omega) _ (PIn.cells_at _ hok.tx _ _ _) (fun x hx => ?_)
    rcases mem_set_cases (d := noIn) hx with rfl | ⟨k, hk, _, rfl⟩
    · exact ⟨hok.tx, hok.place, hok.way, row_setCell hr hs _⟩
    · exact InIn.set (h.ins.get (by rw [← h.ins.1]; exact hk)) hs _
  · refine h.outs.kept (fun h0 x e => ?_) (fun x hx => OutIn.set (h.outs.2.2.2.2.1 x hx) hs ((h.far x hx).mono fun b hb => by omega) _)
    obtain ⟨go, e3, _⟩ := h.newO h0
    rw [e] at e3
    cases e3
    exact fun e4 => h.two gi go (by omega) h0 rfl e e4.symm
  · rw [map_set_same (d := noIn) hyl (by rfl)]
    exact h.sIns
/-- An out's ways are elsewhere. -/
theorem CpSt.putWays (h : CpSt w0 g r B1 t sg cg X ai ci ao co ys zs w) {go j : Nat} (e : ao = some ⟨go, 0, none⟩) (hj : j < t.on) {a' : Option Addr} {n' c' : Nat} (hr : Ways w a' n' c' (zs.getD j noOut).ws) (hf : AllO (B1 ≤ ·) n' a') :
    CpSt w0 g r B1 t sg cg X ai ci ao co ys (zs.set j ((zs.getD j noOut).at15 a' n' c' (zs.getD j noOut).ws)) (w.setCell ⟨go, j * 2 + 1, none⟩ (.slice a' n' c')) := by
  obtain ⟨go', e2, l1, l2⟩ := h.newO (by omega)
  rw [e] at e2
  cases e2
  have hs : SliceCell w go (j * 2 + 1) := ⟨_, _, _, h.outCell e hj⟩
  have hzl : j < zs.length := by rw [h.outs.1]; exact hj
  have hok : OutIn w (zs.getD j noOut) := h.outs.get hj
  subst e
  have hlo := h.lo
  have hgr := h.gr
  refine ⟨(heap_setCell_ne (by omega) _).trans h.box, ?_, ?_, h.op.set hs _, signs_setCell h.sgs hs _, h.newS, h.sIns, ?_, (heap_setCell_ne (by omega) _).trans h.res, h.newI, h.newO, h.two, (fun k h0 e2 => row_stays (h.rowI k h0 e2) _ _ _), (fun k h0 e2 => row_stays (h.rowO k h0 e2) _ _ _), h.rowS.set _ _ _, fun z hz => ?_, h.apI, (fun z hz => by
    rcases mem_set_cases (d := noOut) hz with rfl | ⟨k, hk, _, rfl⟩
    · exact h.apK (zs.getD j noOut) (h.outs.mem hj)
    · exact h.apK _ (h.outs.mem (by rw [← h.outs.1]; exact hk))), h.apD, h.lo, h.gr, h.hi, by simpa using h.size, h.below.setCell (p := ⟨go, j * 2 + 1, none⟩) (by show w0.heap.size ≤ go; omega) _⟩
  · refine h.ins.kept (fun h0 x e => ?_) (fun x hx => InIn.set (h.ins.2.2.2.2.1 x hx) hs _)
    obtain ⟨gi, e3, _⟩ := h.newI h0
    rw [e] at e3
    cases e3
    exact h.two gi go h0 (by omega) e rfl
  · refine SliceOf.put (K := outK) (off := 1) h.outs hj (by show 1 < 2; omega) _ (POut.cells_at _ _ _ _ _) (fun x hx => ?_)
    rcases mem_set_cases (d := noOut) hx with rfl | ⟨k, hk, _, rfl⟩
    · exact ⟨hok.m, Ways.set hr hs (hf.mono fun b hb => by omega) _⟩
    · have hk' : k < t.on := by rw [← h.outs.1]; exact hk
      exact OutIn.set (h.outs.get hk') hs ((h.far _ (h.outs.mem hk')).mono fun b hb => by omega) _
  · rw [map_set_same (d := noOut) hzl (by rfl)]
    exact h.sOuts
  · rcases mem_set_cases (d := noOut) hz with rfl | ⟨k, hk, _, rfl⟩
    · exact hf.mono fun b hb => .inr hb
    · exact h.far _ (h.outs.mem (by rw [← h.outs.1]; exact hk))
/-- A way's keys are elsewhere: the ways of one out, the others lie in other blocks. -/
theorem CpSt.putKey (h : CpSt w0 g r B1 t sg cg X ai ci ao co ys zs w) {gw j i : Nat} (hj : j < t.on) (e : (zs.getD j noOut).a = some ⟨gw, 0, none⟩) (hi : i < (zs.getD j noOut).n) (hB : B1 ≤ gw) (hd : ∀ k, k < t.on → k ≠ j → AllO (· ≠ gw) (zs.getD k noOut).n (zs.getD k noOut).a)
    {a' : Option Addr} {n' c' : Nat} (hr : Numbers w a' n' c' ((zs.getD j noOut).ws.getD i noWay).ks) (hn : AllO (· ≠ r) n' a') :
    CpSt w0 g r B1 t sg cg X ai ci ao co ys (zs.set j ((zs.getD j noOut).at15 (some ⟨gw, 0, none⟩) (zs.getD j noOut).n (zs.getD j noOut).c ((zs.getD j noOut).ws.set i (((zs.getD j noOut).ws.getD i noWay).at9 a' n' c')))) (w.setCell ⟨gw, i * 35, none⟩ (.slice a' n' c')) := by
  have hzl : j < zs.length := by rw [h.outs.1]; exact hj
  have hok : OutIn w (zs.getD j noOut) := h.outs.get hj
  have hws := hok.ws
  rw [e] at hws
  have hs : SliceCell w gw (i * 35) := by
    obtain ⟨b, off, e2, _, hc⟩ := hws.2.2.2.2.2 (by omega)
    cases e2
    have h9 := way_keys (hc i hi)
    rw [Nat.zero_add] at h9
    exact ⟨_, _, _, h9⟩
  have hwl : i < (zs.getD j noOut).ws.length := by rw [hws.1]; exact hi
  have h0g := h.below.size
  have hlo := h.lo
  have hgr := h.gr
  have hhi := h.hi
  refine ⟨(heap_setCell_ne (by omega) _).trans h.box, ?_, ?_, h.op.set hs _, signs_setCell h.sgs hs _, h.newS, h.sIns, ?_, (heap_setCell_ne (by omega) _).trans h.res, h.newI, h.newO, h.two, (fun k h0 e2 => row_stays (h.rowI k h0 e2) _ _ _), (fun k h0 e2 => row_stays (h.rowO k h0 e2) _ _ _), h.rowS.set _ _ _, fun z hz => ?_, h.apI, (fun z hz => by
    rcases mem_set_cases (d := noOut) hz with rfl | ⟨k, hk, _, rfl⟩
    · intro u hu
      rcases mem_set_cases (d := noWay) hu with rfl | ⟨m, hm, _, rfl⟩
      · exact hn
      · exact h.apK (zs.getD j noOut) (h.outs.mem hj) _ (mem_getD15 hm)
    · exact h.apK _ (h.outs.mem (by rw [← h.outs.1]; exact hk))), h.apD, h.lo, h.gr, h.hi, by simpa using h.size, h.below.setCell (p := ⟨gw, i * 35, none⟩) (by show w0.heap.size ≤ gw; omega) _⟩
  · refine h.ins.kept (fun h0 x e => ?_) (fun x hx => InIn.set (h.ins.2.2.2.2.1 x hx) hs _)
    obtain ⟨gi, e3, _, l2⟩ := h.newI h0
    rw [e] at e3
    cases e3
    show gi ≠ gw
    omega
  · have hout : ∀ x ∈ zs.set j ((zs.getD j noOut).at15 (some ⟨gw, 0, none⟩) (zs.getD j noOut).n (zs.getD j noOut).c ((zs.getD j noOut).ws.set i (((zs.getD j noOut).ws.getD i noWay).at9 a' n' c'))), OutIn (w.setCell ⟨gw, i * 35, none⟩ (.slice a' n' c')) x := fun x hx => by
      rcases mem_set_cases (d := noOut) hx with rfl | ⟨k, hk, hkj, rfl⟩
      · exact ⟨hok.m, ways_key_set hws hi hr⟩
      · have hk' : k < t.on := by rw [← h.outs.1]; exact hk
        exact OutIn.set (h.outs.get hk') hs (hd k hk' hkj) _
    obtain ⟨h1, h2, h3, h4, _, h5⟩ := h.outs
    refine ⟨by rw [List.length_set]; exact h1, h2, h3, h4, hout, fun h0 => ?_⟩
    obtain ⟨b, off, e2, hlt, hc⟩ := h5 h0
    obtain ⟨go, e3, _, l2⟩ := h.newO h0
    rw [e2] at e3
    simp at e3
    obtain ⟨e4, rfl⟩ := e3
    refine ⟨b, 0, e2, by simpa using hlt, fun k hk u v hv => ?_⟩
    have hcell : outK.cells ((zs.set j ((zs.getD j noOut).at15 (some ⟨gw, 0, none⟩) (zs.getD j noOut).n (zs.getD j noOut).c ((zs.getD j noOut).ws.set i (((zs.getD j noOut).ws.getD i noWay).at9 a' n' c')))).getD k outK.dflt) = outK.cells (zs.getD k outK.dflt) := by
      by_cases hkj : k = j
      · subst hkj
        rw [getD_set_self hzl]
        show POut.cells _ = POut.cells (zs.getD k noOut)
        unfold POut.cells POut.at15
        rw [e]
      · rw [getD_set_ne hkj]
    rw [hcell] at hv
    rw [cell_set_other (fun e5 => by have h9 := congrArg Addr.block e5; simp at h9; omega)]
    exact hc k hk u v hv
  · rw [map_set_same (d := noOut) hzl (by
      show POut.strip _ = POut.strip (zs.getD j noOut)
      unfold POut.strip POut.at15
      dsimp only
      rw [List.length_set, strip_set hwl])]
    exact h.sOuts
  · rcases mem_set_cases (d := noOut) hz with rfl | ⟨k, hk, _, rfl⟩
    · exact fun _ x e5 => by
        cases e5
        exact .inr hB
    · exact h.far _ (h.outs.mem (by rw [← h.outs.1]; exact hk))
/-- The result's block is written: all that was copied stays. -/
theorem CpSt.last (h : CpSt w0 g r B1 t sg cg X ai ci ao co ys zs w) (hb : But w.heap.size r w w') : SliceOf inK w' ai t.inn ci ys ∧ SliceOf outK w' ao t.on co zs ∧ SliceOf signK w' sg t.sn cg t.signs := by
  have hgr := h.gr
  have hlo := h.lo
  have hhi := h.hi
  refine ⟨?_, ?_, ?_⟩
  · refine h.ins.moved (B := w.heap.size) (p := r) (fun h0 x e => ⟨h.ins.block h0 x e, ?_⟩) (fun y hy => ?_) hb
    · obtain ⟨gi, e3, l1, _⟩ := h.newI h0
      rw [e] at e3
      cases e3
      show gi ≠ r
      omega
    · have hy1 : InIn w y := h.ins.2.2.2.2.1 y hy
      exact ⟨hy1.tx, hy1.place, hy1.way, hy1.pre.but hb (fun h0 b off e => h.apI y hy h0 _ e)⟩
  · refine h.outs.moved (B := w.heap.size) (p := r) (fun h0 x e => ⟨h.outs.block h0 x e, ?_⟩) (fun z hz => ?_) hb
    · obtain ⟨go, e3, l1, _⟩ := h.newO h0
      rw [e] at e3
      cases e3
      show go ≠ r
      omega
    · have hz1 : OutIn w z := h.outs.2.2.2.2.1 z hz
      refine ⟨hz1.m, SliceOf.moved (K := wayK9) (B := w.heap.size) (p := r) hz1.ws (fun h0 x e => ⟨SliceOf.block (K := wayK9) hz1.ws h0 x e, ?_⟩) (fun u hu => ?_) hb⟩
      · have h9 := h.far z hz h0 x e
        show x.block ≠ r
        omega
      · have hu1 : WayIn w u := hz1.ws.2.2.2.2.1 u hu
        exact ⟨hu1.keys.butO (B := w.heap.size) (pb := r) (fun h0 x e => ⟨by
          obtain ⟨b, off, e2, hlt, _⟩ := hu1.keys.2.2.2.2.2 h0
          rw [e] at e2
          cases e2
          exact hlt, h.apK z hz u hu h0 x e⟩) hb, hu1.sum, hu1.after, hu1.wait⟩
  · exact h.sgs.moved (B := w.heap.size) (p := r) (fun h0 x e => ⟨h.sgs.block h0 x e, (h.newS h0 x e).1⟩) (fun y hy => (show SignIn y from h.sgs.2.2.2.2.1 y hy)) hb
end
end Go.Proofs.YtlnenkmcegadmaaDoor
