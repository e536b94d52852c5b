/- Ways and outs in memory: what they read as. No function of the program is named. -/
import Derived.Test.YtdaafeaeinomoaaDoorNumbers
import Derived.Test.YtdaafeaeinomoaaDoorSha
namespace Go.Proofs.YtdaafeaeinomoaaDoor
open Go.RowKit

/-- What a way has, and where its keys lie. -/
structure PWay where
  a : Option Addr
  n : Nat
  c : Nat
  ks : List Int
  h : List UInt8
  after : Int
  wait : Int
def noWay : PWay := ⟨none, 0, 0, [], zero32, 0, 0⟩
def PWay.cells (x : PWay) : List Value := .slice x.a x.n x.c :: (cellsOf x.h ++ [.int .i64 x.after, .int .i64 x.wait])
/-- A way that may stand in this world. -/
structure WayIn (w : World) (x : PWay) : Prop where
  keys : Numbers w x.a x.n x.c x.ks
  sum : x.h.length = 32
  after : Fits x.after
  wait : Fits x.wait
theorem WayIn.below {w w' : World} {x : PWay} (h : WayIn w x) (hb : Below w.heap.size w w') : WayIn w' x := ⟨h.keys.below hb, h.sum, h.after, h.wait⟩
theorem zero32_len : zero32.length = 32 := by decide
theorem WayIn.none (w : World) : WayIn w noWay := ⟨Numbers.nil w, zero32_len, by constructor <;> decide, by constructor <;> decide⟩
theorem PWay.cells_len {x : PWay} (h : x.h.length = 32) : x.cells.length = 35 := by simp [PWay.cells, cellsOf_len, h]
theorem PWay.cells_one (x : PWay) : ∀ v ∈ x.cells, v.oneCell' = true := by
  intro v hv
  simp only [PWay.cells, List.mem_cons, List.mem_append, List.not_mem_nil, or_false] at hv
  rcases hv with rfl | hv | rfl | rfl
  · rfl
  · exact cellsOf_one _ v hv
  · rfl
  · rfl
/-- The parts of a way whose cells lie somewhere. -/
theorem way_keys {w : World} {b o : Nat} {x : PWay} (h : w.rangeAt b o x.cells) : w.cell? ⟨b, o, none⟩ = some (.slice x.a x.n x.c) := h 0 _ rfl
theorem way_sum {w : World} {b o : Nat} {x : PWay} (hx : x.h.length = 32) (h : w.rangeAt b o x.cells) : w.rangeAt b (o + 1) (cellsOf x.h) := fun j v hv => by
  have hj : j < 32 := by
    have := (List.getElem?_eq_some_iff.1 hv).1
    rw [cellsOf_len, hx] at this
    exact this
  have := h (j + 1) v (by
    show (Value.slice x.a x.n x.c :: (cellsOf x.h ++ [.int .i64 x.after, .int .i64 x.wait]))[j + 1]? = some v
    rw [List.getElem?_cons_succ, List.getElem?_append_left (by rw [cellsOf_len, hx]; exact hj)]
    exact hv)
  rw [show o + 1 + j = o + (j + 1) by omega]
  exact this
theorem way_after {w : World} {b o : Nat} {x : PWay} (hx : x.h.length = 32) (h : w.rangeAt b o x.cells) : w.cell? ⟨b, o + 33, none⟩ = some (.int .i64 x.after) := h 33 _ (by
  show (Value.slice x.a x.n x.c :: (cellsOf x.h ++ [.int .i64 x.after, .int .i64 x.wait]))[32 + 1]? = _
  rw [List.getElem?_cons_succ, List.getElem?_append_right (by rw [cellsOf_len, hx]; omega), cellsOf_len, hx]
  rfl)
theorem way_wait {w : World} {b o : Nat} {x : PWay} (hx : x.h.length = 32) (h : w.rangeAt b o x.cells) : w.cell? ⟨b, o + 34, none⟩ = some (.int .i64 x.wait) := h 34 _ (by
  show (Value.slice x.a x.n x.c :: (cellsOf x.h ++ [.int .i64 x.after, .int .i64 x.wait]))[33 + 1]? = _
  rw [List.getElem?_cons_succ, List.getElem?_append_right (by rw [cellsOf_len, hx]; omega), cellsOf_len, hx]
  rfl)
theorem Tryd.size26 : (Tryd.prog.info? 26).map (·.size) = some 35 := by kernel_rfl
theorem way_size {x : PWay} (h : x.h.length = 32) : (Tryd.prog.info? 26).map (·.size) = some x.cells.length := by rw [PWay.cells_len h]; exact Tryd.size26
theorem way_sizeA {x : PWay} (h : x.h.length = 32) : (Tryd.prog.info? 26).map (·.size) = some x.cells.toArray.size := by rw [List.size_toArray]; exact way_size h

/-- A slice of ways. -/
def Ways (w : World) (a : Option Addr) (n c : Nat) (xs : List PWay) : Prop :=
  xs.length = n ∧ n ≤ c ∧ c ≤ maxLen ∧ (a = none → c = 0) ∧ (∀ x ∈ xs, WayIn w x) ∧
  (0 < n → ∃ b off, a = some ⟨b, off, none⟩ ∧ b < w.heap.size ∧ ∀ j, j < n → w.rangeAt b (off + j * 35) (xs.getD j noWay).cells)
theorem Ways.below {w w' : World} {n c : Nat} {a : Option Addr} {xs : List PWay} (h : Ways w a n c xs) (hb : Below w.heap.size w w') : Ways w' a n c xs := by
  obtain ⟨h1, h2, h3, h4, h6, h5⟩ := h
  refine ⟨h1, h2, h3, h4, fun x hx => (h6 x hx).below hb, fun h0 => ?_⟩
  obtain ⟨b, off, rfl, hlt, hc⟩ := h5 h0
  exact ⟨b, off, rfl, Nat.lt_of_lt_of_le hlt hb.size, fun j hj => rangeAt_below (hc j hj) hlt hb⟩
theorem Ways.nil (w : World) : Ways w none 0 0 [] := ⟨rfl, Nat.le_refl _, Nat.zero_le _, fun _ => rfl, (fun _ h => by cases h), fun h => by omega⟩
theorem Ways.way {w : World} {n c j : Nat} {a : Option Addr} {xs : List PWay} (h : Ways w a n c xs) (hj : j < n) : WayIn w (xs.getD j noWay) := by
  have hj' : j < xs.length := by rw [h.1]; exact hj
  rw [List.getD_eq_getElem?_getD, List.getElem?_eq_getElem hj']
  exact h.2.2.2.2.1 _ (List.getElem_mem hj')
/-- A block of one way. -/
theorem ways_one {w : World} {g : Nat} {x : PWay} {t : TypeId} {fr : Nat × Nat} (h : w.heap[g]? = some (.cells x.cells.toArray t fr)) (hx : WayIn w x) : Ways w (some ⟨g, 0, none⟩) 1 1 [x] := by
  refine ⟨rfl, Nat.le_refl _, by unfold maxLen; omega, (fun e => by cases e), fun y hy => by simp at hy; subst hy; exact hx, fun _ => ⟨g, 0, rfl, lt_of_block h, fun j hj => ?_⟩⟩
  obtain rfl : j = 0 := by omega
  exact range_of h
end Go.Proofs.YtdaafeaeinomoaaDoor
