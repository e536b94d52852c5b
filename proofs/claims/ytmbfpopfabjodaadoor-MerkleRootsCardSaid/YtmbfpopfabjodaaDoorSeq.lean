/- A slice of sums (32 bytes each, in a row): what it reads as; how it is cut, made, stored into, joined to; a literal of one or two sums. No function of the program is named. -/
import Derived.Test.YtmbfpopfabjodaaDoorEqSum
import Derived.Test.YtmbfpopfabjodaaDoorTreeSums
import Derived.Test.YtmbfpopfabjodaaDoorPair
import Derived.OwnWalk
import Derived.Great.BuildSlice
namespace Go.Proofs.YtmbfpopfabjodaaDoor
open Go.RowKit

/-- A slice of sums that reads as 'ls'. -/
def Sums (w : World) (a : Option Addr) (n c : Nat) (ls : List (List UInt8)) : Prop :=
  ls.length = n ∧ n ≤ c ∧ c ≤ maxLen ∧ (a = none → c = 0) ∧ (∀ s ∈ ls, s.length = 32) ∧
  (0 < n → ∃ b off, a = some ⟨b, off, none⟩ ∧ b < w.heap.size ∧ ∀ j, j < n → w.rangeAt b (off + j * 32) (cellsOf (ls.getD j [])))
theorem rangeAt_below {w w' : World} {b o : Nat} {cs : List Value} (h : w.rangeAt b o cs) (hb : b < w.heap.size) (hw : Below w.heap.size w w') : w'.rangeAt b o cs :=
  fun j v hv => (hw.cell (p := ⟨b, o + j, none⟩) hb).trans (h j v hv)
theorem rangeAt_but {w w' : World} {p b o : Nat} {cs : List Value} (h : w.rangeAt b o cs) (hb : b < w.heap.size) (hne : b ≠ p) (hw : But w.heap.size p w w') : w'.rangeAt b o cs :=
  fun j v hv => (hw.cell (a := ⟨b, o + j, none⟩) hb hne).trans (h j v hv)
theorem Sums.below {w w' : World} {n c : Nat} {a : Option Addr} {ls : List (List UInt8)} (h : Sums w a n c ls) (hb : Below w.heap.size w w') : Sums w' a n c ls := by
  obtain ⟨h1, h2, h3, h4, h6, h5⟩ := h
  refine ⟨h1, h2, h3, h4, h6, fun h0 => ?_⟩
  obtain ⟨b, off, rfl, hlt, hc⟩ := h5 h0
  exact ⟨b, off, rfl, Nat.lt_of_lt_of_le hlt hb.size, fun j hj => rangeAt_below (hc j hj) hlt hb⟩
theorem Sums.but {w w' : World} {p n c : Nat} {a : Option Addr} {ls : List (List UInt8)} (h : Sums w a n c ls) (hb : But w.heap.size p w w') (hp : Off p a n) : Sums w' a n c ls := by
  obtain ⟨h1, h2, h3, h4, h6, h5⟩ := h
  refine ⟨h1, h2, h3, h4, h6, fun h0 => ?_⟩
  obtain ⟨b, off, rfl, hlt, hc⟩ := h5 h0
  exact ⟨b, off, rfl, Nat.lt_of_lt_of_le hlt hb.size, fun j hj => rangeAt_but (hc j hj) hlt (hp h0 b off rfl) hb⟩
theorem Sums.off {w : World} {p n c : Nat} {a : Option Addr} {ls : List (List UInt8)} (h : Sums w a n c ls) (hp : w.heap.size ≤ p) : Off p a n := by
  intro h0 b off e
  obtain ⟨b', off', e', hlt, _⟩ := h.2.2.2.2.2 h0
  rw [e] at e'
  cases e'
  omega
theorem Sums.nil (w : World) : Sums w none 0 0 [] := ⟨rfl, Nat.le_refl _, Nat.zero_le _, fun _ => rfl, (fun _ h => by cases h), fun h => by omega⟩
theorem Sums.len {w : World} {n c : Nat} {a : Option Addr} {ls : List (List UInt8)} (h : Sums w a n c ls) : ls.length = n := h.1
theorem Sums.each {w : World} {n c j : Nat} {a : Option Addr} {ls : List (List UInt8)} (h : Sums w a n c ls) (hj : j < n) : (ls.getD j []).length = 32 := by
  have hj' : j < ls.length := by rw [h.1]; exact hj
  rw [List.getD_eq_getElem?_getD, List.getElem?_eq_getElem hj']
  exact h.2.2.2.2.1 _ (List.getElem_mem hj')
theorem Sums.drop {w : World} {n c k : Nat} {a a' : Option Addr} {ls : List (List UInt8)} (h : Sums w a n c ls) (hk : k ≤ n) (ha : a' = none → c = k) (ha' : k < n → ∀ b off, a = some ⟨b, off, none⟩ → a' = some ⟨b, off + k * 32, none⟩) : Sums w a' (n - k) (c - k) (ls.drop k) := by
  obtain ⟨h1, h2, h3, h4, h6, h5⟩ := h
  refine ⟨by simp [h1], by omega, by omega, (fun e => by have := ha e; omega), fun s hs => h6 s (List.mem_of_mem_drop hs), fun h0 => ?_⟩
  obtain ⟨b, off, rfl, hlt, hc⟩ := h5 (by omega)
  refine ⟨b, off + k * 32, ha' (by omega) b off rfl, hlt, fun j hj => ?_⟩
  have := hc (k + j) (by omega)
  rw [show off + k * 32 + j * 32 = off + (k + j) * 32 by rw [Nat.add_mul]; omega]
  have e : (ls.drop k).getD j [] = ls.getD (k + j) [] := by simp [List.getD]
  rw [e]
  exact this
theorem Sums.take {w : World} {n c k : Nat} {a : Option Addr} {ls : List (List UInt8)} (h : Sums w a n c ls) (hk : k ≤ n) : Sums w a k c (ls.take k) := by
  obtain ⟨h1, h2, h3, h4, h6, h5⟩ := h
  refine ⟨by simp [h1]; omega, by omega, h3, h4, fun s hs => h6 s (List.mem_of_mem_take hs), fun h0 => ?_⟩
  obtain ⟨b, off, rfl, hlt, hc⟩ := h5 (by omega)
  refine ⟨b, off, rfl, hlt, fun j hj => ?_⟩
  have e : (ls.take k).getD j [] = ls.getD j [] := by simp [List.getD, hj]
  rw [e]
  exact hc j (by omega)

/-- The cut 's[A:]'. -/
theorem run_cut_from {a : Option Addr} {n c A : Nat} (hA : A ≤ n) (W : World) : (Instr.sliceAt 22 (.slice a n c) (some (.int .i64 (A : Int))) none none).run Tryd.prog W = .ok (.slice (if c = A then a else a.map (·.add (A * 32))) (n - A) (c - A)) W := by
  have hu : Tryd.prog.underlying 22 = some (.slice (Tryd.prog.elem 22)) := by kernel_rfl
  have hs : (sizeOf (Tryd.prog.elem 22)).run Tryd.prog W = .ok 32 W := by kernel_rfl
  rw [run_sliceAt_slice W _ _ _ _ _ hu, run_slice_l W _ a n c hu .i64 (A : Int) (by omega) (by omega), hs]
  simp [Result.andThen, sliced]
theorem Sums.from {w : World} {a : Option Addr} {n c A : Nat} {ls : List (List UInt8)} (h : Sums w a n c ls) (hA : A ≤ n) : Sums w (if c = A then a else a.map (·.add (A * 32))) (n - A) (c - A) (ls.drop A) := by
  have hnc := h.2.1
  refine h.drop hA (fun e => ?_) (fun hlt b off e => ?_)
  · split at e
    · assumption
    · have : a = none := by cases a with
        | none => rfl
        | some x => cases e
      have := h.2.2.2.1 this
      omega
  · rw [if_neg (by omega), e]
    simp [Addr.add]
/-- The cut 's[:A]'. -/
theorem run_cut_to {a : Option Addr} {n c A : Nat} (hA : A ≤ c) (W : World) : (Instr.sliceAt 22 (.slice a n c) none (some (.int .i64 (A : Int))) none).run Tryd.prog W = .ok (.slice a A c) W := by
  have hu : Tryd.prog.underlying 22 = some (.slice (Tryd.prog.elem 22)) := by kernel_rfl
  have hs : (sizeOf (Tryd.prog.elem 22)).run Tryd.prog W = .ok 32 W := by kernel_rfl
  rw [run_sliceAt_slice W _ _ _ _ _ hu, run_slice_h W _ a n c hu .i64 (A : Int) (by omega) (by omega), hs]
  simp [Result.andThen, sliced]
  intro _
  cases a with
  | none => rfl
  | some x => obtain ⟨b, o, sp⟩ := x; cases sp <;> simp [Addr.add]

/-! ### Rows of the call's own -/
def seqCells (ls : List (List UInt8)) : List Value := ls.flatMap cellsOf
theorem seqCells_append (l m : List (List UInt8)) : seqCells (l ++ m) = seqCells l ++ seqCells m := by simp [seqCells]
theorem seqCells_len : ∀ {ls : List (List UInt8)}, (∀ s ∈ ls, s.length = 32) → (seqCells ls).length = ls.length * 32
  | [], _ => rfl
  | s :: ls, h => by
    have ih := seqCells_len (ls := ls) (fun t ht => h t (by simp [ht]))
    have hs := h s (by simp)
    show (cellsOf s ++ seqCells ls).length = _
    rw [List.length_append, ih, cellsOf_len, hs, List.length_cons, Nat.add_mul]
    omega
theorem seqCells_get : ∀ {ls : List (List UInt8)}, (∀ s ∈ ls, s.length = 32) → ∀ {j i : Nat}, i < 32 → (seqCells ls)[j * 32 + i]? = (cellsOf (ls.getD j []))[i]?
  | [], _, j, i, hi => by simp [seqCells, cellsOf]
  | s :: ls, h, 0, i, hi => by
    have hs := h s (by simp)
    show (cellsOf s ++ seqCells ls)[0 * 32 + i]? = (cellsOf s)[i]?
    rw [Nat.zero_mul, Nat.zero_add, List.getElem?_append_left (by rw [cellsOf_len, hs]; exact hi)]
  | s :: ls, h, j + 1, i, hi => by
    have ih := seqCells_get (ls := ls) (fun t ht => h t (by simp [ht])) (j := j) hi
    have hs := h s (by simp)
    show (cellsOf s ++ seqCells ls)[(j + 1) * 32 + i]? = (cellsOf (ls.getD j []))[i]?
    rw [List.getElem?_append_right (by rw [cellsOf_len, hs]; omega), cellsOf_len, hs, ← ih]
    congr 1
    omega
theorem seqCells_one {ls : List (List UInt8)} : ∀ v ∈ seqCells ls, v.oneCell' = true := by
  intro v hv
  obtain ⟨s, _, hs⟩ := List.mem_flatMap.1 hv
  exact cellsOf_one s v hs
theorem seqCells_single (s : List UInt8) : seqCells [s] = cellsOf s := by simp [seqCells]
/-- A slice of sums of the call's own. -/
def OwnS (w : World) (B : Nat) (v : Value) (ls : List (List UInt8)) : Prop := w.ownsRow B 24 32 v ls.length (seqCells ls) ∧ ∀ s ∈ ls, s.length = 32
theorem OwnS.shape {w : World} {B : Nat} {v : Value} {ls : List (List UInt8)} (h : OwnS w B v ls) : ∃ a c, v = .slice a ls.length c ∧ (∀ x, a = some x → B ≤ x.block) := by
  rcases h.1.2 with ⟨rfl, h0⟩ | ⟨g, cap, cur, rfl, hB, _⟩
  · exact ⟨none, 0, by rw [h0], fun x e => by cases e⟩
  · exact ⟨_, _, rfl, fun x e => by cases e; exact hB⟩
theorem OwnS.sums {w : World} {B : Nat} {a : Option Addr} {n c : Nat} {ls : List (List UInt8)} (h : OwnS w B (.slice a n c) ls) : Sums w a n c ls := by
  rcases h.1.2 with ⟨hv, h0⟩ | ⟨g, cap, cur, hv, hB, hh, h1, h2, h3, h4⟩
  · cases hv
    obtain rfl : ls = [] := List.eq_nil_of_length_eq_zero h0
    exact Sums.nil w
  · cases hv
    refine ⟨rfl, h1, h2, (fun e => by cases e), h.2, fun _ => ⟨g, 0, rfl, lt_of_block hh, fun j hj i v hv => ?_⟩⟩
    have hi : i < 32 := by
      have h5 := (List.getElem?_eq_some_iff.1 hv).1
      rw [cellsOf_len] at h5
      have h6 : (ls.getD j []).length = 32 := by
        rw [List.getD_eq_getElem?_getD, List.getElem?_eq_getElem hj]
        exact h.2 _ (List.getElem_mem hj)
      omega
    rw [Nat.zero_add, cell_of_row w g _ _ _ _ hh, ← hv, ← seqCells_get h.2 hi, ← h4, List.getElem?_take, if_pos (by omega)]
    simp
theorem OwnS.below {w w' : World} {B : Nat} {v : Value} {ls : List (List UInt8)} (h : OwnS w B v ls) (hb : Below w.heap.size w w') : OwnS w' B v ls :=
  ⟨World.ownsRow.kept h.1 (row := none) ⟨hb.os, hb.tape, hb.output, hb.size, fun k hk _ => hb.block k hk⟩ (by cases h' : v.ownBlock <;> simp), h.2⟩
theorem OwnS.lt {w : World} {B : Nat} {v : Value} {ls : List (List UInt8)} (h : OwnS w B v ls) : ∀ k, v.ownBlock = some k → B ≤ k ∧ k < w.heap.size := fun k e => World.ownsRow.lt h.1 k e
theorem OwnS.nil (w : World) (B : Nat) : OwnS w B (.slice none 0 0) [] := ⟨World.ownsRow_nil w B _ _, fun _ h => by cases h⟩
theorem OwnS.base {w : World} {B B' : Nat} {v : Value} {ls : List (List UInt8)} (h : OwnS w B v ls) (hB : B' ≤ B) : OwnS w B' v ls := by
  refine ⟨⟨h.1.1, ?_⟩, h.2⟩
  rcases h.1.2 with h0 | ⟨g, cap, cur, hv, hb, r⟩
  · exact .inl h0
  · exact .inr ⟨g, cap, cur, hv, by omega, r⟩

/-- What a store of a sum leaves. -/
theorem setCells_own {e : TypeId} {sz B g n c : Nat} : ∀ (vs : List Value) (o : Nat) (w : World) (xs : List Value), w.ownsRow B e sz (.slice (some ⟨g, 0, none⟩) n c) n xs →
    ∃ ys, (w.setCells g o vs).ownsRow B e sz (.slice (some ⟨g, 0, none⟩) n c) n ys ∧ ys.length = xs.length ∧ But w.heap.size g w (w.setCells g o vs) ∧ ∀ i, ys[i]? = if o ≤ i ∧ i < o + vs.length ∧ i < xs.length then vs[i - o]? else xs[i]?
  | [], o, w, xs, h => ⟨xs, h, rfl, But.refl _ _ _, fun i => by rw [if_neg (by simp; omega)]⟩
  | v :: vs, o, w, xs, h => by
    obtain ⟨ys, h1, h2, h3, h4⟩ := setCells_own vs (o + 1) (w.setCell ⟨g, o, none⟩ v) (xs.set o v) (h.stored o v).1
    refine ⟨ys, h1, by simpa using h2, ?_, fun i => ?_⟩
    · have b1 : But w.heap.size g w (w.setCell ⟨g, o, none⟩ v) := (But.refl w.heap.size g w).setCell ⟨g, o, none⟩ (.inl rfl) v
      exact b1.trans (h3.mono (by simp))
    · rw [h4 i, List.length_set, List.length_cons]
      by_cases c1 : o + 1 ≤ i ∧ i < o + 1 + vs.length ∧ i < xs.length
      · rw [if_pos c1, if_pos (by omega), show i - o = (i - (o + 1)) + 1 by omega]
        rfl
      · rw [if_neg c1]
        by_cases c2 : i = o
        · subst c2
          by_cases c3 : i < xs.length
          · rw [if_pos (by omega), List.getElem?_set_self (by omega)]
            simp
          · rw [if_neg (by omega), List.getElem?_eq_none (by simp; omega), List.getElem?_eq_none (by omega)]
        · rw [List.getElem?_set_ne (by omega)]
          by_cases c3 : o ≤ i ∧ i < o + (vs.length + 1) ∧ i < xs.length
          · omega
          · rw [if_neg c3]
theorem seqCells_set {ls : List (List UInt8)} (h : ∀ s ∈ ls, s.length = 32) {j : Nat} (hj : j < ls.length) {s : List UInt8} (hs : s.length = 32) (i : Nat) :
    (seqCells (ls.set j s))[i]? = if j * 32 ≤ i ∧ i < j * 32 + 32 ∧ i < ls.length * 32 then (cellsOf s)[i - j * 32]? else (seqCells ls)[i]? := by
  have h' : ∀ t ∈ ls.set j s, t.length = 32 := fun t ht => by
    rcases List.mem_or_eq_of_mem_set ht with ht | rfl
    · exact h t ht
    · exact hs
  have e : i = i / 32 * 32 + i % 32 := by omega
  have e1 := seqCells_get h' (j := i / 32) (i := i % 32) (by omega)
  have e2 := seqCells_get h (j := i / 32) (i := i % 32) (by omega)
  rw [← e] at e1 e2
  rw [e1]
  by_cases c : j * 32 ≤ i ∧ i < j * 32 + 32 ∧ i < ls.length * 32
  · have c1 : i / 32 = j := by omega
    have c2 : i - j * 32 = i % 32 := by omega
    rw [if_pos c, c1, c2]
    simp [List.getD, hj]
  · have c1 : i / 32 ≠ j := by
      intro c1
      apply c
      refine ⟨by omega, by omega, ?_⟩
      have := Nat.mul_le_mul_right 32 (show j + 1 ≤ ls.length by omega)
      omega
    rw [if_neg c, e2]
    simp [List.getD, Ne.symm c1]
theorem OwnS.store {w : World} {B g n c j : Nat} {ls : List (List UInt8)} {s : List UInt8} (h : OwnS w B (.slice (some ⟨g, 0, none⟩) n c) ls) (hj : j < n) (hs : s.length = 32) :
    OwnS (w.setCells g (j * 32) (cellsOf s)) B (.slice (some ⟨g, 0, none⟩) n c) (ls.set j s) ∧ But w.heap.size g w (w.setCells g (j * 32) (cellsOf s)) := by
  obtain ⟨a, c', e, _⟩ := h.shape
  have hn : ls.length = n := by cases e; rfl
  have h1 := h.1
  rw [hn] at h1
  obtain ⟨ys, r1, r2, r3, r4⟩ := setCells_own (cellsOf s) (j * 32) w _ h1
  have e : ys = seqCells (ls.set j s) := by
    apply List.ext_getElem?
    intro i
    rw [r4 i, seqCells_set h.2 (by omega) hs i, cellsOf_len, hs, seqCells_len h.2]
  rw [e] at r1
  refine ⟨⟨by rw [List.length_set, hn]; exact r1, fun t ht => ?_⟩, r3⟩
  rcases List.mem_or_eq_of_mem_set ht with ht | rfl
  · exact h.2 t ht
  · exact hs
theorem OwnS.there {w : World} {B g n c j : Nat} {ls : List (List UInt8)} (h : OwnS w B (.slice (some ⟨g, 0, none⟩) n c) ls) (hj : j < n) : w.there g (j * 32) 32 := by
  obtain ⟨a, c', e, _⟩ := h.shape
  have hn : ls.length = n := by cases e; rfl
  have h1 := h.1
  rw [hn] at h1
  intro i hi
  refine ⟨?_, h1.frozenAt _⟩
  have := Nat.mul_le_mul_right 32 (show j + 1 ≤ n by omega)
  rw [h1.cellAt _ (by omega), List.getElem?_eq_getElem (by rw [seqCells_len h.2, hn]; omega)]
  rfl

/-- What 'make([]api.Sum, n)' holds. -/
theorem made_cells (n : Nat) : (madeCells (cellsOf zero32).toArray (n * 32)).toList = seqCells (List.replicate n zero32) := by
  apply List.ext_getElem?
  intro i
  have hall : ∀ s ∈ List.replicate n zero32, s.length = 32 := fun s hs => by rw [(List.mem_replicate.1 hs).2]; rfl
  by_cases hi : i < n * 32
  · have e : i = i / 32 * 32 + i % 32 := by omega
    have e1 := seqCells_get hall (j := i / 32) (i := i % 32) (by omega)
    rw [← e] at e1
    rw [e1]
    have hd : i / 32 < n := by omega
    have hz : (cellsOf zero32).length = 32 := rfl
    have e2 : (List.replicate n zero32).getD (i / 32) [] = zero32 := by simp [List.getD, hd]
    rw [e2, madeCells, Array.toList_map, Array.toList_range, List.getElem?_map, List.getElem?_range hi]
    simp only [Option.map_some, List.size_toArray, hz]
    rw [List.getElem?_eq_getElem (by rw [hz]; omega)]
    rw [getElem!_pos _ _ (by simp [hz]; omega)]
    simp
  · rw [List.getElem?_eq_none (by simp [madeCells]; omega), List.getElem?_eq_none (by rw [seqCells_len hall, List.length_replicate]; omega)]
theorem sum_zero : (Tryd.prog.info? 24).map (fun i => (i.zero, i.size, i.bytes)) = some (some (.agg (cellsOf zero32).toArray), 32, 32) := by kernel_rfl
theorem made_own {w : World} {B : Nat} {n : Nat} {v : Value} (h : w.ownsRow B 24 32 v n (madeCells (Value.cells (.agg (cellsOf zero32).toArray)) (n * 32)).toList) : OwnS w B v (List.replicate n zero32) := by
  have hall : ∀ s ∈ List.replicate n zero32, s.length = 32 := fun s hs => by rw [(List.mem_replicate.1 hs).2]; rfl
  refine ⟨?_, hall⟩
  rw [List.length_replicate, ← made_cells]
  exact h

/-- A literal of so many sums. -/
theorem fill_sums (ls : List (List UInt8)) (h : ∀ s ∈ ls, s.length = 32) (init : Array Value) (hi : init.size = ls.length * 32) :
    Instr.fill (fun i => some (i * 32, 32)) init (((ls.map fun s => Value.agg (cellsOf s).toArray).zipIdx 0).map fun x => (x.2, x.1)) = some (seqCells ls).toArray := by
  obtain ⟨r, h1, h2, h3⟩ := Great.fill_dense (s := 32) (by omega) (ls.map fun s => Value.agg (cellsOf s).toArray) 0 init (fun v hv => by
    obtain ⟨s, hs, rfl⟩ := List.mem_map.1 hv
    show (cellsOf s).toArray.size = 32
    rw [List.size_toArray, cellsOf_len]
    exact h s hs) (by rw [List.length_map, hi]; omega)
  rw [h1]
  congr 1
  apply Array.ext_getElem?
  intro k
  rw [h3 k, List.length_map, show (seqCells ls).toArray[k]? = (seqCells ls)[k]? by simp]
  by_cases hk : k < ls.length * 32
  · rw [if_pos (by omega)]
    have e : k = k / 32 * 32 + k % 32 := by omega
    have e1 := seqCells_get h (j := k / 32) (i := k % 32) (by omega)
    rw [← e] at e1
    rw [e1]
    have hd : k / 32 < ls.length := by omega
    simp [List.getD, hd, Value.cells]
  · rw [if_neg (by omega), Array.getElem?_eq_none (by omega), List.getElem?_eq_none (by rw [seqCells_len h]; omega)]
theorem run_build1 (w : World) (s : List UInt8) (hs : s.length = 32) : (Instr.buildSlice 22 1 #[(0, .agg (cellsOf s).toArray)]).run Tryd.prog w = .ok (.slice (some ⟨w.heap.size, 0, none⟩) 1 1) (w.alloc (.cells (cellsOf s).toArray 24)) := by
  obtain ⟨ie, h1, h2, h3, _⟩ := info_parts sum_zero
  have hf := fill_sums [s] (by simp [hs]) ((Array.range (1 * 32)).map ((Value.cells (.agg (cellsOf zero32).toArray))[· % (Value.cells (.agg (cellsOf zero32).toArray)).size]!)) (by simp)
  rw [seqCells_single] at hf
  exact run_buildSlice w 22 24 1 _ _ ie _ Tryd.underlying22 h1 h2 (by rw [h3]; omega) (by rw [h3]; omega) (by rw [h3]; exact hf)
theorem run_build2 (w : World) (s t : List UInt8) (hs : s.length = 32) (ht : t.length = 32) : (Instr.buildSlice 22 2 #[(0, .agg (cellsOf s).toArray), (1, .agg (cellsOf t).toArray)]).run Tryd.prog w = .ok (.slice (some ⟨w.heap.size, 0, none⟩) 2 2) (w.alloc (.cells (seqCells [s, t]).toArray 24)) := by
  obtain ⟨ie, h1, h2, h3, _⟩ := info_parts sum_zero
  have hf := fill_sums [s, t] (by simp [hs, ht]) ((Array.range (2 * 32)).map ((Value.cells (.agg (cellsOf zero32).toArray))[· % (Value.cells (.agg (cellsOf zero32).toArray)).size]!)) (by simp)
  exact run_buildSlice w 22 24 2 _ _ ie _ Tryd.underlying22 h1 h2 (by rw [h3]; omega) (by rw [h3]; omega) (by rw [h3]; exact hf)
theorem own_lit {w : World} {B : Nat} (ls : List (List UInt8)) (h : ∀ s ∈ ls, s.length = 32) (hB : B ≤ w.heap.size) (n : Nat) (hn : ls.length = n) (h1 : n ≤ 1000) : OwnS (w.alloc (.cells (seqCells ls).toArray 24)) B (.slice (some ⟨w.heap.size, 0, none⟩) n n) ls := by
  subst hn
  exact ⟨World.ownsRow_lit w _ _ hB (by unfold maxLen; omega) (by rw [List.size_toArray, seqCells_len h]), h⟩
/-- A join of two slices of sums, the first of the call's own. -/
theorem append_sums (w : World) (B : Nat) (v : Value) (ls : List (List UInt8)) (h : OwnS w B v ls) (a : Option Addr) (m c : Nat) (q : List (List UInt8)) (hq : Sums w a m c q) (hb : ls.length + m ≤ 1000000) (hbase : B ≤ w.heap.size) :
    ∃ a' c' w', (Builtin.append_ #[22, 22] 22 #[v, .slice a m c]).run Tryd.prog w = .ok (.slice a' (ls.length + m) c') w' ∧ OwnS w' B (.slice a' (ls.length + m) c') (ls ++ q) ∧ w.grownBy w' v.ownBlock := by
  obtain ⟨ie, i1, i2, i3, i4⟩ := info_parts sum_zero
  have hql := hq.1
  have hall : ∀ s ∈ ls ++ q, s.length = 32 := fun s hs => by
    rcases List.mem_append.1 hs with hs | hs
    · exact h.2 s hs
    · exact hq.2.2.2.2.1 s hs
  have key : ∃ v' w', (Builtin.append_ #[22, 22] 22 #[v, .slice a m c]).run Tryd.prog w = .ok v' w' ∧ OwnS w' B v' (ls ++ q) ∧ w.grownBy w' v.ownBlock := by
    cases a with
    | some ad =>
      obtain ⟨v', w', h1, h2, h3, _⟩ := run_append_own (P := Tryd.prog) w B 22 22 24 ie _ 32 32 Tryd.underlying22 i1 i2 i3 i4 rfl (by decide) v ls.length (seqCells ls) h.1 ad m c (seqCells q) (by rw [seqCells_len hq.2.2.2.2.1, hql])
        (fun j u hj => by
          have hjm : j < m * 32 := by
            have := (List.getElem?_eq_some_iff.1 hj).1
            rw [seqCells_len hq.2.2.2.2.1, hql] at this
            exact this
          obtain ⟨b, off, he, _, hc⟩ := hq.2.2.2.2.2 (by omega)
          cases he
          have e1 : (⟨b, off, none⟩ : Addr).add j = ⟨b, off + j, none⟩ := by simp [Addr.add]
          have ej : j = j / 32 * 32 + j % 32 := by omega
          have e2 := seqCells_get hq.2.2.2.2.1 (j := j / 32) (i := j % 32) (by omega)
          rw [← ej] at e2
          rw [e2] at hj
          have := hc (j / 32) (by omega) (j % 32) u hj
          rw [e1, show off + j = off + j / 32 * 32 + j % 32 by omega]
          exact this)
        seqCells_one (by unfold maxLen; omega) (by omega) hbase
      exact ⟨v', w', h1, ⟨by rw [List.length_append, hql, seqCells_append]; exact h2, hall⟩, h3⟩
    | none =>
      have hc0 := hq.2.2.2.1 rfl
      have hm0 : m = 0 := by have := hq.2.1; omega
      subst hm0
      subst hc0
      obtain rfl : q = [] := List.eq_nil_of_length_eq_zero hql
      exact ⟨v, w, run_append_owned_none (P := Tryd.prog) w B 22 22 24 ie 32 Tryd.underlying22 i1 v ls.length (seqCells ls) h.1, by rw [List.append_nil]; exact h, World.grownBy.refl _ _⟩
  obtain ⟨v', w', h1, h2, h3⟩ := key
  obtain ⟨a', c', rfl, _⟩ := h2.shape
  have e : (ls ++ q).length = ls.length + m := by rw [List.length_append, hql]
  rw [e] at h1 h2
  exact ⟨a', c', w', h1, h2, h3⟩
theorem grown_but {w w' : World} {B : Nat} {a : Option Addr} {n c : Nat} {ls : List (List UInt8)} (h : OwnS w B (.slice a n c) ls) (hg : w.grownBy w' (Value.ownBlock (.slice a n c))) (hB : B ≤ w.heap.size) : Below B w w' :=
  ⟨hg.os, hg.tape, hg.output, hg.size, fun k hk => hg.block k (by omega) (fun e => by have := (h.lt k e.symm).1; omega)⟩
end Go.Proofs.YtmbfpopfabjodaaDoor
