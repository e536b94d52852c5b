/- Rows of whatever is joined in pairs: the document's rows, the halves, the path of a place and what a path leads to. No program is named. The sums that the example of chapter 3 speaks of. No program is named. A slice of sums (32 bytes each, in a row): what it reads as; how it is cut, made, stored into, joined to; a literal of one or two sums. No function of the program is named. What the small functions of package merkle come to: isPlace, beside, pairs, joined, Leaf; and the document's leaf. What 'joined' comes to: the pair of what stands at a place and what stands beside it. What 'lowest' comes to: the row of all leaves. Laws for operations on sums in a region that draws its order: cuts, comparisons, picks; literals. No function of the program is named. What 'above' comes to: the row above one. What 'Root' comes to: the sum of a list. What 'Check' comes to: whether a path leads to a root. What 'Path' comes to: what stands beside the way to a place. -/
import Derived.Test.YtcmdpmialehjgaaGreatDoorSha
import Derived.Test.YtcmdpmialehjgaaGreatDoorMemory
import Derived.OwnWalk
import Derived.Great.BuildSlice
import Derived.Outline
namespace Go.Proofs.YtcmdpmialehjgaaGreatDoor
section
variable {α : Type} (f : α → α → α)

/-- The row above. -/
def up : List α → List α
  | a :: b :: l => f a b :: up l
  | l => l
/-- The place beside. -/
def beside (i : Nat) : Nat := i + 1 - 2 * (i % 2)
/-- What stands beside the way, k rows up. -/
def way : Nat → Nat → List α → List α
  | 0, _, _ => []
  | k + 1, i, l => l[beside i]?.toList ++ way k (i / 2) (up f l)
/-- What a path leads to from a place of so many, at most d rows up: none, where it is too long or too short. -/
def ascend : Nat → α → Nat → Nat → List α → Option α
  | 0, now, _, _, p => if p.isEmpty then some now else none
  | d + 1, now, i, n, p =>
    if n ≤ 1 then (if p.isEmpty then some now else none)
    else if beside i < n then (match p with | [] => none | x :: q => ascend d (if i % 2 = 0 then f now x else f x now) (i / 2) ((n + 1) / 2) q)
    else ascend d now (i / 2) ((n + 1) / 2) p
end
end Go.Proofs.YtcmdpmialehjgaaGreatDoor
namespace Go.Proofs.YtcmdpmialehjgaaGreatDoor

/-- The sum of a sum's leaf, and of two sums' pair. -/
def leafSum (s : List UInt8) : List UInt8 := sumOf (partsOf 1 [s])
def pairSum (a b : List UInt8) : List UInt8 := sumOf (partsOf 2 [a, b])
theorem leafSum_len (s : List UInt8) : (leafSum s).length = 32 := sumOf_len _
theorem pairSum_len (a b : List UInt8) : (pairSum a b).length = 32 := sumOf_len _
end Go.Proofs.YtcmdpmialehjgaaGreatDoor
namespace Go.Proofs.YtcmdpmialehjgaaGreatDoor
open Go.RowKit

/-- A slice of sums that reads as 'ls'. -/
def Sums (w : World) (a : Option Addr) (n c : Nat) (ls : List (List UInt8)) : Prop :=
  ls.length = n ∧ n ≤ c ∧ c ≤ maxLen ∧ (a = none → c = 0) ∧ (∀ s ∈ ls, s.length = 32) ∧
  (0 < n → ∃ b off, a = some ⟨b, off, none⟩ ∧ b < w.heap.size ∧ ∀ j, j < n → w.rangeAt b (off + j * 32) (cellsOf (ls.getD j [])))
theorem Sums.below {w w' : World} {n c : Nat} {a : Option Addr} {ls : List (List UInt8)} (h : Sums w a n c ls) (hb : Below w.heap.size w w') : Sums w' a n c ls := by
  obtain ⟨h1, h2, h3, h4, h6, h5⟩ := h
  refine ⟨h1, h2, h3, h4, h6, fun h0 => ?_⟩
  obtain ⟨b, off, rfl, hlt, hc⟩ := h5 h0
  exact ⟨b, off, rfl, Nat.lt_of_lt_of_le hlt hb.size, fun j hj => rangeAt_below (hc j hj) hlt hb⟩
theorem Sums.but {w w' : World} {p n c : Nat} {a : Option Addr} {ls : List (List UInt8)} (h : Sums w a n c ls) (hb : But w.heap.size p w w') (hp : Off p a n) : Sums w' a n c ls := by
  obtain ⟨h1, h2, h3, h4, h6, h5⟩ := h
  refine ⟨h1, h2, h3, h4, h6, fun h0 => ?_⟩
  obtain ⟨b, off, rfl, hlt, hc⟩ := h5 h0
  exact ⟨b, off, rfl, Nat.lt_of_lt_of_le hlt hb.size, fun j hj => rangeAt_but (hc j hj) hlt (hp h0 b off rfl) hb⟩
theorem Sums.nil (w : World) : Sums w none 0 0 [] := ⟨rfl, Nat.le_refl _, Nat.zero_le _, fun _ => rfl, (fun _ h => by cases h), fun h => by omega⟩
theorem Sums.len {w : World} {n c : Nat} {a : Option Addr} {ls : List (List UInt8)} (h : Sums w a n c ls) : ls.length = n := h.1
theorem Sums.each {w : World} {n c j : Nat} {a : Option Addr} {ls : List (List UInt8)} (h : Sums w a n c ls) (hj : j < n) : (ls.getD j []).length = 32 := by
  have hj' : j < ls.length := by rw [h.1]; exact hj
  rw [List.getD_eq_getElem?_getD, List.getElem?_eq_getElem hj']
  exact h.2.2.2.2.1 _ (List.getElem_mem hj')
theorem Sums.drop {w : World} {n c k : Nat} {a a' : Option Addr} {ls : List (List UInt8)} (h : Sums w a n c ls) (hk : k ≤ n) (ha : a' = none → c = k) (ha' : k < n → ∀ b off, a = some ⟨b, off, none⟩ → a' = some ⟨b, off + k * 32, none⟩) : Sums w a' (n - k) (c - k) (ls.drop k) := by
  obtain ⟨h1, h2, h3, h4, h6, h5⟩ := h
  refine ⟨by simp [h1], by omega, by omega, (fun e => by have := ha e; omega), fun s hs => h6 s (List.mem_of_mem_drop hs), fun h0 => ?_⟩
  obtain ⟨b, off, rfl, hlt, hc⟩ := h5 (by omega)
  refine ⟨b, off + k * 32, ha' (by omega) b off rfl, hlt, fun j hj => ?_⟩
  have := hc (k + j) (by omega)
  rw [show off + k * 32 + j * 32 = off + (k + j) * 32 by rw [Nat.add_mul]; omega]
  have e : (ls.drop k).getD j [] = ls.getD (k + j) [] := by simp [List.getD]
  rw [e]
  exact this
theorem Sums.take {w : World} {n c k : Nat} {a : Option Addr} {ls : List (List UInt8)} (h : Sums w a n c ls) (hk : k ≤ n) : Sums w a k c (ls.take k) := by
  obtain ⟨h1, h2, h3, h4, h6, h5⟩ := h
  refine ⟨by simp [h1]; omega, by omega, h3, h4, fun s hs => h6 s (List.mem_of_mem_take hs), fun h0 => ?_⟩
  obtain ⟨b, off, rfl, hlt, hc⟩ := h5 (by omega)
  refine ⟨b, off, rfl, hlt, fun j hj => ?_⟩
  have e : (ls.take k).getD j [] = ls.getD j [] := by simp [List.getD, hj]
  rw [e]
  exact hc j (by omega)

/-- The cut 's[A:]'. -/
theorem run_cut_from {a : Option Addr} {n c A : Nat} (hA : A ≤ n) (W : World) : (Instr.sliceAt 114 (.slice a n c) (some (.int .i64 (A : Int))) none none).run Tryz.prog W = .ok (.slice (if c = A then a else a.map (·.add (A * 32))) (n - A) (c - A)) W := by
  have hu : Tryz.prog.underlying 114 = some (.slice (Tryz.prog.elem 114)) := by kernel_rfl
  have hs : (sizeOf (Tryz.prog.elem 114)).run Tryz.prog W = .ok 32 W := by kernel_rfl
  rw [run_sliceAt_slice W _ _ _ _ _ hu, run_slice_l W _ a n c hu .i64 (A : Int) (by omega) (by omega), hs]
  simp [Result.andThen, sliced]
theorem Sums.from {w : World} {a : Option Addr} {n c A : Nat} {ls : List (List UInt8)} (h : Sums w a n c ls) (hA : A ≤ n) : Sums w (if c = A then a else a.map (·.add (A * 32))) (n - A) (c - A) (ls.drop A) := by
  have hnc := h.2.1
  refine h.drop hA (fun e => ?_) (fun hlt b off e => ?_)
  · split at e
    · assumption
    · have : a = none := by cases a with
        | none => rfl
        | some x => cases e
      have := h.2.2.2.1 this
      omega
  · rw [if_neg (by omega), e]
    simp [Addr.add]
/-! ### Rows of the call's own -/
def seqCells (ls : List (List UInt8)) : List Value := ls.flatMap cellsOf
theorem seqCells_append (l m : List (List UInt8)) : seqCells (l ++ m) = seqCells l ++ seqCells m := by simp [seqCells]
theorem seqCells_len : ∀ {ls : List (List UInt8)}, (∀ s ∈ ls, s.length = 32) → (seqCells ls).length = ls.length * 32
  | [], _ => rfl
  | s :: ls, h => by
    have ih := seqCells_len (ls := ls) (fun t ht => h t (by simp [ht]))
    have hs := h s (by simp)
    show (cellsOf s ++ seqCells ls).length = _
    rw [List.length_append, ih, cellsOf_len, hs, List.length_cons, Nat.add_mul]
    omega
theorem seqCells_get : ∀ {ls : List (List UInt8)}, (∀ s ∈ ls, s.length = 32) → ∀ {j i : Nat}, i < 32 → (seqCells ls)[j * 32 + i]? = (cellsOf (ls.getD j []))[i]?
  | [], _, j, i, hi => by simp [seqCells, cellsOf]
  | s :: ls, h, 0, i, hi => by
    have hs := h s (by simp)
    show (cellsOf s ++ seqCells ls)[0 * 32 + i]? = (cellsOf s)[i]?
    rw [Nat.zero_mul, Nat.zero_add, List.getElem?_append_left (by rw [cellsOf_len, hs]; exact hi)]
  | s :: ls, h, j + 1, i, hi => by
    have ih := seqCells_get (ls := ls) (fun t ht => h t (by simp [ht])) (j := j) hi
    have hs := h s (by simp)
    show (cellsOf s ++ seqCells ls)[(j + 1) * 32 + i]? = (cellsOf (ls.getD j []))[i]?
    rw [List.getElem?_append_right (by rw [cellsOf_len, hs]; omega), cellsOf_len, hs, ← ih]
    congr 1
    omega
theorem seqCells_one {ls : List (List UInt8)} : ∀ v ∈ seqCells ls, v.oneCell' = true := by
  intro v hv
  obtain ⟨s, _, hs⟩ := List.mem_flatMap.1 hv
  exact cellsOf_one s v hs
theorem seqCells_single (s : List UInt8) : seqCells [s] = cellsOf s := by simp [seqCells]
/-- A slice of sums of the call's own. -/
def OwnS (w : World) (B : Nat) (v : Value) (ls : List (List UInt8)) : Prop := w.ownsRow B 23 32 v ls.length (seqCells ls) ∧ ∀ s ∈ ls, s.length = 32
theorem OwnS.shape {w : World} {B : Nat} {v : Value} {ls : List (List UInt8)} (h : OwnS w B v ls) : ∃ a c, v = .slice a ls.length c ∧ (∀ x, a = some x → B ≤ x.block) := by
  rcases h.1.2 with ⟨rfl, h0⟩ | ⟨g, cap, cur, rfl, hB, _⟩
  · exact ⟨none, 0, by rw [h0], fun x e => by cases e⟩
  · exact ⟨_, _, rfl, fun x e => by cases e; exact hB⟩
theorem OwnS.sums {w : World} {B : Nat} {a : Option Addr} {n c : Nat} {ls : List (List UInt8)} (h : OwnS w B (.slice a n c) ls) : Sums w a n c ls := by
  rcases h.1.2 with ⟨hv, h0⟩ | ⟨g, cap, cur, hv, hB, hh, h1, h2, h3, h4⟩
  · cases hv
    obtain rfl : ls = [] := List.eq_nil_of_length_eq_zero h0
    exact Sums.nil w
  · cases hv
    refine ⟨rfl, h1, h2, (fun e => by cases e), h.2, fun _ => ⟨g, 0, rfl, lt_of_block hh, fun j hj i v hv => ?_⟩⟩
    have hi : i < 32 := by
      have h5 := (List.getElem?_eq_some_iff.1 hv).1
      rw [cellsOf_len] at h5
      have h6 : (ls.getD j []).length = 32 := by
        rw [List.getD_eq_getElem?_getD, List.getElem?_eq_getElem hj]
        exact h.2 _ (List.getElem_mem hj)
      omega
    rw [Nat.zero_add, cell_of_row w g _ _ _ _ hh, ← hv, ← seqCells_get h.2 hi, ← h4, List.getElem?_take, if_pos (by omega)]
    simp
theorem OwnS.below {w w' : World} {B : Nat} {v : Value} {ls : List (List UInt8)} (h : OwnS w B v ls) (hb : Below w.heap.size w w') : OwnS w' B v ls :=
  ⟨World.ownsRow.kept h.1 (row := none) ⟨hb.os, hb.tape, hb.output, hb.size, fun k hk _ => hb.block k hk⟩ (by cases h' : v.ownBlock <;> simp), h.2⟩
theorem OwnS.lt {w : World} {B : Nat} {v : Value} {ls : List (List UInt8)} (h : OwnS w B v ls) : ∀ k, v.ownBlock = some k → B ≤ k ∧ k < w.heap.size := fun k e => World.ownsRow.lt h.1 k e
theorem OwnS.nil (w : World) (B : Nat) : OwnS w B (.slice none 0 0) [] := ⟨World.ownsRow_nil w B _ _, fun _ h => by cases h⟩
theorem sum_zero : (Tryz.prog.info? 23).map (fun i => (i.zero, i.size, i.bytes)) = some (some (.agg (cellsOf zero32).toArray), 32, 32) := by kernel_rfl
/-- A literal of so many sums. -/
theorem fill_sums (ls : List (List UInt8)) (h : ∀ s ∈ ls, s.length = 32) (init : Array Value) (hi : init.size = ls.length * 32) :
    Instr.fill (fun i => some (i * 32, 32)) init (((ls.map fun s => Value.agg (cellsOf s).toArray).zipIdx 0).map fun x => (x.2, x.1)) = some (seqCells ls).toArray := by
  obtain ⟨r, h1, h2, h3⟩ := Great.fill_dense (s := 32) (by omega) (ls.map fun s => Value.agg (cellsOf s).toArray) 0 init (fun v hv => by
    obtain ⟨s, hs, rfl⟩ := List.mem_map.1 hv
    show (cellsOf s).toArray.size = 32
    rw [List.size_toArray, cellsOf_len]
    exact h s hs) (by rw [List.length_map, hi]; omega)
  rw [h1]
  congr 1
  apply Array.ext_getElem?
  intro k
  rw [h3 k, List.length_map, show (seqCells ls).toArray[k]? = (seqCells ls)[k]? by simp]
  by_cases hk : k < ls.length * 32
  · rw [if_pos (by omega)]
    have e : k = k / 32 * 32 + k % 32 := by omega
    have e1 := seqCells_get h (j := k / 32) (i := k % 32) (by omega)
    rw [← e] at e1
    rw [e1]
    have hd : k / 32 < ls.length := by omega
    simp [List.getD, hd, Value.cells]
  · rw [if_neg (by omega), Array.getElem?_eq_none (by omega), List.getElem?_eq_none (by rw [seqCells_len h]; omega)]
theorem run_build1 (w : World) (s : List UInt8) (hs : s.length = 32) : (Instr.buildSlice 114 1 #[(0, .agg (cellsOf s).toArray)]).run Tryz.prog w = .ok (.slice (some ⟨w.heap.size, 0, none⟩) 1 1) (w.alloc (.cells (cellsOf s).toArray 23)) := by
  obtain ⟨ie, h1, h2, h3, _⟩ := info_parts sum_zero
  have hf := fill_sums [s] (by simp [hs]) ((Array.range (1 * 32)).map ((Value.cells (.agg (cellsOf zero32).toArray))[· % (Value.cells (.agg (cellsOf zero32).toArray)).size]!)) (by simp)
  rw [seqCells_single] at hf
  exact run_buildSlice w 114 23 1 _ _ ie _ Tryz.underlying114 h1 h2 (by rw [h3]; omega) (by rw [h3]; omega) (by rw [h3]; exact hf)
theorem own_lit {w : World} {B : Nat} (ls : List (List UInt8)) (h : ∀ s ∈ ls, s.length = 32) (hB : B ≤ w.heap.size) (n : Nat) (hn : ls.length = n) (h1 : n ≤ 1000) : OwnS (w.alloc (.cells (seqCells ls).toArray 23)) B (.slice (some ⟨w.heap.size, 0, none⟩) n n) ls := by
  subst hn
  exact ⟨World.ownsRow_lit w _ _ hB (by unfold maxLen; omega) (by rw [List.size_toArray, seqCells_len h]), h⟩
/-- A join of two slices of sums, the first of the call's own. -/
theorem append_sums (w : World) (B : Nat) (v : Value) (ls : List (List UInt8)) (h : OwnS w B v ls) (a : Option Addr) (m c : Nat) (q : List (List UInt8)) (hq : Sums w a m c q) (hb : ls.length + m ≤ 1000000) (hbase : B ≤ w.heap.size) :
    ∃ a' c' w', (Builtin.append_ #[114, 114] 114 #[v, .slice a m c]).run Tryz.prog w = .ok (.slice a' (ls.length + m) c') w' ∧ OwnS w' B (.slice a' (ls.length + m) c') (ls ++ q) ∧ w.grownBy w' v.ownBlock := by
  obtain ⟨ie, i1, i2, i3, i4⟩ := info_parts sum_zero
  have hql := hq.1
  have hall : ∀ s ∈ ls ++ q, s.length = 32 := fun s hs => by
    rcases List.mem_append.1 hs with hs | hs
    · exact h.2 s hs
    · exact hq.2.2.2.2.1 s hs
  have key : ∃ v' w', (Builtin.append_ #[114, 114] 114 #[v, .slice a m c]).run Tryz.prog w = .ok v' w' ∧ OwnS w' B v' (ls ++ q) ∧ w.grownBy w' v.ownBlock := by
    cases a with
    | some ad =>
      obtain ⟨v', w', h1, h2, h3, _⟩ := run_append_own (P := Tryz.prog) w B 114 114 23 ie _ 32 32 Tryz.underlying114 i1 i2 i3 i4 rfl (by decide) v ls.length (seqCells ls) h.1 ad m c (seqCells q) (by rw [seqCells_len hq.2.2.2.2.1, hql])
        (fun j u hj => by
          have hjm : j < m * 32 := by
            have := (List.getElem?_eq_some_iff.1 hj).1
            rw [seqCells_len hq.2.2.2.2.1, hql] at this
            exact this
          obtain ⟨b, off, he, _, hc⟩ := hq.2.2.2.2.2 (by omega)
          cases he
          have e1 : (⟨b, off, none⟩ : Addr).add j = ⟨b, off + j, none⟩ := by simp [Addr.add]
          have ej : j = j / 32 * 32 + j % 32 := by omega
          have e2 := seqCells_get hq.2.2.2.2.1 (j := j / 32) (i := j % 32) (by omega)
          rw [← ej] at e2
          rw [e2] at hj
          have := hc (j / 32) (by omega) (j % 32) u hj
          rw [e1, show off + j = off + j / 32 * 32 + j % 32 by omega]
          exact this)
        seqCells_one (by unfold maxLen; omega) (by omega) hbase
      exact ⟨v', w', h1, ⟨by rw [List.length_append, hql, seqCells_append]; exact h2, hall⟩, h3⟩
    | none =>
      have hc0 := hq.2.2.2.1 rfl
      have hm0 : m = 0 := by have := hq.2.1; omega
      subst hm0
      subst hc0
      obtain rfl : q = [] := List.eq_nil_of_length_eq_zero hql
      exact ⟨v, w, run_append_owned_none (P := Tryz.prog) w B 114 114 23 ie 32 Tryz.underlying114 i1 v ls.length (seqCells ls) h.1, by rw [List.append_nil]; exact h, World.grownBy.refl _ _⟩
  obtain ⟨v', w', h1, h2, h3⟩ := key
  obtain ⟨a', c', rfl, _⟩ := h2.shape
  have e : (ls ++ q).length = ls.length + m := by rw [List.length_append, hql]
  rw [e] at h1 h2
  exact ⟨a', c', w', h1, h2, h3⟩
theorem grown_but {w w' : World} {B : Nat} {a : Option Addr} {n c : Nat} {ls : List (List UInt8)} (h : OwnS w B (.slice a n c) ls) (hg : w.grownBy w' (Value.ownBlock (.slice a n c))) (hB : B ≤ w.heap.size) : Below B w w' :=
  ⟨hg.os, hg.tape, hg.output, hg.size, fun k hk => hg.block k (by omega) (fun e => by have := (h.lt k e.symm).1; omega)⟩
end Go.Proofs.YtcmdpmialehjgaaGreatDoor
namespace Go.Proofs.YtcmdpmialehjgaaGreatDoor
open Go.RowKit

theorem xor_one (n : Nat) : n ^^^ 1 = beside n := by
  have h1 : (n ^^^ 1) / 2 = n / 2 := by
    have := Nat.xor_div_two (a := n) (b := 1)
    simpa using this
  have h2 : (n ^^^ 1) % 2 = (n + 1) % 2 := by
    have := Nat.xor_mod_two_pow (a := n) (b := 1) (n := 1)
    rw [Nat.pow_one] at this
    rw [this]
    rcases Nat.mod_two_eq_zero_or_one n with h | h <;> rw [h] <;> simp <;> omega
  unfold beside
  omega
theorem bits_beside (n : Nat) (h : n < 4611686018427387904) : bits .xor .i64 (n : Int) 1 = ((beside n : Nat) : Int) := by
  have hb : beside n < 4611686018427387906 := by unfold beside; omega
  have e0 : (BitVec.ofInt 64 (n : Int) ^^^ BitVec.ofInt 64 1).toNat = beside n := by
    rw [BitVec.toNat_xor, show BitVec.ofInt 64 (n : Int) = BitVec.ofNat 64 n from BitVec.ofInt_natCast .., BitVec.toNat_ofNat, Nat.mod_eq_of_lt (by omega), ← xor_one]
    rfl
  show IntKind.i64.wrap ((BitVec.ofInt 64 (n : Int) ^^^ BitVec.ofInt 64 1).toNat : Int) = _
  rw [e0, IntKind.wrap_i64]
  omega
theorem beside_any (n : Nat) (h : n < 4611686018427387904) (w : World) : Calls Tryz.prog 88 #[.int .i64 (n : Int)] w fun e w' => e = .returned (.int .i64 ((beside n : Nat) : Int)) ∧ w = w' := by
  have e0 := bits_beside n h
  clear h
  go_enter Tryz.func88, Tryz.ntmps88
  go_wp2
  go_ret
  exact ⟨rfl, rfl⟩
theorem pairs_any (n : Nat) (h : n < 4611686018427387904) (w : World) : Calls Tryz.prog 87 #[.int .i64 (n : Int)] w fun e w' => e = .returned (.int .i64 (((n + 1) / 2 : Nat) : Int)) ∧ w = w' := by
  have h0 : (0 : Int) ≤ (n : Int) := by omega
  have h1 : (n : Int) < 4611686018427387904 := by omega
  have e1 : (n : Int) - (n : Int) / 2 = (((n + 1) / 2 : Nat) : Int) := by omega
  have E1 := Lib.hid e1
  clear e1 h
  go_enter Tryz.func87, Tryz.ntmps87
  go_wp2
  go_ret
  exact ⟨by rw [E1.out]; rfl, rfl⟩
theorem isPlace_yes (i n : Nat) (h : i < n) (w : World) : Calls Tryz.prog 85 #[.int .i64 (i : Int), .int .i64 (n : Int)] w fun e w' => e = .returned (.bool true) ∧ w = w' := by
  have h0 : (0 : Int) ≤ (i : Int) := by omega
  have h1 : (i : Int) < (n : Int) := by omega
  go_enter Tryz.func85, Tryz.ntmps85
  go_wp2
  go_ret
  exact ⟨rfl, rfl⟩
theorem isPlace_no (i n : Int) (h : i < 0 ∨ n ≤ i) (w : World) : Calls Tryz.prog 85 #[.int .i64 i, .int .i64 n] w fun e w' => e = .returned (.bool false) ∧ w = w' := by
  by_cases h0 : i < 0
  · clear h
    go_enter Tryz.func85, Tryz.ntmps85
    go_wp2
    go_ret
    exact ⟨rfl, rfl⟩
  · have h1 : 0 ≤ i := by omega
    have h2 : ¬ (i < n) := by omega
    clear h h0
    go_enter Tryz.func85, Tryz.ntmps85
    go_wp2
    go_ret
    exact ⟨rfl, rfl⟩

set_option maxRecDepth 100000 in
set_option maxHeartbeats 1600000 in
theorem leaf_of {w : World} {s : List UInt8} (hs : s.length = 32) (hk : KsAt w) : Calls Tryz.prog 86 #[.agg (cellsOf s).toArray] w fun e w' => e = .returned (.agg (cellsOf (leafSum s)).toArray) ∧ Below w.heap.size w w' := by
  have HK := Lib.hid hk
  have HS := Lib.hid hs
  clear hk hs
  go_enter Tryz.func86, Tryz.ntmps86
  go_wp2_with fail
  rw [← zero32_is]
  have b1 : Below w.heap.size w ((w.alloc (.cells (cellsOf s).toArray 23)).alloc (.cells (cellsOf zero32).toArray 23)) := ((Below.refl _ _).alloc (Nat.le_refl _) _).alloc (by simp) _
  have h1 : ((w.alloc (.cells (cellsOf s).toArray 23)).alloc (.cells (cellsOf zero32).toArray 23)).heap[w.heap.size]? = some (.cells (cellsOf s).toArray 23 (0, 0)) := by
    rw [heap_alloc_old _ _ (by simp), heap_alloc_new]
  have h2 : ((w.alloc (.cells (cellsOf s).toArray 23)).alloc (.cells (cellsOf zero32).toArray 23)).heap[w.heap.size + 1]? = some (.cells (cellsOf zero32).toArray 23 (0, 0)) := heap_alloc_at _ _ _ (by simp)
  have h3 : ((w.alloc (.cells (cellsOf s).toArray 23)).alloc (.cells (cellsOf zero32).toArray 23)).heap.size = w.heap.size + 1 + 1 := by simp
  revert b1 h1 h2 h3
  generalize ((w.alloc (.cells (cellsOf s).toArray 23)).alloc (.cells (cellsOf zero32).toArray 23)) = w3
  obtain ⟨g, hg⟩ : ∃ g, g = w.heap.size := ⟨_, rfl⟩
  rw [← hg]
  intro b1 h1 h2 h3
  rw [hg] at b1
  have HG := Lib.hid hg
  have HB1 := Lib.hid b1
  have H1 := Lib.hid h1
  have H2 := Lib.hid h2
  have H3 := Lib.hid h3
  clear b1 h1 h2 h3 hg
  have b4 : Below w3.heap.size w3 (w3.alloc (.cells #[.slice (some ⟨g, 0, none⟩) 32 32] 26)) := (Below.refl _ _).alloc (Nat.le_refl _) _
  have r1 : Row (w3.alloc (.cells #[.slice (some ⟨g, 0, none⟩) 32 32] 26)) (some ⟨g, 0, none⟩) 32 32 s := row_all ((b4.block _ (lt_of_block H1.out)).trans H1.out) 32 HS.out.symm (by omega)
  have hlen : (partsOf 1 [s]).length ≤ 1125899906842624 := by
    unfold partsOf partOf
    simp only [List.flatMap_cons, List.flatMap_nil, List.length_cons, List.length_append, four_len, List.length_nil, HS.out]
    omega
  refine (join_any 1 1 rfl (rows2_one (heap_alloc_at _ _ _ H3.out) r1) ((HK.out.below HB1.out).below b4) hlen).mono ?_
  rintro e w5 ⟨rfl, hb5⟩
  have hb6 := b4.trans (hb5.mono b4.size)
  have HB6 := Lib.hid hb6
  have HT1 := Lib.hid ((hb6.block _ (lt_of_block H2.out)).trans H2.out)
  clear b4 r1 hlen hb5 hb6
  go_wp2_with (refine wpList_store_row rfl 23 _ _ rfl (g + 1) (cellsOf (sumOf (partsOf 1 [s]))).toArray rfl rfl 23 (cellsOf zero32).toArray HT1.out (sum_size' _) (by rw [sum_size]; rfl) (sum_all _) ?_)
  refine bodyPost_ret (results_cell_row rfl _ _ (g + 1) 23 (cellsOf (sumOf (partsOf 1 [s]))).toArray (0, 0) _ rfl (setRow_heap w5 (g + 1) _ _ 23 _ HT1.out) Tryz.underlying23 rfl (sum_size' _)) rfl ⟨rfl, ?_⟩
  have b7 : Below w.heap.size w w5 := HB1.out.trans (HB6.out.mono HB1.out.size)
  exact b7.trans (((but_setRow _ (g + 1) _).mono b7.size).below (by rw [HG.out]; omega))
end Go.Proofs.YtcmdpmialehjgaaGreatDoor
namespace Go.Proofs.YtcmdpmialehjgaaGreatDoor
open Go.RowKit

/-- The pair of a place's and its neighbour's, in order. -/
def joinOf (i : Nat) (s t : List UInt8) : List UInt8 := if i % 2 = 0 then pairSum s t else pairSum t s
theorem joinOf_len (i : Nat) (s t : List UInt8) : (joinOf i s t).length = 32 := by
  unfold joinOf
  split <;> exact pairSum_len _ _
set_option maxRecDepth 100000 in
set_option maxHeartbeats 1600000 in
theorem joined_any {w : World} {s t : List UInt8} (i : Nat) (hi : i < 4611686018427387904) (hs : s.length = 32) (ht : t.length = 32) (hk : KsAt w) :
    Calls Tryz.prog 89 #[.agg (cellsOf s).toArray, .agg (cellsOf t).toArray, .int .i64 (i : Int)] w fun e w' => e = .returned (.agg (cellsOf (joinOf i s t)).toArray) ∧ Below w.heap.size w w' := by
  have HK := Lib.hid hk
  have HS := Lib.hid hs
  have HT := Lib.hid ht
  have i0 : (0 : Int) ≤ (i : Int) := by omega
  have i1 : (i : Int) < 4611686018427387904 := by omega
  obtain ⟨r, hr, hrl, hpair⟩ : ∃ r, joinOf i s t = r ∧ r.length = 32 ∧ ∀ W : World, KsAt W → (i % 2 = 0 → Calls Tryz.prog 112 #[.int .u8 (2 : Int), .agg (cellsOf s).toArray, .agg (cellsOf t).toArray] W fun e w' => e = .returned (.agg (cellsOf r).toArray) ∧ Below W.heap.size W w') ∧ (¬ i % 2 = 0 → Calls Tryz.prog 112 #[.int .u8 (2 : Int), .agg (cellsOf t).toArray, .agg (cellsOf s).toArray] W fun e w' => e = .returned (.agg (cellsOf r).toArray) ∧ Below W.heap.size W w') :=
    ⟨_, rfl, joinOf_len _ _ _, fun W hW => ⟨fun h => by unfold joinOf; rw [if_pos h]; exact pair_any 2 2 rfl hs ht hW, fun h => by unfold joinOf; rw [if_neg h]; exact pair_any 2 2 rfl ht hs hW⟩⟩
  rw [hr]
  have HR := Lib.hid hrl
  have HP := Lib.hid hpair
  have szs : (Tryz.prog.info? 23).map (·.size) = some (cellsOf s).toArray.size := by rw [List.size_toArray, cellsOf_len, hs]; exact Tryz.size23
  have szt : (Tryz.prog.info? 23).map (·.size) = some (cellsOf t).toArray.size := by rw [List.size_toArray, cellsOf_len, ht]; exact Tryz.size23
  have szr : (Tryz.prog.info? 23).map (·.size) = some (cellsOf r).toArray.size := by rw [List.size_toArray, cellsOf_len, hrl]; exact Tryz.size23
  have SZS := Lib.hid szs
  have SZT := Lib.hid szt
  have SZR := Lib.hid szr
  have hz : (cellsOf zero32).toArray.size = (cellsOf r).toArray.size := by rw [List.size_toArray, List.size_toArray, cellsOf_len, cellsOf_len, hrl]; rfl
  have HZ := Lib.hid hz
  have hall : (cellsOf r).toArray.all (·.oneCell') = true := all_oneCell_toArray (cellsOf_one r)
  have HALL := Lib.hid hall
  clear hk hs ht hr hrl hpair szs szt szr hz hall hi
  by_cases hev : i % 2 = 0
  · have e2 : (i : Int) % 2 = 0 := by omega
    have HEV := Lib.hid hev
    clear hev
    go_enter Tryz.func89, Tryz.ntmps89
    go_upto_region 1 with (fail)
    rw [← zero32_is]
    have b1 : Below w.heap.size w (((w.alloc (.cells (cellsOf s).toArray 23)).alloc (.cells (cellsOf t).toArray 23)).alloc (.cells (cellsOf zero32).toArray 23)) := (((Below.refl _ _).alloc (Nat.le_refl _) _).alloc (by simp) _).alloc (by simp; omega) _
    have h1 : (((w.alloc (.cells (cellsOf s).toArray 23)).alloc (.cells (cellsOf t).toArray 23)).alloc (.cells (cellsOf zero32).toArray 23)).heap[w.heap.size]? = some (.cells (cellsOf s).toArray 23 (0, 0)) := by
      rw [heap_alloc_old _ _ (by simp; omega), heap_alloc_old _ _ (by simp), heap_alloc_new]
    have h2 : (((w.alloc (.cells (cellsOf s).toArray 23)).alloc (.cells (cellsOf t).toArray 23)).alloc (.cells (cellsOf zero32).toArray 23)).heap[w.heap.size + 1]? = some (.cells (cellsOf t).toArray 23 (0, 0)) := by
      rw [heap_alloc_old _ _ (by simp)]
      exact heap_alloc_at _ _ _ (by simp)
    have h3 : (((w.alloc (.cells (cellsOf s).toArray 23)).alloc (.cells (cellsOf t).toArray 23)).alloc (.cells (cellsOf zero32).toArray 23)).heap[w.heap.size + 1 + 1]? = some (.cells (cellsOf zero32).toArray 23 (0, 0)) := heap_alloc_at _ _ _ (by simp)
    revert b1 h1 h2 h3
    generalize (((w.alloc (.cells (cellsOf s).toArray 23)).alloc (.cells (cellsOf t).toArray 23)).alloc (.cells (cellsOf zero32).toArray 23)) = w3
    obtain ⟨g, hg⟩ : ∃ g, g = w.heap.size := ⟨_, rfl⟩
    rw [← hg]
    intro b1 h1 h2 h3
    rw [hg] at b1
    have HG := Lib.hid hg
    have HB1 := Lib.hid b1
    have H1 := Lib.hid h1
    have H2 := Lib.hid h2
    have H3 := Lib.hid h3
    clear b1 h1 h2 h3 hg
    go_wp2_with (first | (refine wpList_load_row rfl 23 _ rfl g rfl 23 (cellsOf s).toArray (0, 0) _ H1.out Tryz.underlying23 rfl SZS.out ?_) | (refine wpList_load_row rfl 23 _ rfl (g + 1) rfl 23 (cellsOf t).toArray (0, 0) _ H2.out Tryz.underlying23 rfl SZT.out ?_) | fail)
    refine ((HP.out _ (HK.out.below HB1.out)).1 HEV.out).mono ?_
    rintro e w5 ⟨rfl, hb5⟩
    have HB5 := Lib.hid hb5
    have HT3 := Lib.hid ((hb5.block _ (lt_of_block H3.out)).trans H3.out)
    clear hb5
    go_wp2_with (refine wpList_store_row rfl 23 _ _ rfl (g + 1 + 1) (cellsOf r).toArray rfl rfl 23 (cellsOf zero32).toArray HT3.out SZR.out HZ.out HALL.out ?_)
    refine bodyPost_ret (results_cell_row rfl _ _ (g + 1 + 1) 23 (cellsOf r).toArray (0, 0) _ rfl (setRow_heap w5 (g + 1 + 1) _ _ 23 _ HT3.out) Tryz.underlying23 rfl SZR.out) rfl ⟨rfl, ?_⟩
    have b7 : Below w.heap.size w w5 := HB1.out.trans (HB5.out.mono HB1.out.size)
    exact b7.trans (((but_setRow _ (g + 1 + 1) _).mono b7.size).below (by rw [HG.out]; omega))
  · have e2 : (i : Int) % 2 = 1 := by omega
    have HEV := Lib.hid hev
    clear hev
    go_enter Tryz.func89, Tryz.ntmps89
    go_upto_region 1 with (fail)
    rw [← zero32_is]
    have b1 : Below w.heap.size w (((w.alloc (.cells (cellsOf s).toArray 23)).alloc (.cells (cellsOf t).toArray 23)).alloc (.cells (cellsOf zero32).toArray 23)) := (((Below.refl _ _).alloc (Nat.le_refl _) _).alloc (by simp) _).alloc (by simp; omega) _
    have h1 : (((w.alloc (.cells (cellsOf s).toArray 23)).alloc (.cells (cellsOf t).toArray 23)).alloc (.cells (cellsOf zero32).toArray 23)).heap[w.heap.size]? = some (.cells (cellsOf s).toArray 23 (0, 0)) := by
      rw [heap_alloc_old _ _ (by simp; omega), heap_alloc_old _ _ (by simp), heap_alloc_new]
    have h2 : (((w.alloc (.cells (cellsOf s).toArray 23)).alloc (.cells (cellsOf t).toArray 23)).alloc (.cells (cellsOf zero32).toArray 23)).heap[w.heap.size + 1]? = some (.cells (cellsOf t).toArray 23 (0, 0)) := by
      rw [heap_alloc_old _ _ (by simp)]
      exact heap_alloc_at _ _ _ (by simp)
    have h3 : (((w.alloc (.cells (cellsOf s).toArray 23)).alloc (.cells (cellsOf t).toArray 23)).alloc (.cells (cellsOf zero32).toArray 23)).heap[w.heap.size + 1 + 1]? = some (.cells (cellsOf zero32).toArray 23 (0, 0)) := heap_alloc_at _ _ _ (by simp)
    revert b1 h1 h2 h3
    generalize (((w.alloc (.cells (cellsOf s).toArray 23)).alloc (.cells (cellsOf t).toArray 23)).alloc (.cells (cellsOf zero32).toArray 23)) = w3
    obtain ⟨g, hg⟩ : ∃ g, g = w.heap.size := ⟨_, rfl⟩
    rw [← hg]
    intro b1 h1 h2 h3
    rw [hg] at b1
    have HG := Lib.hid hg
    have HB1 := Lib.hid b1
    have H1 := Lib.hid h1
    have H2 := Lib.hid h2
    have H3 := Lib.hid h3
    clear b1 h1 h2 h3 hg
    go_wp2_with (first | (refine wpList_load_row rfl 23 _ rfl g rfl 23 (cellsOf s).toArray (0, 0) _ H1.out Tryz.underlying23 rfl SZS.out ?_) | (refine wpList_load_row rfl 23 _ rfl (g + 1) rfl 23 (cellsOf t).toArray (0, 0) _ H2.out Tryz.underlying23 rfl SZT.out ?_) | fail)
    refine ((HP.out _ (HK.out.below HB1.out)).2 HEV.out).mono ?_
    rintro e w5 ⟨rfl, hb5⟩
    have HB5 := Lib.hid hb5
    have HT3 := Lib.hid ((hb5.block _ (lt_of_block H3.out)).trans H3.out)
    clear hb5
    go_wp2_with (refine wpList_store_row rfl 23 _ _ rfl (g + 1 + 1) (cellsOf r).toArray rfl rfl 23 (cellsOf zero32).toArray HT3.out SZR.out HZ.out HALL.out ?_)
    refine bodyPost_ret (results_cell_row rfl _ _ (g + 1 + 1) 23 (cellsOf r).toArray (0, 0) _ rfl (setRow_heap w5 (g + 1 + 1) _ _ 23 _ HT3.out) Tryz.underlying23 rfl SZR.out) rfl ⟨rfl, ?_⟩
    have b7 : Below w.heap.size w w5 := HB1.out.trans (HB5.out.mono HB1.out.size)
    exact b7.trans (((but_setRow _ (g + 1 + 1) _).mono b7.size).below (by rw [HG.out]; omega))
end Go.Proofs.YtcmdpmialehjgaaGreatDoor
namespace Go.Proofs.YtcmdpmialehjgaaGreatDoor
open Go.RowKit

/-- A row under way: j of n are there. -/
structure Filled (w0 : World) (g n j : Nat) (xs : List (List UInt8)) (w : World) : Prop where
  own : OwnS w w0.heap.size (.slice (some ⟨g, 0, none⟩) n n) (xs.take j ++ List.replicate (n - j) zero32)
  below : Below w0.heap.size w0 w
theorem Filled.lt {w0 w : World} {g n j : Nat} {xs : List (List UInt8)} (h : Filled w0 g n j xs w) : w0.heap.size ≤ g ∧ g < w.heap.size := h.own.lt g rfl
end Go.Proofs.YtcmdpmialehjgaaGreatDoor
namespace Go.Proofs.YtcmdpmialehjgaaGreatDoor
open Go.RowKit

section
variable {ops : Array Oper} {S : World → Prop} {op : Oper} {a : Act}
theorem yields_from {x : Operand} {lo : Operand} {ad : Option Addr} {n c A : Nat} (hw : Region.wanted op (yielded ops a.tmps) = true) (ho : op.op = .slice 114 x (some lo) none none) (hx : a.eval x = .slice ad n c) (hlo : a.eval lo = .int .i64 (A : Int)) (hA : A ≤ n) :
    YieldsIf Tryz.prog ops S op (.slice (if c = A then ad else ad.map (·.add (A * 32))) (n - A) (c - A)) a :=
  .inl ⟨hw, fun w _ => by
    have h := run_cut_from (a := ad) (n := n) (c := c) hA w
    unfold execOp
    simp only [ho, hx, hlo, Option.map_some, Option.map_none, Sem.run_bind, h, Result.andThen_ok, Sem.run_pure]⟩
end
/-- A literal of one sum, of two, in a region. -/
theorem step_build1 {ops : Array Oper} {o : Oper} {a : Act} {w : World} {K : Act → World → Prop} {Q : Exit → Act → World → Prop} {E : Prop} {s : List UInt8} (x : Operand) (hw : Region.wanted o (yielded ops a.tmps) = true)
    (ho : o.op = .buildSlice 114 1 #[(0, x)]) (hx : a.eval x = .agg (cellsOf s).toArray) (hs : s.length = 32)
    (h : K (a.put o.dst (.slice (some ⟨w.heap.size, 0, none⟩) 1 1)) (w.alloc (.cells (cellsOf s).toArray 23))) :
    if Region.wanted o (yielded ops a.tmps) = true then Oper.wp Tryz.prog o a w K Q else E := by
  rw [if_pos hw]
  have hb := run_build1 w s hs
  unfold Oper.wp execOp
  simp only [ho, List.map_toArray, List.map_cons, List.map_nil, hx, Sem.run_bind, Sem.run_pure, Result.andThen_ok, hb]
  exact h
theorem step_append_sums {ops : Array Oper} {o : Oper} {a : Act} {w : World} {K : Act → World → Prop} {Q : Exit → Act → World → Prop} {E : Prop} (hw : Region.wanted o (yielded ops a.tmps) = true) (x y : Operand)
    (ho : o.op = .call { callee := .builtin .append, args := #[x, y], argTypes := #[114, 114] }) (hty : o.type = 114) (B : Nat) (v : Value) (ls : List (List UInt8)) (n : Nat) (hn : ls.length = n) (hx : a.eval x = v) (h : OwnS w B v ls) (ad : Option Addr) (m c : Nat) (q : List (List UInt8)) (hy : a.eval y = .slice ad m c) (hq : Sums w ad m c q) (hb : n + m ≤ 1000000) (hbase : B ≤ w.heap.size)
    (hk : ∀ a' c' w', OwnS w' B (.slice a' (n + m) c') (ls ++ q) → w.grownBy w' v.ownBlock → K (a.put o.dst (.slice a' (n + m) c')) w') :
    if Region.wanted o (yielded ops a.tmps) = true then Oper.wp Tryz.prog o a w K Q else E := by
  subst hn
  rw [if_pos hw]
  obtain ⟨a', c', w', h1, h2, h3⟩ := append_sums w B v ls h ad m c q hq hb hbase
  unfold Oper.wp execOp
  simp only [ho, hty, resolve, invoke, builtin, Sem.run_bind, Sem.run_pure, Result.andThen_ok, List.map_toArray, List.map_cons, List.map_nil, hx, hy, h1]
  exact hk a' c' w' h2 h3
end Go.Proofs.YtcmdpmialehjgaaGreatDoor
namespace Go.Proofs.YtcmdpmialehjgaaGreatDoor
open Go.RowKit

/-- A row of the call's own, and all below as it was. -/
structure Holds (w0 : World) (g n : Nat) (X : List (List UInt8)) (w : World) : Prop where
  own : OwnS w w0.heap.size (.slice (some ⟨g, 0, none⟩) n n) X
  below : Below w0.heap.size w0 w
theorem Holds.lt {w0 w : World} {g n : Nat} {X : List (List UInt8)} (h : Holds w0 g n X w) : w0.heap.size ≤ g ∧ g < w.heap.size := h.own.lt g rfl
end Go.Proofs.YtcmdpmialehjgaaGreatDoor
namespace Go.Proofs.YtcmdpmialehjgaaGreatDoor
open Go.RowKit

theorem half_lt {i n : Nat} (h : i < n) (h1 : ¬ n ≤ 1) : i / 2 < (n + 1) / 2 ∧ (n + 1) / 2 < n := by omega
end Go.Proofs.YtcmdpmialehjgaaGreatDoor
namespace Go.Proofs.YtcmdpmialehjgaaGreatDoor
open Go.RowKit

set_option maxRecDepth 100000 in
set_option maxHeartbeats 1600000 in
theorem check_out {w : World} {r s : List UInt8} {a : Option Addr} {k c : Nat} (i n : Int) (h : 4096 < n ∨ i < 0 ∨ n ≤ i) :
    Calls Tryz.prog 57 #[.agg (cellsOf r).toArray, .agg (cellsOf s).toArray, .int .i64 i, .int .i64 n, .slice a k c] w fun e w' => e = .returned (.bool false) ∧ Below w.heap.size w w' := by
  have b1 : Below w.heap.size w ((w.alloc (.cells (cellsOf r).toArray 23)).alloc (.cells (cellsOf s).toArray 23)) := ((Below.refl _ _).alloc (Nat.le_refl _) _).alloc (by simp) _
  have HB := Lib.hid b1
  clear b1
  by_cases h1 : 4096 < n
  · clear h
    go_enter Tryz.func57, Tryz.ntmps57
    go_wp2_with fail
    go_ret
    exact ⟨rfl, HB.out⟩
  · have h2 : i < 0 ∨ n ≤ i := by omega
    have HI := Lib.hid h2
    clear h h2
    go_enter Tryz.func57, Tryz.ntmps57
    go_wp2_with (go_at_call 85; refine (isPlace_no i n HI.out _).mono ?_; rintro e w' ⟨rfl, rfl⟩)
    go_ret
    exact ⟨rfl, HB.out⟩

/-- A path under way up: from w on, over the block g. -/
def WayUp (w : World) (g : Nat) (R : Option (List UInt8)) (x y v : Value) (wr : World) : Prop :=
  ∃ (d i n k c : Nat) (a : Option Addr) (left : List (List UInt8)) (now : List UInt8), x = .int .i64 i ∧ y = .int .i64 n ∧ v = .slice a k c ∧ i < n ∧ n ≤ 2 ^ d ∧ n ≤ 4096 ∧ Sums w a k c left ∧ now.length = 32 ∧
    wr.heap[g]? = some (.cells (cellsOf now).toArray 23 (0, 0)) ∧ w.heap.size ≤ g ∧ Below w.heap.size w wr ∧ ascend pairSum d now i n left = R
def manyOf : Value → Nat
  | .int _ n => n.toNat
  | _ => 0
theorem ascend_end {d n i : Nat} {now : List UInt8} {left : List (List UInt8)} (h : n ≤ 1) : ascend pairSum d now i n left = if left.isEmpty then some now else none := by
  cases d with
  | zero => rfl
  | succ d => unfold ascend; rw [if_pos h]
theorem ascend_step {d n i : Nat} {now t : List UInt8} {left : List (List UInt8)} (h : ¬ n ≤ 1) (hb : beside i < n) (hl : 0 < left.length) (ht : left.getD 0 [] = t) : ascend pairSum (d + 1) now i n left = ascend pairSum d (joinOf i now t) (i / 2) ((n + 1) / 2) (left.drop 1) := by
  cases left with
  | nil => cases hl
  | cons x q =>
    have hx : x = t := ht
    subst hx
    conv => lhs; unfold ascend
    rw [if_neg h, if_pos hb]
    rfl
theorem ascend_skip {d n i : Nat} {now : List UInt8} {left : List (List UInt8)} (h : ¬ n ≤ 1) (hb : ¬ beside i < n) : ascend pairSum (d + 1) now i n left = ascend pairSum d now (i / 2) ((n + 1) / 2) left := by
  conv => lhs; unfold ascend
  rw [if_neg h, if_neg hb]
theorem ascend_lack {d n i : Nat} {now : List UInt8} (h : ¬ n ≤ 1) (hb : beside i < n) : ascend pairSum (d + 1) now i n [] = none := by
  unfold ascend
  rw [if_neg h, if_pos hb]

set_option linter.unusedSimpArgs false in
set_option maxRecDepth 100000 in
set_option maxHeartbeats 3200000 in
theorem check_in {w : World} {r s : List UInt8} {a : Option Addr} {k c : Nat} {p : List (List UInt8)} (i n : Nat) (hi : i < n) (hn : n ≤ 4096) (hr : r.length = 32) (hs : s.length = 32) (h : Sums w a k c p) (hk : KsAt w) :
    Calls Tryz.prog 57 #[.agg (cellsOf r).toArray, .agg (cellsOf s).toArray, .int .i64 (i : Int), .int .i64 (n : Int), .slice a k c] w fun e w' => e = .returned (.bool (decide (ascend pairSum 12 (leafSum s) i n p = some r))) ∧ Below w.heap.size w w' := by
  obtain ⟨l, hl, hll, hlf⟩ : ∃ l, leafSum s = l ∧ l.length = 32 ∧ ∀ W : World, KsAt W → Calls Tryz.prog 86 #[.agg (cellsOf s).toArray] W fun e w' => e = .returned (.agg (cellsOf l).toArray) ∧ Below W.heap.size W w' := ⟨_, rfl, leafSum_len s, fun W hW => leaf_of hs hW⟩
  rw [hl]
  obtain ⟨R, hR⟩ : ∃ R, R = ascend pairSum 12 l i n p := ⟨_, rfl⟩
  rw [← hR]
  have szs : (Tryz.prog.info? 23).map (·.size) = some (cellsOf s).toArray.size := by rw [List.size_toArray, cellsOf_len, hs]; exact Tryz.size23
  have szr : (Tryz.prog.info? 23).map (·.size) = some (cellsOf r).toArray.size := by rw [List.size_toArray, cellsOf_len, hr]; exact Tryz.size23
  have szl : (Tryz.prog.info? 23).map (·.size) = some (cellsOf l).toArray.size := by rw [List.size_toArray, cellsOf_len, hll]; exact Tryz.size23
  have hz : (cellsOf zero32).toArray.size = (cellsOf l).toArray.size := by rw [List.size_toArray, List.size_toArray, cellsOf_len, cellsOf_len, hll]; rfl
  have H := Lib.hid h
  have HK := Lib.hid hk
  have HI := Lib.hid hi
  have HN := Lib.hid hn
  have HRL := Lib.hid hr
  have HLL := Lib.hid hll
  have HLF := Lib.hid hlf
  have HRR := Lib.hid hR
  have SZS := Lib.hid szs
  have SZR := Lib.hid szr
  have SZL := Lib.hid szl
  have HZ := Lib.hid hz
  have n0 : ¬ (4096 < (n : Int)) := by omega
  clear h hk hr hs hl hll hlf hR szs szr szl hz hi hn
  go_enter Tryz.func57, Tryz.ntmps57
  go_upto_region 1 with (fail)
  have b1 : Below w.heap.size w ((w.alloc (.cells (cellsOf r).toArray 23)).alloc (.cells (cellsOf s).toArray 23)) := ((Below.refl _ _).alloc (Nat.le_refl _) _).alloc (by simp) _
  have h1 : ((w.alloc (.cells (cellsOf r).toArray 23)).alloc (.cells (cellsOf s).toArray 23)).heap[w.heap.size]? = some (.cells (cellsOf r).toArray 23 (0, 0)) := by
    rw [heap_alloc_old _ _ (by simp), heap_alloc_new]
  have h2 : ((w.alloc (.cells (cellsOf r).toArray 23)).alloc (.cells (cellsOf s).toArray 23)).heap[w.heap.size + 1]? = some (.cells (cellsOf s).toArray 23 (0, 0)) := heap_alloc_at _ _ _ (by simp)
  revert b1 h1 h2
  generalize ((w.alloc (.cells (cellsOf r).toArray 23)).alloc (.cells (cellsOf s).toArray 23)) = w1
  obtain ⟨g, hg⟩ : ∃ g, g = w.heap.size := ⟨_, rfl⟩
  rw [← hg]
  intro b1 h1 h2
  rw [hg] at b1
  have HG := Lib.hid hg
  have HB1 := Lib.hid b1
  have H1 := Lib.hid h1
  have H2 := Lib.hid h2
  clear b1 h1 h2 hg
  go_wp2_with (first | (go_at_call 85; (with_reducible refine (isPlace_yes i n HI.out _).mono ?_); rintro e w' ⟨rfl, rfl⟩) | (refine wpList_load_row rfl 23 _ rfl (g + 1) rfl 23 (cellsOf s).toArray (0, 0) _ H2.out Tryz.underlying23 rfl SZS.out ?_) | fail)
  refine (HLF.out _ (HK.out.below HB1.out)).mono ?_
  rintro e w2 ⟨rfl, hb2⟩
  have HB2 := Lib.hid hb2
  clear hb2
  go_wp2_with (refine wpList_store_row rfl 23 _ _ rfl w2.heap.size (cellsOf l).toArray rfl rfl 23 (cellsOf zero32).toArray (heap_alloc_new _ _) SZL.out HZ.out (all_oneCell_toArray (cellsOf_one l)) ?_)
  rw [← zero32_is]
  have b3 : Below w1.heap.size w1 ((w2.alloc (.cells (cellsOf zero32).toArray 23)).setRow w2.heap.size (cellsOf l).toArray) := by
    have b : Below w1.heap.size w1 (w2.alloc (.cells (cellsOf zero32).toArray 23)) := HB2.out.alloc HB2.out.size _
    exact b.trans (((but_setRow _ w2.heap.size _).mono b.size).below HB2.out.size)
  have h3 : ((w2.alloc (.cells (cellsOf zero32).toArray 23)).setRow w2.heap.size (cellsOf l).toArray).heap[w2.heap.size]? = some (.cells (cellsOf l).toArray 23 (0, 0)) := setRow_heap _ _ _ _ _ _ (heap_alloc_new _ _)
  revert b3 h3
  generalize ((w2.alloc (.cells (cellsOf zero32).toArray 23)).setRow w2.heap.size (cellsOf l).toArray) = w3
  obtain ⟨q, hq⟩ : ∃ q, q = w2.heap.size := ⟨_, rfl⟩
  rw [← hq]
  intro b3 h3
  have hq1 : w1.heap.size ≤ q := by rw [hq]; exact HB2.out.size
  have HR5 : Hid (w1.heap[g]? = some (.cells (cellsOf r).toArray 23 (0, 0))) := H1
  have hwu : WayUp w1 q R (.int .i64 (i : Int)) (.int .i64 (n : Int)) (.slice a k c) w3 := ⟨12, i, n, k, c, a, p, l, rfl, rfl, rfl, HI.out, HN.out, HN.out, H.out.below HB1.out, HLL.out, h3, hq1, b3, HRR.out.symm⟩
  have HWU := Lib.hid hwu
  clear b3 h3 hq hq1 hwu n0
  go_loopw [2, 3, 12] (fun x y v wr => WayUp w1 q R x y v wr) (fun _ y _ _ => manyOf y)
  case atStart => exact HWU.out
  case round =>
    obtain ⟨d, i, n, k, c, a, left, now, rfl, rfl, rfl, hin, hnd, hn, hs, hnl, hg, hwq, hb, hR⟩ := hrel
    have HS := Lib.hid hs
    have HNL := Lib.hid hnl
    have HGQ := Lib.hid hg
    have HWQ := Lib.hid hwq
    have HB := Lib.hid hb
    have HRA := Lib.hid hR
    have HIN := Lib.hid hin
    have HND := Lib.hid hnd
    have HN4 := Lib.hid hn
    have szn : (Tryz.prog.info? 23).map (·.size) = some (cellsOf now).toArray.size := by rw [List.size_toArray, cellsOf_len, hnl]; exact Tryz.size23
    have SZN := Lib.hid szn
    have hbs := beside_any i (by omega)
    have HBS := Lib.hid hbs
    have hps := pairs_any n (by omega)
    have HPS := Lib.hid hps
    have HR6 := Lib.hid ((hb.block _ (lt_of_block HR5.out)).trans HR5.out)
    have i0 : (0 : Int) ≤ (i : Int) := by omega
    have i1 : (i : Int) < 4096 := by omega
    have hn2 : ((n : Int) + 1) / 2 = (((n + 1) / 2 : Nat) : Int) := by omega
    have HN2 := Lib.hid hn2
    clear hn2
    have hdiv : (i : Int) / 2 = ((i / 2 : Nat) : Int) := by omega
    have HDIV := Lib.hid hdiv
    clear hs hnl hg hwq hb hR hin hnd hn HWU szn hbs hps hdiv HI HN HRR H
    by_cases hn1 : n ≤ 1
    · have h1 : ¬ ((1 : Int) < (n : Int)) := by omega
      have he := ascend_end (d := d) (i := i) (now := now) (left := left) hn1
      rw [HRA.out] at he
      have HE := Lib.hid he
      clear he hn1
      by_cases hk0 : k = 0
      · subst hk0
        have q1 : ∀ W : World, (Op.equalIn 10000 23 (.agg (cellsOf now).toArray) (.agg (cellsOf r).toArray)).run Tryz.prog W = .ok (decide (now = r)) W := fun W => run_eqSums now r HNL.out HRL.out W
        go_wp2_with (first | (refine wpList_load_wanted (by rfl) 23 _ rfl q rfl 23 (cellsOf now).toArray (0, 0) _ HGQ.out Tryz.underlying23 rfl SZN.out ?_) | (refine wpList_load_wanted (by rfl) 23 _ rfl g rfl 23 (cellsOf r).toArray (0, 0) _ HR6.out Tryz.underlying23 rfl SZR.out ?_))
        go_ret
        have hl : left = [] := List.eq_nil_of_length_eq_zero HS.out.len
        have he := HE.out
        rw [hl] at he
        refine ⟨?_, HB1.out.trans (HB.out.mono HB1.out.size)⟩
        rw [he]
        show Ending.returned (.bool (decide (now = r))) = Ending.returned (.bool (decide (some now = some r)))
        congr 2
        rw [decide_eq_decide]
        exact ⟨fun h => by rw [h], fun h => Option.some.inj h⟩
      · have k0 : ¬ ((k : Int) = 0) := by omega
        go_wp2_with fail
        go_ret
        have hl : left.isEmpty = false := by
          cases hle : left with
          | nil => have := HS.out.len; rw [hle] at this; exact absurd this.symm hk0
          | cons x y => rfl
        have he := HE.out
        rw [hl] at he
        refine ⟨?_, HB1.out.trans (HB.out.mono HB1.out.size)⟩
        rw [he]
        rfl
    · have h1 : (1 : Int) < (n : Int) := by omega
      obtain ⟨d, rfl⟩ : ∃ d', d = d' + 1 := by
        cases d with
        | zero => have := HND.out; simp at this; omega
        | succ d => exact ⟨d, rfl⟩
      by_cases hbn : beside i < n
      · have b0 : ¬ ((n : Int) ≤ ((beside i : Nat) : Int)) := by omega
        by_cases hk0 : k = 0
        · subst hk0
          have hl : left = [] := List.eq_nil_of_length_eq_zero HS.out.len
          have he : ascend pairSum (d + 1) now i n left = none := by rw [hl]; exact ascend_lack hn1 hbn
          rw [HRA.out] at he
          have HE := Lib.hid he
          clear hl he hbn hn1
          go_wp2_with (go_at_call 88; (with_reducible refine (HBS.out _).mono ?_); rintro e w' ⟨rfl, rfl⟩)
          go_ret
          refine ⟨?_, HB1.out.trans (HB.out.mono HB1.out.size)⟩
          rw [HE.out]
          rfl
        · obtain ⟨b, off, rfl, hlt, hcells⟩ := HS.out.2.2.2.2.2 (by omega)
          have hrt := hcells 0 (by omega)
          have htl := HS.out.each (j := 0) (by omega)
          obtain ⟨t, het⟩ : ∃ t, left.getD 0 [] = t := ⟨_, rfl⟩
          rw [het] at hrt htl
          rw [Nat.zero_mul, Nat.add_zero] at hrt
          have hst := ascend_step (d := d) (now := now) hn1 hbn (by rw [HS.out.len]; omega) het
          rw [HRA.out] at hst
          have hib : i < 4611686018427387904 := by have := HIN.out; have := HN4.out; omega
          obtain ⟨jo, hjo', hjl, hjo⟩ : ∃ jo, joinOf i now t = jo ∧ jo.length = 32 ∧ ∀ W : World, KsAt W → Calls Tryz.prog 89 #[.agg (cellsOf now).toArray, .agg (cellsOf t).toArray, .int .i64 (i : Int)] W fun e w' => e = .returned (.agg (cellsOf jo).toArray) ∧ Below W.heap.size W w' := ⟨_, rfl, joinOf_len _ _ _, fun W hW => joined_any i hib HNL.out htl hW⟩
          rw [hjo'] at hst
          have szt : (Tryz.prog.info? 23).map (·.size) = some (cellsOf t).length := by rw [cellsOf_len, htl]; exact Tryz.size23
          have szj : (Tryz.prog.info? 23).map (·.size) = some (cellsOf jo).toArray.size := by rw [List.size_toArray, cellsOf_len, hjl]; exact Tryz.size23
          have hzj : (cellsOf now).toArray.size = (cellsOf jo).toArray.size := by rw [List.size_toArray, List.size_toArray, cellsOf_len, cellsOf_len, hjl, HNL.out]
          have HRT := Lib.hid hrt
          have HRN := Lib.hid hst.symm
          have HJL := Lib.hid hjl
          have HJO := Lib.hid hjo
          have SZT := Lib.hid szt
          have SZJ := Lib.hid szj
          have HZJ := Lib.hid hzj
          obtain ⟨a2, ha2⟩ : ∃ a2, (if c = 1 then some ⟨b, off, none⟩ else (some ⟨b, off, none⟩ : Option Addr).map (·.add (1 * 32))) = a2 := ⟨_, rfl⟩
          have HA2 := Lib.hid ha2
          clear ha2
          have k0 : ¬ ((k : Int) = 0) := by omega
          have hk1 : 0 < k := by omega
          clear hcells hrt htl het hst hjo' hjl hjo szt szj hzj hib hbn
          go_wp2_with (go_at_call 88; (with_reducible refine (HBS.out _).mono ?_); rintro e w' ⟨rfl, rfl⟩)
          refine wp_region_held_drew (S := fun w' => Below w1.heap.size w1 w') (by kernel_rfl) (below_drew HB.out) (fun hHeld => ?_)
          refine tkP 1 rfl rfl ?_
          refine tkP 2 rfl rfl ?_
          refine tkA 3 rfl rfl (yieldsIf_load_mid (by rfl) _ _ rfl b off rfl (cellsOf t) _ (fun w0 hSw => rangeAt_below HRT.out hlt hSw) Tryz.underlying23 rfl SZT.out) ?_
          refine tkP 4 rfl rfl ?_
          refine tkP 6 rfl rfl ?_
          refine tkA (v := .slice a2 (k - 1) (c - 1)) 7 rfl rfl (by rw [← HA2.out]; exact yields_from (A := 1) (by rfl) rfl rfl rfl (by omega)) ?_
          refine tkR 0 rfl (fun K hK => ?_)
          rw [if_pos (by rfl)]
          refine wp_load_row 23 _ rfl q rfl 23 (cellsOf now).toArray (0, 0) _ HGQ.out Tryz.underlying23 rfl SZN.out ?_
          refine hK.out _ _ (by (try dsimp only); exact hHeld) (fun hHeld => ?_)
          clear hK K
          refine tkR 5 rfl (fun K hK => ?_)
          go_simp
          go_wp2_with ((go_at_call 89; (with_reducible refine (HJO.out _ ((HK.out.below HB1.out).below hHeld)).mono ?_); rintro e w5 ⟨rfl, hb5⟩; have HB5 := Lib.hid hb5; clear hb5))
          refine hK.out _ _ (by (try dsimp only); exact Below.trans hHeld (HB5.out.mono (Below.size hHeld))) (fun hHeld => ?_)
          clear hK K
          refine tkR 8 rfl (fun K hK => ?_)
          have hq5 := (HB5.out.block q (lt_of_block HGQ.out)).trans HGQ.out
          have HQ5 := Lib.hid hq5
          have b6 : Below w1.heap.size w1 (w5.setRow q (cellsOf jo).toArray) := by
            have b5 : Below w1.heap.size w1 w5 := hHeld
            exact b5.trans (((but_setRow _ q _).mono b5.size).below HWQ.out)
          have HB6 := Lib.hid b6
          have HQ6 := Lib.hid (setRow_heap w5 q _ (cellsOf jo).toArray 23 _ HQ5.out)
          clear hq5 b6
          rw [if_pos (by rfl)]
          refine wp_store_row 23 _ _ rfl q (cellsOf jo).toArray rfl rfl 23 (cellsOf now).toArray HQ5.out SZJ.out HZJ.out (all_oneCell_toArray (cellsOf_one jo)) ?_
          refine hK.out _ _ (by (try dsimp only); exact HB6.out) (fun hHeld => ?_)
          clear hK K
          refine tkP 9 rfl rfl ?_
          refine wpAnyH_done (by kernel_rfl) ?_ _
          have hwu : WayUp w1 q R (.int .i64 ((i / 2 : Nat) : Int)) (.int .i64 (((n + 1) / 2 : Nat) : Int)) (.slice a2 (k - 1) (c - 1)) (w5.setRow q (cellsOf jo).toArray) := ⟨d, i / 2, (n + 1) / 2, k - 1, c - 1, _, left.drop 1, jo, rfl, rfl, rfl, (half_lt HIN.out hn1).1, by have := HND.out; rw [Nat.pow_succ] at this; omega, by have := HN4.out; omega, (by have := HS.out.from (A := 1) (by omega); rw [HA2.out] at this; exact this), HJL.out, HQ6.out, HWQ.out, HB6.out, HRN.out⟩
          have HWU := Lib.hid hwu
          clear hwu
          go_wp2_with (go_at_call 87; (with_reducible refine (HPS.out _).mono ?_); rintro e w' ⟨rfl, rfl⟩)
          go_roundw
          case rel => exact (by first | (rw [HDIV.out, HN2.out]; exact HWU.out) | (rw [HDIV.out]; exact HWU.out))
          case measure => simp [manyOf]; omega
      · have b0 : (n : Int) ≤ ((beside i : Nat) : Int) := by omega
        have he := ascend_skip (d := d) (now := now) (left := left) hn1 hbn
        rw [HRA.out] at he
        have hwu : WayUp w1 q R (.int .i64 ((i / 2 : Nat) : Int)) (.int .i64 (((n + 1) / 2 : Nat) : Int)) (.slice a k c) wr := ⟨d, i / 2, (n + 1) / 2, k, c, _, left, now, rfl, rfl, rfl, (half_lt HIN.out hn1).1, by have := HND.out; rw [Nat.pow_succ] at this; omega, by have := HN4.out; omega, HS.out, HNL.out, HGQ.out, HWQ.out, HB.out, he.symm⟩
        have HWU := Lib.hid hwu
        clear he hwu hbn
        go_wp2_with (first | (go_at_call 88; (with_reducible refine (HBS.out _).mono ?_); rintro e w' ⟨rfl, rfl⟩) | (go_at_call 87; (with_reducible refine (HPS.out _).mono ?_); rintro e w' ⟨rfl, rfl⟩))
        go_roundw
        case rel => exact (by first | (rw [HDIV.out, HN2.out]; exact HWU.out) | (rw [HDIV.out]; exact HWU.out))
        case measure => simp [manyOf]; omega
end Go.Proofs.YtcmdpmialehjgaaGreatDoor
namespace Go.Proofs.YtcmdpmialehjgaaGreatDoor
open Go.RowKit

theorem OwnS.grows {w w' : World} {B : Nat} {v : Value} {ls : List (List UInt8)} (h : OwnS w B v ls) (hg : w.grownBy w' v.ownBlock) (hB : B ≤ w.heap.size) : Below B w w' :=
  ⟨hg.os, hg.tape, hg.output, hg.size, fun k hk => hg.block k (by omega) (fun e => by have := (h.lt k e.symm).1; omega)⟩
end Go.Proofs.YtcmdpmialehjgaaGreatDoor
