/- Plain words for worlds: what a slice of bytes holds; what stays where one block is written and new ones are made; a slice of the call's own that is appended to; copies. No function of the program is named. 'string(b)' of a row of bytes. No function of the program is named. Sums of 32 bytes as rows of cells; the zero sum. No function of the program is named. Two sums of 32 bytes are compared. Laws for a region that draws its order: an operation taken first by its slot's number; a load of one cell. No function of the program is named. A load and a store of one cell, in a region. No function of the program is named. 'string(b)' of a slice of bytes, in a region; a row's beginning. No function of the program is named. Words for worlds that all walks use: ranges, results that lie in blocks. No function of the program is named. A sum is laid into a new block. No function of the program is named. Bytes that are joined one behind the other, in a row of the call's own. No function of the program is named. Literals of bytes and of slices of bytes, in a region. No function of the program is named. Steps of a region that draws its order, said shortly: the arguments lay themselves. No function of the program is named. -/
import Derived.WalkKit
import Derived.Laws.IdiomStrings
import Derived.Lib.Hide
import Derived.OneCell
import Derived.Laws.BytesArg
import Derived.Laws.OwnMore
import Derived.Deep.RegionHeld3
import Derived.Deep.RegionHeldLaw
import Derived.Laws.Tables
import Derived.Laws.CopyOwn
import Derived.Test.YtlnenkmcegadmaaDoorProg
import Derived.OwnWalk
import Derived.ChangeKeysEq
import Derived.Laws.StructEq
import Derived.Deep.RegionHeld
import Derived.Great.BuildSlice
namespace Go.Proofs.YtlnenkmcegadmaaDoor
open Go.RowKit

/-- A slice of bytes that reads as 'l'. -/
def Row (w : World) (a : Option Addr) (n c : Nat) (l : List UInt8) : Prop :=
  l.length = n ∧ n ≤ c ∧ c ≤ maxLen ∧ (a = none → c = 0) ∧
  (0 < n → ∃ b off, a = some ⟨b, off, none⟩ ∧ b < w.heap.size ∧ ∀ j, j < n → w.cell? ⟨b, off + j, none⟩ = some (.int .u8 (((l.getD j 0).toNat : Nat) : Int)))

/-- Below block number B all is as it was, but for block p. -/
structure But (B p : Nat) (w w' : World) : Prop where
  os : w'.os = w.os
  tape : w'.tape = w.tape
  output : w'.output = w.output
  size : w.heap.size ≤ w'.heap.size
  block : ∀ k, k < B → k ≠ p → w'.heap[k]? = w.heap[k]?

theorem But.refl (B p : Nat) (w : World) : But B p w w := ⟨rfl, rfl, rfl, Nat.le_refl _, fun _ _ _ => rfl⟩
theorem But.trans {B p : Nat} {a b c : World} (h : But B p a b) (k : But B p b c) : But B p a c :=
  ⟨k.os.trans h.os, k.tape.trans h.tape, k.output.trans h.output, Nat.le_trans h.size k.size, fun i hi hp => (k.block i hi hp).trans (h.block i hi hp)⟩
theorem But.mono {B B' p : Nat} {w w' : World} (h : But B p w w') (hB : B' ≤ B) : But B' p w w' := ⟨h.os, h.tape, h.output, h.size, fun k hk hp => h.block k (Nat.lt_of_lt_of_le hk hB) hp⟩
theorem But.of {B p : Nat} {w w' : World} (h : Below B w w') : But B p w w' := ⟨h.os, h.tape, h.output, h.size, fun k hk _ => h.block k hk⟩
theorem But.below {B p : Nat} {w w' : World} (h : But B p w w') (hp : B ≤ p) : Below B w w' := ⟨h.os, h.tape, h.output, h.size, fun k hk => h.block k hk (by omega)⟩
theorem But.setCell {B p : Nat} {w w' : World} (h : But B p w w') (a : Addr) (ha : a.block = p ∨ B ≤ a.block) (u : Value) : But B p w (w'.setCell a u) :=
  ⟨h.os, h.tape, h.output, by simpa using h.size, fun k hk hp => (Below.heap_setCell _ _ _ _ (by omega)).trans (h.block k hk hp)⟩
theorem But.alloc {B p : Nat} {w w' : World} (h : But B p w w') (hB : B ≤ w'.heap.size) (o : Obj) : But B p w (w'.alloc o) :=
  ⟨h.os, h.tape, h.output, by have := h.size; simp; omega, fun k hk hp => (Below.heap_alloc _ _ _ (by omega)).trans (h.block k hk hp)⟩
theorem But.drew {B p : Nat} {w w' : World} (h : But B p w w') : But B p w w'.drew := ⟨h.os, h.tape, h.output, h.size, h.block⟩
theorem But.heap {B p k : Nat} {w w' : World} {o : Obj} (h : But B p w w') (hk : w.heap[k]? = some o) (hB : k < B) (hp : k ≠ p) : w'.heap[k]? = some o := (h.block k hB hp).trans hk
theorem But.cell {B p : Nat} {w w' : World} (h : But B p w w') {a : Addr} (hB : a.block < B) (hp : a.block ≠ p) : w'.cell? a = w.cell? a := World.cell?_of_block (h.block _ hB hp)

/-- The row of a slice does not lie in block p. -/
def Off (p : Nat) (a : Option Addr) (n : Nat) : Prop := 0 < n → ∀ b off, a = some ⟨b, off, none⟩ → b ≠ p
theorem Row.but {w w' : World} {p n c : Nat} {a : Option Addr} {l : List UInt8} (h : Row w a n c l) (hb : But w.heap.size p w w') (hp : Off p a n) : Row w' a n c l := by
  obtain ⟨h1, h2, h3, h4, h5⟩ := h
  refine ⟨h1, h2, h3, h4, fun h0 => ?_⟩
  obtain ⟨b, off, rfl, hlt, hc⟩ := h5 h0
  have hbp : b ≠ p := hp h0 b off rfl
  exact ⟨b, off, rfl, Nat.lt_of_lt_of_le hlt hb.size, fun j hj => (hb.cell (a := ⟨b, off + j, none⟩) hlt hbp).trans (hc j hj)⟩
theorem Off.of_lt {w : World} {p n c : Nat} {a : Option Addr} {l : List UInt8} (h : Row w a n c l) (hp : w.heap.size ≤ p) : Off p a n := by
  intro h0 b off e
  obtain ⟨b', off', e', hlt, _⟩ := h.2.2.2.2 h0
  rw [e] at e'
  cases e'
  omega
theorem Row.below {w w' : World} {n c : Nat} {a : Option Addr} {l : List UInt8} (h : Row w a n c l) (hb : Below w.heap.size w w') : Row w' a n c l := by
  obtain ⟨h1, h2, h3, h4, h5⟩ := h
  refine ⟨h1, h2, h3, h4, fun h0 => ?_⟩
  obtain ⟨b, off, rfl, hlt, hc⟩ := h5 h0
  exact ⟨b, off, rfl, Nat.lt_of_lt_of_le hlt hb.size, fun j hj => (hb.cell (p := ⟨b, off + j, none⟩) hlt).trans (hc j hj)⟩
theorem Row.nil (w : World) : Row w none 0 0 [] := ⟨rfl, Nat.le_refl _, Nat.zero_le _, fun _ => rfl, fun h => by omega⟩

/-- The cut '[k:]' (with the address as the model has it). -/
theorem Row.drop {w : World} {n c k : Nat} {a a' : Option Addr} {l : List UInt8} (h : Row w a n c l) (hk : k ≤ n) (ha : a' = none → c = k) (ha' : k < n → ∀ b off, a = some ⟨b, off, none⟩ → a' = some ⟨b, off + k, none⟩) : Row w a' (n - k) (c - k) (l.drop k) := by
  obtain ⟨h1, h2, h3, h4, h5⟩ := h
  refine ⟨by simp [h1], by omega, by omega, fun e => by have := ha e; omega, fun h0 => ?_⟩
  obtain ⟨b, off, rfl, hlt, hc⟩ := h5 (by omega)
  refine ⟨b, off + k, ha' (by omega) b off rfl, hlt, fun j hj => ?_⟩
  rw [Nat.add_assoc, hc (k + j) (by omega)]
  simp [List.getD]
/-- The cut '[:k]'. -/
theorem Row.take {w : World} {n c k : Nat} {a : Option Addr} {l : List UInt8} (h : Row w a n c l) (hk : k ≤ n) : Row w a k c (l.take k) := by
  obtain ⟨h1, h2, h3, h4, h5⟩ := h
  refine ⟨by simp [h1]; omega, by omega, h3, h4, fun h0 => ?_⟩
  obtain ⟨b, off, rfl, hlt, hc⟩ := h5 (by omega)
  refine ⟨b, off, rfl, hlt, fun j hj => ?_⟩
  rw [hc j (by omega)]
  simp [List.getD, hj]


/-- A fresh row of bytes. -/
theorem row_new {w : World} {g n c : Nat} {l : List UInt8} {fr : Nat × Nat} (hl : l.length = n) (hnc : n ≤ c) (hc : c ≤ maxLen) (cur : List Value) (t : TypeId) (hg : w.heap[g]? = some (.cells cur.toArray t fr))
    (hcur : ∀ j, j < n → cur[j]? = some (.int .u8 (((l.getD j 0).toNat : Nat) : Int))) : Row w (some ⟨g, 0, none⟩) n c l := by
  refine ⟨hl, hnc, hc, (fun h => by cases h), fun _ => ⟨g, 0, rfl, lt_of_block hg, fun j hj => ?_⟩⟩
  rw [cell_of_row w g _ _ t fr hg]
  simpa using hcur j hj

def cellsOf (l : List UInt8) : List Value := l.map fun b => .int .u8 ((b.toNat : Nat) : Int)
theorem cellsOf_one (l : List UInt8) : ∀ v ∈ cellsOf l, v.oneCell' = true := by
  intro v hv
  obtain ⟨b, _, rfl⟩ := List.mem_map.1 hv
  rfl
theorem cellsOf_get {l : List UInt8} {j : Nat} (hj : j < l.length) : (cellsOf l)[j]? = some (.int .u8 (((l.getD j 0).toNat : Nat) : Int)) := by
  simp [cellsOf, List.getD, hj]
/-- A slice of bytes of the call's own. -/
def Own (w : World) (B : Nat) (v : Value) (l : List UInt8) : Prop := w.ownsRow B 5 1 v l.length (cellsOf l)

theorem cellsOf_append (l m : List UInt8) : cellsOf (l ++ m) = cellsOf l ++ cellsOf m := by simp [cellsOf]
theorem Own.shape {w : World} {B : Nat} {v : Value} {l : List UInt8} (h : Own w B v l) : ∃ a c, v = .slice a l.length c ∧ (∀ x, a = some x → B ≤ x.block) := by
  rcases h.2 with ⟨rfl, h0⟩ | ⟨g, cap, cur, rfl, hB, _⟩
  · exact ⟨none, 0, by rw [h0], fun x e => by cases e⟩
  · exact ⟨_, _, rfl, fun x e => by cases e; exact hB⟩
theorem Own.row {w : World} {B : Nat} {a : Option Addr} {n c : Nat} {l : List UInt8} (h : Own w B (.slice a n c) l) : Row w a n c l := by
  rcases h.2 with ⟨hv, h0⟩ | ⟨g, cap, cur, hv, hB, hh, h1, h2, h3, h4⟩
  · cases hv
    obtain rfl : l = [] := List.eq_nil_of_length_eq_zero h0
    exact Row.nil w
  · cases hv
    refine row_new rfl h1 h2 cur.toList 5 (by simpa using hh) (fun j hj => ?_)
    rw [← cellsOf_get hj, ← h4, List.getElem?_take, if_pos (by omega)]

theorem Own.fresh {w : World} {B : Nat} {a : Option Addr} {n c : Nat} {l : List UInt8} (h : Own w B (.slice a n c) l) : ∀ x, a = some x → B ≤ x.block := by
  rcases h.2 with ⟨hv, _⟩ | ⟨g, cap, cur, hv, hB, _⟩
  · cases hv; intro x e; cases e
  · cases hv; intro x e; cases e; exact hB

theorem append_row {P : Program} (w : World) (B : Nat) (t ty : TypeId) (i : TypeInfo) (ht : P.underlying t = some (.slice 5)) (hi : P.info? 5 = some i) (hz : i.zero = some (.int .u8 0)) (hsize : i.size = 1) (hby : i.bytes = 1)
    (v : Value) (l : List UInt8) (hown : Own w B v l) (a : Option Addr) (m c : Nat) (s : List UInt8) (hs : Row w a m c s) (hb : l.length + m ≤ 140737488355328) (hbase : B ≤ w.heap.size) :
    ∃ a' c' w', (Builtin.append_ #[t, t] ty #[v, .slice a m c]).run P w = .ok (.slice a' (l.length + m) c') w' ∧ Own w' B (.slice a' (l.length + m) c') (l ++ s) ∧ w.grownBy w' v.ownBlock := by
  have hsl := hs.1
  have key : ∃ v' w', (Builtin.append_ #[t, t] ty #[v, .slice a m c]).run P w = .ok v' w' ∧ w'.ownsRow B 5 1 v' (l.length + m) (cellsOf l ++ cellsOf s) ∧ w.grownBy w' v.ownBlock := by
    cases a with
    | some ad =>
      obtain ⟨v', w', h1, h2, h3, _⟩ := run_append_own (P := P) w B t ty 5 i (.int .u8 0) 1 1 ht hi hz hsize hby rfl (by decide) v l.length (cellsOf l) hown ad m c (cellsOf s) (by simp [cellsOf, hsl])
        (fun j u hj => by
          have hjm : j < m := by
            have := (List.getElem?_eq_some_iff.1 hj).1
            simpa [cellsOf, hsl] using this
          obtain ⟨b, off, he, _, hc⟩ := hs.2.2.2.2 (by omega)
          cases he
          have e1 : (⟨b, off, none⟩ : Addr).add j = ⟨b, off + j, none⟩ := by simp [Addr.add]
          rw [e1, hc j hjm, ← hj, cellsOf_get (by omega)])
        (cellsOf_one s) (by unfold maxLen; omega) (by omega) hbase
      exact ⟨v', w', h1, h2, h3⟩
    | none =>
      have hc0 := hs.2.2.2.1 rfl
      have hm0 : m = 0 := by have := hs.2.1; omega
      subst hm0
      subst hc0
      obtain rfl : s = [] := List.eq_nil_of_length_eq_zero hsl
      exact ⟨v, w, run_append_owned_none (P := P) w B t ty 5 i 1 ht hi v l.length (cellsOf l) hown, by have h := hown; unfold Own at h; simpa [cellsOf] using h, World.grownBy.refl _ _⟩
  obtain ⟨v', w', h1, h2, h3⟩ := key
  have hO : Own w' B v' (l ++ s) := by
    unfold Own
    rw [cellsOf_append, List.length_append, hsl]
    exact h2
  obtain ⟨a', c', rfl, _⟩ := hO.shape
  have e : (l ++ s).length = l.length + m := by simp [hsl]
  rw [e] at h1 hO
  exact ⟨a', c', w', h1, hO, h3⟩

theorem wpList_append_row {P : Program} (w : World) {ops : Array Oper} {rest : List Oper} {o : Oper} {A : Act} {Q : Exit → Act → World → Prop} (hgd : o.guard = none) (s x : Operand) (t : TypeId)
    (ho : o.op = .call { callee := .builtin .append, args := #[s, x], argTypes := #[t, t] }) (B : Nat) (i : TypeInfo) (ht : P.underlying t = some (.slice 5)) (hi : P.info? 5 = some i) (hz : i.zero = some (.int .u8 0)) (hsize : i.size = 1) (hby : i.bytes = 1)
    (v : Value) (l : List UInt8) (n : Nat) (hn : l.length = n) (hs : A.eval s = v) (hown : Own w B v l) (a : Option Addr) (m c : Nat) (q : List UInt8) (hx : A.eval x = .slice a m c) (hq : Row w a m c q) (hb : n + m ≤ 140737488355328) (hbase : B ≤ w.heap.size)
    (h : ∀ a' c' w', Own w' B (.slice a' (n + m) c') (l ++ q) → w.grownBy w' v.ownBlock → wpList P ops Q rest (A.put o.dst (.slice a' (n + m) c')) w') : wpList P ops Q (o :: rest) A w := by
  subst hn
  refine wpList_plain hgd fun K hK => ?_
  obtain ⟨a', c', w', h1, h2, h3⟩ := append_row (P := P) w B t o.type i ht hi hz hsize hby v l hown a m c q hq hb hbase
  unfold Oper.wp execOp
  simp only [ho, resolve, invoke, builtin, Sem.run_bind, Sem.run_pure, Result.andThen_ok, List.map_toArray, List.map_cons, List.map_nil, hs, hx, h1]
  exact hK _ _ (h a' c' w' h2 h3)

theorem step_append_row {P : Program} {ops : Array Oper} {o : Oper} {A : Act} {w : World} {K : Act → World → Prop} {Q : Exit → Act → World → Prop} {E : Prop} (hgd : o.guard = none) (s x : Operand) (t : TypeId)
    (ho : o.op = .call { callee := .builtin .append, args := #[s, x], argTypes := #[t, t] }) (B : Nat) (i : TypeInfo) (ht : P.underlying t = some (.slice 5)) (hi : P.info? 5 = some i) (hz : i.zero = some (.int .u8 0)) (hsize : i.size = 1) (hby : i.bytes = 1)
    (v : Value) (l : List UInt8) (n : Nat) (hn : l.length = n) (hs : A.eval s = v) (hown : Own w B v l) (a : Option Addr) (m c : Nat) (q : List UInt8) (hx : A.eval x = .slice a m c) (hq : Row w a m c q) (hb : n + m ≤ 140737488355328) (hbase : B ≤ w.heap.size)
    (h : ∀ a' c' w', Own w' B (.slice a' (n + m) c') (l ++ q) → w.grownBy w' v.ownBlock → K (A.put o.dst (.slice a' (n + m) c')) w') :
    if Region.wanted o (yielded ops A.tmps) = true then Oper.wp P o A w K Q else E := by
  subst hn
  have hw : Region.wanted o (yielded ops A.tmps) = true := by simp [Region.wanted, hgd]
  rw [if_pos hw]
  obtain ⟨a', c', w', h1, h2, h3⟩ := append_row (P := P) w B t o.type i ht hi hz hsize hby v l hown a m c q hq hb hbase
  unfold Oper.wp execOp
  simp only [ho, resolve, invoke, builtin, Sem.run_bind, Sem.run_pure, Result.andThen_ok, List.map_toArray, List.map_cons, List.map_nil, hs, hx, h1]
  exact h a' c' w' h2 h3

theorem Own.below {w w' : World} {B : Nat} {v : Value} {l : List UInt8} (h : Own w B v l) (hb : Below w.heap.size w w') : Own w' B v l :=
  World.ownsRow.kept h (row := none) ⟨hb.os, hb.tape, hb.output, hb.size, fun k hk _ => hb.block k hk⟩ (by cases h' : v.ownBlock <;> simp)
theorem Own.lt {w : World} {B : Nat} {v : Value} {l : List UInt8} (h : Own w B v l) : ∀ k, v.ownBlock = some k → B ≤ k := fun k e => (World.ownsRow.lt h k e).1
theorem but_setRow (w : World) (g : Nat) (cs : Array Value) : But w.heap.size g w (w.setRow g cs) := ⟨rfl, rfl, rfl, by simp [World.setRow], fun k _ hk => setRow_other w g k cs (by omega)⟩

/-- 'copy' into a row of the call's own, as one step of a region; all other blocks stay. -/
theorem step_copy_but {P : Program} {ops : Array Oper} {o : Oper} {a : Act} {w : World} {K : Act → World → Prop} {Q : Exit → Act → World → Prop} {E : Prop} (hgd : o.guard = none) (d s : Operand) (dT sT : TypeId)
    (ho : o.op = .call { callee := .builtin .copy, args := #[d, s], argTypes := #[dT, sT] }) (elem : TypeId) (hu : P.underlying dT = some (.slice elem)) (hsz : (P.info? elem).map (·.size) = some 1)
    (dp sp : Option Addr) (dLen dCap sLen sCap : Nat) (hd : a.eval d = .slice dp dLen dCap) (hs : a.eval s = .slice sp sLen sCap)
    (g off : Nat) (cur : List Value) (t : TypeId) (hg : w.heap[g]? = some (.cells cur.toArray t (0, 0))) (cs : List Value) (hn : cs.length = Nat.min sLen dLen)
    (hpos : 0 < cs.length → dp = some ⟨g, off, none⟩ ∧ ∃ ad, sp = some ad ∧ ∀ j v, cs[j]? = some v → w.cell? (ad.add j) = some v)
    (hfit : off + cs.length ≤ cur.length) (h1 : ∀ v ∈ cs, v.oneCell' = true)
    (h : ∀ w', Hid (w'.heap[g]? = some (.cells (splice cur off cs).toArray t (0, 0))) → But w.heap.size g w w' → K (a.put o.dst (goInt cs.length)) w') :
    if Region.wanted o (yielded ops a.tmps) = true then Oper.wp P o a w K Q else E := by
  have hw : Region.wanted o (yielded ops a.tmps) = true := by simp [Region.wanted, hgd]
  rw [if_pos hw]
  by_cases h0 : cs.length = 0
  · obtain rfl : cs = [] := List.eq_nil_of_length_eq_zero h0
    have hrun := run_copy_none (P := P) w dT sT o.type elem dp sp dLen dCap sLen sCap hu hsz (by simpa using hn.symm)
    unfold Oper.wp
    simp [execOp, ho, resolve, invoke, builtin, hd, hs, hrun, Result.andThen]
    exact h w (show _ = _ by simpa [splice] using hg) (But.refl _ _ _)
  · obtain ⟨rfl, ad, rfl, hsrc⟩ := hpos (by omega)
    have hrun := run_copy_row (P := P) w dT sT o.type elem g off dLen dCap ad sLen sCap cur.toArray t cs hu hsz hg hn hsrc (by simpa using hfit) h1
    unfold Oper.wp
    simp [execOp, ho, resolve, invoke, builtin, hd, hs, hrun, Result.andThen]
    exact h _ (show _ = _ by simpa [splice] using setRow_heap w g _ _ t _ hg) (but_setRow w g _)

theorem row_copy {w : World} {a : Option Addr} {n c : Nat} {l : List UInt8} (h : Row w a n c l) (h0 : 0 < (cellsOf l).length) : ∃ ad, a = some ad ∧ ∀ j v, (cellsOf l)[j]? = some v → w.cell? (ad.add j) = some v := by
  have hl := h.1
  rw [cellsOf, List.length_map] at h0
  obtain ⟨b, off, rfl, _, hc⟩ := h.2.2.2.2 (by omega)
  refine ⟨_, rfl, fun j v hj => ?_⟩
  have hjl : j < l.length := by
    have := (List.getElem?_eq_some_iff.1 hj).1
    simpa [cellsOf] using this
  rw [cellsOf_get hjl] at hj
  have e1 : (⟨b, off, none⟩ : Addr).add j = ⟨b, off + j, none⟩ := by simp [Addr.add]
  rw [e1, hc j (by omega), ← hj]
end Go.Proofs.YtlnenkmcegadmaaDoor
namespace Go.Proofs.YtlnenkmcegadmaaDoor
open Go.RowKit

/-- 'string(b)'. -/
theorem conv_row {w : World} {a : Option Addr} {n c : Nat} {l : List UInt8} (h : Row w a n c l) : (convert 45 9 (.slice a n c)).run Tryd.prog w = .ok (.string ⟨l.toArray⟩) w := by
  have hl := h.1
  cases a with
  | some x =>
    subst hl
    refine run_convert_bytes_back w 45 9 5 x c l Tryd.underlying45 Tryd.underlying5 Tryd.underlying9 (fun j hj => ?_)
    obtain ⟨b, off, he, _, hc⟩ := h.2.2.2.2 (by omega)
    cases he
    have e1 : (⟨b, off, none⟩ : Addr).add j = ⟨b, off + j, none⟩ := by simp [Addr.add]
    rw [e1, hc j hj]
    simp [List.getD, hj]
  | none =>
    have hc := h.2.2.2.1 rfl
    have hn : n = 0 := by have := h.2.1; omega
    subst hn
    obtain rfl : l = [] := List.eq_nil_of_length_eq_zero hl
    exact run_convert_bytes_nil w 45 5 Tryd.underlying45 Tryd.underlying5 0 c 9 Tryd.underlying9
end Go.Proofs.YtlnenkmcegadmaaDoor
namespace Go.Proofs.YtlnenkmcegadmaaDoor
open Go.RowKit

theorem Tryd.size5 : (Tryd.prog.info? 5).map (·.size) = some 1 := by kernel_rfl
theorem cellsOf_len (l : List UInt8) : (cellsOf l).length = l.length := by simp [cellsOf]
theorem Tryd.size23 : (Tryd.prog.info? 23).map (·.size) = some 32 := by kernel_rfl
/-- A block that holds bytes, as a slice of all of them. -/
theorem row_all {w : World} {g : Nat} {l : List UInt8} {t : TypeId} {fr : Nat × Nat} (hg : w.heap[g]? = some (.cells (cellsOf l).toArray t fr)) (n : Nat) (hn : n = l.length) (hm : n ≤ 1000) : Row w (some ⟨g, 0, none⟩) n n l :=
  row_new hn.symm (Nat.le_refl _) (by unfold maxLen; omega) _ t hg (fun j hj => cellsOf_get (by omega))
def zero32 : List UInt8 := List.replicate 32 0
theorem zero32_is : (cellsOf zero32).toArray = #[.int .u8 0, .int .u8 0, .int .u8 0, .int .u8 0, .int .u8 0, .int .u8 0, .int .u8 0, .int .u8 0, .int .u8 0, .int .u8 0, .int .u8 0, .int .u8 0, .int .u8 0, .int .u8 0, .int .u8 0, .int .u8 0, .int .u8 0, .int .u8 0, .int .u8 0, .int .u8 0, .int .u8 0, .int .u8 0, .int .u8 0, .int .u8 0, .int .u8 0, .int .u8 0, .int .u8 0, .int .u8 0, .int .u8 0, .int .u8 0, .int .u8 0, .int .u8 0] := rfl
end Go.Proofs.YtlnenkmcegadmaaDoor
namespace Go.Proofs.YtlnenkmcegadmaaDoor
open Go.RowKit

theorem Tryd.cells5 : Tryd.prog.cellsOf 5 = 1 := by kernel_rfl
theorem Tryd.plain5 : Tryd.prog.plainKey 5 = true := by kernel_rfl
theorem Tryd.info5 : (Tryd.prog.info? 5).map (fun i => (i.zero, i.size, i.bytes)) = some (some (.int .u8 0), 1, 1) := by kernel_rfl
set_option maxRecDepth 100000 in
theorem run_eqItems_bytes (d : Nat) (s t : List UInt8) (W : World) : ∀ is : List Nat, (∀ i ∈ is, i < s.length ∧ i < t.length) →
    (Op.eqItems (d + 1) 5 1 (cellsOf s).toArray (cellsOf t).toArray is).run Tryd.prog W = .ok (decide (∀ i ∈ is, s.getD i 0 = t.getD i 0)) W
  | [], _ => by simp [Op.eqItems]
  | i :: is, h => by
    have hi := h i (by simp)
    have ih := run_eqItems_bytes d s t W is (fun j hj => h j (by simp [hj]))
    have p1 : (part 5 (cellsOf s).toArray (i * 1)).run Tryd.prog W = .ok (.int .u8 (((s.getD i 0).toNat : Nat) : Int)) W := run_part_plain W Tryd.plain5 (by rw [Nat.mul_one]; simpa using cellsOf_get hi.1)
    have p2 : (part 5 (cellsOf t).toArray (i * 1)).run Tryd.prog W = .ok (.int .u8 (((t.getD i 0).toNat : Nat) : Int)) W := run_part_plain W Tryd.plain5 (by rw [Nat.mul_one]; simpa using cellsOf_get hi.2)
    have p3 := run_equalIn_int (P := Tryd.prog) W d 5 .u8 .u8 (((s.getD i 0).toNat : Nat) : Int) (((t.getD i 0).toNat : Nat) : Int) Tryd.underlying5
    simp only [Op.eqItems, Sem.run_bind, p1, p2, p3, Result.andThen_ok]
    by_cases e : s.getD i 0 = t.getD i 0
    · rw [show ((((s.getD i 0).toNat : Nat) : Int) == (((t.getD i 0).toNat : Nat) : Int)) = true by rw [e]; simp]
      simp only [Bool.not_true, Bool.false_eq_true, if_false]
      rw [ih]
      congr 1
      simp only [List.forall_mem_cons, e, true_and]
    · have hne : (((((s.getD i 0).toNat : Nat) : Int)) == (((t.getD i 0).toNat : Nat) : Int)) = false := by
        apply beq_eq_false_iff_ne.2
        intro h'
        apply e
        apply UInt8.toNat_inj.1
        omega
      rw [hne]
      simp only [Bool.not_false, if_true, Sem.run_pure]
      congr 1
      simp only [List.forall_mem_cons, e, false_and, decide_false]
theorem bytes_eq (s t : List UInt8) (hl : s.length = t.length) (h : ∀ i, i < s.length → s.getD i 0 = t.getD i 0) : s = t := by
  apply List.ext_getElem hl
  intro i h1 h2
  have := h i h1
  simpa [List.getD, h1, h2] using this
set_option maxRecDepth 100000 in
theorem run_eqSums (s t : List UInt8) (hs : s.length = 32) (ht : t.length = 32) (W : World) : (Op.equalIn 10000 23 (.agg (cellsOf s).toArray) (.agg (cellsOf t).toArray)).run Tryd.prog W = .ok (decide (s = t)) W := by
  obtain ⟨i0, hi, _⟩ := info_parts Tryd.info5
  have h := run_equalIn_array (P := Tryd.prog) W 9999 (cellsOf s).toArray (cellsOf t).toArray Tryd.underlying23 hi
  rw [Tryd.cells5] at h
  rw [h, run_eqItems_bytes 9998 s t W _ (fun i hi => by rw [List.mem_range] at hi; omega)]
  congr 1
  rw [decide_eq_decide]
  constructor
  · intro h
    exact bytes_eq s t (by omega) (fun i hi => h i (by rw [List.mem_range]; omega))
  · rintro rfl i _
    rfl
end Go.Proofs.YtlnenkmcegadmaaDoor
namespace Go.Proofs.YtlnenkmcegadmaaDoor
open Go.RowKit

/-- Take number 'i' first, its slot named: so the frame stays written out. -/
theorem take_at {P : Program} {ops : Array Oper} {Q : Exit → Act → World → Prop} {md : Region.Mode} {S : World → Prop} {i d : Nat} {oi : Oper} {v : Value} {fuel : Nat} {listed : Array Bool} {tmps : Array Value} {ds : List Deferred} {w : World} (hi : ops[i]? = some oi) (hd : oi.dst = some d)
    (hs : Region.noSelect ops = true) (hf : Region.free md ops listed i = true) (hr : (Region.ready md ops listed).contains i = true)
    (hQ : ∀ c (a : Act) w, Q (.panic c) { a with tmps := a.tmps.setIfInBounds d v } w → Q (.panic c) a w) (hy : YieldsIf P ops S oi v { tmps := tmps, defers := ds }) (hS : S w)
    (h : wpAnyH P md ops Q S fuel (listed.setIfInBounds i true) { tmps := tmps.setIfInBounds d v, defers := ds } w) : wpAnyH P md ops Q S (fuel + 1) listed { tmps := tmps, defers := ds } w := by
  refine wpAnyH_take hi hs hf hr (fun c a w hh => hQ c a w ?_) hy hS ?_
  · rw [hd] at hh; exact hh
  · rw [hd]; exact h
section
variable {ops : Array Oper} {S : World → Prop} {op : Oper} {a : Act}
/-- A load of one cell, taken first. -/
theorem yields_cell {P : Program} {ty : TypeId} {x : Operand} {b o : Nat} {v : Value} (hw : Region.wanted op (yielded ops a.tmps) = true) (ho : op.op = .load ty x) (hx : a.eval x = .pointer (some ⟨b, o, none⟩)) (hS : ∀ w, S w → w.cell? ⟨b, o, none⟩ = some v) (hag : ∀ w : World, (isAgg ty).run P w = .ok false w) :
    YieldsIf P ops S op v a :=
  .inl ⟨hw, fun w hw' => by
    have h := hS w hw'
    unfold execOp
    simp [ho, hx, Instr.loadAt, Instr.sureAddr, loadVar, hag w, h]⟩
end
end Go.Proofs.YtlnenkmcegadmaaDoor
namespace Go.Proofs.YtlnenkmcegadmaaDoor
open Go.RowKit

theorem step_cell {P : Program} {ops : Array Oper} {o : Oper} {tmps : Array Value} {ds : List Deferred} {w : World} {K : Act → World → Prop} {Q : Exit → Act → World → Prop} {E : Prop} {d : Nat} (hd : o.dst = some d) (hw : Region.wanted o (yielded ops tmps) = true) (ty : TypeId) (x : Operand) (ho : o.op = .load ty x) (b off : Nat)
    (hx : (Act.eval { tmps := tmps, defers := ds } x) = .pointer (some ⟨b, off, none⟩)) (v : Value) (hc : w.cell? ⟨b, off, none⟩ = some v) (hag : (isAgg ty).run P w = .ok false w)
    (h : K { tmps := tmps.setIfInBounds d v, defers := ds } w) :
    if Region.wanted o (yielded ops tmps) = true then Oper.wp P o { tmps := tmps, defers := ds } w K Q else E := by
  rw [if_pos hw]
  have hrun : (loadVar ty ⟨b, off, none⟩).run P w = .ok v w := by simp [loadVar, hag, hc]
  unfold Oper.wp execOp
  simp only [ho, hx, Instr.loadAt, Instr.sureAddr, Sem.run_bind, Sem.run_pure, Result.andThen_ok, hrun]
  show K (Act.put _ o.dst _) _
  rw [hd]
  exact h
theorem run_store_cell {P : Program} (w : World) (b off : Nat) (ty : TypeId) (old v : Value) (hc : w.cell? ⟨b, off, none⟩ = some old) (hf : w.frozen? ⟨b, off, none⟩ = false) (hi : (P.info? ty).map (·.size) = some 1) (h1 : v.oneCell' = true) : (storeVar ty ⟨b, off, none⟩ v).run P w = .ok () (w.setCell ⟨b, off, none⟩ v) := by
  have hv : v.cells = #[v] := by cases v <;> first | rfl | cases h1
  cases hq : P.info? ty with
  | none => simp [hq] at hi
  | some i =>
    have hs : i.size = 1 := by simpa [hq] using hi
    have e : (⟨b, off, none⟩ : Addr).add 0 = ⟨b, off, none⟩ := by simp [Addr.add]
    simp [storeVar, sizeOf, typeInfo, hq, hv, hs, storeCells, run_store P w _ v _ h1, hc, hf, e]
theorem step_store_cell {P : Program} {ops : Array Oper} {o : Oper} {a : Act} {w : World} {K : Act → World → Prop} {Q : Exit → Act → World → Prop} {E : Prop} (hw : Region.wanted o (yielded ops a.tmps) = true) (ty : TypeId) (x y : Operand) (ho : o.op = .store ty x y) (b off : Nat)
    (hx : a.eval x = .pointer (some ⟨b, off, none⟩)) (v : Value) (hy : a.eval y = v) (old : Value) (hc : w.cell? ⟨b, off, none⟩ = some old) (hf : w.frozen? ⟨b, off, none⟩ = false) (hi : (P.info? ty).map (·.size) = some 1) (h1 : v.oneCell' = true)
    (h : K (a.put o.dst undef) (w.setCell ⟨b, off, none⟩ v)) :
    if Region.wanted o (yielded ops a.tmps) = true then Oper.wp P o a w K Q else E := by
  rw [if_pos hw]
  unfold Oper.wp execOp
  simp only [ho, hx, hy, Instr.storeAt, Instr.sureAddr, Sem.run_bind, Sem.run_pure, Result.andThen_ok, run_store_cell w b off ty old v hc hf hi h1]
  exact h
end Go.Proofs.YtlnenkmcegadmaaDoor
namespace Go.Proofs.YtlnenkmcegadmaaDoor
open Go.RowKit

/-- 'string(b)', taken first. -/
theorem yields_conv {ops : Array Oper} {S : World → Prop} {op : Oper} {A : Act} {x : Operand} {a : Option Addr} {n c : Nat} {l : List UInt8} {bs : ByteArray} (hw : Region.wanted op (yielded ops A.tmps) = true) (ho : op.op = .convert 45 9 x) (hx : A.eval x = .slice a n c) (hb : (⟨l.toArray⟩ : ByteArray) = bs) (h : ∀ w, S w → Row w a n c l) :
    YieldsIf Tryd.prog ops S op (.string bs) A :=
  .inl ⟨hw, fun w hS => by
    have hc := conv_row (h w hS)
    rw [hb] at hc
    unfold execOp
    simp only [ho, hx, Sem.run_bind, hc, Result.andThen_ok, Sem.run_pure]⟩
theorem step_conv {ops : Array Oper} {o : Oper} {tmps : Array Value} {ds : List Deferred} {w : World} {K : Act → World → Prop} {Q : Exit → Act → World → Prop} {E : Prop} {d : Nat} {x : Operand} {a : Option Addr} {n c : Nat} {l : List UInt8} {bs : ByteArray} (hd : o.dst = some d) (hw : Region.wanted o (yielded ops tmps) = true) (ho : o.op = .convert 45 9 x)
    (hx : Act.eval { tmps := tmps, defers := ds } x = .slice a n c) (hb : (⟨l.toArray⟩ : ByteArray) = bs) (hr : Row w a n c l)
    (h : K { tmps := tmps.setIfInBounds d (.string bs), defers := ds } w) :
    if Region.wanted o (yielded ops tmps) = true then Oper.wp Tryd.prog o { tmps := tmps, defers := ds } w K Q else E := by
  rw [if_pos hw]
  have hc := conv_row hr
  rw [hb] at hc
  unfold Oper.wp execOp
  simp only [ho, hx, Sem.run_bind, hc, Result.andThen_ok, Sem.run_pure]
  show K (Act.put _ o.dst _) _
  rw [hd]
  exact h
end Go.Proofs.YtlnenkmcegadmaaDoor
namespace Go.Proofs.YtlnenkmcegadmaaDoor
open Go.RowKit

theorem heap_alloc_at (w : World) (o : Obj) (n : Nat) (h : w.heap.size = n) : (w.alloc o).heap[n]? = some o := by
  subst h; exact heap_alloc_new w o
theorem there_of {w : World} {b n : Nat} {cs : List Value} {t : TypeId} (h : w.heap[b]? = some (.cells cs.toArray t (0, 0))) (hn : cs.length = n) : w.there b 0 n := fun j hj => by
  rw [Nat.zero_add, cell_of_row w b j _ t _ h]
  refine ⟨?_, frozen_of_row w b j _ t h⟩
  simp [show j < cs.length by omega]
theorem range_of {w : World} {b : Nat} {cs : List Value} {t : TypeId} {fr : Nat × Nat} (h : w.heap[b]? = some (.cells cs.toArray t fr)) : w.rangeAt b 0 cs := fun j v hv => by
  rw [Nat.zero_add, cell_of_row w b j _ t fr h]
  simpa using hv
theorem below_setCells {B b : Nat} {w0 : World} (hB : B ≤ b) : ∀ (vs : List Value) (o : Nat) (w : World), Below B w0 w → Below B w0 (w.setCells b o vs)
  | [], _, _, h => h
  | v :: vs, o, w, h => below_setCells hB vs (o + 1) (w.setCell ⟨b, o, none⟩ v) (h.setCell hB v)
/-- A result that lies in a block, told by its cells. -/
theorem results_cell_range {P : Program} {fn : Func} {p : Tmp} {ty : TypeId} (h : fn.results = #[.cell p ty]) (tmps : Array Value) (w : World) (g : Nat) (cs : List Value) (d : TypeDesc)
    (hp : tmps.getD p undef = .pointer (some ⟨g, 0, none⟩)) (hg : w.rangeAt g 0 cs)
    (hu : P.underlying ty = some d) (hd : d.isRow = true) (hi : (P.info? ty).map (·.size) = some cs.length) :
    (results fn tmps).run P w = .ok (.agg cs.toArray) w := by
  have hp' : tmps[p]?.getD undef = .pointer (some ⟨g, 0, none⟩) := by simpa using hp
  simp [results, h, hp', asAddr, run_loadVar_mid w g 0 ty cs d hg hu hd hi]
theorem below_drew {B : Nat} {w w' : World} (h : Below B w w') : Below B w w'.drew := ⟨h.os, h.tape, h.output, h.size, h.block⟩
theorem rangeAt_below {w w' : World} {b o : Nat} {cs : List Value} (h : w.rangeAt b o cs) (hb : b < w.heap.size) (hw : Below w.heap.size w w') : w'.rangeAt b o cs :=
  fun j v hv => (hw.cell (p := ⟨b, o + j, none⟩) hb).trans (h j v hv)
theorem rangeAt_but {w w' : World} {p b o : Nat} {cs : List Value} (h : w.rangeAt b o cs) (hb : b < w.heap.size) (hne : b ≠ p) (hw : But w.heap.size p w w') : w'.rangeAt b o cs :=
  fun j v hv => (hw.cell (a := ⟨b, o + j, none⟩) hb hne).trans (h j v hv)
/-- A sum and a bool are told. -/
theorem results_cell_then {P : Program} {fn : Func} {p q : Tmp} {ty : TypeId} (h : fn.results = #[.cell p ty, .tmp q]) (tmps : Array Value) (w : World) (g : Nat) (t : TypeId) (cs : Array Value) (fr : Nat × Nat) (d : TypeDesc) (v : Value)
    (hp : tmps.getD p undef = .pointer (some ⟨g, 0, none⟩)) (hv : tmps.getD q undef = v) (hg : w.heap[g]? = some (.cells cs t fr))
    (hu : P.underlying ty = some d) (hd : (match d with | .struct _ | .array _ _ => true | _ => false) = true) (hi : (P.info? ty).map (·.size) = some cs.size) :
    (results fn tmps).run P w = .ok (.tuple #[.agg cs, v]) w := by
  have hp' : tmps[p]?.getD undef = .pointer (some ⟨g, 0, none⟩) := by simpa using hp
  have hv' : tmps[q]?.getD undef = v := by simpa using hv
  simp [results, h, hp', hv', asAddr, run_loadVar_row w g t ty cs fr d hg hu hd hi]
end Go.Proofs.YtlnenkmcegadmaaDoor
namespace Go.Proofs.YtlnenkmcegadmaaDoor
open Go.RowKit

/-- A world with one sum more. -/
def laySum (w : World) (d : List UInt8) : World := (w.alloc (.cells (cellsOf zero32).toArray 23)).setRow w.heap.size (cellsOf d).toArray
theorem laySum_is (w : World) (d : List UInt8) : (w.alloc (.cells (cellsOf zero32).toArray 23)).setRow w.heap.size (cellsOf d).toArray = laySum w d := rfl
theorem laySum_heap (w : World) (d : List UInt8) : (laySum w d).heap[w.heap.size]? = some (.cells (cellsOf d).toArray 23 (0, 0)) := setRow_heap _ _ _ _ _ _ (heap_alloc_new _ _)
theorem laySum_below {w0 w : World} (d : List UInt8) (hb : Below w0.heap.size w0 w) : Below w0.heap.size w0 (laySum w d) := by
  have b : Below w0.heap.size w0 (w.alloc (.cells (cellsOf zero32).toArray 23)) := hb.alloc hb.size _
  exact b.trans (((but_setRow _ w.heap.size _).mono b.size).below hb.size)
theorem laySum_self (w : World) (d : List UInt8) : Below w.heap.size w (laySum w d) := laySum_below d (Below.refl _ _)
theorem laySum_size (w : World) (d : List UInt8) : (laySum w d).heap.size = w.heap.size + 1 := by simp [laySum, World.setRow]
theorem size_of {d : List UInt8} (h : d.length = 32) : (Tryd.prog.info? 23).map (·.size) = some (cellsOf d).toArray.size := by rw [List.size_toArray, cellsOf_len, h]; exact Tryd.size23
theorem zero_of {d : List UInt8} (h : d.length = 32) : (cellsOf zero32).toArray.size = (cellsOf d).toArray.size := by rw [List.size_toArray, List.size_toArray, cellsOf_len, cellsOf_len, h]; rfl
end Go.Proofs.YtlnenkmcegadmaaDoor
namespace Go.Proofs.YtlnenkmcegadmaaDoor
open Go.RowKit

theorem Tryd.bytes3 : (Tryd.prog.info? 5).map (fun i => (i.zero, i.size, i.bytes)) = some (some (.int .u8 0), 1, 1) := by kernel_rfl
/-- A row under way, all that was there at w0 unchanged. -/
structure Under (w0 : World) (u : Value) (l : List UInt8) (wr : World) : Prop where
  own : Own wr w0.heap.size u l
  below : Below w0.heap.size w0 wr
theorem Under.more {w0 w w' : World} {u : Value} {l : List UInt8} (h : Under w0 u l w) (hb : Below w.heap.size w w') : Under w0 u l w' :=
  ⟨h.own.below hb, h.below.trans (hb.mono h.below.size)⟩
theorem Under.grown {w0 w w' : World} {a a' : Option Addr} {n c n' c' : Nat} {l m : List UInt8} (h : Under w0 (.slice a n c) l w) (ho : Own w' w0.heap.size (.slice a' n' c') m) (hg : w.grownBy w' (Value.ownBlock (.slice a n c))) : Under w0 (.slice a' n' c') m w' :=
  ⟨ho, h.below.trans ⟨hg.os, hg.tape, hg.output, hg.size, fun k hk => hg.block k (Nat.lt_of_lt_of_le hk h.below.size) (fun e => by have := h.own.lt k e.symm; omega)⟩⟩
theorem Under.begun {w0 w1 : World} {c : Nat} (ho : w1.ownsRow w0.heap.size 5 1 (.slice (some ⟨w0.heap.size, 0, none⟩) 0 c) 0 []) (hg : w0.grownBy w1 none) : Under w0 (.slice (some ⟨w0.heap.size, 0, none⟩) 0 c) [] w1 :=
  ⟨ho, ⟨hg.os, hg.tape, hg.output, hg.size, fun k hk => hg.block k hk (by simp)⟩⟩
theorem Under.none (w0 : World) : Under w0 (.slice none 0 0) [] w0 := ⟨World.ownsRow_nil w0 _ _ _, Below.refl _ _⟩
theorem Under.shape {w0 w : World} {u : Value} {l : List UInt8} {F : Nat} (h : Under w0 u l w) (hF : l.length = F) : ∃ a c, u = .slice a F c := by
  obtain ⟨a, c, rfl, _⟩ := h.own.shape
  exact ⟨a, c, by rw [hF]⟩
theorem Under.row {w0 w : World} {a : Option Addr} {n c : Nat} {l : List UInt8} (h : Under w0 (.slice a n c) l w) : Row w a n c l := h.own.row
/-- A sum that was laid into the newest block reads as a row. -/
theorem laySum_row (w : World) {d : List UInt8} (hd : d.length = 32) : Row (laySum w d) (some ⟨w.heap.size, 0, none⟩) 32 32 d := row_all (laySum_heap w d) 32 hd.symm (by omega)
/-- A row that lies in no block of the grown slice reads as it read. -/
theorem Row.grown {w w' : World} {b o n c : Nat} {ob : Option Nat} {l : List UInt8} (h : Row w (some ⟨b, o, none⟩) n c l) (hg : w.grownBy w' ob) (hne : ∀ k, ob = some k → k < b) : Row w' (some ⟨b, o, none⟩) n c l := by
  obtain ⟨h1, h2, h3, h4, h5⟩ := h
  refine ⟨h1, h2, h3, h4, fun h0 => ?_⟩
  obtain ⟨b', off, e, hlt, hc⟩ := h5 h0
  cases e
  refine ⟨b, o, rfl, Nat.lt_of_lt_of_le hlt hg.size, fun j hj => ?_⟩
  rw [← hc j hj]
  exact World.cell?_of_block (a := ⟨b, o + j, none⟩) (hg.block b hlt (fun e => by have := hne b e.symm; omega))
theorem Under.old {w0 w : World} {u : Value} {l : List UInt8} (h : Under w0 u l w) : ∀ k, u.ownBlock = some k → k < w.heap.size := fun k e => (World.ownsRow.lt h.own k e).2
end Go.Proofs.YtlnenkmcegadmaaDoor
namespace Go.Proofs.YtlnenkmcegadmaaDoor
open Go.RowKit

theorem Tryd.zeroRow : (Tryd.prog.info? 45).map (fun i => (i.zero, i.size, i.bytes)) = some (some (.slice none 0 0), 1, 24) := by kernel_rfl
theorem Tryd.zeroByte : (Tryd.prog.info? 5).map (fun i => (i.zero, i.size, i.bytes)) = some (some (.int .u8 0), 1, 1) := by kernel_rfl
/-- A slice literal of one byte, in a region. -/
theorem step_byte1_gen {ops : Array Oper} {o : Oper} {tmps : Array Value} {ds : List Deferred} {w : World} {K : Act → World → Prop} {Q : Exit → Act → World → Prop} {E : Prop} {d : Nat} {x : Operand} {b : UInt8} {z : Int} (hd : o.dst = some d) (hw : Region.wanted o (yielded ops tmps) = true) (ho : o.op = .buildSlice 45 1 #[(0, x)])
    (hx : Act.eval { tmps := tmps, defers := ds } x = .int .u8 z) (hz : ((b.toNat : Nat) : Int) = z)
    (h : ∀ (p : Nat) (w' : World), w.heap.size ≤ p → Row w' (some ⟨p, 0, none⟩) 1 1 [b] → Below w.heap.size w w' → K { tmps := tmps.setIfInBounds d (.slice (some ⟨p, 0, none⟩) 1 1), defers := ds } w') :
    if Region.wanted o (yielded ops tmps) = true then Oper.wp Tryd.prog o { tmps := tmps, defers := ds } w K Q else E := by
  rw [if_pos hw]
  obtain ⟨ie, h1, h2, h3, _⟩ := info_parts Tryd.zeroByte
  have hrun : (Instr.buildSlice 45 1 #[(0, .int .u8 z)]).run Tryd.prog w = .ok (.slice (some ⟨w.heap.size, 0, none⟩) 1 1) (w.alloc (.cells #[.int .u8 z] 5)) :=
    run_buildSlice w 45 5 1 _ _ ie _ Tryd.underlying45 h1 h2 (by rw [h3]; omega) (by rw [h3]; omega) (by rw [h3]; simp [Instr.fill, Value.cells]; rw [show Array.range 1 = #[0] by rfl]; simp)
  unfold Oper.wp execOp
  simp only [ho, List.map_toArray, List.map_cons, List.map_nil, hx, Sem.run_bind, hrun, Sem.run_pure, Result.andThen_ok]
  show K (Act.put _ o.dst _) _
  rw [hd]
  refine h _ _ (Nat.le_refl _) (row_all (l := [b]) (t := 5) (fr := (0, 0)) ?_ 1 rfl (by omega)) ((Below.refl _ _).alloc (Nat.le_refl _) _)
  rw [show (cellsOf [b]).toArray = #[.int .u8 z] by rw [← hz]; rfl]
  exact heap_alloc_new _ _
/-- A slice literal of two slices of bytes, in a region. -/
theorem step_rows2_gen {ops : Array Oper} {o : Oper} {tmps : Array Value} {ds : List Deferred} {w : World} {K : Act → World → Prop} {Q : Exit → Act → World → Prop} {E : Prop} {d : Nat} {x y : Operand} {a1 a2 : Option Addr} {n1 n2 c1 c2 : Nat} (hd : o.dst = some d) (hw : Region.wanted o (yielded ops tmps) = true) (ho : o.op = .buildSlice 88 2 #[(0, x), (1, y)])
    (hx : Act.eval { tmps := tmps, defers := ds } x = .slice a1 n1 c1) (hy : Act.eval { tmps := tmps, defers := ds } y = .slice a2 n2 c2)
    (h : ∀ (p : Nat) (w' : World), w.heap.size ≤ p → w'.heap[p]? = some (.cells #[.slice a1 n1 c1, .slice a2 n2 c2] 45 (0, 0)) → Below w.heap.size w w' → K { tmps := tmps.setIfInBounds d (.slice (some ⟨p, 0, none⟩) 2 2), defers := ds } w') :
    if Region.wanted o (yielded ops tmps) = true then Oper.wp Tryd.prog o { tmps := tmps, defers := ds } w K Q else E := by
  rw [if_pos hw]
  obtain ⟨ie, h1, h2, h3, _⟩ := info_parts Tryd.zeroRow
  have hrun : (Instr.buildSlice 88 2 #[(0, .slice a1 n1 c1), (1, .slice a2 n2 c2)]).run Tryd.prog w = .ok (.slice (some ⟨w.heap.size, 0, none⟩) 2 2) (w.alloc (.cells #[.slice a1 n1 c1, .slice a2 n2 c2] 45)) :=
    run_buildSlice w 88 45 2 _ _ ie _ Tryd.underlying88 h1 h2 (by rw [h3]; omega) (by rw [h3]; omega) (by rw [h3]; simp [Instr.fill, Value.cells]; rw [show Array.range 2 = #[0, 1] by rfl]; simp)
  unfold Oper.wp execOp
  simp only [ho, List.map_toArray, List.map_cons, List.map_nil, hx, hy, Sem.run_bind, hrun, Sem.run_pure, Result.andThen_ok]
  show K (Act.put _ o.dst _) _
  rw [hd]
  exact h _ _ (Nat.le_refl _) (heap_alloc_new _ _) ((Below.refl _ _).alloc (Nat.le_refl _) _)
end Go.Proofs.YtlnenkmcegadmaaDoor
namespace Go.Proofs.YtlnenkmcegadmaaDoor
open Go.RowKit

theorem nrmA {α : Type} (l : List α) (i : Nat) (a : α) : l.toArray.setIfInBounds i a = (l.set i a).toArray := by simp
theorem nrmB {α : Type} {x a : α} {xs : List α} : (x :: xs).set 0 a = a :: xs := rfl
theorem nrmC {α : Type} {x a : α} {n : Nat} {xs : List α} : (x :: xs).set (n + 1) a = x :: xs.set n a := rfl
section
variable {P : Program} {ops : Array Oper} {Q : Exit → Act → World → Prop} {md : Region.Mode} {S : World → Prop} {d : Nat} {oi : Oper} {v : Value} {fuel : Nat} {listed : Array Bool} {tmps t2 : Array Value} {ds : List Deferred} {a : Act} {w : World}
/-- As take_at, its arguments laid by themselves. -/
theorem tkA (i : Nat) (hi : ops[i]? = some oi) (hd : oi.dst = some d) (hy : YieldsIf P ops S oi v { tmps := tmps, defers := ds })
    (h : wpAnyH P md ops Q S fuel (listed.setIfInBounds i true) { tmps := t2, defers := ds } w)
    (hs : Region.noSelect ops = true := by kernel_rfl) (hf : Region.free md ops listed i = true := by kernel_rfl) (hr : (Region.ready md ops listed).contains i = true := by kernel_rfl)
    (hQ : ∀ c (a : Act) w, Q (.panic c) { a with tmps := a.tmps.setIfInBounds d v } w → Q (.panic c) a w := by exact fun _ _ _ h => h)
    (hS : S w := by assumption) (ht : tmps.setIfInBounds d v = t2 := by (simp only [nrmA, nrmB, nrmC]; rfl)) : wpAnyH P md ops Q S (fuel + 1) listed { tmps := tmps, defers := ds } w :=
  take_at hi hd hs hf hr hQ hy hS (by rw [ht]; exact h)
/-- A pure operation, its value reckoned. -/
theorem tkP (i : Nat) (hi : ops[i]? = some oi) (hd : oi.dst = some d)
    (h : wpAnyH P md ops Q S fuel (listed.setIfInBounds i true) { tmps := t2, defers := ds } w)
    (hw : Region.wanted oi (yielded ops tmps) = true := by rfl)
    (hx : ∀ w, S w → (execOp (Act.eval { tmps := tmps, defers := ds }) oi).run P w = .ok (.value v) w := by (intro w0 hSw; (try dsimp only at hSw); first | (go_simp; done) | (go_simp; with_reducible rfl) | (go_simp; omega)))
    (hs : Region.noSelect ops = true := by kernel_rfl) (hf : Region.free md ops listed i = true := by kernel_rfl) (hr : (Region.ready md ops listed).contains i = true := by kernel_rfl)
    (hQ : ∀ c (a : Act) w, Q (.panic c) { a with tmps := a.tmps.setIfInBounds d v } w → Q (.panic c) a w := by exact fun _ _ _ h => h)
    (hS : S w := by assumption) (ht : tmps.setIfInBounds d v = t2 := by (simp only [nrmA, nrmB, nrmC]; rfl)) : wpAnyH P md ops Q S (fuel + 1) listed { tmps := tmps, defers := ds } w :=
  take_at hi hd hs hf hr hQ (Or.inl ⟨hw, hx⟩) hS (by rw [ht]; exact h)
/-- One operation alone is ready. -/
theorem tkR (i : Nat) {o : Oper} (ho : ops[i]? = some o)
    (h : ∀ K' : Act → World → Prop, Shut (∀ a w, S w → (S w → wpAnyH P md ops Q S fuel (listed.setIfInBounds i true) a w) → K' a w) → if Region.wanted o (yielded ops a.tmps) = true then Oper.wp P o a w K' Q else K' (a.put o.dst undef) w)
    (hr : Region.ready md ops listed = [i] := by kernel_rfl) : wpAnyH P md ops Q S (fuel + 1) listed a w :=
  wpAnyH_ready hr (by simp) (AllReadyH.cons ho h AllReadyH.nil)
end
end Go.Proofs.YtlnenkmcegadmaaDoor
