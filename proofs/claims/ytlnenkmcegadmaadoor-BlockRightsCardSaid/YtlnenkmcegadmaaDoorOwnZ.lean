/- Slices of numbers of 64 bits of the call's own, that grow by append. No function of the program is named. -/
import Derived.Test.YtlnenkmcegadmaaDoorNumbers
namespace Go.Proofs.YtlnenkmcegadmaaDoor
open Go.RowKit

def cellsZ (zs : List Int) : List Value := zs.map fun z => .int .i64 z
theorem cellsZ_len (zs : List Int) : (cellsZ zs).length = zs.length := by simp [cellsZ]
theorem cellsZ_append (l m : List Int) : cellsZ (l ++ m) = cellsZ l ++ cellsZ m := by simp [cellsZ]
theorem cellsZ_one (l : List Int) : ∀ v ∈ cellsZ l, v.oneCell' = true := by
  intro v hv
  obtain ⟨z, _, rfl⟩ := List.mem_map.1 hv
  rfl
theorem cellsZ_get {l : List Int} {j : Nat} (hj : j < l.length) : (cellsZ l)[j]? = some (.int .i64 (l.getD j 0)) := by simp [cellsZ, List.getD, hj]
/-- A slice of numbers of the call's own; e: its element's type. -/
def OwnZ (w : World) (e : TypeId) (B : Nat) (v : Value) (l : List Int) : Prop := w.ownsRow B e 1 v l.length (cellsZ l) ∧ ∀ z ∈ l, Fits z
theorem OwnZ.shape {w : World} {e : TypeId} {B : Nat} {v : Value} {l : List Int} (h : OwnZ w e B v l) : ∃ a c, v = .slice a l.length c ∧ (∀ x, a = some x → B ≤ x.block) := by
  rcases h.1.2 with ⟨rfl, h0⟩ | ⟨g, cap, cur, rfl, hB, _⟩
  · exact ⟨none, 0, by rw [h0], fun x e => by cases e⟩
  · exact ⟨_, _, rfl, fun x e => by cases e; exact hB⟩
theorem OwnZ.numbers {w : World} {e : TypeId} {B : Nat} {a : Option Addr} {n c : Nat} {l : List Int} (h : OwnZ w e B (.slice a n c) l) : Numbers w a n c l := by
  rcases h.1.2 with ⟨hv, h0⟩ | ⟨g, cap, cur, hv, hB, hh, h1, h2, h3, h4⟩
  · cases hv
    obtain rfl : l = [] := List.eq_nil_of_length_eq_zero h0
    exact Numbers.nil w
  · cases hv
    refine ⟨rfl, h1, h2, (fun e => by cases e), h.2, fun _ => ⟨g, 0, rfl, lt_of_block hh, fun j hj => ?_⟩⟩
    rw [Nat.zero_add, cell_of_row _ _ _ _ _ _ hh, ← cellsZ_get hj, ← h4, List.getElem?_take, if_pos (by omega)]
    simp
theorem OwnZ.below {w w' : World} {e : TypeId} {B : Nat} {v : Value} {l : List Int} (h : OwnZ w e B v l) (hb : Below w.heap.size w w') : OwnZ w' e B v l :=
  ⟨World.ownsRow.kept h.1 (row := none) ⟨hb.os, hb.tape, hb.output, hb.size, fun k hk _ => hb.block k hk⟩ (by cases h' : v.ownBlock <;> simp), h.2⟩
theorem OwnZ.lt {w : World} {e : TypeId} {B : Nat} {v : Value} {l : List Int} (h : OwnZ w e B v l) : ∀ k, v.ownBlock = some k → B ≤ k ∧ k < w.heap.size := fun k e => World.ownsRow.lt h.1 k e
theorem OwnZ.nil (w : World) (e : TypeId) (B : Nat) : OwnZ w e B (.slice none 0 0) [] := ⟨World.ownsRow_nil w B _ _, fun _ h => by cases h⟩
theorem OwnZ.grows {w w' : World} {e : TypeId} {B : Nat} {v : Value} {l : List Int} (h : OwnZ w e B v l) (hg : w.grownBy w' v.ownBlock) (hB : B ≤ w.heap.size) : Below B w w' :=
  ⟨hg.os, hg.tape, hg.output, hg.size, fun k hk => hg.block k (by omega) (fun e => by have := (h.lt k e.symm).1; omega)⟩
theorem append_numbers {P : Program} (w : World) (B : Nat) (t ty e : TypeId) (i : TypeInfo) (ht : P.underlying t = some (.slice e)) (hi : P.info? e = some i) (hz : i.zero = some (.int .i64 0)) (hsize : i.size = 1) (hby : i.bytes = 8)
    (v : Value) (l : List Int) (hown : OwnZ w e B v l) (a : Option Addr) (m c : Nat) (s : List Int) (hs : Numbers w a m c s) (hb : l.length + m ≤ 1000000) (hbase : B ≤ w.heap.size) :
    ∃ a' c' w', (Builtin.append_ #[t, t] ty #[v, .slice a m c]).run P w = .ok (.slice a' (l.length + m) c') w' ∧ OwnZ w' e B (.slice a' (l.length + m) c') (l ++ s) ∧ w.grownBy w' v.ownBlock := by
  have hsl := hs.1
  have hall : ∀ z ∈ l ++ s, Fits z := fun z hz => by
    rcases List.mem_append.1 hz with hz | hz
    · exact hown.2 z hz
    · exact hs.2.2.2.2.1 z hz
  have key : ∃ v' w', (Builtin.append_ #[t, t] ty #[v, .slice a m c]).run P w = .ok v' w' ∧ w'.ownsRow B e 1 v' (l.length + m) (cellsZ l ++ cellsZ s) ∧ w.grownBy w' v.ownBlock := by
    cases a with
    | some ad =>
      obtain ⟨v', w', h1, h2, h3, _⟩ := run_append_own (P := P) w B t ty e i (.int .i64 0) 1 8 ht hi hz hsize hby rfl (by decide) v l.length (cellsZ l) hown.1 ad m c (cellsZ s) (by rw [cellsZ_len, hsl, Nat.mul_one])
        (fun j u hj => by
          have hjm : j < m := by
            have := (List.getElem?_eq_some_iff.1 hj).1
            rw [cellsZ_len, hsl] at this
            exact this
          obtain ⟨b, off, he, _, hc⟩ := hs.2.2.2.2.2 (by omega)
          cases he
          have e1 : (⟨b, off, none⟩ : Addr).add j = ⟨b, off + j, none⟩ := by simp [Addr.add]
          rw [e1, hc j hjm, ← hj, cellsZ_get (by omega)])
        (cellsZ_one s) (by unfold maxLen; omega) (by omega) hbase
      exact ⟨v', w', h1, h2, h3⟩
    | none =>
      have hc0 := hs.2.2.2.1 rfl
      have hm0 : m = 0 := by have := hs.2.1; omega
      subst hm0
      subst hc0
      obtain rfl : s = [] := List.eq_nil_of_length_eq_zero hsl
      exact ⟨v, w, run_append_owned_none (P := P) w B t ty e i 1 ht hi v l.length (cellsZ l) hown.1, by simpa [cellsZ] using hown.1, World.grownBy.refl _ _⟩
  obtain ⟨v', w', h1, h2, h3⟩ := key
  have hO : OwnZ w' e B v' (l ++ s) := by
    refine ⟨?_, hall⟩
    rw [cellsZ_append, List.length_append, hsl]
    exact h2
  obtain ⟨a', c', rfl, _⟩ := hO.shape
  have e : (l ++ s).length = l.length + m := by simp [hsl]
  rw [e] at h1 hO
  exact ⟨a', c', w', h1, hO, h3⟩
theorem wpList_append_numbers {P : Program} (w : World) {ops : Array Oper} {rest : List Oper} {o : Oper} {A : Act} {Q : Exit → Act → World → Prop} (hgd : o.guard = none) (s x : Operand) (t e : TypeId)
    (ho : o.op = .call { callee := .builtin .append, args := #[s, x], argTypes := #[t, t] }) (B : Nat) (i : TypeInfo) (ht : P.underlying t = some (.slice e)) (hi : P.info? e = some i) (hz : i.zero = some (.int .i64 0)) (hsize : i.size = 1) (hby : i.bytes = 8)
    (v : Value) (l : List Int) (n : Nat) (hn : l.length = n) (hs : A.eval s = v) (hown : OwnZ w e B v l) (a : Option Addr) (m c : Nat) (q : List Int) (hx : A.eval x = .slice a m c) (hq : Numbers w a m c q) (hb : n + m ≤ 1000000) (hbase : B ≤ w.heap.size)
    (h : ∀ a' c' w', OwnZ w' e B (.slice a' (n + m) c') (l ++ q) → w.grownBy w' v.ownBlock → wpList P ops Q rest (A.put o.dst (.slice a' (n + m) c')) w') : wpList P ops Q (o :: rest) A w := by
  subst hn
  refine wpList_plain hgd fun K hK => ?_
  obtain ⟨a', c', w', h1, h2, h3⟩ := append_numbers (P := P) w B t o.type e i ht hi hz hsize hby v l hown a m c q hq hb hbase
  unfold Oper.wp execOp
  simp only [ho, resolve, invoke, builtin, Sem.run_bind, Sem.run_pure, Result.andThen_ok, List.map_toArray, List.map_cons, List.map_nil, hs, hx, h1]
  exact hK _ _ (h a' c' w' h2 h3)
/-- A slice of numbers under way. -/
structure UnderZ (w0 : World) (e : TypeId) (v : Value) (l : List Int) (w : World) : Prop where
  own : OwnZ w e w0.heap.size v l
  below : Below w0.heap.size w0 w
theorem UnderZ.more {w0 w w' : World} {e : TypeId} {v : Value} {l : List Int} (h : UnderZ w0 e v l w) (hb : Below w.heap.size w w') : UnderZ w0 e v l w' := ⟨h.own.below hb, h.below.trans (hb.mono h.below.size)⟩
theorem UnderZ.grown {w0 w w' : World} {e : TypeId} {u v : Value} {l m : List Int} (h : UnderZ w0 e v l w) (ho : OwnZ w' e w0.heap.size u m) (hg : w.grownBy w' v.ownBlock) : UnderZ w0 e u m w' := ⟨ho, h.below.trans (h.own.grows hg h.below.size)⟩
theorem UnderZ.nil (w : World) (e : TypeId) : UnderZ w e (.slice none 0 0) [] w := ⟨OwnZ.nil _ _ _, Below.refl _ _⟩
/-- Numbers that lie in no block of the grown slice read as they read. -/
theorem Numbers.grown {w w' : World} {a : Option Addr} {n c : Nat} {zs : List Int} {ob : Option Nat} (h : Numbers w a n c zs) (hg : w.grownBy w' ob) (hne : ∀ x, a = some x → ob ≠ some x.block) : Numbers w' a n c zs := by
  obtain ⟨h1, h2, h3, h4, h6, h5⟩ := h
  refine ⟨h1, h2, h3, h4, h6, fun h0 => ?_⟩
  obtain ⟨b, off, rfl, hlt, hc⟩ := h5 h0
  refine ⟨b, off, rfl, Nat.lt_of_lt_of_le hlt hg.size, fun j hj => ?_⟩
  rw [← hc j hj]
  exact World.cell?_of_block (a := ⟨b, off + j, none⟩) (hg.block b hlt (fun e => hne _ rfl e.symm))
theorem OwnZ.base {w : World} {e : TypeId} {B B' : Nat} {v : Value} {l : List Int} (h : OwnZ w e B v l) (hB : B' ≤ B) : OwnZ w e B' v l := by
  refine ⟨⟨h.1.1, ?_⟩, h.2⟩
  rcases h.1.2 with h0 | ⟨g, cap, cur, hv, hb, r⟩
  · exact .inl h0
  · exact .inr ⟨g, cap, cur, hv, by omega, r⟩
theorem OwnZ.kept {w w' : World} {e : TypeId} {B : Nat} {v : Value} {l : List Int} {ob : Option Nat} (h : OwnZ w e B v l) (hg : w.grownBy w' ob) (hne : ∀ k, v.ownBlock = some k → ob ≠ some k) : OwnZ w' e B v l := by
  refine ⟨World.ownsRow.kept h.1 hg ?_, h.2⟩
  cases e : v.ownBlock with
  | none => exact .inl rfl
  | some k => exact .inr (fun e2 => hne k e e2.symm)
/-- What stays where blocks of one type alone (and what is no row of cells) are written. -/
structure Apart (T : TypeId) (w w' : World) : Prop where
  os : w'.os = w.os
  tape : w'.tape = w.tape
  output : w'.output = w.output
  size : w.heap.size ≤ w'.heap.size
  block : ∀ (k : Nat) (cs : Array Value) (t : TypeId) (fr : Nat × Nat), w.heap[k]? = some (Obj.cells cs t fr) → t ≠ T → w'.heap[k]? = w.heap[k]?
theorem OwnZ.apart {w w' : World} {e T : TypeId} {B : Nat} {v : Value} {l : List Int} (h : OwnZ w e B v l) (hA : Apart T w w') (hT : e ≠ T) : OwnZ w' e B v l := by
  refine ⟨⟨h.1.1, ?_⟩, h.2⟩
  rcases h.1.2 with h0 | ⟨g, cap, cur, hv, hb, hh, r⟩
  · exact .inl h0
  · exact .inr ⟨g, cap, cur, hv, hb, (hA.block _ _ _ _ hh hT).trans hh, r⟩
end Go.Proofs.YtlnenkmcegadmaaDoor
