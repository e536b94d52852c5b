/- Slices of numbers of 64 bits of the call's own, that grow by append. No function of the program is named. A place (api.Ref) as a map's key: that it is one, and that unlike places are unlike keys. No function of the program is named. Maps by keys of any kind, of elements of any type: which key has what, and how many there are; reading, writing, striking. Keys that are a number, or two. No function of the program is named. A map by places (api.Ref), of elements of any type: which place has what, and how many there are; reading, writing, striking. No function of the program is named. Sums as a map's keys. No function of the program is named. -/
import Derived.Test.YteddkkcheaghaaaGreatDoorNumbers
import Derived.Test.YteddkkcheaghaaaGreatDoorTx
import Derived.Maps.Keyed
import Derived.DeepKeys5
import Derived.Maps.Own
import Derived.Maps.OwnOps
import Derived.Maps.OwnSet
import Derived.Maps.Views
namespace Go.Proofs.YteddkkcheaghaaaGreatDoor
open Go.RowKit

def cellsZ (zs : List Int) : List Value := zs.map fun z => .int .i64 z
theorem cellsZ_len (zs : List Int) : (cellsZ zs).length = zs.length := by simp [cellsZ]
theorem cellsZ_append (l m : List Int) : cellsZ (l ++ m) = cellsZ l ++ cellsZ m := by simp [cellsZ]
theorem cellsZ_one (l : List Int) : ∀ v ∈ cellsZ l, v.oneCell' = true := by
  intro v hv
  obtain ⟨z, _, rfl⟩ := List.mem_map.1 hv
  rfl
theorem cellsZ_get {l : List Int} {j : Nat} (hj : j < l.length) : (cellsZ l)[j]? = some (.int .i64 (l.getD j 0)) := by simp [cellsZ, List.getD, hj]
/-- A slice of numbers of the call's own; e: its element's type. -/
def OwnZ (w : World) (e : TypeId) (B : Nat) (v : Value) (l : List Int) : Prop := w.ownsRow B e 1 v l.length (cellsZ l) ∧ ∀ z ∈ l, Fits z
theorem OwnZ.shape {w : World} {e : TypeId} {B : Nat} {v : Value} {l : List Int} (h : OwnZ w e B v l) : ∃ a c, v = .slice a l.length c ∧ (∀ x, a = some x → B ≤ x.block) := by
  rcases h.1.2 with ⟨rfl, h0⟩ | ⟨g, cap, cur, rfl, hB, _⟩
  · exact ⟨none, 0, by rw [h0], fun x e => by cases e⟩
  · exact ⟨_, _, rfl, fun x e => by cases e; exact hB⟩
theorem OwnZ.numbers {w : World} {e : TypeId} {B : Nat} {a : Option Addr} {n c : Nat} {l : List Int} (h : OwnZ w e B (.slice a n c) l) : Numbers w a n c l := by
  rcases h.1.2 with ⟨hv, h0⟩ | ⟨g, cap, cur, hv, hB, hh, h1, h2, h3, h4⟩
  · cases hv
    obtain rfl : l = [] := List.eq_nil_of_length_eq_zero h0
    exact Numbers.nil w
  · cases hv
    refine ⟨rfl, h1, h2, (fun e => by cases e), h.2, fun _ => ⟨g, 0, rfl, lt_of_block hh, fun j hj => ?_⟩⟩
    rw [Nat.zero_add, cell_of_row _ _ _ _ _ _ hh, ← cellsZ_get hj, ← h4, List.getElem?_take, if_pos (by omega)]
    simp
theorem OwnZ.below {w w' : World} {e : TypeId} {B : Nat} {v : Value} {l : List Int} (h : OwnZ w e B v l) (hb : Below w.heap.size w w') : OwnZ w' e B v l :=
  ⟨World.ownsRow.kept h.1 (row := none) ⟨hb.os, hb.tape, hb.output, hb.size, fun k hk _ => hb.block k hk⟩ (by cases h' : v.ownBlock <;> simp), h.2⟩
theorem OwnZ.lt {w : World} {e : TypeId} {B : Nat} {v : Value} {l : List Int} (h : OwnZ w e B v l) : ∀ k, v.ownBlock = some k → B ≤ k ∧ k < w.heap.size := fun k e => World.ownsRow.lt h.1 k e
theorem OwnZ.nil (w : World) (e : TypeId) (B : Nat) : OwnZ w e B (.slice none 0 0) [] := ⟨World.ownsRow_nil w B _ _, fun _ h => by cases h⟩
theorem OwnZ.grows {w w' : World} {e : TypeId} {B : Nat} {v : Value} {l : List Int} (h : OwnZ w e B v l) (hg : w.grownBy w' v.ownBlock) (hB : B ≤ w.heap.size) : Below B w w' :=
  ⟨hg.os, hg.tape, hg.output, hg.size, fun k hk => hg.block k (by omega) (fun e => by have := (h.lt k e.symm).1; omega)⟩
theorem append_numbers {P : Program} (w : World) (B : Nat) (t ty e : TypeId) (i : TypeInfo) (ht : P.underlying t = some (.slice e)) (hi : P.info? e = some i) (hz : i.zero = some (.int .i64 0)) (hsize : i.size = 1) (hby : i.bytes = 8)
    (v : Value) (l : List Int) (hown : OwnZ w e B v l) (a : Option Addr) (m c : Nat) (s : List Int) (hs : Numbers w a m c s) (hb : l.length + m ≤ 1000000) (hbase : B ≤ w.heap.size) :
    ∃ a' c' w', (Builtin.append_ #[t, t] ty #[v, .slice a m c]).run P w = .ok (.slice a' (l.length + m) c') w' ∧ OwnZ w' e B (.slice a' (l.length + m) c') (l ++ s) ∧ w.grownBy w' v.ownBlock := by
  have hsl := hs.1
  have hall : ∀ z ∈ l ++ s, Fits z := fun z hz => by
    rcases List.mem_append.1 hz with hz | hz
    · exact hown.2 z hz
    · exact hs.2.2.2.2.1 z hz
  have key : ∃ v' w', (Builtin.append_ #[t, t] ty #[v, .slice a m c]).run P w = .ok v' w' ∧ w'.ownsRow B e 1 v' (l.length + m) (cellsZ l ++ cellsZ s) ∧ w.grownBy w' v.ownBlock := by
    cases a with
    | some ad =>
      obtain ⟨v', w', h1, h2, h3, _⟩ := run_append_own (P := P) w B t ty e i (.int .i64 0) 1 8 ht hi hz hsize hby rfl (by decide) v l.length (cellsZ l) hown.1 ad m c (cellsZ s) (by rw [cellsZ_len, hsl, Nat.mul_one])
        (fun j u hj => by
          have hjm : j < m := by
            have := (List.getElem?_eq_some_iff.1 hj).1
            rw [cellsZ_len, hsl] at this
            exact this
          obtain ⟨b, off, he, _, hc⟩ := hs.2.2.2.2.2 (by omega)
          cases he
          have e1 : (⟨b, off, none⟩ : Addr).add j = ⟨b, off + j, none⟩ := by simp [Addr.add]
          rw [e1, hc j hjm, ← hj, cellsZ_get (by omega)])
        (cellsZ_one s) (by unfold maxLen; omega) (by omega) hbase
      exact ⟨v', w', h1, h2, h3⟩
    | none =>
      have hc0 := hs.2.2.2.1 rfl
      have hm0 : m = 0 := by have := hs.2.1; omega
      subst hm0
      subst hc0
      obtain rfl : s = [] := List.eq_nil_of_length_eq_zero hsl
      exact ⟨v, w, run_append_owned_none (P := P) w B t ty e i 1 ht hi v l.length (cellsZ l) hown.1, by simpa [cellsZ] using hown.1, World.grownBy.refl _ _⟩
  obtain ⟨v', w', h1, h2, h3⟩ := key
  have hO : OwnZ w' e B v' (l ++ s) := by
    refine ⟨?_, hall⟩
    rw [cellsZ_append, List.length_append, hsl]
    exact h2
  obtain ⟨a', c', rfl, _⟩ := hO.shape
  have e : (l ++ s).length = l.length + m := by simp [hsl]
  rw [e] at h1 hO
  exact ⟨a', c', w', h1, hO, h3⟩
theorem wpList_append_numbers {P : Program} (w : World) {ops : Array Oper} {rest : List Oper} {o : Oper} {A : Act} {Q : Exit → Act → World → Prop} (hgd : o.guard = none) (s x : Operand) (t e : TypeId)
    (ho : o.op = .call { callee := .builtin .append, args := #[s, x], argTypes := #[t, t] }) (B : Nat) (i : TypeInfo) (ht : P.underlying t = some (.slice e)) (hi : P.info? e = some i) (hz : i.zero = some (.int .i64 0)) (hsize : i.size = 1) (hby : i.bytes = 8)
    (v : Value) (l : List Int) (n : Nat) (hn : l.length = n) (hs : A.eval s = v) (hown : OwnZ w e B v l) (a : Option Addr) (m c : Nat) (q : List Int) (hx : A.eval x = .slice a m c) (hq : Numbers w a m c q) (hb : n + m ≤ 1000000) (hbase : B ≤ w.heap.size)
    (h : ∀ a' c' w', OwnZ w' e B (.slice a' (n + m) c') (l ++ q) → w.grownBy w' v.ownBlock → wpList P ops Q rest (A.put o.dst (.slice a' (n + m) c')) w') : wpList P ops Q (o :: rest) A w := by
  subst hn
  refine wpList_plain hgd fun K hK => ?_
  obtain ⟨a', c', w', h1, h2, h3⟩ := append_numbers (P := P) w B t o.type e i ht hi hz hsize hby v l hown a m c q hq hb hbase
  unfold Oper.wp execOp
  simp only [ho, resolve, invoke, builtin, Sem.run_bind, Sem.run_pure, Result.andThen_ok, List.map_toArray, List.map_cons, List.map_nil, hs, hx, h1]
  exact hK _ _ (h a' c' w' h2 h3)
/-- A slice of numbers under way. -/
structure UnderZ (w0 : World) (e : TypeId) (v : Value) (l : List Int) (w : World) : Prop where
  own : OwnZ w e w0.heap.size v l
  below : Below w0.heap.size w0 w
theorem UnderZ.more {w0 w w' : World} {e : TypeId} {v : Value} {l : List Int} (h : UnderZ w0 e v l w) (hb : Below w.heap.size w w') : UnderZ w0 e v l w' := ⟨h.own.below hb, h.below.trans (hb.mono h.below.size)⟩
theorem UnderZ.grown {w0 w w' : World} {e : TypeId} {u v : Value} {l m : List Int} (h : UnderZ w0 e v l w) (ho : OwnZ w' e w0.heap.size u m) (hg : w.grownBy w' v.ownBlock) : UnderZ w0 e u m w' := ⟨ho, h.below.trans (h.own.grows hg h.below.size)⟩
theorem UnderZ.nil (w : World) (e : TypeId) : UnderZ w e (.slice none 0 0) [] w := ⟨OwnZ.nil _ _ _, Below.refl _ _⟩
/-- Numbers that lie in no block of the grown slice read as they read. -/
theorem Numbers.grown {w w' : World} {a : Option Addr} {n c : Nat} {zs : List Int} {ob : Option Nat} (h : Numbers w a n c zs) (hg : w.grownBy w' ob) (hne : ∀ x, a = some x → ob ≠ some x.block) : Numbers w' a n c zs := by
  obtain ⟨h1, h2, h3, h4, h6, h5⟩ := h
  refine ⟨h1, h2, h3, h4, h6, fun h0 => ?_⟩
  obtain ⟨b, off, rfl, hlt, hc⟩ := h5 h0
  refine ⟨b, off, rfl, Nat.lt_of_lt_of_le hlt hg.size, fun j hj => ?_⟩
  rw [← hc j hj]
  exact World.cell?_of_block (a := ⟨b, off + j, none⟩) (hg.block b hlt (fun e => hne _ rfl e.symm))
theorem OwnZ.kept {w w' : World} {e : TypeId} {B : Nat} {v : Value} {l : List Int} {ob : Option Nat} (h : OwnZ w e B v l) (hg : w.grownBy w' ob) (hne : ∀ k, v.ownBlock = some k → ob ≠ some k) : OwnZ w' e B v l := by
  refine ⟨World.ownsRow.kept h.1 hg ?_, h.2⟩
  cases e : v.ownBlock with
  | none => exact .inl rfl
  | some k => exact .inr (fun e2 => hne k e e2.symm)
/-- What stays where blocks of one type alone (and what is no row of cells) are written. -/
structure Apart (T : TypeId) (w w' : World) : Prop where
  os : w'.os = w.os
  tape : w'.tape = w.tape
  output : w'.output = w.output
  size : w.heap.size ≤ w'.heap.size
  block : ∀ (k : Nat) (cs : Array Value) (t : TypeId) (fr : Nat × Nat), w.heap[k]? = some (Obj.cells cs t fr) → t ≠ T → w'.heap[k]? = w.heap[k]?
theorem OwnZ.apart {w w' : World} {e T : TypeId} {B : Nat} {v : Value} {l : List Int} (h : OwnZ w e B v l) (hA : Apart T w w') (hT : e ≠ T) : OwnZ w' e B v l := by
  refine ⟨⟨h.1.1, ?_⟩, h.2⟩
  rcases h.1.2 with h0 | ⟨g, cap, cur, hv, hb, hh, r⟩
  · exact .inl h0
  · exact .inr ⟨g, cap, cur, hv, hb, (hA.block _ _ _ _ hh hT).trans hh, r⟩
end Go.Proofs.YteddkkcheaghaaaGreatDoor
namespace Go.Proofs.YteddkkcheaghaaaGreatDoor
open Go.RowKit Go.Maps

theorem Tryz.laid9 : laidOutB Tryz.prog = true := by kernel_rfl
theorem Tryz.wideRef : (match Tryz.prog.underlying 71 with | some (.array _ _) | some (.struct _) => true | _ => false) = true := by kernel_rfl
theorem Tryz.few9 : Nat.ble (Tryz.prog.types.size + 2) 10000 = true := by kernel_rfl
theorem Tryz.rowRef9 : Nat.blt 71 Tryz.prog.types.size = true := by kernel_rfl
theorem Tryz.keyTypeRef : Tryz.prog.keyType 71 = true := by kernel_rfl
set_option maxRecDepth 100000 in
theorem Tryz.lawRef : WideMaps.KeyLaw Tryz.prog 71 := deep_law_gate Tryz.laid9 (Nat.le_of_ble_eq_true Tryz.few9) (Nat.le_of_ble_eq_true Tryz.rowRef9) Tryz.keyTypeRef Tryz.wideRef
theorem Tryz.keyRef : Keyed Tryz.prog 71 := Keyed.of_law Tryz.lawRef
theorem mapM_all {α β : Type} {f : α → Option β} {g : α → β} : ∀ {l : List α}, (∀ x ∈ l, f x = some (g x)) → l.mapM f = some (l.map g)
  | [], _ => rfl
  | x :: l, h => by
    have ih := mapM_all (f := f) (g := g) (l := l) (fun y hy => h y (by simp [hy]))
    rw [List.mapM_cons, h x (by simp), ih]
    rfl
theorem u8_wf (b : UInt8) : (Lit.int .u8 ((b.toNat : Nat) : Int)).wf = true := by
  have h := b.toNat_lt
  have h1 : IntKind.u8.min = 0 := by decide
  have h2 : IntKind.u8.max = 255 := by decide
  simp [Lit.wf, h1, h2]
  omega
theorem i64_wf {z : Int} (h : Fits z) : (Lit.int .i64 z).wf = true := by
  have h1 : IntKind.i64.min = -9223372036854775808 := by decide
  have h2 : IntKind.i64.max = 9223372036854775807 := by decide
  have h3 := h.1
  have h4 := h.2
  simp [Lit.wf, h1, h2]
  omega
theorem key_byte (d : Nat) (b : UInt8) : Tryz.prog.keyLits (d + 1) 5 [.int .u8 ((b.toNat : Nat) : Int)] = some [.int .u8 ((b.toNat : Nat) : Int)] := by
  unfold Program.keyLits
  simp only [Tryz.underlying5]
  simp [u8_wf b]
theorem key_int (d : Nat) {z : Int} (h : Fits z) : Tryz.prog.keyLits (d + 1) 3 [.int .i64 z] = some [.int .i64 z] := by
  unfold Program.keyLits
  simp only [Tryz.underlying3]
  simp [i64_wf h]
theorem key_sum (d : Nat) {s : List UInt8} (hs : s.length = 32) : ∃ L, Tryz.prog.keyLits (d + 2) 28 (cellsOf s) = some L := by
  have hc : Tryz.prog.cellsOf 28 = 32 := by kernel_rfl
  have hc1 : Tryz.prog.cellsOf 5 = 1 := by kernel_rfl
  unfold Program.keyLits
  simp only [Tryz.underlying28]
  simp only [hc, hc1, cellsOf_len, hs, if_true]
  rw [mapM_all (g := fun i => [Lit.int .u8 (((s.getD i 0).toNat : Nat) : Int)]) (fun i hi => ?_)]
  · exact ⟨_, rfl⟩
  · have hi' : i < s.length := by rw [hs]; exact List.mem_range.1 hi
    have e : ((cellsOf s).drop (i * 1)).take 1 = [.int .u8 (((s.getD i 0).toNat : Nat) : Int)] := by
      have h1 := cellsOf_get hi'
      have h2 : i < (cellsOf s).length := by rw [cellsOf_len]; exact hi'
      rw [List.getElem?_eq_getElem h2] at h1
      rw [Nat.mul_one, List.drop_eq_getElem_cons h2, Option.some.inj h1]
      rfl
    rw [e]
    exact key_byte d _
theorem key_ref {s : List UInt8} {p : Int} (hs : s.length = 32) (hp : Fits p) : ∃ l, keyOf Tryz.prog 71 (.agg (refCells s p).toArray) = some l := by
  have hc : Tryz.prog.cellsOf 71 = 33 := by kernel_rfl
  have hcs : Tryz.prog.cellsOf 28 = 32 := by kernel_rfl
  have hci : Tryz.prog.cellsOf 3 = 1 := by kernel_rfl
  obtain ⟨d, hd⟩ : ∃ d, Tryz.prog.types.size + 1 = d + 3 := ⟨Tryz.prog.types.size + 1 - 3, by have h : 2 ≤ Tryz.prog.types.size := Nat.le_of_ble_eq_true (by kernel_rfl); omega⟩
  obtain ⟨L, hL⟩ := key_sum d hs
  have hk : Tryz.prog.keyType 71 = true := by kernel_rfl
  have hf : (Value.agg (refCells s p).toArray).formed Tryz.prog 71 = true := by
    simp [Value.formed, Tryz.underlying71, hc, refCells_len hs]
  have hlits : ∃ ls, Tryz.prog.keyLits (d + 3) 71 (refCells s p) = some ls := by
    unfold Program.keyLits
    simp only [Tryz.underlying71]
    have e1 : (refCells s p).take 32 = cellsOf s := by
      unfold refCells
      rw [List.take_append_of_le_length (by rw [cellsOf_len, hs]; exact Nat.le_refl _), List.take_of_length_le (by rw [cellsOf_len, hs]; exact Nat.le_refl _)]
    have e2 : ((refCells s p).drop 32).take 1 = [.int .i64 p] := by
      unfold refCells
      rw [List.drop_append_of_le_length (by rw [cellsOf_len, hs]; exact Nat.le_refl _), List.drop_of_length_le (by rw [cellsOf_len, hs]; exact Nat.le_refl _)]
      rfl
    simp only [hc, refCells_len hs]
    simp [hcs, hci, e1, e2, hL, key_int, hp]
  obtain ⟨ls, hls⟩ := hlits
  refine ⟨.string (keyBytes ls), ?_⟩
  unfold keyOf
  simp only [Tryz.underlying71, hk, hf, Bool.and_self, if_true, hd]
  show Option.map _ (Tryz.prog.keyLits (d + 3) 71 (refCells s p)) = _
  rw [hls]
  rfl
/-- Unlike places are unlike keys. -/
theorem key_ref_inj {s t : List UInt8} {p q : Int} {l : Lit} (h1 : keyOf Tryz.prog 71 (.agg (refCells s p).toArray) = some l) (h2 : keyOf Tryz.prog 71 (.agg (refCells t q).toArray) = some l) : refCells s p = refCells t q := by
  have h := Tryz.keyRef.inj h1 h2
  simpa using h
end Go.Proofs.YteddkkcheaghaaaGreatDoor
namespace Go.Proofs.YteddkkcheaghaaaGreatDoor
open Go.RowKit Go.Maps

/-- A kind of key: its type, its values; unlike keys are unlike values; each value that is a key is one of these. -/
structure KeyKind (α : Type) where
  type : TypeId
  val : α → Value
  keyed : Keyed Tryz.prog type
  has : ∀ x, ∃ l, keyOf Tryz.prog type (val x) = some l
  back : ∀ v l, keyOf Tryz.prog type v = some l → ∃ x, v = val x
  inj : ∀ x y, val x = val y → x = y
variable {α : Type} {K : KeyKind α}
theorem KeyKind.apart {x y : α} {l k : Lit} (h1 : keyOf Tryz.prog K.type (K.val x) = some l) (h2 : keyOf Tryz.prog K.type (K.val y) = some k) (hne : y ≠ x) : k ≠ l := fun e => by
  subst e
  exact hne (K.inj _ _ (K.keyed.inj h2 h1))
/-- An element reads as itself. -/
def heldK : Value → Option (DataW Value × List MemPlace) := fun v => some (.held v, [])
/-- Block b is a map of n entries (never more than N); F: what each key has. -/
def MapK (K : KeyKind α) (w : World) (b N n : Nat) (F : α → Option Value) : Prop :=
  ∃ D : DataW Value, w.ownsMap Tryz.prog K.type heldK b N D ∧ Maps.size D = n ∧ ∀ x l, keyOf Tryz.prog K.type (K.val x) = some l → ∀ z, D.atKey l z = (match F x with | some v => .held v | none => z)
theorem MapK.made (K : KeyKind α) (w : World) : MapK K (w.alloc (.map #[] 0)) w.heap.size 0 0 (fun _ => none) :=
  ⟨.map [], World.ownsMap_made _ _ _ _, rfl, fun _ _ _ _ => rfl⟩
theorem MapK.lt {w : World} {b N n : Nat} {F : α → Option Value} (h : MapK K w b N n F) : b < w.heap.size := by
  obtain ⟨D, h1, _⟩ := h
  exact h1.lt
theorem MapK.few {w : World} {b N n : Nat} {F : α → Option Value} (h : MapK K w b N n F) : n ≤ N := by
  obtain ⟨D, h1, h2, _⟩ := h
  rw [← h2]
  exact h1.size_le
theorem MapK.isMap {w : World} {b N n : Nat} {F : α → Option Value} (h : MapK K w b N n F) : ∃ es cl, w.heap[b]? = some (.map es cl) := by
  obtain ⟨D, ⟨es, cl, hb, _⟩, _⟩ := h
  exact ⟨es, cl, hb⟩
theorem MapK.kept {w w' : World} {b N n : Nat} {F : α → Option Value} {row : Option Nat} (h : MapK K w b N n F) (hg : w.grownBy w' row) (hne : some b ≠ row) : MapK K w' b N n F := by
  obtain ⟨D, h1, h2, h3⟩ := h
  exact ⟨D, h1.kept hg hne, h2, h3⟩
theorem MapK.below {w w' : World} {b N n : Nat} {F : α → Option Value} (h : MapK K w b N n F) (hb : Below w.heap.size w w') : MapK K w' b N n F :=
  h.kept (row := none) ⟨hb.os, hb.tape, hb.output, hb.size, fun k hk _ => hb.block k hk⟩ (by simp)
theorem MapK.but {w w' : World} {b N n p : Nat} {F : α → Option Value} (h : MapK K w b N n F) (hb : But w.heap.size p w w') (hp : b ≠ p) : MapK K w' b N n F :=
  h.kept (row := some p) ⟨hb.os, hb.tape, hb.output, hb.size, fun k hk hn => hb.block k hk (fun e => hn (by rw [e]))⟩ (fun e => hp (Option.some.inj e))
section
variable {w : World} {b N n : Nat} {F : α → Option Value} {t e : TypeId} {x : α}
/-- 'v, ok := m[k]', where there is one. -/
theorem MapK.look (h : MapK K w b N n F) (ht : Tryz.prog.underlying t = some (.map K.type e)) {z : Value} (hz : (zeroValue e).run Tryz.prog w = .ok z w) {v : Value} (hv : F x = some v) :
    (Instr.lookup t (.map (some b)) (K.val x) true).run Tryz.prog w = .ok (.tuple #[v, .bool true]) w := by
  obtain ⟨D, h1, _, h3⟩ := h
  obtain ⟨l, hl⟩ := K.has x
  have h4 : ∀ y, D.atKey l y = .held v := fun y => by rw [h3 x l hl y, hv]
  obtain ⟨v', ps, hrun, hr⟩ := h1.look_ok K.keyed ht hz (zd := .held z) (zp := []) rfl hl
  rw [has_true_of_atKey h4] at hrun
  rw [h4] at hr
  obtain rfl : v' = v := by simpa [heldK] using (Prod.mk.inj (Option.some.inj hr)).1
  exact hrun
/-- .. where there is none. -/
theorem MapK.look_no (h : MapK K w b N n F) (ht : Tryz.prog.underlying t = some (.map K.type e)) {z : Value} (hz : (zeroValue e).run Tryz.prog w = .ok z w) (hv : F x = none) :
    (Instr.lookup t (.map (some b)) (K.val x) true).run Tryz.prog w = .ok (.tuple #[z, .bool false]) w := by
  obtain ⟨D, h1, _, h3⟩ := h
  obtain ⟨l, hl⟩ := K.has x
  have h4 : ∀ y, D.atKey l y = y := fun y => by rw [h3 x l hl y, hv]
  obtain ⟨v', ps, hrun, hr⟩ := h1.look_ok K.keyed ht hz (zd := .held z) (zp := []) rfl hl
  rw [has_false_of_atKey h4] at hrun
  rw [h4] at hr
  obtain rfl : v' = z := by simpa [heldK] using (Prod.mk.inj (Option.some.inj hr)).1
  exact hrun
/-- 'm[k] = v', where there is none yet. -/
theorem MapK.put [DecidableEq α] (h : MapK K w b N n F) (ht : Tryz.prog.underlying t = some (.map K.type e)) (hN : N ≤ 1000000) (x : α) (hno : F x = none) (v : Value) :
    ∃ w', (Instr.mapUpdate t (.map (some b)) (K.val x) v).run Tryz.prog w = .ok () w' ∧ MapK K w' b (N + 1) (n + 1) (fun y => if y = x then some v else F y) ∧ w.grownBy w' (some b) := by
  obtain ⟨D, h1, h2, h3⟩ := h
  obtain ⟨l, hl⟩ := K.has x
  obtain ⟨w', hrun, hown, hg⟩ := h1.update K.keyed ht (by unfold maxLen; omega) hl (d := .held v) (ps := []) rfl
  refine ⟨w', hrun, ⟨_, hown, ?_, fun y k hk z => ?_⟩, hg⟩
  · rw [size_put (h1.tidy K.keyed), has_false_of_atKey (fun y => by rw [h3 x l hl y, hno]), if_neg (by simp), h2]
  · by_cases e : y = x
    · subst e
      obtain rfl : k = l := Option.some.inj (hk.symm.trans hl)
      rw [atKey_put_same h1.isMap (K.keyed.key hl)]
      simp
    · rw [atKey_put_other (KeyKind.apart hl hk e), h3 y k hk z]
      simp only [if_neg e]
/-- 'm[k] = v', where there is one. -/
theorem MapK.set [DecidableEq α] (h : MapK K w b N n F) (ht : Tryz.prog.underlying t = some (.map K.type e)) (hN : N ≤ 1000000) (x : α) (hsome : F x ≠ none) (v : Value) :
    ∃ w', (Instr.mapUpdate t (.map (some b)) (K.val x) v).run Tryz.prog w = .ok () w' ∧ MapK K w' b (N + 1) n (fun y => if y = x then some v else F y) ∧ w.grownBy w' (some b) := by
  obtain ⟨D, h1, h2, h3⟩ := h
  obtain ⟨l, hl⟩ := K.has x
  obtain ⟨u, hu⟩ : ∃ u, F x = some u := Option.ne_none_iff_exists'.1 hsome
  obtain ⟨w', hrun, hown, hg⟩ := h1.update K.keyed ht (by unfold maxLen; omega) hl (d := .held v) (ps := []) rfl
  refine ⟨w', hrun, ⟨_, hown, ?_, fun y k hk z => ?_⟩, hg⟩
  · rw [size_put (h1.tidy K.keyed), has_true_of_atKey (y := .held u) (fun y => by rw [h3 x l hl y, hu]), if_pos rfl, h2]
  · by_cases e : y = x
    · subst e
      obtain rfl : k = l := Option.some.inj (hk.symm.trans hl)
      rw [atKey_put_same h1.isMap (K.keyed.key hl)]
      simp
    · rw [atKey_put_other (KeyKind.apart hl hk e), h3 y k hk z]
      simp only [if_neg e]
/-- 'delete(m, k)', where there is one. -/
theorem MapK.drop [DecidableEq α] (h : MapK K w b N n F) (ht : Tryz.prog.underlying t = some (.map K.type e)) (x : α) (hsome : F x ≠ none) (ty : TypeId) :
    ∃ w', (Builtin.delete_ #[t, K.type] ty #[.map (some b), K.val x]).run Tryz.prog w = .ok (.tuple #[]) w' ∧ MapK K w' b N (n - 1) (fun y => if y = x then none else F y) ∧ w.grownBy w' (some b) := by
  obtain ⟨D, h1, h2, h3⟩ := h
  obtain ⟨l, hl⟩ := K.has x
  obtain ⟨u, hu⟩ : ∃ u, F x = some u := Option.ne_none_iff_exists'.1 hsome
  obtain ⟨w', hrun, hown, hg⟩ := h1.drop K.keyed ht hl ty
  refine ⟨w', hrun, ⟨_, hown, ?_, fun y k hk z => ?_⟩, hg.grown⟩
  · have h4 := size_del (k := l) (h1.tidy K.keyed)
    rw [has_true_of_atKey (y := .held u) (fun y => by rw [h3 x l hl y, hu]), if_pos rfl, h2] at h4
    omega
  · by_cases e : y = x
    · subst e
      obtain rfl : k = l := Option.some.inj (hk.symm.trans hl)
      rw [atKey_del_same]
      simp
    · rw [atKey_del_other (KeyKind.apart hl hk e), h3 y k hk z]
      simp only [if_neg e]
end
/-! ### What has come of a range -/
def ComeK (K : KeyKind α) (D : DataW Value) (left : Lit → Bool) (ss : List α) : Prop :=
  ss.Nodup ∧ ∀ (x : α) (l : Lit), keyOf Tryz.prog K.type (K.val x) = some l → (x ∈ ss ↔ Maps.has D l = true ∧ left l = false)
theorem ComeK.start (K : KeyKind α) (D : DataW Value) : ComeK K D (Maps.has D) [] := ⟨List.nodup_nil, fun x l _ => by cases Maps.has D l <;> simp⟩
theorem ComeK.step {D : DataW Value} {left : Lit → Bool} {ss : List α} {x : α} {l : Lit} (h : ComeK K D left ss) (hk : keyOf Tryz.prog K.type (K.val x) = some l) (hl : left l = true) (hd : Maps.has D l = true) : ComeK K D (fun z => left z && !z.sameKey l) (ss ++ [x]) := by
  have hx : x ∉ ss := fun e => by
    have h9 := ((h.2 x l hk).1 e).2
    rw [hl] at h9
    cases h9
  refine ⟨List.nodup_append.2 ⟨h.1, by simp, fun a ha b hb e => by
    simp at hb
    subst hb
    subst e
    exact hx ha⟩, fun y k hy => ?_⟩
  by_cases e : y = x
  · subst e
    obtain rfl : k = l := Option.some.inj (hy.symm.trans hk)
    have h9 : k.sameKey k = true := WideAt.sameKey_self (K.keyed.key hk)
    simp [hd, h9]
  · have hne : k ≠ l := fun e2 => by
      subst e2
      exact e (K.inj _ _ (K.keyed.inj hy hk))
    have h9 : k.sameKey l = false := Maps.sameKey_ne hne
    simp only [List.mem_append, List.mem_singleton, e, or_false, h9, Bool.not_false, Bool.and_true]
    exact h.2 y k hy
theorem ComeK.done {D : DataW Value} {left : Lit → Bool} {ss : List α} (h : ComeK K D left ss) (hl : ∀ k, left k = false) (x : α) {l : Lit} (hk : keyOf Tryz.prog K.type (K.val x) = some l) : x ∈ ss ↔ Maps.has D l = true := by
  rw [h.2 x l hk, hl]
  simp
/-- At the end: all keys, none twice. -/
theorem ComeK.all {D : DataW Value} {F : α → Option Value} {left : Lit → Bool} {ss : List α} (h : ComeK K D left ss) (hl : ∀ k, left k = false) (hF : ∀ x l, keyOf Tryz.prog K.type (K.val x) = some l → ∀ z, D.atKey l z = (match F x with | some v => .held v | none => z)) : ss.Nodup ∧ ∀ x, x ∈ ss ↔ F x ≠ none :=
  ⟨h.1, fun x => by
    obtain ⟨k, hk⟩ := K.has x
    rw [h.done hl x hk]
    have hv := hF x k hk
    cases hfx : F x with
    | none =>
      rw [hfx] at hv
      rw [has_false_of_atKey hv]
      simp
    | some v =>
      rw [hfx] at hv
      rw [has_true_of_atKey hv]
      simp⟩
/-- What comes is what the map has. -/
theorem atKey_F {D : DataW Value} {F : α → Option Value} (hF : ∀ x l, keyOf Tryz.prog K.type (K.val x) = some l → ∀ z, D.atKey l z = (match F x with | some v => .held v | none => z)) {x : α} {l : Lit} (hk : keyOf Tryz.prog K.type (K.val x) = some l) {c : Value} (hat : ∀ z, D.atKey l z = .held c) : F x = some c := by
  have h9 := hF x l hk
  cases hf : F x with
  | none =>
    rw [hf] at h9
    have h8 := (hat (.map [])).symm.trans (h9 (.map []))
    cases h8
  | some v =>
    rw [hf] at h9
    have h8 := (hat (.map [])).symm.trans (h9 (.map []))
    cases h8
    rfl

/-! ### A number as a key; two numbers -/
structure NumD where
  z : Int
  hz : Fits z
instance : DecidableEq NumD := fun x y => if h : x.z = y.z then .isTrue (by cases x; cases y; cases h; rfl) else .isFalse (fun e => h (by rw [e]))
theorem Tryz.keyNum : Keyed Tryz.prog 3 := int_keyed Tryz.underlying3
def numK : KeyKind NumD where
  type := 3
  val x := .int .i64 x.z
  keyed := Tryz.keyNum
  has x := ⟨.int .i64 x.z, by simp [keyOf, Tryz.underlying3, mapKey, i64_wf x.hz]⟩
  back v l h := by
    cases v <;> simp [keyOf, Tryz.underlying3, mapKey] at h
    rename_i q a
    obtain ⟨⟨rfl, hw⟩, rfl⟩ := h
    have h1 : IntKind.i64.min = -9223372036854775808 := by decide
    have h2 : IntKind.i64.max = 9223372036854775807 := by decide
    simp [Lit.wf, h1, h2] at hw
    exact ⟨⟨a, hw.1, hw.2⟩, rfl⟩
  inj x y h := by
    cases x
    cases y
    simp at h
    subst h
    rfl
structure TwoD where
  y : Int
  z : Int
  hy : Fits y
  hz : Fits z
instance : DecidableEq TwoD := fun a b => if h : a.y = b.y ∧ a.z = b.z then .isTrue (by cases a; cases b; obtain ⟨h1, h2⟩ := h; cases h1; cases h2; rfl) else .isFalse (fun e => h (by rw [e]; exact ⟨rfl, rfl⟩))
theorem Tryz.wideTwo : (match Tryz.prog.underlying 144 with | some (.array _ _) | some (.struct _) => true | _ => false) = true := by kernel_rfl
theorem Tryz.rowTwo : Nat.blt 144 Tryz.prog.types.size = true := by kernel_rfl
theorem Tryz.keyTypeTwo : Tryz.prog.keyType 144 = true := by kernel_rfl
set_option maxRecDepth 100000 in
theorem Tryz.lawTwo : WideMaps.KeyLaw Tryz.prog 144 := deep_law_gate Tryz.laid9 (Nat.le_of_ble_eq_true Tryz.few9) (Nat.le_of_ble_eq_true Tryz.rowTwo) Tryz.keyTypeTwo Tryz.wideTwo
theorem Tryz.keyTwo : Keyed Tryz.prog 144 := Keyed.of_law Tryz.lawTwo
theorem key_two {y z : Int} (hy : Fits y) (hz : Fits z) : ∃ l, keyOf Tryz.prog 144 (.agg #[.int .i64 y, .int .i64 z]) = some l := by
  have hc : Tryz.prog.cellsOf 144 = 2 := by kernel_rfl
  have hci : Tryz.prog.cellsOf 3 = 1 := by kernel_rfl
  obtain ⟨d, hd⟩ : ∃ d, Tryz.prog.types.size + 1 = d + 3 := ⟨Tryz.prog.types.size + 1 - 3, by have h : 2 ≤ Tryz.prog.types.size := Nat.le_of_ble_eq_true (by kernel_rfl); omega⟩
  have hf : (Value.agg #[.int .i64 y, .int .i64 z]).formed Tryz.prog 144 = true := by
    simp [Value.formed, Tryz.underlying144, hc]
  have hlits : ∃ ls, Tryz.prog.keyLits (d + 3) 144 [.int .i64 y, .int .i64 z] = some ls := by
    unfold Program.keyLits
    simp only [Tryz.underlying144]
    refine ⟨[.int .i64 y, .int .i64 z], ?_⟩
    have e2 : List.range 2 = [0, 1] := rfl
    simp [hc, hci, e2, key_int, hy, hz]
  obtain ⟨ls, hls⟩ := hlits
  refine ⟨.string (keyBytes ls), ?_⟩
  unfold keyOf
  simp only [Tryz.underlying144, Tryz.keyTypeTwo, hf, Bool.and_self, if_true, hd]
  show Option.map _ (Tryz.prog.keyLits (d + 3) 144 [.int .i64 y, .int .i64 z]) = _
  rw [hls]
  rfl
theorem mapM_getK {α β : Type} {f : α → Option β} : ∀ {l : List α} {r : List β}, l.mapM f = some r → ∀ x ∈ l, ∃ y, f x = some y
  | [], _, _, _, hx => by cases hx
  | a :: l, r, h, x, hx => by
    rw [List.mapM_cons] at h
    cases h1 : f a with
    | none => rw [h1] at h; cases h
    | some y =>
      rw [h1] at h
      cases h2 : l.mapM f with
      | none => rw [h2] at h; cases h
      | some r' =>
        rcases List.mem_cons.1 hx with rfl | hx
        · exact ⟨y, h1⟩
        · exact mapM_getK h2 x hx
theorem int_backK {d : Nat} {v : Value} {r : List Lit} (h : Tryz.prog.keyLits d 3 [v] = some r) : ∃ z : Int, v = .int .i64 z ∧ Fits z := by
  cases d with
  | zero => cases h
  | succ d =>
    unfold Program.keyLits at h
    simp only [Tryz.underlying3] at h
    cases v with
    | int q x =>
      simp only at h
      split at h
      · rename_i hq
        obtain ⟨rfl, hw⟩ := hq
        have h1 : IntKind.i64.min = -9223372036854775808 := by decide
        have h2 : IntKind.i64.max = 9223372036854775807 := by decide
        simp [Lit.wf, h1, h2] at hw
        exact ⟨x, rfl, hw.1, hw.2⟩
      · cases h
    | _ => cases h
set_option maxRecDepth 100000 in
theorem key_two_back {v : Value} {l : Lit} (h : keyOf Tryz.prog 144 v = some l) : ∃ x : TwoD, v = .agg #[.int .i64 x.y, .int .i64 x.z] := by
  have hc : Tryz.prog.cellsOf 144 = 2 := by kernel_rfl
  have hci : Tryz.prog.cellsOf 3 = 1 := by kernel_rfl
  unfold keyOf at h
  simp only [Tryz.underlying144] at h
  split at h
  · rename_i hk
    have hf : v.formed Tryz.prog 144 = true := by
      cases hh : v.formed Tryz.prog 144 with
      | true => rfl
      | false => rw [hh] at hk; simp at hk
    cases hl : Tryz.prog.keyLits (Tryz.prog.types.size + 1) 144 v.cells.toList with
    | none => rw [hl] at h; cases h
    | some ls =>
      cases v with
      | agg cs =>
        have hcl : cs.size = 2 := by
          simpa [Value.formed, Tryz.underlying144, hc] using hf
        obtain ⟨c0, c1, rfl⟩ : ∃ a b, cs = #[a, b] := by
          obtain ⟨l⟩ := cs
          match l, hcl with
          | [a, b], _ => exact ⟨a, b, rfl⟩
        have e0 : (Value.agg #[c0, c1]).cells.toList = [c0, c1] := rfl
        rw [e0] at hl
        unfold Program.keyLits at hl
        simp only [Tryz.underlying144] at hl
        split at hl
        · cases hm : (List.range 2).mapM (fun i => Tryz.prog.keyLits Tryz.prog.types.size 3 (([c0, c1].drop (i * Tryz.prog.cellsOf 3)).take (Tryz.prog.cellsOf 3))) with
          | none => rw [hm] at hl; cases hl
          | some rr =>
            obtain ⟨y0, h0⟩ := mapM_getK hm 0 (by simp)
            obtain ⟨y1, h1⟩ := mapM_getK hm 1 (by simp)
            rw [hci] at h0 h1
            obtain ⟨z0, rfl, f0⟩ := int_backK (d := Tryz.prog.types.size) (v := c0) (r := y0) h0
            obtain ⟨z1, rfl, f1⟩ := int_backK (d := Tryz.prog.types.size) (v := c1) (r := y1) h1
            exact ⟨⟨z0, z1, f0, f1⟩, rfl⟩
        · cases hl
      | _ => simp [Value.formed, Tryz.underlying144] at hf
  · cases h
def twoK : KeyKind TwoD where
  type := 144
  val x := .agg #[.int .i64 x.y, .int .i64 x.z]
  keyed := Tryz.keyTwo
  has x := key_two x.hy x.hz
  back v l h := key_two_back h
  inj x y h := by
    cases x
    cases y
    simp at h
    obtain ⟨h1, h2⟩ := h
    subst h1 h2
    rfl
end Go.Proofs.YteddkkcheaghaaaGreatDoor
namespace Go.Proofs.YteddkkcheaghaaaGreatDoor
open Go.RowKit Go.Maps

/-- An element reads as itself. -/
def heldR : Value → Option (DataW Value × List MemPlace) := fun v => some (.held v, [])
/-- Block b is a map of n entries (never more than N); F: what each place has. -/
def MapRef (w : World) (b N n : Nat) (F : List UInt8 → Int → Option Value) : Prop :=
  ∃ D : DataW Value, w.ownsMap Tryz.prog 71 heldR b N D ∧ Maps.size D = n ∧ ∀ s p l, s.length = 32 → Fits p → keyOf Tryz.prog 71 (.agg (refCells s p).toArray) = some l → ∀ z, D.atKey l z = (match F s p with | some v => .held v | none => z)
theorem MapRef.made (w : World) : MapRef (w.alloc (.map #[] 0)) w.heap.size 0 0 (fun _ _ => none) :=
  ⟨.map [], World.ownsMap_made _ _ _ _, rfl, fun _ _ _ _ _ _ _ => rfl⟩
theorem MapRef.lt {w : World} {b N n : Nat} {F : List UInt8 → Int → Option Value} (h : MapRef w b N n F) : b < w.heap.size := by
  obtain ⟨D, h1, _⟩ := h
  exact h1.lt
theorem MapRef.few {w : World} {b N n : Nat} {F : List UInt8 → Int → Option Value} (h : MapRef w b N n F) : n ≤ N := by
  obtain ⟨D, h1, h2, _⟩ := h
  rw [← h2]
  exact h1.size_le
theorem MapRef.kept {w w' : World} {b N n : Nat} {F : List UInt8 → Int → Option Value} {row : Option Nat} (h : MapRef w b N n F) (hg : w.grownBy w' row) (hne : some b ≠ row) : MapRef w' b N n F := by
  obtain ⟨D, h1, h2, h3⟩ := h
  exact ⟨D, h1.kept hg hne, h2, h3⟩
theorem MapRef.below {w w' : World} {b N n : Nat} {F : List UInt8 → Int → Option Value} (h : MapRef w b N n F) (hb : Below w.heap.size w w') : MapRef w' b N n F :=
  h.kept (row := none) ⟨hb.os, hb.tape, hb.output, hb.size, fun k hk _ => hb.block k hk⟩ (by simp)
section
variable {w : World} {b N n : Nat} {F : List UInt8 → Int → Option Value} {t e : TypeId} {s : List UInt8} {p : Int}
/-- 'v, ok := m[k]', where there is one. -/
theorem MapRef.look (h : MapRef w b N n F) (ht : Tryz.prog.underlying t = some (.map 71 e)) {z : Value} (hz : (zeroValue e).run Tryz.prog w = .ok z w) (hs : s.length = 32) (hp : Fits p) {v : Value} (hv : F s p = some v) :
    (Instr.lookup t (.map (some b)) (.agg (refCells s p).toArray) true).run Tryz.prog w = .ok (.tuple #[v, .bool true]) w := by
  obtain ⟨D, h1, _, h3⟩ := h
  obtain ⟨l, hl⟩ := key_ref hs hp
  have h4 : ∀ y, D.atKey l y = .held v := fun y => by rw [h3 s p l hs hp hl y, hv]
  obtain ⟨v', ps, hrun, hr⟩ := h1.look_ok Tryz.keyRef ht hz (zd := .held z) (zp := []) rfl hl
  rw [has_true_of_atKey h4] at hrun
  rw [h4] at hr
  obtain rfl : v' = v := by simpa [heldR] using (Prod.mk.inj (Option.some.inj hr)).1
  exact hrun
/-- .. where there is none. -/
theorem MapRef.look_no (h : MapRef w b N n F) (ht : Tryz.prog.underlying t = some (.map 71 e)) {z : Value} (hz : (zeroValue e).run Tryz.prog w = .ok z w) (hs : s.length = 32) (hp : Fits p) (hv : F s p = none) :
    (Instr.lookup t (.map (some b)) (.agg (refCells s p).toArray) true).run Tryz.prog w = .ok (.tuple #[z, .bool false]) w := by
  obtain ⟨D, h1, _, h3⟩ := h
  obtain ⟨l, hl⟩ := key_ref hs hp
  have h4 : ∀ y, D.atKey l y = y := fun y => by rw [h3 s p l hs hp hl y, hv]
  obtain ⟨v', ps, hrun, hr⟩ := h1.look_ok Tryz.keyRef ht hz (zd := .held z) (zp := []) rfl hl
  rw [has_false_of_atKey h4] at hrun
  rw [h4] at hr
  obtain rfl : v' = z := by simpa [heldR] using (Prod.mk.inj (Option.some.inj hr)).1
  exact hrun
/-- 'm[k]'. -/
theorem MapRef.get (h : MapRef w b N n F) (ht : Tryz.prog.underlying t = some (.map 71 e)) {z : Value} (hz : (zeroValue e).run Tryz.prog w = .ok z w) (hs : s.length = 32) (hp : Fits p) :
    (Instr.lookup t (.map (some b)) (.agg (refCells s p).toArray) false).run Tryz.prog w = .ok ((F s p).getD z) w := by
  obtain ⟨D, h1, _, h3⟩ := h
  obtain ⟨l, hl⟩ := key_ref hs hp
  obtain ⟨v', ps, hrun, hr⟩ := h1.lookup Tryz.keyRef ht hz (zd := .held z) (zp := []) rfl hl
  rw [h3 s p l hs hp hl] at hr
  have h5 : v' = (F s p).getD z := by
    cases hf : F s p with
    | none =>
      rw [hf] at hr
      simpa [heldR] using (Prod.mk.inj (Option.some.inj hr)).1
    | some v =>
      rw [hf] at hr
      simpa [heldR] using (Prod.mk.inj (Option.some.inj hr)).1
  rw [← h5]
  exact hrun
theorem cellsOf_same : ∀ {s r : List UInt8}, cellsOf s = cellsOf r → s = r
  | [], [], _ => rfl
  | [], y :: r, h => by simp [cellsOf] at h
  | x :: s, [], h => by simp [cellsOf] at h
  | x :: s, y :: r, h => by
    simp only [cellsOf, List.map_cons, List.cons.injEq] at h
    have h1 : x = y := by
      have h9 := h.1
      simp at h9
      exact UInt8.toNat_inj.1 (by omega)
    rw [h1, cellsOf_same h.2]
theorem keys_apart {q : Int} {r : List UInt8} {l k : Lit} (h1 : keyOf Tryz.prog 71 (.agg (refCells s p).toArray) = some l) (h2 : keyOf Tryz.prog 71 (.agg (refCells r q).toArray) = some k) (hs : s.length = 32) (hr : r.length = 32) (hne : ¬ (r = s ∧ q = p)) : k ≠ l := fun e => by
  subst e
  have h9 := key_ref_inj h1 h2
  unfold refCells at h9
  have h8 := List.append_inj h9 (by rw [cellsOf_len, cellsOf_len, hs, hr])
  have h7 : q = p := by simpa using h8.2.symm
  refine hne ⟨?_, h7⟩
  exact (cellsOf_same h8.1).symm
/-- 'm[k] = v', where there is none yet. -/
theorem MapRef.put (h : MapRef w b N n F) (ht : Tryz.prog.underlying t = some (.map 71 e)) (hN : N ≤ 1000000) (hs : s.length = 32) (hp : Fits p) (hno : F s p = none) (v : Value) :
    ∃ w', (Instr.mapUpdate t (.map (some b)) (.agg (refCells s p).toArray) v).run Tryz.prog w = .ok () w' ∧ MapRef w' b (N + 1) (n + 1) (fun r q => if r = s ∧ q = p then some v else F r q) ∧ w.grownBy w' (some b) := by
  obtain ⟨D, h1, h2, h3⟩ := h
  obtain ⟨l, hl⟩ := key_ref hs hp
  obtain ⟨w', hrun, hown, hg⟩ := h1.update Tryz.keyRef ht (by unfold maxLen; omega) hl (d := .held v) (ps := []) rfl
  refine ⟨w', hrun, ⟨_, hown, ?_, fun r q k hr hq hk z => ?_⟩, hg⟩
  · rw [size_put (h1.tidy Tryz.keyRef), has_false_of_atKey (fun y => by rw [h3 s p l hs hp hl y, hno]), if_neg (by simp), h2]
  · by_cases e : r = s ∧ q = p
    · obtain ⟨rfl, rfl⟩ := e
      obtain rfl : k = l := Option.some.inj (hk.symm.trans hl)
      rw [atKey_put_same h1.isMap (Tryz.keyRef.key hl)]
      simp
    · rw [atKey_put_other (keys_apart hl hk hs hr e), h3 r q k hr hq hk z]
      simp only [if_neg e]
/-- 'delete(m, k)', where there is one. -/
theorem MapRef.drop (h : MapRef w b N n F) (ht : Tryz.prog.underlying t = some (.map 71 e)) (hs : s.length = 32) (hp : Fits p) {v : Value} (hv : F s p = some v) (ty : TypeId) :
    ∃ w', (Builtin.delete_ #[t, 71] ty #[.map (some b), .agg (refCells s p).toArray]).run Tryz.prog w = .ok (.tuple #[]) w' ∧ MapRef w' b N (n - 1) (fun r q => if r = s ∧ q = p then none else F r q) ∧ w.grownBy w' (some b) := by
  obtain ⟨D, h1, h2, h3⟩ := h
  obtain ⟨l, hl⟩ := key_ref hs hp
  obtain ⟨w', hrun, hown, hg⟩ := h1.drop Tryz.keyRef ht hl ty
  refine ⟨w', hrun, ⟨_, hown, ?_, fun r q k hr hq hk z => ?_⟩, hg.grown⟩
  · have h4 := size_del (k := l) (h1.tidy Tryz.keyRef)
    rw [has_true_of_atKey (y := .held v) (fun y => by rw [h3 s p l hs hp hl y, hv]), if_pos rfl, h2] at h4
    omega
  · by_cases e : r = s ∧ q = p
    · obtain ⟨rfl, rfl⟩ := e
      obtain rfl : k = l := Option.some.inj (hk.symm.trans hl)
      rw [atKey_del_same]
      simp
    · rw [atKey_del_other (keys_apart hl hk hs hr e), h3 r q k hr hq hk z]
      simp only [if_neg e]
end
end Go.Proofs.YteddkkcheaghaaaGreatDoor
namespace Go.Proofs.YteddkkcheaghaaaGreatDoor
open Go.RowKit Go.Maps

structure SumD where
  s : List UInt8
  hs : s.length = 32
instance : DecidableEq SumD := fun x y => if h : x.s = y.s then .isTrue (by cases x; cases y; cases h; rfl) else .isFalse (fun e => h (by rw [e]))
theorem Tryz.wideSum : (match Tryz.prog.underlying 28 with | some (.array _ _) | some (.struct _) => true | _ => false) = true := by kernel_rfl
theorem Tryz.rowSum9 : Nat.blt 28 Tryz.prog.types.size = true := by kernel_rfl
theorem Tryz.keyTypeSum : Tryz.prog.keyType 28 = true := by kernel_rfl
set_option maxRecDepth 100000 in
theorem Tryz.lawSum : WideMaps.KeyLaw Tryz.prog 28 := deep_law_gate Tryz.laid9 (Nat.le_of_ble_eq_true Tryz.few9) (Nat.le_of_ble_eq_true Tryz.rowSum9) Tryz.keyTypeSum Tryz.wideSum
theorem Tryz.keySum : Keyed Tryz.prog 28 := Keyed.of_law Tryz.lawSum
theorem sum_key {s : List UInt8} (hs : s.length = 32) : ∃ l, keyOf Tryz.prog 28 (.agg (cellsOf s).toArray) = some l := by
  have hc : Tryz.prog.cellsOf 28 = 32 := by kernel_rfl
  obtain ⟨d, hd⟩ : ∃ d, Tryz.prog.types.size + 1 = d + 2 := ⟨Tryz.prog.types.size + 1 - 2, by have h : 2 ≤ Tryz.prog.types.size := Nat.le_of_ble_eq_true (by kernel_rfl); omega⟩
  obtain ⟨L, hL⟩ := key_sum d hs
  have hf : (Value.agg (cellsOf s).toArray).formed Tryz.prog 28 = true := by
    simp [Value.formed, Tryz.underlying28, hc, cellsOf_len, hs]
  refine ⟨.string (keyBytes L), ?_⟩
  unfold keyOf
  simp only [Tryz.underlying28, Tryz.keyTypeSum, hf, Bool.and_self, if_true, hd]
  show Option.map _ (Tryz.prog.keyLits (d + 2) 28 (cellsOf s)) = _
  rw [hL]
  rfl
theorem byte_backK {d : Nat} {v : Value} {r : List Lit} (h : Tryz.prog.keyLits d 5 [v] = some r) : ∃ b : UInt8, v = .int .u8 ((b.toNat : Nat) : Int) := by
  cases d with
  | zero => cases h
  | succ d =>
    unfold Program.keyLits at h
    simp only [Tryz.underlying5] at h
    cases v with
    | int q x =>
      simp only at h
      split at h
      · rename_i hq
        obtain ⟨rfl, hw⟩ := hq
        have h1 : IntKind.u8.min = 0 := by decide
        have h2 : IntKind.u8.max = 255 := by decide
        simp [Lit.wf, h1, h2] at hw
        refine ⟨UInt8.ofNat x.toNat, ?_⟩
        congr 1
        rw [UInt8.toNat_ofNat']
        omega
      · cases h
    | _ => cases h
theorem sum_key_back {v : Value} {l : Lit} (h : keyOf Tryz.prog 28 v = some l) : ∃ x : SumD, v = .agg (cellsOf x.s).toArray := by
  have hc : Tryz.prog.cellsOf 28 = 32 := by kernel_rfl
  have hc1 : Tryz.prog.cellsOf 5 = 1 := by kernel_rfl
  unfold keyOf at h
  simp only [Tryz.underlying28] at h
  split at h
  · rename_i hk
    have hf : v.formed Tryz.prog 28 = true := by
      cases hh : v.formed Tryz.prog 28 with
      | true => rfl
      | false => rw [hh] at hk; simp at hk
    cases hl : Tryz.prog.keyLits (Tryz.prog.types.size + 1) 28 v.cells.toList with
    | none => rw [hl] at h; cases h
    | some ls =>
      cases v with
      | agg cs =>
        have hcl : cs.size = 32 := by
          simpa [Value.formed, Tryz.underlying28, hc] using hf
        obtain ⟨L⟩ := cs
        have hL : L.length = 32 := hcl
        replace hl : Tryz.prog.keyLits (Tryz.prog.types.size + 1) 28 L = some ls := hl
        unfold Program.keyLits at hl
        simp only [Tryz.underlying28] at hl
        split at hl
        · cases hm : (List.range 32).mapM (fun i => Tryz.prog.keyLits Tryz.prog.types.size 5 ((L.drop (i * Tryz.prog.cellsOf 5)).take (Tryz.prog.cellsOf 5))) with
          | none => rw [hm] at hl; cases hl
          | some rr =>
            have hb : ∀ i (hi : i < L.length), ∃ b : UInt8, L[i] = .int .u8 ((b.toNat : Nat) : Int) := fun i hi => by
              obtain ⟨y, hy⟩ := mapM_getK hm i (List.mem_range.2 (by omega))
              rw [hc1, Nat.mul_one, List.drop_eq_getElem_cons hi] at hy
              exact byte_backK (d := Tryz.prog.types.size) (r := y) hy
            have hall : ∀ (M : List Value), (∀ i (hi : i < M.length), ∃ b : UInt8, M[i] = .int .u8 ((b.toNat : Nat) : Int)) → ∃ s : List UInt8, M = cellsOf s := fun M => by
              induction M with
              | nil => intro _; exact ⟨[], rfl⟩
              | cons v M ih =>
                intro hM
                obtain ⟨b, hb⟩ := hM 0 (by simp)
                obtain ⟨s, hs⟩ := ih (fun i hi => by
                  have h9 := hM (i + 1) (by simpa using hi)
                  simpa using h9)
                exact ⟨b :: s, by rw [hs]; simp [cellsOf]; simpa using hb⟩
            obtain ⟨s, hs⟩ := hall L hb
            have hsl : s.length = 32 := by
              have h9 := congrArg List.length hs
              rw [cellsOf_len] at h9
              omega
            exact ⟨⟨s, hsl⟩, by show Value.agg ⟨L⟩ = Value.agg (cellsOf s).toArray; rw [hs]⟩
        · cases hl
      | _ => simp [Value.formed, Tryz.underlying28] at hf
  · cases h
def sumK : KeyKind SumD where
  type := 28
  val x := .agg (cellsOf x.s).toArray
  keyed := Tryz.keySum
  has x := sum_key x.hs
  back v l h := sum_key_back h
  inj x y h := by
    cases x
    cases y
    simp at h
    have h1 := cellsOf_same h
    subst h1
    rfl
end Go.Proofs.YteddkkcheaghaaaGreatDoor
