/- Worlds for the statements of layer 1: what stays where one block is written and new ones are made; a block of two cells; an eye. No program is named. -/
import Derived.Test.YtdcieknblahoeaaMem
import Derived.WalkKit
import Derived.OneCell
namespace Go.Proofs.Ytdcieknblahoeaa
open Go.RowKit

/-- Below block number B all is as it was, but for block p. -/
structure But (B p : Nat) (w w' : World) : Prop where
  os : w'.os = w.os
  tape : w'.tape = w.tape
  output : w'.output = w.output
  size : w.heap.size ≤ w'.heap.size
  block : ∀ k, k < B → k ≠ p → w'.heap[k]? = w.heap[k]?

theorem But.refl (B p : Nat) (w : World) : But B p w w := ⟨rfl, rfl, rfl, Nat.le_refl _, fun _ _ _ => rfl⟩
theorem But.trans {B p : Nat} {a b c : World} (h : But B p a b) (k : But B p b c) : But B p a c :=
  ⟨k.os.trans h.os, k.tape.trans h.tape, k.output.trans h.output, Nat.le_trans h.size k.size, fun i hi hp => (k.block i hi hp).trans (h.block i hi hp)⟩
theorem But.mono {B B' p : Nat} {w w' : World} (h : But B p w w') (hB : B' ≤ B) : But B' p w w' := ⟨h.os, h.tape, h.output, h.size, fun k hk hp => h.block k (Nat.lt_of_lt_of_le hk hB) hp⟩
theorem But.of {B p : Nat} {w w' : World} (h : Below B w w') : But B p w w' := ⟨h.os, h.tape, h.output, h.size, fun k hk _ => h.block k hk⟩
theorem But.below {B p : Nat} {w w' : World} (h : But B p w w') (hp : B ≤ p) : Below B w w' := ⟨h.os, h.tape, h.output, h.size, fun k hk => h.block k hk (by omega)⟩
theorem But.setCell {B p : Nat} {w w' : World} (h : But B p w w') (a : Addr) (ha : a.block = p ∨ B ≤ a.block) (u : Value) : But B p w (w'.setCell a u) :=
  ⟨h.os, h.tape, h.output, by simpa using h.size, fun k hk hp => (Below.heap_setCell _ _ _ _ (by omega)).trans (h.block k hk hp)⟩
theorem But.alloc {B p : Nat} {w w' : World} (h : But B p w w') (hB : B ≤ w'.heap.size) (o : Obj) : But B p w (w'.alloc o) :=
  ⟨h.os, h.tape, h.output, by have := h.size; simp; omega, fun k hk hp => (Below.heap_alloc _ _ _ (by omega)).trans (h.block k hk hp)⟩
theorem But.drew {B p : Nat} {w w' : World} (h : But B p w w') : But B p w w'.drew := ⟨h.os, h.tape, h.output, h.size, h.block⟩
theorem But.heap {B p k : Nat} {w w' : World} {o : Obj} (h : But B p w w') (hk : w.heap[k]? = some o) (hB : k < B) (hp : k ≠ p) : w'.heap[k]? = some o := (h.block k hB hp).trans hk
theorem But.cell {B p : Nat} {w w' : World} (h : But B p w w') {a : Addr} (hB : a.block < B) (hp : a.block ≠ p) : w'.cell? a = w.cell? a := World.cell?_of_block (h.block _ hB hp)

/-- A block of two cells. -/
theorem two_cell0 {w : World} {b : Nat} {u v : Value} {t : TypeId} (h : w.heap[b]? = some (.cells #[u, v] t (0, 0))) : w.cell? ⟨b, 0, none⟩ = some u := by simp [World.cell?, h]
theorem two_cell1 {w : World} {b : Nat} {u v : Value} {t : TypeId} (h : w.heap[b]? = some (.cells #[u, v] t (0, 0))) : w.cell? ⟨b, 1, none⟩ = some v := by simp [World.cell?, h]
theorem two_free0 {w : World} {b : Nat} {u v : Value} {t : TypeId} (h : w.heap[b]? = some (.cells #[u, v] t (0, 0))) : w.frozen? ⟨b, 0, none⟩ = false := by simp [World.frozen?, h]
theorem two_free1 {w : World} {b : Nat} {u v : Value} {t : TypeId} (h : w.heap[b]? = some (.cells #[u, v] t (0, 0))) : w.frozen? ⟨b, 1, none⟩ = false := by simp [World.frozen?, h]
theorem two_set0 {w : World} {b : Nat} {u v x : Value} {t : TypeId} (h : w.heap[b]? = some (.cells #[u, v] t (0, 0))) : (w.setCell ⟨b, 0, none⟩ x).heap[b]? = some (.cells #[x, v] t (0, 0)) := by
  rw [heap_setCell_same w b 0 _ t x h]; rfl
theorem two_set1 {w : World} {b : Nat} {u v x : Value} {t : TypeId} (h : w.heap[b]? = some (.cells #[u, v] t (0, 0))) : (w.setCell ⟨b, 1, none⟩ x).heap[b]? = some (.cells #[u, x] t (0, 0)) := by
  rw [heap_setCell_same w b 1 _ t x h]; rfl

/-- A block that holds no byte is no slice's of bytes. -/
def NoBytes (w : World) (p : Nat) : Prop := ∀ off u, w.cell? ⟨p, off, none⟩ ≠ some (.int .u8 u)
theorem noBytes_two {w : World} {b : Nat} {u v : Value} {t : TypeId} (h : w.heap[b]? = some (.cells #[u, v] t (0, 0))) (hu : ∀ n, u ≠ .int .u8 n) (hv : ∀ n, v ≠ .int .u8 n) : NoBytes w b := by
  intro off n hc
  match off, hc with
  | 0, hc => rw [two_cell0 h] at hc; exact hu n (Option.some.inj hc)
  | 1, hc => rw [two_cell1 h] at hc; exact hv n (Option.some.inj hc)
  | k + 2, hc => simp [World.cell?, h] at hc

theorem Row.but {w w' : World} {p n c : Nat} {a : Option Addr} {l : List UInt8} (h : Row w a n c l) (hb : But w.heap.size p w w') (hp : NoBytes w p) : Row w' a n c l := by
  obtain ⟨h1, h2, h3, h4, h5⟩ := h
  refine ⟨h1, h2, h3, h4, fun h0 => ?_⟩
  obtain ⟨b, off, rfl, hlt, hc⟩ := h5 h0
  have hbp : b ≠ p := fun e => by subst e; exact hp _ _ (hc 0 h0)
  exact ⟨b, off, rfl, Nat.lt_of_lt_of_le hlt hb.size, fun j hj => (hb.cell (a := ⟨b, off + j, none⟩) hlt hbp).trans (hc j hj)⟩
theorem Row.below {w w' : World} {n c : Nat} {a : Option Addr} {l : List UInt8} (h : Row w a n c l) (hb : Below w.heap.size w w') : Row w' a n c l := by
  obtain ⟨h1, h2, h3, h4, h5⟩ := h
  refine ⟨h1, h2, h3, h4, fun h0 => ?_⟩
  obtain ⟨b, off, rfl, hlt, hc⟩ := h5 h0
  exact ⟨b, off, rfl, Nat.lt_of_lt_of_le hlt hb.size, fun j hj => (hb.cell (p := ⟨b, off + j, none⟩) hlt).trans (hc j hj)⟩
theorem Row.nil (w : World) : Row w none 0 0 [] := ⟨rfl, Nat.le_refl _, Nat.zero_le _, fun _ => rfl, fun h => by omega⟩

/-- The cut '[k:]' (with the address as the model has it). -/
theorem Row.drop {w : World} {n c k : Nat} {a a' : Option Addr} {l : List UInt8} (h : Row w a n c l) (hk : k ≤ n) (ha : a' = none → c = k) (ha' : k < n → ∀ b off, a = some ⟨b, off, none⟩ → a' = some ⟨b, off + k, none⟩) : Row w a' (n - k) (c - k) (l.drop k) := by
  obtain ⟨h1, h2, h3, h4, h5⟩ := h
  refine ⟨by simp [h1], by omega, by omega, fun e => by have := ha e; omega, fun h0 => ?_⟩
  obtain ⟨b, off, rfl, hlt, hc⟩ := h5 (by omega)
  refine ⟨b, off + k, ha' (by omega) b off rfl, hlt, fun j hj => ?_⟩
  rw [Nat.add_assoc, hc (k + j) (by omega)]
  simp [List.getD]
/-- The cut '[:k]'. -/
theorem Row.take {w : World} {n c k : Nat} {a : Option Addr} {l : List UInt8} (h : Row w a n c l) (hk : k ≤ n) : Row w a k c (l.take k) := by
  obtain ⟨h1, h2, h3, h4, h5⟩ := h
  refine ⟨by simp [h1]; omega, by omega, h3, h4, fun h0 => ?_⟩
  obtain ⟨b, off, rfl, hlt, hc⟩ := h5 (by omega)
  refine ⟨b, off, rfl, hlt, fun j hj => ?_⟩
  rw [hc j (by omega)]
  simp [List.getD, hj]

/-- The row of a slice lies in a block of bytes (type 5). -/
def Tag (w : World) (a : Option Addr) (n : Nat) : Prop := 0 < n → ∃ b off cs fr, a = some ⟨b, off, none⟩ ∧ w.heap[b]? = some (.cells cs 5 fr)
theorem Tag.zero (w : World) (a : Option Addr) : Tag w a 0 := fun h => absurd h (by omega)
theorem Tag.below {w w' : World} {a : Option Addr} {n : Nat} (h : Tag w a n) (hb : Below w.heap.size w w') : Tag w' a n := fun h0 => by
  obtain ⟨b, off, cs, fr, e, hh⟩ := h h0
  exact ⟨b, off, cs, fr, e, (hb.block _ (lt_of_block hh)).trans hh⟩
theorem Tag.but {w w' : World} {p n c : Nat} {a : Option Addr} {l : List UInt8} (h : Tag w a n) (hrow : Row w a n c l) (hb : But w.heap.size p w w') (hp : NoBytes w p) : Tag w' a n := fun h0 => by
  obtain ⟨b, off, cs, fr, e, hh⟩ := h h0
  obtain ⟨b', off', e', _, hc⟩ := hrow.2.2.2.2 h0
  rw [e] at e'
  cases e'
  have hbp : b ≠ p := fun e => by subst e; exact hp _ _ (hc 0 h0)
  exact ⟨b, off, cs, fr, e, hb.heap hh (lt_of_block hh) hbp⟩
theorem Tag.drop {w : World} {a a' : Option Addr} {n k : Nat} (h : Tag w a n) (ha' : k < n → ∀ b off, a = some ⟨b, off, none⟩ → a' = some ⟨b, off + k, none⟩) : Tag w a' (n - k) := fun h0 => by
  obtain ⟨b, off, cs, fr, e, hh⟩ := h (by omega)
  exact ⟨b, off + k, cs, fr, ha' (by omega) b off e, hh⟩

/-- An eye at block yb: 'l' is left, its error is e. -/
def EyeAt (w : World) (yb : Nat) (l : List UInt8) (e : Int) : Prop :=
  ∃ a n c, w.heap[yb]? = some (.cells #[.slice a n c, .int .i64 e] 57 (0, 0)) ∧ Row w a n c l ∧ Tag w a n

theorem EyeAt.noBytes {w : World} {yb : Nat} {l : List UInt8} {e : Int} (h : EyeAt w yb l e) : NoBytes w yb := by
  obtain ⟨a, n, c, h1, _⟩ := h
  exact noBytes_two h1 (fun _ h => by cases h) (fun _ h => by cases h)
theorem EyeAt.lt {w : World} {yb : Nat} {l : List UInt8} {e : Int} (h : EyeAt w yb l e) : yb < w.heap.size := by
  obtain ⟨a, n, c, h1, _⟩ := h
  exact lt_of_block h1
theorem EyeAt.but {w w' : World} {yb p : Nat} {l : List UInt8} {e : Int} (h : EyeAt w yb l e) (hb : But w.heap.size p w w') (hp : NoBytes w p) (hne : yb ≠ p) : EyeAt w' yb l e := by
  obtain ⟨a, n, c, h1, h2, h3⟩ := h
  exact ⟨a, n, c, hb.heap h1 (lt_of_block h1) hne, h2.but hb hp, h3.but h2 hb hp⟩
/-- An eye stays where a block is written that is none of bytes. -/
theorem EyeAt.typed {w w' : World} {yb p : Nat} {l : List UInt8} {e : Int} {cs : Array Value} {t : TypeId} {fr : Nat × Nat} (h : EyeAt w yb l e) (hb : But w.heap.size p w w') (hp : w.heap[p]? = some (.cells cs t fr)) (ht : t ≠ 5) (hne : yb ≠ p) : EyeAt w' yb l e := by
  obtain ⟨a, n, c, h1, h2, h3⟩ := h
  have key : ∀ b cs' fr', w.heap[b]? = some (.cells cs' 5 fr') → b ≠ p := fun b cs' fr' hq e => by subst e; rw [hp] at hq; simp at hq; exact ht hq.2.1
  refine ⟨a, n, c, hb.heap h1 (lt_of_block h1) hne, ?_, fun h0 => ?_⟩
  · obtain ⟨r1, r2, r3, r4, r5⟩ := h2
    refine ⟨r1, r2, r3, r4, fun h0 => ?_⟩
    obtain ⟨b, off, e1, hlt, hc⟩ := r5 h0
    obtain ⟨b', off', cs', fr', e2, hh⟩ := h3 h0
    rw [e1] at e2
    cases e2
    exact ⟨b, off, e1, Nat.lt_of_lt_of_le hlt hb.size, fun j hj => (hb.cell (a := ⟨b, off + j, none⟩) hlt (key b _ _ hh)).trans (hc j hj)⟩
  · obtain ⟨b', off', cs', fr', e2, hh⟩ := h3 h0
    exact ⟨b', off', cs', fr', e2, hb.heap hh (lt_of_block hh) (key b' _ _ hh)⟩
theorem EyeAt.below {w w' : World} {yb : Nat} {l : List UInt8} {e : Int} (h : EyeAt w yb l e) (hb : Below w.heap.size w w') : EyeAt w' yb l e := by
  obtain ⟨a, n, c, h1, h2, h3⟩ := h
  exact ⟨a, n, c, (hb.block _ (lt_of_block h1)).trans h1, h2.below hb, h3.below hb⟩
theorem EyeAt.setErr {w : World} {yb : Nat} {l : List UInt8} {e : Int} (h : EyeAt w yb l e) (e' : Int) : EyeAt (w.setCell ⟨yb, 1, none⟩ (.int .i64 e')) yb l e' := by
  have hn := h.noBytes
  obtain ⟨a, n, c, h1, h2, h3⟩ := h
  exact ⟨a, n, c, two_set1 h1, h2.but ((But.refl _ yb _).setCell _ (.inl rfl) _) hn, h3.but h2 ((But.refl _ yb _).setCell _ (.inl rfl) _) hn⟩
theorem EyeAt.setLeft {w : World} {yb n c n' c' : Nat} {e : Int} {l' : List UInt8} {a a' : Option Addr} (h : w.heap[yb]? = some (.cells #[.slice a n c, .int .i64 e] 57 (0, 0))) (h' : Row w a' n' c' l') (ht : Tag w a' n') : EyeAt (w.setCell ⟨yb, 0, none⟩ (.slice a' n' c')) yb l' e :=
  ⟨a', n', c', two_set0 h, h'.but ((But.refl _ yb _).setCell _ (.inl rfl) _) (noBytes_two h (fun _ h => by cases h) (fun _ h => by cases h)), ht.but h' ((But.refl _ yb _).setCell _ (.inl rfl) _) (noBytes_two h (fun _ h => by cases h) (fun _ h => by cases h))⟩

/-- A fresh row of bytes. -/
theorem row_new {w : World} {g n c : Nat} {l : List UInt8} (hl : l.length = n) (hnc : n ≤ c) (hc : c ≤ maxLen) (cur : List Value) (t : TypeId) (hg : w.heap[g]? = some (.cells cur.toArray t (0, 0)))
    (hcur : ∀ j, j < n → cur[j]? = some (.int .u8 (((l.getD j 0).toNat : Nat) : Int))) : Row w (some ⟨g, 0, none⟩) n c l := by
  refine ⟨hl, hnc, hc, (fun h => by cases h), fun _ => ⟨g, 0, rfl, lt_of_block hg, fun j hj => ?_⟩⟩
  rw [cell_of_row w g _ _ t (0, 0) hg]
  simpa using hcur j hj

end Go.Proofs.Ytdcieknblahoeaa
