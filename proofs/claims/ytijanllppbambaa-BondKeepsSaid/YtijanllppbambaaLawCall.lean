/- A call of the law's, in a block of its own; what the law's at and hold tell, in all later worlds. -/
import Derived.Test.YtijanllppbambaaPlainSet
namespace Go.Proofs.Ytijanllppbambaa
open Go.RowKit Go.Maps

theorem call_cells {w : World} {g : Nat} {k n m z : Int} {s : List UInt8} {c : PChan} (ho : CallIn ⟨k, n, m, s, c, z⟩) {t : TypeId} {fr : Nat × Nat} (h : w.heap[g]? = some (.cells (PCall.cells ⟨k, n, m, s, c, z⟩).toArray t fr)) :
    w.cell? ⟨g, 0, none⟩ = some (.int .i64 k) ∧ w.cell? ⟨g, 1, none⟩ = some (.int .i64 n) ∧ w.cell? ⟨g, 2, none⟩ = some (.int .i64 m) ∧ w.rangeAt g 3 (cellsOf s) ∧ w.rangeAt g 35 c.cells ∧ w.cell? ⟨g, 35, none⟩ = some (.int .i64 c.id) ∧ w.cell? ⟨g, 71, none⟩ = some (.int .i64 c.cap) ∧ w.cell? ⟨g, 74, none⟩ = some (.int .i64 z) := by
  have h9 := call_at ho (range_of h)
  have e1 := h9.tower; have e2 := h9.n; have e3 := h9.root; have e4 := h9.ch; have e5 := h9.id; have e6 := h9.cap; have e7 := h9.height
  rw [Nat.zero_add] at e1 e2 e3 e4 e5 e6 e7
  exact ⟨h9.kind, e1, e2, e3, e4, e5, e6, e7⟩
def AtIs (w : World) (p : Value) (n q : Int) : Prop := ∀ W : World, Below w.heap.size w W → Calls Try.prog 36 #[p, .int .i64 n] W fun e w' => e = .returned (.int .i64 q) ∧ W = w'
def LHoldIs (w : World) (p : Value) (n id q : Int) : Prop := ∀ W : World, Below w.heap.size w W → Calls Try.prog 38 #[p, .int .i64 n, .int .i64 id] W fun e w' => e = .returned (.int .i64 q) ∧ W = w'
theorem atIs {B : Nat} {w : World} {p : Value} {pb N : Nat} {ts : List PTE} {hs : List PHE} (h : PlainAt B w p pb N ts hs) (n : Int) : AtIs w p n (ixK PTE.n n ts 0) := fun _ hW => at_any (h.below hW) n
theorem lholdIs {B : Nat} {w : World} {p : Value} {pb N : Nat} {ts : List PTE} {hs : List PHE} (h : PlainAt B w p pb N ts hs) (n id : Int) : LHoldIs w p n id (ixK hkey (n, id) hs 0) := fun _ hW => lhold_any (h.below hW) n id
theorem at_some {B : Nat} {w : World} {p : Value} {pb N : Nat} {ts : List PTE} {hs : List PHE} (h : PlainAt B w p pb N ts hs) {n : Int} {x : PTE} (hl : lookT n ts = some x) : ∃ j : Nat, j < ts.length ∧ AtIs w p n (j : Int) ∧ ts.getD j teK.dflt = x := by
  have h1 := atIs h n
  rcases ixK_cases (key := PTE.n) (k := n) ts 0 with ⟨j, hj, e, _, h2⟩ | ⟨_, h2⟩
  · rw [e, Nat.zero_add] at h1
    refine ⟨j, hj, h1, ?_⟩
    unfold lookT at hl
    rw [hl] at h2
    rw [List.getD_eq_getElem?_getD, List.getElem?_eq_getElem hj]
    exact (Option.some.inj h2).symm
  · unfold lookT at hl
    rw [hl] at h2
    cases h2
theorem at_none {B : Nat} {w : World} {p : Value} {pb N : Nat} {ts : List PTE} {hs : List PHE} (h : PlainAt B w p pb N ts hs) {n : Int} (hl : lookT n ts = none) : AtIs w p n (-1) := by
  have h1 := atIs h n
  rcases ixK_cases (key := PTE.n) (k := n) ts 0 with ⟨j, hj, e, _, h2⟩ | ⟨e, h2⟩
  · unfold lookT at hl
    rw [hl] at h2
    cases h2
  · rw [e] at h1
    exact h1
theorem lhold_some {B : Nat} {w : World} {p : Value} {pb N : Nat} {ts : List PTE} {hs : List PHE} (h : PlainAt B w p pb N ts hs) {n id : Int} {x : PHE} (hl : lookH n id hs = some x) : ∃ j : Nat, j < hs.length ∧ LHoldIs w p n id (j : Int) ∧ hs.getD j heK.dflt = x := by
  have h1 := lholdIs h n id
  rcases ixK_cases (key := hkey) (k := (n, id)) hs 0 with ⟨j, hj, e, _, h2⟩ | ⟨_, h2⟩
  · rw [e, Nat.zero_add] at h1
    refine ⟨j, hj, h1, ?_⟩
    unfold lookH at hl
    rw [hl] at h2
    rw [List.getD_eq_getElem?_getD, List.getElem?_eq_getElem hj]
    exact (Option.some.inj h2).symm
  · unfold lookH at hl
    rw [hl] at h2
    cases h2
theorem lhold_none {B : Nat} {w : World} {p : Value} {pb N : Nat} {ts : List PTE} {hs : List PHE} (h : PlainAt B w p pb N ts hs) {n id : Int} (hl : lookH n id hs = none) : LHoldIs w p n id (-1) := by
  have h1 := lholdIs h n id
  rcases ixK_cases (key := hkey) (k := (n, id)) hs 0 with ⟨j, hj, e, _, h2⟩ | ⟨e, h2⟩
  · unfold lookH at hl
    rw [hl] at h2
    cases h2
  · rw [e] at h1
    exact h1
/-- What was written to a new block alone leaves a call of the law's board as it says. -/
theorem PlainOut.after {B : Nat} {w : World} {p : Value} {pb N : Nat} {w2 w' : World} {ans : Value} {ts' : List PTE} {hs' : List PHE} {e : Ending} (k : Below w.heap.size w w2) (hB : B ≤ w.heap.size) (h : PlainOut B w2 p pb N ans ts' hs' e w') : PlainOut B w p pb N ans ts' hs' e w' :=
  ⟨h.1, h.2.1, (Bar.of k).trans h.2.2.1, (k.mono hB).trans h.2.2.2⟩
theorem dropL_set {n id : Int} {hs : List PHE} (hk : (hs.map hkey).Nodup) {j : Nat} (hj : j < hs.length) {x : PHE} (hx : hs.getD j heK.dflt = x) (hkx : hkey x = (n, id)) (y : PHE) : dropL j true y hs = setK hkey (n, id) y hs := by
  unfold dropL
  rw [if_pos rfl, setK_at y hk hj]
  rw [List.getD_eq_getElem?_getD, List.getElem?_eq_getElem hj, Option.getD_some] at hx
  rw [hx, hkx]
theorem dropL_del {n id : Int} {hs : List PHE} (hk : (hs.map hkey).Nodup) {j : Nat} (hj : j < hs.length) {x : PHE} (hx : hs.getD j heK.dflt = x) (hkx : hkey x = (n, id)) (y : PHE) : dropL j false y hs = delK hkey (n, id) hs := by
  have h1 := delK_at (key := hkey) hk hj
  unfold dropL
  rw [if_neg (by simp), List.eraseIdx_eq_take_drop_succ, h1]
  rw [List.getD_eq_getElem?_getD, List.getElem?_eq_getElem hj, Option.getD_some] at hx
  rw [hx, hkx]
end Go.Proofs.Ytijanllppbambaa
