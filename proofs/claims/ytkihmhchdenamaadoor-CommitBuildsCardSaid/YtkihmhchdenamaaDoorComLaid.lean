/- Blocks that a call has laid anew: numbers, ways, outs, ins of commitments; each stays where older blocks are written. No function of the program is named. -/
import Derived.Test.YtkihmhchdenamaaDoorLaw14B
namespace Go.Proofs.YtkihmhchdenamaaDoor
open Go.RowKit

/-- A new block. -/
structure Laid14 (B : Nat) (w : World) (p : Nat) (o : Obj) : Prop where
  new : B ≤ p
  is : w.heap[p]? = some o
theorem Laid14.keep {B p : Nat} {w w' : World} {o : Obj} (h : Laid14 B w p o) (hb : Below w.heap.size w w') : Laid14 B w' p o := ⟨h.new, Go.Proofs.YtkihmhchdenamaaDoor.keep hb h.is⟩
theorem Laid14.but {B p r : Nat} {w w' : World} {o : Obj} (h : Laid14 B w p o) (hr : r < B) (hb : But w.heap.size r w w') : Laid14 B w' p o := ⟨h.new, (hb.block p (lt_of_block h.is) (by have h9 := h.new; omega)).trans h.is⟩
theorem Laid14.old {B B' p : Nat} {w : World} {o : Obj} (h : Laid14 B w p o) (hB : B' ≤ B) : Laid14 B' w p o := ⟨Nat.le_trans hB h.new, h.is⟩
def intO (z : Int) : Obj := .cells #[.int .i64 z] 3 (0, 0)
def waysO (xs : List PWay) : Obj := .cells (xs.flatMap wayK14.cells).toArray 68 (0, 0)
def outsO (xs : List POut) : Obj := .cells (xs.flatMap outK.cells).toArray 50 (0, 0)
def insO (xs : List PIn) : Obj := .cells (xs.flatMap inK.cells).toArray 47 (0, 0)
def herW (p : Nat) (key : Int) : PWay := ⟨some ⟨p, 0, none⟩, 1, 1, [key], zero32, 0, 0⟩
/-- A key alone, at once. -/
structure HerAt (B : Nat) (w : World) (p q : Nat) (key : Int) : Prop where
  ks : Laid14 B w p (intO key)
  ws : Laid14 B w q (waysO [herW p key])
structure OwnAt (B : Nat) (w : World) (p1 p2 p3 : Nat) (me other wait : Int) (h : List UInt8) : Prop where
  k1 : Laid14 B w p1 (intO me)
  k2 : Laid14 B w p2 (intO other)
  ws : Laid14 B w p3 (waysO [⟨some ⟨p1, 0, none⟩, 1, 1, [me], zero32, 0, wait⟩, ⟨some ⟨p2, 0, none⟩, 1, 1, [other], h, 0, 0⟩])
/-- The outs of a commitment. -/
structure OutsAt (B : Nat) (w : World) (c : PChan) (me other own rest : Int) (h : List UInt8) (p1 p2 p3 p4 p5 p6 : Nat) : Prop where
  o1 : OwnAt B w p1 p2 p3 me other c.wait h
  o2 : HerAt B w p4 p5 other
  ls : Laid14 B w p6 (outsO [ownP c (some ⟨p3, 0, none⟩) (some ⟨p1, 0, none⟩) (some ⟨p2, 0, none⟩) me other own h, herP (some ⟨p5, 0, none⟩) (some ⟨p4, 0, none⟩) other rest])
/-- The outs of what closes in peace. -/
structure PeaceAt (B : Nat) (w : World) (c : PChan) (mine hers : Int) (p1 p2 p3 p4 p5 : Nat) : Prop where
  a : HerAt B w p1 p2 c.client
  b : HerAt B w p3 p4 c.peer
  ls : Laid14 B w p5 (outsO [herP (some ⟨p2, 0, none⟩) (some ⟨p1, 0, none⟩) c.client mine, herP (some ⟨p4, 0, none⟩) (some ⟨p3, 0, none⟩) c.peer hers])
theorem HerAt.keep {B : Nat} {w w2 : World} {p q : Nat} {key : Int} (k : HerAt B w p q key) (hb : Below w.heap.size w w2) : HerAt B w2 p q key := ⟨k.ks.keep hb, k.ws.keep hb⟩
theorem HerAt.but {B r : Nat} {w w2 : World} {p q : Nat} {key : Int} (k : HerAt B w p q key) (hr : r < B) (hb : But w.heap.size r w w2) : HerAt B w2 p q key := ⟨k.ks.but hr hb, k.ws.but hr hb⟩
theorem HerAt.old {B B2 : Nat} {w : World} {p q : Nat} {key : Int} (k : HerAt B w p q key) (hB : B2 ≤ B) : HerAt B2 w p q key := ⟨k.ks.old hB, k.ws.old hB⟩
theorem OwnAt.keep {B : Nat} {w w2 : World} {p1 p2 p3 : Nat} {me other wait : Int} {h : List UInt8} (k : OwnAt B w p1 p2 p3 me other wait h) (hb : Below w.heap.size w w2) : OwnAt B w2 p1 p2 p3 me other wait h := ⟨k.k1.keep hb, k.k2.keep hb, k.ws.keep hb⟩
theorem OwnAt.but {B r : Nat} {w w2 : World} {p1 p2 p3 : Nat} {me other wait : Int} {h : List UInt8} (k : OwnAt B w p1 p2 p3 me other wait h) (hr : r < B) (hb : But w.heap.size r w w2) : OwnAt B w2 p1 p2 p3 me other wait h := ⟨k.k1.but hr hb, k.k2.but hr hb, k.ws.but hr hb⟩
theorem OwnAt.old {B B2 : Nat} {w : World} {p1 p2 p3 : Nat} {me other wait : Int} {h : List UInt8} (k : OwnAt B w p1 p2 p3 me other wait h) (hB : B2 ≤ B) : OwnAt B2 w p1 p2 p3 me other wait h := ⟨k.k1.old hB, k.k2.old hB, k.ws.old hB⟩
theorem OutsAt.keep {B : Nat} {w w2 : World} {c : PChan} {me other own rest : Int} {h : List UInt8} {p1 p2 p3 p4 p5 p6 : Nat} (k : OutsAt B w c me other own rest h p1 p2 p3 p4 p5 p6) (hb : Below w.heap.size w w2) : OutsAt B w2 c me other own rest h p1 p2 p3 p4 p5 p6 := ⟨k.o1.keep hb, k.o2.keep hb, k.ls.keep hb⟩
theorem OutsAt.but {B r : Nat} {w w2 : World} {c : PChan} {me other own rest : Int} {h : List UInt8} {p1 p2 p3 p4 p5 p6 : Nat} (k : OutsAt B w c me other own rest h p1 p2 p3 p4 p5 p6) (hr : r < B) (hb : But w.heap.size r w w2) : OutsAt B w2 c me other own rest h p1 p2 p3 p4 p5 p6 := ⟨k.o1.but hr hb, k.o2.but hr hb, k.ls.but hr hb⟩
theorem OutsAt.old {B B2 : Nat} {w : World} {c : PChan} {me other own rest : Int} {h : List UInt8} {p1 p2 p3 p4 p5 p6 : Nat} (k : OutsAt B w c me other own rest h p1 p2 p3 p4 p5 p6) (hB : B2 ≤ B) : OutsAt B2 w c me other own rest h p1 p2 p3 p4 p5 p6 := ⟨k.o1.old hB, k.o2.old hB, k.ls.old hB⟩
theorem PeaceAt.keep {B : Nat} {w w2 : World} {c : PChan} {mine hers : Int} {p1 p2 p3 p4 p5 : Nat} (k : PeaceAt B w c mine hers p1 p2 p3 p4 p5) (hb : Below w.heap.size w w2) : PeaceAt B w2 c mine hers p1 p2 p3 p4 p5 := ⟨k.a.keep hb, k.b.keep hb, k.ls.keep hb⟩
theorem PeaceAt.but {B r : Nat} {w w2 : World} {c : PChan} {mine hers : Int} {p1 p2 p3 p4 p5 : Nat} (k : PeaceAt B w c mine hers p1 p2 p3 p4 p5) (hr : r < B) (hb : But w.heap.size r w w2) : PeaceAt B w2 c mine hers p1 p2 p3 p4 p5 := ⟨k.a.but hr hb, k.b.but hr hb, k.ls.but hr hb⟩
theorem PeaceAt.old {B B2 : Nat} {w : World} {c : PChan} {mine hers : Int} {p1 p2 p3 p4 p5 : Nat} (k : PeaceAt B w c mine hers p1 p2 p3 p4 p5) (hB : B2 ≤ B) : PeaceAt B2 w c mine hers p1 p2 p3 p4 p5 := ⟨k.a.old hB, k.b.old hB, k.ls.old hB⟩
theorem HerAt.ways {B p q : Nat} {w : World} {key : Int} (h : HerAt B w p q key) (hk : Fits key) : Ways w (some ⟨q, 0, none⟩) 1 1 [herW p key] := ways_of14 (slice_lits (K := wayK14) h.ws.is rfl (by omega) (by
  intro x hx
  simp at hx
  subst hx
  exact ⟨numbers_one h.ks.is hk, zero32_len, fits0_14, fits0_14⟩))
theorem OutsAt.slice {B : Nat} {w : World} {c : PChan} {me other own rest : Int} {h : List UInt8} {p1 p2 p3 p4 p5 p6 : Nat} (k : OutsAt B w c me other own rest h p1 p2 p3 p4 p5 p6) (hc : ChanIn c) (f1 : Fits me) (f2 : Fits other) (f3 : Fits own) (f4 : Fits rest) (hl : h.length = 32) :
    SliceOf outK w (some ⟨p6, 0, none⟩) 2 2 [ownP c (some ⟨p3, 0, none⟩) (some ⟨p1, 0, none⟩) (some ⟨p2, 0, none⟩) me other own h, herP (some ⟨p5, 0, none⟩) (some ⟨p4, 0, none⟩) other rest] := by
  have w1 : Ways w (some ⟨p3, 0, none⟩) 2 2 [⟨some ⟨p1, 0, none⟩, 1, 1, [me], zero32, 0, c.wait⟩, ⟨some ⟨p2, 0, none⟩, 1, 1, [other], h, 0, 0⟩] := ways_of14 (slice_lits (K := wayK14) k.o1.ws.is rfl (by omega) (by
    intro x hx
    simp at hx
    rcases hx with rfl | rfl
    · exact ⟨numbers_one k.o1.k1.is f1, zero32_len, fits0_14, hc.wait⟩
    · exact ⟨numbers_one k.o1.k2.is f2, hl, fits0_14, fits0_14⟩))
  have w2 := k.o2.ways f2
  refine slice_lits (K := outK) k.ls.is rfl (by omega) ?_
  intro x hx
  simp at hx
  rcases hx with rfl | rfl
  · exact ⟨f3, w1⟩
  · exact ⟨f4, w2⟩
theorem PeaceAt.slice {B : Nat} {w : World} {c : PChan} {mine hers : Int} {p1 p2 p3 p4 p5 : Nat} (k : PeaceAt B w c mine hers p1 p2 p3 p4 p5) (hc : ChanIn c) (f3 : Fits mine) (f4 : Fits hers) :
    SliceOf outK w (some ⟨p5, 0, none⟩) 2 2 [herP (some ⟨p2, 0, none⟩) (some ⟨p1, 0, none⟩) c.client mine, herP (some ⟨p4, 0, none⟩) (some ⟨p3, 0, none⟩) c.peer hers] := by
  have w1 := k.a.ways hc.client
  have w2 := k.b.ways hc.peer
  refine slice_lits (K := outK) k.ls.is rfl (by omega) ?_
  intro x hx
  simp at hx
  rcases hx with rfl | rfl
  · exact ⟨f3, w1⟩
  · exact ⟨f4, w2⟩
theorem fund_slice {B p : Nat} {w : World} {c : PChan} (k : Laid14 B w p (insO [fundP c])) (hc : ChanIn c) : SliceOf inK w (some ⟨p, 0, none⟩) 1 1 [fundP c] := slice_lits (K := inK) k.is rfl (by omega) (by
  intro x hx
  simp at hx
  subst hx
  exact ⟨hc.ftx, hc.fat, fits0_14, Row.nil _⟩)
theorem op_none14 (w : World) : OpIn w noOp := ⟨fits0_14, fits0_14, fits0_14, fits0_14, zero32_len, Row.nil _⟩
end Go.Proofs.YtkihmhchdenamaaDoor
