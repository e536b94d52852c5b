/- Words of JusticeBuilds: what stands while it goes on. -/
import Derived.Test.YtnjnomebcggccaaGreatDoorJustBuild
import Derived.Test.YtnjnomebcggccaaGreatDoorJustCheck
import Derived.Test.YtnjnomebcggccaaGreatDoorTook15
import Derived.Test.YtnjnomebcggccaaGreatDoorLaw8Small
import Derived.Deep.CutRange
namespace Go.Proofs.YtnjnomebcggccaaGreatDoor
open Go.RowKit

/-- Blocks of unlike types are unlike. -/
theorem ne_type15 {w : World} {g h : Nat} {cs ds : Array Value} {a b : TypeId} {fr fs : Nat × Nat} (hg : w.heap[g]? = some (.cells cs a fr)) (hh : w.heap[h]? = some (.cells ds b fs)) (hne : a ≠ b) : g ≠ h := fun e => by
  subst e
  rw [hg] at hh
  cases hh
  exact hne rfl
/-- A load of a row, carried out. -/
theorem step_load15 {P : Program} {ops : Array Oper} {o : Oper} {tmps : Array Value} {ds : List Deferred} {w : World} {K : Act → World → Prop} {Q : Exit → Act → World → Prop} {E : Prop} {d : Nat} (hd : o.dst = some d) (hw : Region.wanted o (yielded ops tmps) = true) (ty : TypeId) (x : Operand) (ho : o.op = .load ty x) (b off : Nat)
    (hx : (Act.eval { tmps := tmps, defers := ds } x) = .pointer (some ⟨b, off, none⟩)) (cs : List Value) (u : TypeDesc) (hc : w.rangeAt b off cs) (hu : P.underlying ty = some u) (hr : u.isRow = true) (hi : (P.info? ty).map (·.size) = some cs.length)
    (h : K { tmps := tmps.setIfInBounds d (.agg cs.toArray), defers := ds } w) :
    if Region.wanted o (yielded ops tmps) = true then Oper.wp P o { tmps := tmps, defers := ds } w K Q else E := by
  rw [if_pos hw]
  unfold Oper.wp execOp
  simp only [ho, hx, Instr.loadAt, Instr.sureAddr, Sem.run_bind, Sem.run_pure, Result.andThen_ok, run_loadVar_mid w b off ty cs u hc hu hr hi]
  show K (Act.put _ o.dst _) _
  rw [hd]
  exact h
/-- What is wanted, with the first out alone. -/
structure WantAt (B : Nat) (w : World) (T pre : List UInt8) (k V : Int) (v n5 n12 p q gp : Nat) : Prop where
  var : w.heap[v]? = some (.cells (takeP T pre (some ⟨n5, 0, none⟩) (some ⟨gp, 0, none⟩) (some ⟨n12, 0, none⟩) 1 1 [herP (some ⟨q, 0, none⟩) (some ⟨p, 0, none⟩) k V]).cells.toArray 35 (0, 0))
  ins : w.heap[n5]? = some (.cells ([takeIn T pre (some ⟨gp, 0, none⟩)].flatMap inK.cells).toArray 55 (0, 0))
  outs : w.heap[n12]? = some (.cells ([herP (some ⟨q, 0, none⟩) (some ⟨p, 0, none⟩) k V].flatMap outK.cells).toArray 46 (0, 0))
  her : HerAt B w p q k
  newV : B ≤ v
  newO : B ≤ n12
/-- What is wanted, with all outs. -/
structure WantAll (B : Nat) (w : World) (T pre : List UInt8) (v n5 gp : Nat) (oa : Option Addr) (n c : Nat) (xs ys : List POut) : Prop where
  var : w.heap[v]? = some (.cells (takeP T pre (some ⟨n5, 0, none⟩) (some ⟨gp, 0, none⟩) oa n c xs).cells.toArray 35 (0, 0))
  ins : w.heap[n5]? = some (.cells ([takeIn T pre (some ⟨gp, 0, none⟩)].flatMap inK.cells).toArray 55 (0, 0))
  outs : SliceOf outK w oa n c xs
  like : xs.map POut.strip = ys.map POut.strip
  few : FewOuts n xs
  newV : B ≤ v
theorem few_one15 {a b : Option Addr} {k V : Int} : FewOuts 1 [herP a b k V] := ⟨by omega, by omega, fun y hy => by simp at hy; subst hy; exact ⟨rfl, rfl, fun u hu => by simp [herP] at hu; subst hu; rfl⟩⟩
theorem few_two15 {a b a2 b2 : Option Addr} {k V k2 V2 : Int} : FewOuts 2 [herP a b k V, herP a2 b2 k2 V2] := ⟨by omega, by omega, fun y hy => by
  simp at hy
  rcases hy with rfl | rfl
  · exact ⟨rfl, rfl, fun u hu => by simp [herP] at hu; subst hu; rfl⟩
  · exact ⟨rfl, rfl, fun u hu => by simp [herP] at hu; subst hu; rfl⟩⟩
/-- One out alone: no tower. -/
theorem WantAt.alone {B : Nat} {w : World} {T pre : List UInt8} {k V z m R f : Int} {v n5 n12 p q gp : Nat} (h : WantAt B w T pre k V v n5 n12 p q gp) (hk : Fits k) (hV : Fits V) (hz : z = -1) (eV : m - feeP m f - rewP m R f = V) :
    WantAll B w T pre v n5 gp (some ⟨n12, 0, none⟩) 1 1 [herP (some ⟨q, 0, none⟩) (some ⟨p, 0, none⟩) k V] (sharedP k z m R f) := by
  refine ⟨h.var, h.ins, slice_lits (K := outK) h.outs rfl (by omega) (by intro x hx; simp at hx; subst hx; exact h.her.out hk hV), ?_, few_one15, h.newV⟩
  unfold sharedP
  rw [if_pos hz, eV]
  rfl
theorem WantAt.made {B : Nat} {w w2 : World} {T pre : List UInt8} {k V : Int} {v n5 n12 p q gp : Nat} {old : Array Value} (hv : w.heap[v]? = some (.cells old 35 (0, 0))) (hh : w2.heap[v]? = some (.cells (takeP T pre (some ⟨n5, 0, none⟩) (some ⟨gp, 0, none⟩) (some ⟨n12, 0, none⟩) 1 1 [herP (some ⟨q, 0, none⟩) (some ⟨p, 0, none⟩) k V]).cells.toArray 35 (0, 0))) (hb : But w.heap.size v w w2)
    (i5 : w.heap[n5]? = some (.cells ([takeIn T pre (some ⟨gp, 0, none⟩)].flatMap inK.cells).toArray 55 (0, 0))) (o12 : w.heap[n12]? = some (.cells ([herP (some ⟨q, 0, none⟩) (some ⟨p, 0, none⟩) k V].flatMap outK.cells).toArray 46 (0, 0))) (he : HerAt B w p q k) (nv : B ≤ v) (no : B ≤ n12) : WantAt B w2 T pre k V v n5 n12 p q gp :=
  ⟨hh, (hb.block n5 (lt_of_block i5) (ne_type15 i5 hv (by decide))).trans i5, (hb.block n12 (lt_of_block o12) (ne_type15 o12 hv (by decide))).trans o12, ⟨⟨he.ks.new, (hb.block p (lt_of_block he.ks.is) (ne_type15 he.ks.is hv (by decide))).trans he.ks.is⟩, ⟨he.ws.new, (hb.block q (lt_of_block he.ws.is) (ne_type15 he.ws.is hv (by decide))).trans he.ws.is⟩⟩, nv, no⟩
theorem WantAt.keep {B : Nat} {w w2 : World} {T pre : List UInt8} {k V : Int} {v n5 n12 p q gp : Nat} (h : WantAt B w T pre k V v n5 n12 p q gp) (hb : Below w.heap.size w w2) : WantAt B w2 T pre k V v n5 n12 p q gp := ⟨Go.Proofs.YtnjnomebcggccaaGreatDoor.keep hb h.var, Go.Proofs.YtnjnomebcggccaaGreatDoor.keep hb h.ins, Go.Proofs.YtnjnomebcggccaaGreatDoor.keep hb h.outs, h.her.keep hb, h.newV, h.newO⟩
theorem WantAll.base {B B2 : Nat} {w : World} {T pre : List UInt8} {v n5 gp : Nat} {oa : Option Addr} {n c : Nat} {xs ys : List POut} (h : WantAll B w T pre v n5 gp oa n c xs ys) (hB : B2 ≤ B) : WantAll B2 w T pre v n5 gp oa n c xs ys := ⟨h.var, h.ins, h.outs, h.like, h.few, Nat.le_trans hB h.newV⟩
/-- Two newer blocks are written: what is older stays. -/
theorem bar_below15 {w0 w w2 : World} {a b : Nat} (h : Below w0.heap.size w0 w) (k : Bar (fun i _ => i = a ∨ i = b) w w2) (ha : w0.heap.size ≤ a) (hb : w0.heap.size ≤ b) : Below w0.heap.size w0 w2 :=
  ⟨k.os.trans h.os, k.tape.trans h.tape, k.output.trans h.output, Nat.le_trans h.size k.size, fun i hi => (k.block i (Nat.lt_of_lt_of_le hi h.size) (by omega)).trans (h.block i hi)⟩
theorem But.cell_at15 {w w2 : World} {p b o : Nat} {v : Value} (h : But w.heap.size p w w2) (hb : b < w.heap.size) (hne : b ≠ p) (hc : w.cell? ⟨b, o, none⟩ = some v) : w2.cell? ⟨b, o, none⟩ = some v := (h.cell (a := ⟨b, o, none⟩) hb hne).trans hc
/-- A small transaction has few bytes. -/
theorem small_front15 {w : World} {x : PTx} (h : TxIn w x) (hs : smallT x = true) : FrontFew false x ∧ x.sn ≤ 20 ∧ x.on ≤ 20 ∧ (∀ y ∈ x.ins, y.n ≤ 100) := by
  unfold smallT at hs
  simp only [Bool.and_eq_true, decide_eq_true_eq, List.all_eq_true] at hs
  obtain ⟨h1, h2, h3, h4, h5, h6⟩ := hs
  refine ⟨frontFew false h h1 h2 (fun y hy => by have h9 := h5 y hy; simpa using h9) (fun y hy => ?_) (by omega), h3, h2, fun y hy => by have h9 := h5 y hy; simpa using h9⟩
  have h9 := h6 y hy
  unfold fewO at h9
  simp only [Bool.and_eq_true, decide_eq_true_eq, List.all_eq_true] at h9
  exact ⟨h9.1, fun z hz => by have h8 := h9.2 z hz; simpa using h8⟩
end Go.Proofs.YtnjnomebcggccaaGreatDoor
