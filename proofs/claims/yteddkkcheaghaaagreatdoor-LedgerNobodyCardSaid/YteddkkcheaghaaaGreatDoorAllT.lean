/- What holds of all blocks that a transaction lies in, its signs too. -/
import Derived.Test.YteddkkcheaghaaaGreatDoorTxSigned
namespace Go.Proofs.YteddkkcheaghaaaGreatDoor
open Go.RowKit

/-- What holds of all blocks that a transaction lies in. -/
def AllT (P : Nat → Prop) (y : PTx) : Prop := AllTx P y ∧ AllO P y.sn y.sa
theorem AllT.mono {P Q : Nat → Prop} {y : PTx} (h : AllT P y) (k : ∀ b, P b → Q b) : AllT Q y := ⟨h.1.mono k, h.2.mono k⟩
theorem AllT.and {P Q : Nat → Prop} {y : PTx} (h : AllT P y) (k : AllT Q y) : AllT (fun b => P b ∧ Q b) y := ⟨h.1.and k.1, fun h0 x e => ⟨h.2 h0 x e, k.2 h0 x e⟩⟩
theorem TxIn.ltT {w : World} {y : PTx} (h : TxIn w y) : AllT (· < w.heap.size) y := ⟨h.lt, h.signs.block⟩
/-- A block is written that none of it lies in. -/
theorem TxIn.butT {w w' : World} {y : PTx} {p : Nat} (h : TxIn w y) (hA : AllT (· ≠ p) y) (hb : But w.heap.size p w w') : TxIn w' y := by
  have ha := hA.1
  refine ⟨h.ins.moved (B := w.heap.size) (p := p) (fun h0 x e => ⟨h.ins.block h0 x e, ha.ia h0 x e⟩) (fun x hx => ?_) hb, h.outs.moved (B := w.heap.size) (p := p) (fun h0 x e => ⟨h.outs.block h0 x e, ha.oa h0 x e⟩) (fun z hz => ?_) hb,
    ⟨h.op.kind, h.op.tower, h.op.channel, h.op.amount, h.op.root, h.op.data.but hb (fun h0 b off e => ha.data h0 _ e)⟩, ?_⟩
  · have hx1 : InIn w x := h.ins.2.2.2.2.1 x hx
    exact ⟨hx1.tx, hx1.place, hx1.way, hx1.pre.but hb (fun h0 b off e => ha.pre x hx h0 _ e)⟩
  · have hz1 : OutIn w z := h.outs.2.2.2.2.1 z hz
    refine ⟨hz1.m, SliceOf.moved (K := wayK9) (B := w.heap.size) (p := p) hz1.ws (fun h0 x e => ⟨SliceOf.block (K := wayK9) hz1.ws h0 x e, ha.ws z hz h0 x e⟩) (fun u hu => ?_) hb⟩
    have hu1 : WayIn w u := hz1.ws.2.2.2.2.1 u hu
    exact ⟨hu1.keys.butO (B := w.heap.size) (pb := p) (fun h0 x e => ⟨h.lt.ks z hz u hu h0 x e, ha.ks z hz u hu h0 x e⟩) hb, hu1.sum, hu1.after, hu1.wait⟩
  · exact h.signs.moved (B := w.heap.size) (p := p) (fun h0 x e => ⟨h.signs.block h0 x e, hA.2 h0 x e⟩) (fun s hs => (show SignIn s from h.signs.2.2.2.2.1 s hs)) hb
end Go.Proofs.YteddkkcheaghaaaGreatDoor
