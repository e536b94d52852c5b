/- What package proof's Check comes to, over what the layers below tell. -/
import Derived.Test.YtcmdpmialehjgaaGreatDoorPrfReceipt
import Derived.Test.YtcmdpmialehjgaaGreatDoorPrfAnswer
import Derived.Test.YtcmdpmialehjgaaGreatDoorPrfParts
import Derived.Test.YtcmdpmialehjgaaGreatDoorPrfSaved
namespace Go.Proofs.YtcmdpmialehjgaaGreatDoor
open Go.RowKit

theorem check_walk {w : World} {p : PPrf} {tower height : Int} {c : PChan} {root H M T : List UInt8} {f : PFacts} {V : Bool} {O U G : Int} {PP : PTx → Prop} (hp : PrfIn w p) (hc : ChanIn c) (hr : root.length = 32) (hf : FactsIn w f) (hH : H.length = 32) (hM : M.length = 32) (hT : T.length = 32) (ha : (-1099511627776 ≤ f.at' ∧ f.at' ≤ 1099511627776)) (hk : (-1099511627776 ≤ c.window ∧ c.window ≤ 1099511627776)) (hh : (-1099511627776 ≤ height ∧ height ≤ 1099511627776))
    (hve : ∀ W : World, Below w.heap.size w W → Calls Tryz.prog 30 #[.agg (cellsOf root).toArray, .agg p.r.cells.toArray, .slice p.sa p.sn p.sc] W fun e w' => e = .returned (.bool V) ∧ Below W.heap.size W w')
    (hhi : ∀ W : World, Below w.heap.size w W → Calls Tryz.prog 31 #[.agg (cellsOf p.commit).toArray] W fun e w' => e = .returned (.agg (cellsOf H).toArray) ∧ Below W.heap.size W w')
    (hmk : ∀ W : World, Below w.heap.size w W → Calls Tryz.prog 32 #[.slice p.ba p.bn p.bc] W fun e w' => e = .returned (.agg (cellsOf M).toArray) ∧ Below W.heap.size W w')
    (how : ∀ W : World, Below w.heap.size w W → Calls Tryz.prog 33 #[.agg c.cells.toArray, .agg f.t.cells.toArray] W fun e w' => e = .returned (.int .i64 O) ∧ Below W.heap.size W w')
    (hre : ∀ W : World, Below w.heap.size w W → Calls Tryz.prog 41 #[.agg f.t.cells.toArray] W fun e w' => e = .returned (.agg (refCells T 0).toArray) ∧ Below W.heap.size W w')
    (hun : ∀ W : World, Below w.heap.size w W → Calls Tryz.prog 35 #[.agg (cellsOf p.commit).toArray, .slice p.ba p.bn p.bc] W fun e w' => ∃ x : PTx, e = .returned (.tuple #[.agg x.cells.toArray, .int .i64 U]) ∧ TxIn w' x ∧ (U = 0 → PP x) ∧ Below W.heap.size W w')
    (hjc : O = 1 → ∀ (W : World) (x : PTx), Below w.heap.size w W → TxIn W x → PP x → Calls Tryz.prog 36 #[.agg c.cells.toArray, .agg f.t.cells.toArray, .agg x.cells.toArray] W fun e w' => e = .returned (.int .i64 G) ∧ Below W.heap.size W w')
    (hsv : ∀ W : World, Below w.heap.size w W → Calls Tryz.prog 16 #[.agg f.cells.toArray, .agg c.cells.toArray] W fun e w' => e = .returned (.bool (savedB f c)) ∧ Below W.heap.size W w') :
    Calls Tryz.prog 15 #[.agg p.cells.toArray, .int .i64 tower, .agg c.cells.toArray, .agg (cellsOf root).toArray, .agg f.cells.toArray, .int .i64 height] w fun e w' => e = .returned (.int .i64 (whyV p tower c f height V H M O T U G)) ∧ Below w.heap.size w w' := by
  rw [why_split17]
  exact check_parts17 hp hc hr hf
    (fun W hW => receipt_walk17 (hp.below hW) hr hH hM (fun X hX => hve X (bthen hW hX)) (fun X hX => hhi X (bthen hW hX)) (fun X hX => hmk X (bthen hW hX)))
    (fun W hW => answer_walk17 (PP := PP) (hp.below hW) hc (hf.below hW) hT (fun X hX => how X (bthen hW hX)) (fun X hX => hre X (bthen hW hX)) (fun X hX => hun X (bthen hW hX)) (fun hO X x hX => hjc hO X x (bthen hW hX)))
    hsv
    (fun W _ => by rw [← within_wrap17 hh ha]; exact within17 ha hk)
end Go.Proofs.YtcmdpmialehjgaaGreatDoor
