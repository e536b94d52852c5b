/- ProofChecks, walked over the contracts of what it calls. -/
import Derived.Test.YtcmdpmialehjgaaGreatDoorChecks17A
import Derived.Test.YtcmdpmialehjgaaGreatDoorChecks17B
import Derived.Test.YtcmdpmialehjgaaGreatDoorChecks17C
import Derived.Test.YtcmdpmialehjgaaGreatDoorChecks17D
namespace Go.Proofs.YtcmdpmialehjgaaGreatDoor
open Go.RowKit

set_option linter.unusedSimpArgs false in
set_option maxRecDepth 100000 in
set_option maxHeartbeats 6400000 in
theorem checks17_walk {w : World} {p : PPrf} {tower height R : Int} {c : PChan} {root : List UInt8} {f : PFacts} (hp : PrfIn w p) (hc : ChanIn c) (hr : root.length = 32) (hf : FactsIn w f)
    (haw : ∀ W : World, Below w.heap.size w W → Calls Tryz.prog 6 #[] W fun e w' => e = .returned (.bool true) ∧ Below W.heap.size W w')
    (hsv : looks17 p c f height → ∀ W : World, Below w.heap.size w W → Calls Tryz.prog 16 #[.agg f.cells.toArray, .agg c.cells.toArray] W fun e w' => e = .returned (.bool (savedB f c)) ∧ Below W.heap.size W w')
    (hck : looks17 p c f height → ∀ W : World, Below w.heap.size w W → Calls Tryz.prog 15 #[.agg p.cells.toArray, .int .i64 tower, .agg c.cells.toArray, .agg (cellsOf root).toArray, .agg f.cells.toArray, .int .i64 height] W fun e w' => e = .returned (.int .i64 R) ∧ Below W.heap.size W w')
    (hwy : looks17 p c f height → ∀ W : World, Below w.heap.size w W → Calls Tryz.prog 17 #[.agg p.cells.toArray, .int .i64 tower, .agg c.cells.toArray, .agg (cellsOf root).toArray, .agg f.cells.toArray, .int .i64 height] W fun e w' => e = .returned (.int .i64 R) ∧ Below W.heap.size W w') :
    Calls Tryz.prog 5 #[.agg p.cells.toArray, .int .i64 tower, .agg c.cells.toArray, .agg (cellsOf root).toArray, .agg f.cells.toArray, .int .i64 height] w fun e w' => e = .returned (.bool true) ∧ Below w.heap.size w w' := by
  by_cases h1 : (1099511627776 < height) ∨ (height < -1099511627776) ∨ (1099511627776 < f.at') ∨ (f.at' < -1099511627776) ∨ (1099511627776 < f.when)
  · exact checks17_a h1 hp hc hr hf haw
  by_cases h2 : (f.when < -1099511627776) ∨ (1099511627776 < c.window) ∨ (c.window < -1099511627776) ∨ (6000 < (p.sn : Int)) ∨ (1000 < (p.bn : Int))
  · exact checks17_b (by omega) h2 hp hc hr hf haw
  cases hsm : smallT f.t
  · exact checks17_s (by omega) hsm hp hc hr hf haw
  · by_cases h3 : (255 < c.client) ∨ (c.client < 0) ∨ (255 < c.peer) ∨ (c.peer < 0)
    · exact checks17_c (by omega) hsm h3 hp hc hr hf haw
    have hlook : looks17 p c f height := by
      unfold looks17
      refine ⟨⟨?_, ?_⟩, ⟨?_, ?_⟩, ⟨?_, ?_⟩, ⟨?_, ?_⟩, ?_, ?_, hsm, ⟨?_, ?_⟩, ?_, ?_⟩ <;> omega
    exact checks17_d hlook hp hc hr hf haw (hsv hlook) hck hwy
end Go.Proofs.YtcmdpmialehjgaaGreatDoor
