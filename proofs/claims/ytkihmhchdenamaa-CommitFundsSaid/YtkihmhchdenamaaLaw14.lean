/- What law 14's rightChannel and right come to. -/
import Derived.Test.YtkihmhchdenamaaStateMem
import Derived.Test.YtkihmhchdenamaaSteps
import Derived.Test.YtkihmhchdenamaaWanted
namespace Go.Proofs.Ytkihmhchdenamaa
open Go.RowKit

/-- May a channel be? -/
def chanOk (x : PChan) : Bool := decide (0 ≤ x.id ∧ x.id ≤ 1048576 ∧ 0 ≤ x.client ∧ x.client ≤ 255 ∧ 0 ≤ x.peer ∧ x.peer ≤ 255 ∧ x.client ≠ x.peer ∧ 1 ≤ x.cap ∧ x.cap ≤ 1125899906842624 ∧ 1 ≤ x.window ∧ x.window < x.wait ∧ x.wait ≤ 65536 ∧ 0 ≤ x.fat ∧ x.fat ≤ 15)
theorem chanOk_mk (id client peer : Int) (ftx : List UInt8) (fat cap wait window : Int) : chanOk ⟨id, client, peer, ftx, fat, cap, wait, window⟩ = decide (0 ≤ id ∧ id ≤ 1048576 ∧ 0 ≤ client ∧ client ≤ 255 ∧ 0 ≤ peer ∧ peer ≤ 255 ∧ client ≠ peer ∧ 1 ≤ cap ∧ cap ≤ 1125899906842624 ∧ 1 ≤ window ∧ window < wait ∧ wait ≤ 65536 ∧ 0 ≤ fat ∧ fat ≤ 15) := rfl
/-- May a state be of a channel? -/
def stateOk (c : PChan) (s : PState) : Bool := chanOk c && (decide (0 ≤ s.n ∧ s.n ≤ 1048576) && (!decide (s.h0 = zero32) && (!decide (s.h1 = zero32) && decide (0 ≤ s.client ∧ s.client ≤ 1125899906842624 ∧ 0 ≤ s.peer ∧ s.peer ≤ 1125899906842624 ∧ s.client + s.peer = c.cap))))
theorem stateOk_mk (c : PChan) (n client peer : Int) (h0 h1 : List UInt8) : stateOk c ⟨n, client, peer, h0, h1⟩ = (chanOk c && (decide (0 ≤ n ∧ n ≤ 1048576) && (!decide (h0 = zero32) && (!decide (h1 = zero32) && decide (0 ≤ client ∧ client ≤ 1125899906842624 ∧ 0 ≤ peer ∧ peer ≤ 1125899906842624 ∧ client + peer = c.cap))))) := rfl
theorem build_zero14 (w : World) : (Instr.build 23 ([] : List (Nat × Value)).toArray).run Try.prog w = .ok (.agg (cellsOf zero32).toArray) w := by kernel_rfl
end Go.Proofs.Ytkihmhchdenamaa
