/- Commitments, and how a channel is closed in peace, plainly: which may be, and that their bytes do not depend on where they lie. No function of the program is named. -/
import Derived.Test.YtkihmhchdenamaaDoorTxPack
import Derived.Test.YtkihmhchdenamaaDoorComBuild
namespace Go.Proofs.YtkihmhchdenamaaDoor
open Go.RowKit

theorem commit_bytes (c : PChan) (a0 a1 a2 a3 a4 a5 a6 b0 b1 b2 b3 b4 b5 b6 : Option Addr) (me other mine hers : Int) (h : List UInt8) : txB (commitP c a0 a1 a2 a3 a4 a5 a6 me other mine hers h) = txB (commitP c b0 b1 b2 b3 b4 b5 b6 me other mine hers h) := rfl
theorem commit_front (c : PChan) (a0 a1 a2 a3 a4 a5 a6 b0 b1 b2 b3 b4 b5 b6 : Option Addr) (me other mine hers : Int) (h : List UInt8) : frontB false (commitP c a0 a1 a2 a3 a4 a5 a6 me other mine hers h) = frontB false (commitP c b0 b1 b2 b3 b4 b5 b6 me other mine hers h) := rfl
theorem peace_bytes (c : PChan) (a0 a1 a2 a3 a4 a5 b0 b1 b2 b3 b4 b5 : Option Addr) (mine hers : Int) : txB (peaceP c a0 a1 a2 a3 a4 a5 mine hers) = txB (peaceP c b0 b1 b2 b3 b4 b5 mine hers) := rfl
theorem commit_ok {c : PChan} (a0 a1 a2 a3 a4 a5 a6 : Option Addr) {me other mine hers : Int} (h : List UInt8) (h1 : 0 ≤ me ∧ me ≤ 255) (h2 : 0 ≤ other ∧ other ≤ 255) (h3 : 0 ≤ mine ∧ mine ≤ 1125899906842624) (h4 : 0 ≤ hers ∧ hers ≤ 1125899906842624) (h5 : 0 ≤ c.wait ∧ c.wait ≤ 65536) (h6 : 0 ≤ c.fat ∧ c.fat ≤ 15) : txOk (commitP c a0 a1 a2 a3 a4 a5 a6 me other mine hers h) = true := by
  simp [txOk, commitP, fundP, ownP, herP, opOk, noOp, insOk, inOk, uptoB, outsOk, outOk, wayOk, rises, keysOf, okHeight]
  omega
theorem peace_ok {c : PChan} (a0 a1 a2 a3 a4 a5 : Option Addr) {mine hers : Int} (h1 : 0 ≤ c.client ∧ c.client ≤ 255) (h2 : 0 ≤ c.peer ∧ c.peer ≤ 255) (h3 : 0 ≤ mine ∧ mine ≤ 1125899906842624) (h4 : 0 ≤ hers ∧ hers ≤ 1125899906842624) (h6 : 0 ≤ c.fat ∧ c.fat ≤ 15) : txOk (peaceP c a0 a1 a2 a3 a4 a5 mine hers) = true := by
  simp [txOk, peaceP, fundP, herP, opOk, noOp, insOk, inOk, uptoB, outsOk, outOk, wayOk, rises, keysOf, okHeight]
  omega
/-- What a channel and a state that may be have. -/
structure Fine14 (c : PChan) (s : PState) : Prop where
  client : 0 ≤ c.client ∧ c.client ≤ 255
  peer : 0 ≤ c.peer ∧ c.peer ≤ 255
  unlike : c.client ≠ c.peer
  wait : 0 ≤ c.wait ∧ c.wait ≤ 65536
  fat : 0 ≤ c.fat ∧ c.fat ≤ 15
  mine : 0 ≤ s.client ∧ s.client ≤ 1125899906842624
  hers : 0 ≤ s.peer ∧ s.peer ≤ 1125899906842624
  h0 : s.h0 ≠ zero32
  h1 : s.h1 ≠ zero32
theorem fine14 {c : PChan} {s : PState} (h : stateOk c s = true) : Fine14 c s := by
  simp only [stateOk, chanOk, Bool.and_eq_true, decide_eq_true_eq, Bool.not_eq_true', decide_eq_false_iff_not] at h
  obtain ⟨⟨a1, a2, a3, a4, a5, a6, a7, a8, a9, b1, b2, b3, b4, b5⟩, _, d1, d2, e1, e2, e3, e4, _⟩ := h
  exact ⟨⟨a3, a4⟩, ⟨a5, a6⟩, a7, ⟨by omega, b3⟩, ⟨b4, b5⟩, ⟨e1, e2⟩, ⟨e3, e4⟩, d1, d2⟩
end Go.Proofs.YtkihmhchdenamaaDoor
