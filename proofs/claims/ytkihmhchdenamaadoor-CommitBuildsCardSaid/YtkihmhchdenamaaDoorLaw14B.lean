/- What law 14's build comes to: a commitment. -/
import Derived.Test.YtkihmhchdenamaaDoorTxBuild
import Derived.Test.YtkihmhchdenamaaDoorStateMem
import Derived.Test.YtkihmhchdenamaaDoorLaw14
namespace Go.Proofs.YtkihmhchdenamaaDoor
open Go.RowKit

theorem fits0_14 : Fits 0 := by constructor <;> decide
theorem to_last14 {w1 w9 w10 : World} {r p : Nat} {o : Obj} (hb : But w9.heap.size r w9 w10) (hp : w9.heap[p]? = some o) (hr : r < w1.heap.size) (hq : w1.heap.size ≤ p) : w10.heap[p]? = some o := (hb.block p (Array.getElem?_eq_some_iff.1 hp).1 (by omega)).trans hp
/-- A commitment: of the channel's fund, its owner's part by two ways, the other one's. -/
def ownP (c : PChan) (a1 a2 a3 : Option Addr) (me other mine : Int) (h : List UInt8) : POut := ⟨mine, a1, 2, 2, [⟨a2, 1, 1, [me], zero32, 0, c.wait⟩, ⟨a3, 1, 1, [other], h, 0, 0⟩]⟩
def herP (a4 a5 : Option Addr) (other hers : Int) : POut := ⟨hers, a4, 1, 1, [⟨a5, 1, 1, [other], zero32, 0, 0⟩]⟩
def fundP (c : PChan) : PIn := ⟨c.ftx, c.fat, 0, none, 0, 0, []⟩
def commitP (c : PChan) (a0 a1 a2 a3 a4 a5 a6 : Option Addr) (me other mine hers : Int) (h : List UInt8) : PTx := ⟨a0, 1, 1, [fundP c], a6, 2, 2, [ownP c a1 a2 a3 me other mine h, herP a4 a5 other hers], noOp, none, 0, 0, []⟩
end Go.Proofs.YtkihmhchdenamaaDoor
