/- The cells of an api.Ref. No function of the program is named. -/
import Derived.Test.YtkihmhchdenamaaDoorMemory
namespace Go.Proofs.YtkihmhchdenamaaDoor
open Go.RowKit

def refCells (s : List UInt8) (z : Int) : List Value := cellsOf s ++ [.int .i64 z]
theorem refCells_len {s : List UInt8} {z : Int} (h : s.length = 32) : (refCells s z).length = 33 := by simp [refCells, cellsOf_len, h]
theorem Tryd.sizeRef : (Tryd.prog.info? 25).map (·.size) = some 33 := by kernel_rfl
theorem refSize {s : List UInt8} {z : Int} (h : s.length = 32) : (Tryd.prog.info? 25).map (·.size) = some (refCells s z).length := by rw [refCells_len h]; exact Tryd.sizeRef
end Go.Proofs.YtkihmhchdenamaaDoor
