/- A sum is laid into a new block. No function of the program is named. -/
import Derived.Test.YtjmdkgjfcfnbiaaDoorAt
namespace Go.Proofs.YtjmdkgjfcfnbiaaDoor
open Go.RowKit

/-- A world with one sum more. -/
def laySum (w : World) (d : List UInt8) : World := (w.alloc (.cells (cellsOf zero32).toArray 23)).setRow w.heap.size (cellsOf d).toArray
theorem laySum_is (w : World) (d : List UInt8) : (w.alloc (.cells (cellsOf zero32).toArray 23)).setRow w.heap.size (cellsOf d).toArray = laySum w d := rfl
theorem laySum_heap (w : World) (d : List UInt8) : (laySum w d).heap[w.heap.size]? = some (.cells (cellsOf d).toArray 23 (0, 0)) := setRow_heap _ _ _ _ _ _ (heap_alloc_new _ _)
theorem laySum_below {w0 w : World} (d : List UInt8) (hb : Below w0.heap.size w0 w) : Below w0.heap.size w0 (laySum w d) := by
  have b : Below w0.heap.size w0 (w.alloc (.cells (cellsOf zero32).toArray 23)) := hb.alloc hb.size _
  exact b.trans (((but_setRow _ w.heap.size _).mono b.size).below hb.size)
theorem laySum_self (w : World) (d : List UInt8) : Below w.heap.size w (laySum w d) := laySum_below d (Below.refl _ _)
theorem laySum_size (w : World) (d : List UInt8) : (laySum w d).heap.size = w.heap.size + 1 := by simp [laySum, World.setRow]
theorem size_of {d : List UInt8} (h : d.length = 32) : (Tryd.prog.info? 23).map (·.size) = some (cellsOf d).toArray.size := by rw [List.size_toArray, cellsOf_len, h]; exact Tryd.size23
theorem zero_of {d : List UInt8} (h : d.length = 32) : (cellsOf zero32).toArray.size = (cellsOf d).toArray.size := by rw [List.size_toArray, List.size_toArray, cellsOf_len, cellsOf_len, h]; rfl
end Go.Proofs.YtjmdkgjfcfnbiaaDoor
