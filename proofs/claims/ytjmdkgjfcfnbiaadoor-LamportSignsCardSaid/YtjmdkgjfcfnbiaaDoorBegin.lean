/- What begin comes to: the sum of nothing yet. -/
import Derived.Test.YtjmdkgjfcfnbiaaDoorPut
namespace Go.Proofs.YtjmdkgjfcfnbiaaDoor
open Go.RowKit

theorem Tryd.size45 : (Tryd.prog.info? 45).map (·.size) = some 73 := by kernel_rfl
/-- A sum under way whose words and bytes are all 0. -/
def zeroHash : Array Value := (hashRow (List.replicate 8 0) (List.replicate 64 0) 0).toArray
theorem zeroHash_size : zeroHash.size = 73 := rfl
theorem zero_row (w : World) : (zeroValue 45).run Tryd.prog w = .ok (.agg zeroHash) w := by kernel_rfl
set_option maxRecDepth 100000 in
theorem begin_any (w : World) : Calls Tryd.prog 19 #[] w fun e w' => e = .returned (.agg (hashRow start.list (List.replicate 64 0) 0).toArray) ∧ Below w.heap.size w w' := by
  have hz := zero_row
  have hs := zeroHash_size
  go_enter Tryd.func19, Tryd.ntmps19
  go_wp2_with (refine wpList_store_row rfl 45 _ _ rfl w.heap.size _ rfl rfl 45 zeroHash (heap_alloc_new _ _) (by kernel_rfl) (by kernel_rfl) (by kernel_rfl) ?_)
  have b2 : Below w.heap.size w (w.alloc (.cells zeroHash 45)) := (Below.refl _ _).alloc (Nat.le_refl _) _
  refine bodyPost_ret (results_cell_row rfl _ _ w.heap.size 45 _ (0, 0) _ rfl (setRow_heap _ _ _ _ _ _ (heap_alloc_new _ _)) Tryd.underlying45 rfl (by kernel_rfl)) rfl ⟨?_, b2.trans (((but_setRow _ w.heap.size _).mono b2.size).below (Nat.le_refl _))⟩
  exact congrArg (fun x => Ending.returned (.agg x)) (by kernel_rfl)
end Go.Proofs.YtjmdkgjfcfnbiaaDoor
