/- What begin comes to: the sum of nothing yet. -/
import Derived.Test.YtmbfpopfabjodaaDoorPut
namespace Go.Proofs.YtmbfpopfabjodaaDoor
open Go.RowKit

theorem Tryd.size51 : (Tryd.prog.info? 51).map (·.size) = some 73 := by kernel_rfl
/-- A sum under way whose words and bytes are all 0. -/
def zeroHash : Array Value := (hashRow (List.replicate 8 0) (List.replicate 64 0) 0).toArray
theorem zeroHash_size : zeroHash.size = 73 := rfl
theorem zero_row (w : World) : (zeroValue 51).run Tryd.prog w = .ok (.agg zeroHash) w := by kernel_rfl
set_option maxRecDepth 100000 in
theorem begin_any (w : World) : Calls Tryd.prog 26 #[] w fun e w' => e = .returned (.agg (hashRow start.list (List.replicate 64 0) 0).toArray) ∧ Below w.heap.size w w' := by
  have hz := zero_row
  have hs := zeroHash_size
  go_enter Tryd.func26, Tryd.ntmps26
  go_wp2_with (refine wpList_store_row rfl 51 _ _ rfl w.heap.size _ rfl rfl 51 zeroHash (heap_alloc_new _ _) (by kernel_rfl) (by kernel_rfl) (by kernel_rfl) ?_)
  have b2 : Below w.heap.size w (w.alloc (.cells zeroHash 51)) := (Below.refl _ _).alloc (Nat.le_refl _) _
  refine bodyPost_ret (results_cell_row rfl _ _ w.heap.size 51 _ (0, 0) _ rfl (setRow_heap _ _ _ _ _ _ (heap_alloc_new _ _)) Tryd.underlying51 rfl (by kernel_rfl)) rfl ⟨?_, b2.trans (((but_setRow _ w.heap.size _).mono b2.size).below (Nat.le_refl _))⟩
  exact congrArg (fun x => Ending.returned (.agg x)) (by kernel_rfl)
end Go.Proofs.YtmbfpopfabjodaaDoor
