/- A call of law 13 in memory: two sums and a bool. -/
import Derived.Test.YthpkafjonelanaaDoorSliceOf
import Derived.Test.YthpkafjonelanaaDoorSecOf
namespace Go.Proofs.YthpkafjonelanaaDoor
open Go.RowKit

structure POp13 where
  x : List UInt8
  h : List UInt8
  own : Bool
def POp13.cells (o : POp13) : List Value := cellsOf o.x ++ (cellsOf o.h ++ [.bool o.own])
structure OpIn13 (o : POp13) : Prop where
  x : o.x.length = 32
  h : o.h.length = 32
theorem POp13.len {o : POp13} (h : OpIn13 o) : o.cells.length = 65 := by
  unfold POp13.cells
  rw [List.length_append, List.length_append, cellsOf_len, cellsOf_len, h.x, h.h]
  rfl
theorem POp13.one (o : POp13) : ∀ v ∈ o.cells, v.oneCell' = true := by
  intro v hv
  unfold POp13.cells at hv
  rcases List.mem_append.1 hv with hv | hv
  · exact cellsOf_one _ v hv
  · rcases List.mem_append.1 hv with hv | hv
    · exact cellsOf_one _ v hv
    · rw [List.mem_singleton] at hv
      subst hv
      rfl
def noOp13 : POp13 := ⟨zero32, zero32, false⟩
def opK13 : Sort8 POp13 := ⟨65, POp13.cells, fun _ o => OpIn13 o, noOp13, by omega, fun _ _ h => POp13.len h, POp13.one, fun h _ => h⟩
theorem op13_x {w : World} {b off : Nat} {o : POp13} (hr : w.rangeAt b off o.cells) : w.rangeAt b off (cellsOf o.x) := fun i v hi => hr i v (by
  unfold POp13.cells
  rw [List.getElem?_append_left (List.getElem?_eq_some_iff.1 hi).1]
  exact hi)
theorem op13_h {w : World} {b off : Nat} {o : POp13} (h : OpIn13 o) (hr : w.rangeAt b off o.cells) : w.rangeAt b (off + 32) (cellsOf o.h) := fun i v hi => by
  have h1 := hr (32 + i) v (by
    unfold POp13.cells
    rw [List.getElem?_append_right (by rw [cellsOf_len, h.x]; omega), cellsOf_len, h.x, show 32 + i - 32 = i by omega, List.getElem?_append_left (List.getElem?_eq_some_iff.1 hi).1]
    exact hi)
  rw [← Nat.add_assoc] at h1
  exact h1
theorem op13_own {w : World} {b off : Nat} {o : POp13} (h : OpIn13 o) (hr : w.rangeAt b off o.cells) : w.cell? ⟨b, off + 64, none⟩ = some (.bool o.own) := hr 64 _ (by
  unfold POp13.cells
  rw [List.getElem?_append_right (by rw [cellsOf_len, h.x]; omega), cellsOf_len, h.x, List.getElem?_append_right (by rw [cellsOf_len, h.h]; omega), cellsOf_len, h.h]
  rfl)
theorem op13_row {w : World} {p : Nat} {o : POp13} {t : TypeId} {fr : Nat × Nat} (h : OpIn13 o) (hp : w.heap[p]? = some (.cells o.cells.toArray t fr)) : Row w (some ⟨p, 0, none⟩) 32 32 o.x :=
  row_new h.x (Nat.le_refl _) (by unfold maxLen; omega) _ t hp (fun j hj => by
    unfold POp13.cells
    rw [List.getElem?_append_left (by rw [cellsOf_len, h.x]; exact hj)]
    exact cellsOf_get (by rw [h.x]; exact hj))
theorem Tryd.zeroOp13 : (Tryd.prog.info? 38).map (fun i => (i.zero, i.size, i.bytes)) = some (some (.agg noOp13.cells.toArray), 65, 65) := by kernel_rfl
theorem op13_size {o : POp13} (h : OpIn13 o) : (Tryd.prog.info? 38).map (·.size) = some o.cells.length := by rw [POp13.len h]; kernel_rfl
end Go.Proofs.YthpkafjonelanaaDoor
