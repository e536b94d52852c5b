/- Why a proof does not hold, plainly, over what the layers below tell. No function of the program is named. -/
import Derived.Test.YtcmdpmialehjgaaGreatDoorPrfMem
namespace Go.Proofs.YtcmdpmialehjgaaGreatDoor
open Go.RowKit

def savedB (f : PFacts) (c : PChan) : Bool := f.taken && decide (wrap64 (f.when - f.at') ≤ c.window)
/-- V: it is verified; H, M: the hint, the mark; O: whose commitment; T: its sum; U: Uncover's error; G: Check's (chapter 15). -/
def whyV (p : PPrf) (tower : Int) (c : PChan) (f : PFacts) (height : Int) (V : Bool) (H M : List UInt8) (O : Int) (T : List UInt8) (U G : Int) : Int :=
  if p.r.tower = tower ∧ p.r.channel = c.id then
    if V = true then
      if p.r.hint = H ∧ p.r.blob = M then
        if O = 1 ∧ T = p.commit then
          if U = 0 then
            if G = 0 then
              if savedB f c = true then 18 else if wrap64 (height - f.at') ≤ c.window then 17 else 0
            else G
          else U
        else 13
      else 16
    else 11
  else 21
theorem four_boxes17 (w : World) (a b c d : Array Value) (A B C D : TypeId) : ∃ w1 g1 g2 g3, w1 = (((w.alloc (.cells a A)).alloc (.cells b B)).alloc (.cells c C)).alloc (.cells d D) ∧ g1 = w.heap.size + 1 ∧ g2 = w.heap.size + 1 + 1 ∧ g3 = w.heap.size + 1 + 1 + 1 ∧ Below w.heap.size w w1 ∧ w1.heap[w.heap.size]? = some (.cells a A (0, 0)) ∧ w1.heap[g1]? = some (.cells b B (0, 0)) ∧ w1.heap[g2]? = some (.cells c C (0, 0)) ∧ w1.heap[g3]? = some (.cells d D (0, 0)) := by
  refine ⟨_, _, _, _, rfl, rfl, rfl, rfl, ?_, ?_, ?_, ?_, ?_⟩
  · exact ((((Below.refl _ _).alloc (Nat.le_refl _) _).alloc (by simp) _).alloc (by simp <;> omega) _).alloc (by simp <;> omega) _
  · rw [heap_alloc_old _ _ (by simp <;> omega), heap_alloc_old _ _ (by simp <;> omega), heap_alloc_old _ _ (by simp), heap_alloc_new]
  · rw [heap_alloc_old _ _ (by simp <;> omega), heap_alloc_old _ _ (by simp), heap_alloc_at _ _ _ (by simp)]
  · rw [heap_alloc_old _ _ (by simp), heap_alloc_at _ _ _ (by simp)]
  · exact heap_alloc_at _ _ _ (by simp)
theorem sumLen17 {s : List UInt8} (h : s.length = 32) : (Tryz.prog.info? 23).map (·.size) = some (cellsOf s).length := by rw [cellsOf_len, h]; exact Tryz.size23
end Go.Proofs.YtcmdpmialehjgaaGreatDoor
