/- Done as a plain function of what is left and the error. -/
import Derived.Test.YtfccmiohnjhkoaaDoorWire
namespace Go.Proofs.YtfccmiohnjhkoaaDoor
open Go.RowKit

/-- The error at the end. -/
def doneE (s : List UInt8 × Int) : Int := if s.2 = 0 then (if s.1 = [] then 0 else 3) else s.2
theorem done_st {yb : Nat} {s : List UInt8 × Int} (w : World) (h : EyeAt w yb s.1 s.2) : Calls Tryd.prog 30 #[.pointer (some ⟨yb, 0, none⟩)] w fun r w' => r = .returned (.int .i64 (doneE s)) ∧ (∃ s' : List UInt8 × Int, EyeAt w' yb s'.1 s'.2) ∧ But w.heap.size yb w w' := by
  unfold doneE
  by_cases h0 : s.2 = 0
  · rw [if_pos h0]
    rw [h0] at h
    by_cases h1 : s.1 = []
    · rw [if_pos h1]
      rw [h1] at h
      exact (done_all h).mono fun r w' ⟨e1, e2⟩ => ⟨e1, ⟨([], 0), by rw [← e2]; exact h⟩, by rw [← e2]; exact But.refl _ _ _⟩
    · rw [if_neg h1]
      exact (done_left h1 h).mono fun _ _ ⟨e1, e2, e3⟩ => ⟨e1, ⟨(s.1, 3), e2⟩, e3⟩
  · rw [if_neg h0]
    exact (done_later s.2 h0 h).mono fun r w' ⟨e1, e2⟩ => ⟨e1, ⟨s, by rw [← e2]; exact h⟩, by rw [← e2]; exact But.refl _ _ _⟩
theorem doneE_zero {s : List UInt8 × Int} (h : doneE s = 0) : s = ([], 0) := by
  obtain ⟨l, e⟩ := s
  unfold doneE at h
  dsimp only at h
  split at h
  · rename_i h1
    split at h
    · rename_i h2
      rw [h1, h2]
    · cases h
  · rename_i h1
    exact absurd h h1
end Go.Proofs.YtfccmiohnjhkoaaDoor
