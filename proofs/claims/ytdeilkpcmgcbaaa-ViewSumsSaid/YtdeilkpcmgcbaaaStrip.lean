/- What ways say, without where they lie. No function of the program is named. -/
import Derived.Test.YtdeilkpcmgcbaaaLock
namespace Go.Proofs.Ytdeilkpcmgcbaaa
open Go.RowKit

/-- What a way says, without where it lies. -/
def PWay.strip (x : PWay) : PWay := ⟨none, 0, 0, x.ks, x.h, x.after, x.wait⟩
theorem alikeW_strip {x y : PWay} : alikeW x y = true ↔ x.strip = y.strip := by
  unfold alikeW PWay.strip
  simp
theorem alikeWs_strip : ∀ {xs ys : List PWay}, alikeWs xs ys = true ↔ xs.map PWay.strip = ys.map PWay.strip
  | [], [] => by simp [alikeWs]
  | [], y :: ys => by simp [alikeWs]
  | x :: xs, [] => by simp [alikeWs]
  | x :: xs, y :: ys => by simp only [alikeWs, Bool.and_eq_true, alikeW_strip, alikeWs_strip (xs := xs) (ys := ys), List.map_cons, List.cons.injEq]
theorem wayOk_strip (x : PWay) : wayOk x.strip = wayOk x := rfl
theorem outOk_strip (m : Int) (xs : List PWay) : outOk m (xs.map PWay.strip) = outOk m xs := by
  unfold outOk
  rw [List.length_map, List.all_map]
  rfl
end Go.Proofs.Ytdeilkpcmgcbaaa
