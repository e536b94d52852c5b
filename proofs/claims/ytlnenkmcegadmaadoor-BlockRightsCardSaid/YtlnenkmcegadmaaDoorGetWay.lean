/- What getWay comes to: a way is read, whatever the error. -/
import Derived.Test.YtlnenkmcegadmaaDoorWayVar
import Derived.Test.YtlnenkmcegadmaaDoorMemory
namespace Go.Proofs.YtlnenkmcegadmaaDoor
open Go.RowKit

/-- New: no older block holds it. -/
def NewB (B : Nat) (a : Option Addr) : Prop := ∀ ad, a = some ad → B ≤ ad.block
/-- Where a way's keys lie: in a block of numbers. -/
def KeyTag (w : World) (x : PWay) : Prop := 0 < x.n → ∃ b off cs fr, x.a = some ⟨b, off, none⟩ ∧ w.heap[b]? = some (.cells cs 3 fr)
theorem OwnZ.tag {w : World} {B n c : Nat} {a : Option Addr} {l : List Int} (h : OwnZ w 3 B (.slice a n c) l) : (0 < n → ∃ b off cs fr, a = some ⟨b, off, none⟩ ∧ w.heap[b]? = some (.cells cs 3 fr)) ∧ ∀ ad, a = some ad → B ≤ ad.block := by
  rcases h.1.2 with ⟨hv, h1⟩ | ⟨g, cap, cur, hv, hB, hh, r⟩
  · cases hv
    exact ⟨fun h0 => absurd h0 (by omega), fun ad e => by cases e⟩
  · cases hv
    exact ⟨fun _ => ⟨g, 0, _, _, rfl, hh⟩, fun ad e => by cases e; exact hB⟩
end Go.Proofs.YtlnenkmcegadmaaDoor
