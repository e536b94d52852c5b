/- What lock.Get comes to: an out is read, whatever the error. -/
import Derived.Test.YtlnenkmcegadmaaDoorOwnWays
namespace Go.Proofs.YtlnenkmcegadmaaDoor
open Go.RowKit

theorem NewB.base {B B' : Nat} {a : Option Addr} (h : NewB B a) (hB : B' ≤ B) : NewB B' a := fun ad e => Nat.le_trans hB (h ad e)
/-- Where ways lie: in a block of ways. -/
def WayTag (w : World) (a : Option Addr) (n : Nat) : Prop := 0 < n → ∃ b off cs fr, a = some ⟨b, off, none⟩ ∧ w.heap[b]? = some (.cells cs 82 fr)
theorem OwnW.tag {w : World} {B n c : Nat} {a : Option Addr} {xs : List PWay} (h : OwnW w B (.slice a n c) xs) : WayTag w a n := by
  rcases h.1.2 with ⟨hv, h1⟩ | ⟨g, cap, cur, hv, hB, hh, r⟩
  · cases hv
    exact fun h0 => absurd h0 (by omega)
  · cases hv
    exact fun _ => ⟨g, 0, _, _, rfl, hh⟩
theorem two_one (u v : Value) (hu : u.oneCell' = true) (hv : v.oneCell' = true) : (#[u, v] : Array Value).all (·.oneCell') = true :=
  all_oneCell_toArray (cs := [u, v]) (fun x hx => by simp at hx; rcases hx with rfl | rfl <;> assumption)
theorem size_out : (Tryd.prog.info? 79).map (·.size) = some 2 := by kernel_rfl
end Go.Proofs.YtlnenkmcegadmaaDoor
