/- CommitBuilds, walked. -/
import Derived.Test.YtkihmhchdenamaaDoorBuilds14A
import Derived.Test.YtkihmhchdenamaaDoorBuilds14C0
import Derived.Test.YtkihmhchdenamaaDoorBuilds14C1
namespace Go.Proofs.YtkihmhchdenamaaDoor
open Go.RowKit

theorem builds14_walk {w : World} {c : PChan} {s : PState} {z : Int} (hc : ChanIn c) (hs : StateIn s) (hk : KsAt w) :
    Calls Tryd.prog 3 #[.agg c.cells.toArray, .agg s.cells.toArray, .int .i64 z] w fun e w' => e = .returned (.bool true) ∧ Below w.heap.size w w' := by
  cases hu : stateOk c s
  · exact builds14_A hc hs hk hu
  · by_cases h0 : z = 0
    · subst h0
      exact builds14_0 hc hs hk hu
    · by_cases h1 : z = 1
      · subst h1
        exact builds14_1 hc hs hk hu
      · exact builds14_B hc hs hk hu h0 h1
end Go.Proofs.YtkihmhchdenamaaDoor
