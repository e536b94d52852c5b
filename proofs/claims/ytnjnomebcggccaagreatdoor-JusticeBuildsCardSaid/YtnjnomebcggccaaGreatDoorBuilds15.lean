/- JusticeBuilds, walked. -/
import Derived.Test.YtnjnomebcggccaaGreatDoorBuilds15A
import Derived.Test.YtnjnomebcggccaaGreatDoorBuilds15B
namespace Go.Proofs.YtnjnomebcggccaaGreatDoor
open Go.RowKit

theorem builds15_walk {w : World} {c : PChan} {t : PTx} {pre : List UInt8} {z r f : Int} (hc : ChanIn c) (ht : TxIn w t) (hpl : pre.length = 32) (hrf : Fits r) (hff : Fits f) (hk : KsAt w) :
    Calls Tryz.prog 3 #[.agg c.cells.toArray, .agg t.cells.toArray, .agg (cellsOf pre).toArray, .int .i64 z, .agg #[.int .i64 r, .int .i64 f]] w fun e w' => e = .returned (.bool true) ∧ Below w.heap.size w w' := by
  cases hst : smallT t
  · exact builds15_small hc ht hpl hrf hff hk hst
  · by_cases hcl : 0 ≤ c.client ∧ c.client ≤ 255 ∧ 0 ≤ c.peer ∧ c.peer ≤ 255
    · by_cases hO : ownerP c t = -1
      · exact builds15_none hc ht hpl hrf hff hk hst hcl hO
      · by_cases hz : z < -1 ∨ 15 < z
        · exact builds15_tower hc ht hpl hrf hff hk hst hcl hO hz
        · obtain ⟨m, k, b, o, b2, o2, wk, u0, u1, x1, hp⟩ := part_at ht hO
          by_cases hh : shownSum pre = u1.h
          · cases hsh : sharesOk m (askP z r) f
            · exact builds15_shares hc ht hpl hrf hff hk hst hcl hO (by omega) (by omega) hp hh hsh
            · exact builds15_ok hc ht hpl hrf hff hk hst hcl hO (by omega) (by omega) hp hh hsh
          · exact builds15_hash hc ht hpl hrf hff hk hst hcl hO (by omega) (by omega) hp hh
    · exact builds15_chan hc ht hpl hrf hff hk hst (by omega)
end Go.Proofs.YtnjnomebcggccaaGreatDoor
