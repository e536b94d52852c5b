/- What the statements' own small helpers come to: few, same. -/
import Derived.Test.YtmbfpopfabjodaaDoorPath
namespace Go.Proofs.YtmbfpopfabjodaaDoor
open Go.RowKit

theorem few_any {w : World} {a : Option Addr} {n c : Nat} {ls : List (List UInt8)} (h : Sums w a n c ls) : Calls Tryd.prog 6 #[.slice a n c] w fun e w' => e = .returned (.slice a (min n 40) c) ∧ Sums w a (min n 40) c (ls.take 40) ∧ w = w' := by
  have hr : Sums w a (min n 40) c (ls.take 40) := by
    rw [show ls.take 40 = ls.take (min n 40) by rw [← h.len, List.take_eq_take_iff]; omega]
    exact h.take (by omega)
  have HR := Lib.hid hr
  have h1 := h.2.1
  have h2 := h.2.2.1
  unfold maxLen at h2
  clear h hr
  by_cases h40 : 40 < n
  · have q := fun W => run_cut_to (a := a) (n := n) (c := c) (A := 40) (by omega) W
    rw [Nat.min_eq_right (by omega)] at HR ⊢
    go_enter Tryd.func6, Tryd.ntmps6
    go_wp2
    go_ret
    exact ⟨rfl, HR.out, rfl⟩
  · rw [Nat.min_eq_left (by omega)] at HR ⊢
    go_enter Tryd.func6, Tryd.ntmps6
    go_wp2
    go_ret
    exact ⟨rfl, HR.out, rfl⟩
/-- A sum and a bool are told. -/
theorem results_cell_then {P : Program} {fn : Func} {p q : Tmp} {ty : TypeId} (h : fn.results = #[.cell p ty, .tmp q]) (tmps : Array Value) (w : World) (g : Nat) (t : TypeId) (cs : Array Value) (fr : Nat × Nat) (d : TypeDesc) (v : Value)
    (hp : tmps.getD p undef = .pointer (some ⟨g, 0, none⟩)) (hv : tmps.getD q undef = v) (hg : w.heap[g]? = some (.cells cs t fr))
    (hu : P.underlying ty = some d) (hd : (match d with | .struct _ | .array _ _ => true | _ => false) = true) (hi : (P.info? ty).map (·.size) = some cs.size) :
    (results fn tmps).run P w = .ok (.tuple #[.agg cs, v]) w := by
  have hp' : tmps[p]?.getD undef = .pointer (some ⟨g, 0, none⟩) := by simpa using hp
  have hv' : tmps[q]?.getD undef = v := by simpa using hv
  simp [results, h, hp', hv', asAddr, run_loadVar_row w g t ty cs fr d hg hu hd hi]
end Go.Proofs.YtmbfpopfabjodaaDoor
