/- slices.Clone at ways: a row of its own of the same ways. -/
import Derived.Test.YtlnenkmcegadmaaDoorSliceOf
import Derived.Test.YtlnenkmcegadmaaDoorLock
import Derived.Test.YtlnenkmcegadmaaDoorCloneZ
import Derived.Test.YtlnenkmcegadmaaDoorShelf
namespace Go.Proofs.YtlnenkmcegadmaaDoor
open Go.RowKit

def wayK9 : Sort8 PWay := ⟨35, PWay.cells, WayIn, noWay, by omega, fun _ _ h => PWay.cells_len h.sum, PWay.cells_one, fun h hb => h.below hb⟩
set_option linter.unusedSimpArgs false in
set_option maxRecDepth 100000 in
set_option maxHeartbeats 3200000 in
theorem cloneWays_zero {w : World} (x : Addr) (c : Nat) : Calls Tryd.prog 61 #[.slice (some x) 0 c] w fun e w' => ∃ (a' : Option Addr) (c' : Nat), e = .returned (.slice a' 0 c') ∧ Ways w' a' 0 c' [] ∧ Below w.heap.size w w' := by
  obtain ⟨i0, hi, hz0, hz1, hz2⟩ := info_parts (show (Tryd.prog.info? 82).map (fun i => (i.zero, i.size, i.bytes)) = some (some (.agg noWay.cells.toArray), 35, 72) by kernel_rfl)
  have hq : ∀ (w : World) (a : Option Addr) (n c n' c' : Nat), (binOp .eql 77 (.slice a n c) (.slice none n' c')).run Tryd.prog w = .ok (.bool a.isNone) w := fun w a n c n' c' => Lib.run_eql_slice_nil w _ _ a n c n' c' Tryd.underlying77
  go_enter Tryd.func61, Tryd.ntmps61
  go_wp2_with (at_builtin; refine wpList_append_own _ rfl _ _ 77 rfl w.heap.size 82 i0 (.agg noWay.cells.toArray) 35 72 Tryd.underlying77 hi hz0 hz1 hz2 (by kernel_rfl) (by omega) _ _ _ rfl (World.ownsRow_made w #[] 0 (Nat.le_refl _) (Nat.zero_le _) (by simp)) x 0 c [] rfl rfl (fun j u hj => by simp at hj) (fun u hu => by simp at hu) (by unfold maxLen; omega) (by omega) (by simp) ?_)
  intro v' w1 hown hgrow hnil
  go_wp2
  go_ret
  have hO : OwnOf wayK9 82 w1 w.heap.size v' [] := ⟨hown, fun y hy => by cases hy⟩
  obtain ⟨a', c', rfl, _⟩ := hO.shape
  exact ⟨a', c', rfl, hO.slice (fun y hy => by cases hy), ((Below.refl _ w).alloc (Nat.le_refl _) _).grown hgrow (by simp) (by intro k hk; simp [Value.ownBlock] at hk; omega)⟩
theorem cloneWaysG_any {w : World} {a : Option Addr} {n c : Nat} {xs : List PWay} (h : Ways w a n c xs) (hn : n ≤ 1000) :
    Calls Tryd.prog 61 #[.slice a n c] w fun e w' => ∃ (a' : Option Addr) (c' : Nat), e = .returned (.slice a' n c') ∧ Ways w' a' n c' xs ∧ (a = none → a' = none) ∧ (1 ≤ n → ∃ g cur, a' = some ⟨g, 0, none⟩ ∧ w.heap.size ≤ g ∧ w'.heap[g]? = some (.cells cur 82 (0, 0))) ∧ Below w.heap.size w w' := by
  by_cases h0 : 1 ≤ n
  · obtain ⟨b, off, rfl, hlt, hc⟩ := h.2.2.2.2.2 h0
    obtain ⟨i0, hi, hz0, hz1, hz2⟩ := info_parts (show (Tryd.prog.info? 82).map (fun i => (i.zero, i.size, i.bytes)) = some (some (.agg noWay.cells.toArray), 35, 72) by kernel_rfl)
    have hall : ∀ x ∈ xs, (PWay.cells x).length = 35 := fun x hx => PWay.cells_len (h.2.2.2.2.1 x hx).sum
    have hlen : (xs.flatMap PWay.cells).length = n * 35 := by rw [cells_flat_len hall, h.1]
    refine (AnyE.slices_Clone Tryd.laysWays i0 (.agg noWay.cells.toArray) 35 72 hi hz0 hz1 hz2 (by kernel_rfl) (by omega) (by intro w; exact Tryd.sizeOf82 w) b off n c (xs.flatMap PWay.cells) w hlen (by unfold maxLen; omega) (by omega) (fun j u hj => ?_) (fun u hu => ?_)).mono ?_
    · have hjl : j < n * 35 := by rw [← hlen]; exact (List.getElem?_eq_some_iff.1 hj).1
      have h1 : j / 35 < n := Nat.div_lt_of_lt_mul (by omega)
      have h2 : j % 35 < 35 := Nat.mod_lt _ (by omega)
      have h3 := flat_get (d := noWay) hall (j := j / 35) (i := j % 35) (by rw [h.1]; exact h1) h2
      have h4 : j / 35 * 35 + j % 35 = j := Nat.div_add_mod' j 35
      rw [h4, hj] at h3
      have h5 := hc (j / 35) h1 (j % 35) u h3.symm
      rw [show off + j / 35 * 35 + j % 35 = off + j by omega] at h5
      exact h5
    · obtain ⟨x, hx, hu⟩ := List.mem_flatMap.1 hu
      exact PWay.cells_one x u hu
    · rintro e w' ⟨v', rfl, ho, hne, hb⟩
      have hO : OwnOf wayK9 82 w' w.heap.size v' xs := ⟨by rw [h.1]; exact ho, hall⟩
      rcases ho.2 with ⟨_, hz⟩ | ⟨g, cap, cur, rfl, hB, hh, _⟩
      · omega
      · refine ⟨_, _, rfl, ?_, (fun e => by cases e), fun _ => ⟨g, cur, rfl, hB, hh⟩, hb⟩
        exact hO.slice (fun x hx => (h.2.2.2.2.1 x hx).below hb)
  · obtain rfl : n = 0 := by omega
    obtain rfl : xs = [] := List.eq_nil_of_length_eq_zero h.1
    cases a with
    | none =>
      refine (AnyE.slices_Clone_nil Tryd.laysWays 0 c w).mono ?_
      rintro e w' ⟨rfl, rfl⟩
      exact ⟨none, 0, rfl, Ways.nil _, (fun _ => rfl), fun h => by omega, Below.refl _ _⟩
    | some x =>
      refine (cloneWays_zero x c).mono ?_
      rintro e w' ⟨a', c', rfl, h2, h3⟩
      exact ⟨a', c', rfl, h2, (fun e => by cases e), fun h => by omega, h3⟩
theorem cloneWays_any {w : World} {a : Option Addr} {n c : Nat} {xs : List PWay} (h : Ways w a n c xs) (hn0 : a = none ∨ 1 ≤ n) (hn : n ≤ 1000) :
    Calls Tryd.prog 61 #[.slice a n c] w fun e w' => ∃ (a' : Option Addr) (c' : Nat), e = .returned (.slice a' n c') ∧ Ways w' a' n c' xs ∧ (a' = none ∨ 1 ≤ n) ∧ (1 ≤ n → ∃ g cur, a' = some ⟨g, 0, none⟩ ∧ w.heap.size ≤ g ∧ w'.heap[g]? = some (.cells cur 82 (0, 0))) ∧ Below w.heap.size w w' := by
  refine (cloneWaysG_any h hn).mono ?_
  rintro e w' ⟨a', c', h1, h2, h3, h4⟩
  exact ⟨a', c', h1, h2, hn0.imp h3 id, h4⟩
/-- A way's keys are written anew: the same numbers, elsewhere. -/
def PWay.at9 (x : PWay) (a : Option Addr) (n c : Nat) : PWay := ⟨a, n, c, x.ks, x.h, x.after, x.wait⟩
theorem at9_strip (x : PWay) (a : Option Addr) (n c : Nat) : (x.at9 a n c).strip = x.strip := rfl
theorem cell_set_other {w : World} {a b : Addr} {v : Value} (h : a ≠ b) : (w.setCell a v).cell? b = w.cell? b := World.cell?_setCell_other w a b v h
theorem cell_set_same {w : World} {a : Addr} {v u : Value} (h : w.cell? a = some u) : (w.setCell a v).cell? a = some v := World.cell?_setCell_same w a v h
theorem numbers_setCell {w : World} {a : Option Addr} {n c : Nat} {zs : List Int} {g o : Nat} {v : Value} (h : Numbers w a n c zs) {u : Value} (hu : w.cell? ⟨g, o, none⟩ = some u) (hnz : ∀ z, u ≠ .int .i64 z) : Numbers (w.setCell ⟨g, o, none⟩ v) a n c zs := by
  obtain ⟨h1, h2, h3, h4, h6, h5⟩ := h
  refine ⟨h1, h2, h3, h4, h6, fun h0 => ?_⟩
  obtain ⟨b, off, rfl, hlt, hc⟩ := h5 h0
  refine ⟨b, off, rfl, by simpa using hlt, fun j hj => ?_⟩
  rw [cell_set_other (fun e => ?_)]
  · exact hc j hj
  · have h9 := hc j hj
    rw [← e, hu] at h9
    exact hnz _ (Option.some.inj h9)
theorem ways_key_set {w : World} {g n c : Nat} {ys : List PWay} {i : Nat} {a2 : Option Addr} {n2 c2 : Nat} (h : Ways w (some ⟨g, 0, none⟩) n c ys) (hi : i < n) (hN : Numbers w a2 n2 c2 (ys.getD i noWay).ks) :
    Ways (w.setCell ⟨g, i * 35, none⟩ (.slice a2 n2 c2)) (some ⟨g, 0, none⟩) n c (ys.set i ((ys.getD i noWay).at9 a2 n2 c2)) := by
  obtain ⟨h1, h2, h3, h4, h6, h5⟩ := h
  obtain ⟨b, off, e, hlt, hc⟩ := h5 (by omega)
  cases e
  have hk : w.cell? ⟨g, i * 35, none⟩ = some (.slice (ys.getD i noWay).a (ys.getD i noWay).n (ys.getD i noWay).c) := by
    have h9 := way_keys (hc i hi)
    rw [Nat.zero_add] at h9
    exact h9
  have hyi : i < ys.length := by omega
  have hwi : WayIn w (ys.getD i noWay) := by
    rw [List.getD_eq_getElem?_getD, List.getElem?_eq_getElem hyi]
    exact h6 _ (List.getElem_mem hyi)
  have kept : ∀ x, WayIn w x → WayIn (w.setCell ⟨g, i * 35, none⟩ (.slice a2 n2 c2)) x := fun x hx => ⟨numbers_setCell hx.keys hk (fun z e => by cases e), hx.sum, hx.after, hx.wait⟩
  have hlen : ∀ j, j < n → (ys.getD j noWay).cells.length = 35 := fun j hj => by
    have hj' : j < ys.length := by omega
    rw [List.getD_eq_getElem?_getD, List.getElem?_eq_getElem hj']
    exact PWay.cells_len (h6 _ (List.getElem_mem hj')).sum
  refine ⟨by rw [List.length_set]; exact h1, h2, h3, h4, fun x hx => ?_, fun _ => ⟨g, 0, rfl, by simpa using hlt, fun j hj k v hv => ?_⟩⟩
  · rcases List.mem_or_eq_of_mem_set hx with hx | rfl
    · exact kept x (h6 x hx)
    · exact ⟨numbers_setCell hN hk (fun z e => by cases e), hwi.sum, hwi.after, hwi.wait⟩
  · rw [Nat.zero_add]
    by_cases hji : j = i
    · subst hji
      have e1 : (ys.set j ((ys.getD j noWay).at9 a2 n2 c2)).getD j noWay = (ys.getD j noWay).at9 a2 n2 c2 := by
        rw [List.getD_eq_getElem?_getD, List.getElem?_set_self hyi]
        rfl
      rw [e1] at hv
      cases k with
      | zero =>
        have e2 : v = .slice a2 n2 c2 := by
          have h9 : (PWay.cells ((ys.getD j noWay).at9 a2 n2 c2))[0]? = some (.slice a2 n2 c2) := rfl
          rw [h9] at hv
          exact (Option.some.inj hv).symm
        rw [e2]
        exact cell_set_same hk
      | succ k =>
        rw [cell_set_other (fun e => by have h9 : j * 35 = j * 35 + (k + 1) := congrArg Addr.off e; omega)]
        have h9 := hc j hj (k + 1) v hv
        rw [Nat.zero_add] at h9
        exact h9
    · have e1 : (ys.set i ((ys.getD i noWay).at9 a2 n2 c2)).getD j noWay = ys.getD j noWay := by
        rw [List.getD_eq_getElem?_getD, List.getElem?_set_ne (fun e => hji e.symm), ← List.getD_eq_getElem?_getD]
      rw [e1] at hv
      have hkl : k < 35 := by
        have h9 := (List.getElem?_eq_some_iff.1 hv).1
        rw [hlen j hj] at h9
        exact h9
      rw [cell_set_other (fun e => by
        have h9 : i * 35 = j * 35 + k := congrArg Addr.off e
        rcases Nat.lt_or_gt_of_ne hji with h8 | h8
        · have := Nat.mul_le_mul_right 35 h8
          omega
        · have := Nat.mul_le_mul_right 35 h8
          omega)]
      have h9 := hc j hj k v hv
      rw [Nat.zero_add] at h9
      exact h9
theorem strip_set {ys : List PWay} {i : Nat} (hi : i < ys.length) (a2 : Option Addr) (n2 c2 : Nat) : (ys.set i ((ys.getD i noWay).at9 a2 n2 c2)).map PWay.strip = ys.map PWay.strip := by
  rw [List.map_set, at9_strip]
  apply List.ext_getElem?
  intro j
  by_cases hj : j = i
  · subst hj
    rw [List.getElem?_set_self (by simpa using hi), List.getElem?_map, List.getElem?_eq_getElem hi, List.getD_eq_getElem?_getD, List.getElem?_eq_getElem hi]
    rfl
  · rw [List.getElem?_set_ne (fun e => hj e.symm)]
end Go.Proofs.YtlnenkmcegadmaaDoor
