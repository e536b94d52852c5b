/- slices.Clone at ins, outs and signs: rows of their own of the same things. -/
import Derived.Test.YtlnenkmcegadmaaDoorSetCells
import Derived.Test.YtlnenkmcegadmaaDoorTx
namespace Go.Proofs.YtlnenkmcegadmaaDoor
open Go.RowKit

set_option linter.unusedSimpArgs false in
set_option maxRecDepth 100000 in
set_option maxHeartbeats 3200000 in
theorem cloneIns_zero {w : World} (x : Addr) (c : Nat) : Calls Tryd.prog 58 #[.slice (some x) 0 c] w fun e w' => ∃ (a' : Option Addr) (c' : Nat), e = .returned (.slice a' 0 c') ∧ SliceOf inK w' a' 0 c' [] ∧ Below w.heap.size w w' := by
  obtain ⟨i0, hi, hz0, hz1, hz2⟩ := info_parts (show (Tryd.prog.info? 76).map (fun i => (i.zero, i.size, i.bytes)) = some (some (.agg noIn.cells.toArray), 35, 72) by kernel_rfl)
  have hq : ∀ (w : World) (a : Option Addr) (n c n' c' : Nat), (binOp .eql 43 (.slice a n c) (.slice none n' c')).run Tryd.prog w = .ok (.bool a.isNone) w := fun w a n c n' c' => Lib.run_eql_slice_nil w _ _ a n c n' c' Tryd.underlying43
  go_enter Tryd.func58, Tryd.ntmps58
  go_wp2_with (at_builtin; refine wpList_append_own _ rfl _ _ 43 rfl w.heap.size 76 i0 (.agg noIn.cells.toArray) 35 72 Tryd.underlying43 hi hz0 hz1 hz2 (by kernel_rfl) (by omega) _ _ _ rfl (World.ownsRow_made w #[] 0 (Nat.le_refl _) (Nat.zero_le _) (by simp)) x 0 c [] rfl rfl (fun j u hj => by simp at hj) (fun u hu => by simp at hu) (by unfold maxLen; omega) (by omega) (by simp) ?_)
  intro v' w1 hown hgrow hnil
  go_wp2
  go_ret
  have hO : OwnOf inK 76 w1 w.heap.size v' [] := ⟨hown, fun y hy => by cases hy⟩
  obtain ⟨a', c', rfl, _⟩ := hO.shape
  exact ⟨a', c', rfl, hO.slice (fun y hy => by cases hy), ((Below.refl _ w).alloc (Nat.le_refl _) _).grown hgrow (by simp) (by intro k hk; simp [Value.ownBlock] at hk; omega)⟩
theorem cloneIns_any {w : World} {a : Option Addr} {n c : Nat} {xs : List PIn} (h : SliceOf inK w a n c xs) (hn : n ≤ 1000) :
    Calls Tryd.prog 58 #[.slice a n c] w fun e w' => ∃ (a' : Option Addr) (c' : Nat), e = .returned (.slice a' n c') ∧ SliceOf inK w' a' n c' xs ∧ (a = none → a' = none) ∧ (1 ≤ n → ∃ g cur, a' = some ⟨g, 0, none⟩ ∧ w.heap.size ≤ g ∧ w'.heap[g]? = some (.cells cur 76 (0, 0))) ∧ Below w.heap.size w w' := by
  by_cases h0 : 1 ≤ n
  · obtain ⟨b, off, rfl, hlt, hc⟩ := h.2.2.2.2.2 h0
    obtain ⟨i0, hi, hz0, hz1, hz2⟩ := info_parts (show (Tryd.prog.info? 76).map (fun i => (i.zero, i.size, i.bytes)) = some (some (.agg noIn.cells.toArray), 35, 72) by kernel_rfl)
    have hall : ∀ x ∈ xs, (PIn.cells x).length = 35 := fun x hx => PIn.len (show InIn w x from h.2.2.2.2.1 x hx).tx
    have hlen : (xs.flatMap PIn.cells).length = n * 35 := by rw [cells_flat_len hall, h.1]
    refine (AnyE.slices_Clone Tryd.laysIns i0 (.agg noIn.cells.toArray) 35 72 hi hz0 hz1 hz2 (by kernel_rfl) (by omega) (by intro w; kernel_rfl) b off n c (xs.flatMap PIn.cells) w hlen (by unfold maxLen; omega) (by omega) (fun j u hj => ?_) (fun u hu => ?_)).mono ?_
    · have hjl : j < n * 35 := by rw [← hlen]; exact (List.getElem?_eq_some_iff.1 hj).1
      have h1 : j / 35 < n := Nat.div_lt_of_lt_mul (by omega)
      have h2 : j % 35 < 35 := Nat.mod_lt _ (by omega)
      have h3 := flat_get (d := noIn) hall (j := j / 35) (i := j % 35) (by rw [h.1]; exact h1) h2
      have h4 : j / 35 * 35 + j % 35 = j := Nat.div_add_mod' j 35
      rw [h4, hj] at h3
      have h5 := hc (j / 35) h1 (j % 35) u h3.symm
      replace h5 : w.cell? ⟨b, off + j / 35 * 35 + j % 35, none⟩ = some u := h5
      rw [show off + j / 35 * 35 + j % 35 = off + j by omega] at h5
      exact h5
    · obtain ⟨x, hx, hu⟩ := List.mem_flatMap.1 hu
      exact PIn.one x u hu
    · rintro e w' ⟨v', rfl, ho, hne, hb⟩
      have hO : OwnOf inK 76 w' w.heap.size v' xs := ⟨by rw [h.1]; exact ho, hall⟩
      rcases ho.2 with ⟨_, hz⟩ | ⟨g, cap, cur, rfl, hB, hh, _⟩
      · omega
      · refine ⟨_, _, rfl, ?_, (fun e => by cases e), fun _ => ⟨g, cur, rfl, hB, hh⟩, hb⟩
        exact hO.slice (fun x hx => inK.below (h.2.2.2.2.1 x hx) hb)
  · obtain rfl : n = 0 := by omega
    obtain rfl : xs = [] := List.eq_nil_of_length_eq_zero h.1
    cases a with
    | none =>
      refine (AnyE.slices_Clone_nil Tryd.laysIns 0 c w).mono ?_
      rintro e w' ⟨rfl, rfl⟩
      exact ⟨none, 0, rfl, SliceOf.nil _ _, (fun _ => rfl), fun h => by omega, Below.refl _ _⟩
    | some x =>
      refine (cloneIns_zero x c).mono ?_
      rintro e w' ⟨a', c', rfl, h2, h3⟩
      exact ⟨a', c', rfl, h2, (fun e => by cases e), fun h => by omega, h3⟩
set_option linter.unusedSimpArgs false in
set_option maxRecDepth 100000 in
set_option maxHeartbeats 3200000 in
theorem cloneOuts_zero {w : World} (x : Addr) (c : Nat) : Calls Tryd.prog 59 #[.slice (some x) 0 c] w fun e w' => ∃ (a' : Option Addr) (c' : Nat), e = .returned (.slice a' 0 c') ∧ SliceOf outK w' a' 0 c' [] ∧ Below w.heap.size w w' := by
  obtain ⟨i0, hi, hz0, hz1, hz2⟩ := info_parts (show (Tryd.prog.info? 79).map (fun i => (i.zero, i.size, i.bytes)) = some (some (.agg noOut.cells.toArray), 2, 32) by kernel_rfl)
  have hq : ∀ (w : World) (a : Option Addr) (n c n' c' : Nat), (binOp .eql 44 (.slice a n c) (.slice none n' c')).run Tryd.prog w = .ok (.bool a.isNone) w := fun w a n c n' c' => Lib.run_eql_slice_nil w _ _ a n c n' c' Tryd.underlying44
  go_enter Tryd.func59, Tryd.ntmps59
  go_wp2_with (at_builtin; refine wpList_append_own _ rfl _ _ 44 rfl w.heap.size 79 i0 (.agg noOut.cells.toArray) 2 32 Tryd.underlying44 hi hz0 hz1 hz2 (by kernel_rfl) (by omega) _ _ _ rfl (World.ownsRow_made w #[] 0 (Nat.le_refl _) (Nat.zero_le _) (by simp)) x 0 c [] rfl rfl (fun j u hj => by simp at hj) (fun u hu => by simp at hu) (by unfold maxLen; omega) (by omega) (by simp) ?_)
  intro v' w1 hown hgrow hnil
  go_wp2
  go_ret
  have hO : OwnOf outK 79 w1 w.heap.size v' [] := ⟨hown, fun y hy => by cases hy⟩
  obtain ⟨a', c', rfl, _⟩ := hO.shape
  exact ⟨a', c', rfl, hO.slice (fun y hy => by cases hy), ((Below.refl _ w).alloc (Nat.le_refl _) _).grown hgrow (by simp) (by intro k hk; simp [Value.ownBlock] at hk; omega)⟩
theorem cloneOuts_any {w : World} {a : Option Addr} {n c : Nat} {xs : List POut} (h : SliceOf outK w a n c xs) (hn : n ≤ 1000) :
    Calls Tryd.prog 59 #[.slice a n c] w fun e w' => ∃ (a' : Option Addr) (c' : Nat), e = .returned (.slice a' n c') ∧ SliceOf outK w' a' n c' xs ∧ (a = none → a' = none) ∧ (1 ≤ n → ∃ g cur, a' = some ⟨g, 0, none⟩ ∧ w.heap.size ≤ g ∧ w'.heap[g]? = some (.cells cur 79 (0, 0))) ∧ Below w.heap.size w w' := by
  by_cases h0 : 1 ≤ n
  · obtain ⟨b, off, rfl, hlt, hc⟩ := h.2.2.2.2.2 h0
    obtain ⟨i0, hi, hz0, hz1, hz2⟩ := info_parts (show (Tryd.prog.info? 79).map (fun i => (i.zero, i.size, i.bytes)) = some (some (.agg noOut.cells.toArray), 2, 32) by kernel_rfl)
    have hall : ∀ x ∈ xs, (POut.cells x).length = 2 := fun x hx => rfl
    have hlen : (xs.flatMap POut.cells).length = n * 2 := by rw [cells_flat_len hall, h.1]
    refine (AnyE.slices_Clone Tryd.laysOuts i0 (.agg noOut.cells.toArray) 2 32 hi hz0 hz1 hz2 (by kernel_rfl) (by omega) (by intro w; kernel_rfl) b off n c (xs.flatMap POut.cells) w hlen (by unfold maxLen; omega) (by omega) (fun j u hj => ?_) (fun u hu => ?_)).mono ?_
    · have hjl : j < n * 2 := by rw [← hlen]; exact (List.getElem?_eq_some_iff.1 hj).1
      have h1 : j / 2 < n := Nat.div_lt_of_lt_mul (by omega)
      have h2 : j % 2 < 2 := Nat.mod_lt _ (by omega)
      have h3 := flat_get (d := noOut) hall (j := j / 2) (i := j % 2) (by rw [h.1]; exact h1) h2
      have h4 : j / 2 * 2 + j % 2 = j := Nat.div_add_mod' j 2
      rw [h4, hj] at h3
      have h5 := hc (j / 2) h1 (j % 2) u h3.symm
      replace h5 : w.cell? ⟨b, off + j / 2 * 2 + j % 2, none⟩ = some u := h5
      rw [show off + j / 2 * 2 + j % 2 = off + j by omega] at h5
      exact h5
    · obtain ⟨x, hx, hu⟩ := List.mem_flatMap.1 hu
      exact POut.one x u hu
    · rintro e w' ⟨v', rfl, ho, hne, hb⟩
      have hO : OwnOf outK 79 w' w.heap.size v' xs := ⟨by rw [h.1]; exact ho, hall⟩
      rcases ho.2 with ⟨_, hz⟩ | ⟨g, cap, cur, rfl, hB, hh, _⟩
      · omega
      · refine ⟨_, _, rfl, ?_, (fun e => by cases e), fun _ => ⟨g, cur, rfl, hB, hh⟩, hb⟩
        exact hO.slice (fun x hx => outK.below (h.2.2.2.2.1 x hx) hb)
  · obtain rfl : n = 0 := by omega
    obtain rfl : xs = [] := List.eq_nil_of_length_eq_zero h.1
    cases a with
    | none =>
      refine (AnyE.slices_Clone_nil Tryd.laysOuts 0 c w).mono ?_
      rintro e w' ⟨rfl, rfl⟩
      exact ⟨none, 0, rfl, SliceOf.nil _ _, (fun _ => rfl), fun h => by omega, Below.refl _ _⟩
    | some x =>
      refine (cloneOuts_zero x c).mono ?_
      rintro e w' ⟨a', c', rfl, h2, h3⟩
      exact ⟨a', c', rfl, h2, (fun e => by cases e), fun h => by omega, h3⟩
set_option linter.unusedSimpArgs false in
set_option maxRecDepth 100000 in
set_option maxHeartbeats 3200000 in
theorem cloneSigns_zero {w : World} (x : Addr) (c : Nat) : Calls Tryd.prog 37 #[.slice (some x) 0 c] w fun e w' => ∃ (a' : Option Addr) (c' : Nat), e = .returned (.slice a' 0 c') ∧ SliceOf signK w' a' 0 c' [] ∧ Below w.heap.size w w' := by
  obtain ⟨i0, hi, hz0, hz1, hz2⟩ := info_parts (show (Tryd.prog.info? 86).map (fun i => (i.zero, i.size, i.bytes)) = some (some (.agg noSign.cells.toArray), 33, 40) by kernel_rfl)
  have hq : ∀ (w : World) (a : Option Addr) (n c n' c' : Nat), (binOp .eql 48 (.slice a n c) (.slice none n' c')).run Tryd.prog w = .ok (.bool a.isNone) w := fun w a n c n' c' => Lib.run_eql_slice_nil w _ _ a n c n' c' Tryd.underlying48
  go_enter Tryd.func37, Tryd.ntmps37
  go_wp2_with (at_builtin; refine wpList_append_own _ rfl _ _ 48 rfl w.heap.size 86 i0 (.agg noSign.cells.toArray) 33 40 Tryd.underlying48 hi hz0 hz1 hz2 (by kernel_rfl) (by omega) _ _ _ rfl (World.ownsRow_made w #[] 0 (Nat.le_refl _) (Nat.zero_le _) (by simp)) x 0 c [] rfl rfl (fun j u hj => by simp at hj) (fun u hu => by simp at hu) (by unfold maxLen; omega) (by omega) (by simp) ?_)
  intro v' w1 hown hgrow hnil
  go_wp2
  go_ret
  have hO : OwnOf signK 86 w1 w.heap.size v' [] := ⟨hown, fun y hy => by cases hy⟩
  obtain ⟨a', c', rfl, _⟩ := hO.shape
  exact ⟨a', c', rfl, hO.slice (fun y hy => by cases hy), ((Below.refl _ w).alloc (Nat.le_refl _) _).grown hgrow (by simp) (by intro k hk; simp [Value.ownBlock] at hk; omega)⟩
theorem cloneSigns_any {w : World} {a : Option Addr} {n c : Nat} {xs : List PSign} (h : SliceOf signK w a n c xs) (hn : n ≤ 1000) :
    Calls Tryd.prog 37 #[.slice a n c] w fun e w' => ∃ (a' : Option Addr) (c' : Nat), e = .returned (.slice a' n c') ∧ SliceOf signK w' a' n c' xs ∧ (1 ≤ n ∨ a ≠ none ∨ (a' = none ∧ c' = 0)) ∧ (1 ≤ n → ∃ g cur, a' = some ⟨g, 0, none⟩ ∧ w.heap.size ≤ g ∧ w'.heap[g]? = some (.cells cur 86 (0, 0))) ∧ Below w.heap.size w w' := by
  by_cases h0 : 1 ≤ n
  · obtain ⟨b, off, rfl, hlt, hc⟩ := h.2.2.2.2.2 h0
    obtain ⟨i0, hi, hz0, hz1, hz2⟩ := info_parts (show (Tryd.prog.info? 86).map (fun i => (i.zero, i.size, i.bytes)) = some (some (.agg noSign.cells.toArray), 33, 40) by kernel_rfl)
    have hall : ∀ x ∈ xs, (PSign.cells x).length = 33 := fun x hx => PSign.len (show SignIn x from h.2.2.2.2.1 x hx).sum
    have hlen : (xs.flatMap PSign.cells).length = n * 33 := by rw [cells_flat_len hall, h.1]
    refine (AnyE.slices_Clone Tryd.laysSigns i0 (.agg noSign.cells.toArray) 33 40 hi hz0 hz1 hz2 (by kernel_rfl) (by omega) (by intro w; kernel_rfl) b off n c (xs.flatMap PSign.cells) w hlen (by unfold maxLen; omega) (by omega) (fun j u hj => ?_) (fun u hu => ?_)).mono ?_
    · have hjl : j < n * 33 := by rw [← hlen]; exact (List.getElem?_eq_some_iff.1 hj).1
      have h1 : j / 33 < n := Nat.div_lt_of_lt_mul (by omega)
      have h2 : j % 33 < 33 := Nat.mod_lt _ (by omega)
      have h3 := flat_get (d := noSign) hall (j := j / 33) (i := j % 33) (by rw [h.1]; exact h1) h2
      have h4 : j / 33 * 33 + j % 33 = j := Nat.div_add_mod' j 33
      rw [h4, hj] at h3
      have h5 := hc (j / 33) h1 (j % 33) u h3.symm
      replace h5 : w.cell? ⟨b, off + j / 33 * 33 + j % 33, none⟩ = some u := h5
      rw [show off + j / 33 * 33 + j % 33 = off + j by omega] at h5
      exact h5
    · obtain ⟨x, hx, hu⟩ := List.mem_flatMap.1 hu
      exact PSign.one x u hu
    · rintro e w' ⟨v', rfl, ho, hne, hb⟩
      have hO : OwnOf signK 86 w' w.heap.size v' xs := ⟨by rw [h.1]; exact ho, hall⟩
      rcases ho.2 with ⟨_, hz⟩ | ⟨g, cap, cur, rfl, hB, hh, _⟩
      · omega
      · refine ⟨_, _, rfl, ?_, .inl h0, fun _ => ⟨g, cur, rfl, hB, hh⟩, hb⟩
        exact hO.slice (fun x hx => signK.below (h.2.2.2.2.1 x hx) hb)
  · obtain rfl : n = 0 := by omega
    obtain rfl : xs = [] := List.eq_nil_of_length_eq_zero h.1
    cases a with
    | none =>
      refine (AnyE.slices_Clone_nil Tryd.laysSigns 0 c w).mono ?_
      rintro e w' ⟨rfl, rfl⟩
      exact ⟨none, 0, rfl, SliceOf.nil _ _, .inr (.inr ⟨rfl, rfl⟩), fun h => by omega, Below.refl _ _⟩
    | some x =>
      refine (cloneSigns_zero x c).mono ?_
      rintro e w' ⟨a', c', rfl, h2, h3⟩
      exact ⟨a', c', rfl, h2, .inr (.inl (by simp)), fun h => by omega, h3⟩
end Go.Proofs.YtlnenkmcegadmaaDoor
