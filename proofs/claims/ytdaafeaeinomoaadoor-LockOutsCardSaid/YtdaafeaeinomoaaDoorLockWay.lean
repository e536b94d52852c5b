/- Which ways may be: plainly, and what package lock's rise, rightHeight and Right come to. -/
import Derived.Test.YtdaafeaeinomoaaDoorWays
namespace Go.Proofs.YtdaafeaeinomoaaDoor
open Go.RowKit

/-- Keys that rise, from 'least' on, none above 255. -/
def rises (least : Int) : List Int → Bool
  | [] => true
  | k :: l => if k < least then false else if 255 < k then false else rises (k + 1) l
theorem rises_low {s k : Int} {l : List Int} (h : k < s) : rises s (k :: l) = false := by unfold rises; rw [if_pos h]
theorem rises_high {s k : Int} {l : List Int} (h : ¬ k < s) (h' : 255 < k) : rises s (k :: l) = false := by unfold rises; rw [if_neg h, if_pos h']
theorem rises_more {s k : Int} {l : List Int} (h : ¬ k < s) (h' : ¬ 255 < k) : rises s (k :: l) = rises (k + 1) l := by rw [rises, if_neg h, if_neg h']
def okHeight (z : Int) : Bool := decide (0 ≤ z ∧ z ≤ 1073741824)
theorem okHeight_yes {z : Int} (h : 0 ≤ z) (h' : z ≤ 1073741824) : okHeight z = true := decide_eq_true ⟨h, h'⟩
theorem okHeight_no {z : Int} (h : z < 0 ∨ 1073741824 < z) : okHeight z = false := decide_eq_false (by omega)
def wayOk (x : PWay) : Bool := decide (x.ks.length ≤ 16) && (rises 0 x.ks && (okHeight x.after && okHeight x.wait))
set_option linter.unusedSimpArgs false in
set_option maxRecDepth 100000 in
set_option maxHeartbeats 1600000 in
theorem rise_any {w : World} {a : Option Addr} {n c : Nat} {zs : List Int} (h : Numbers w a n c zs) : Calls Tryd.prog 30 #[.slice a n c] w fun e w' => e = .returned (.bool (rises 0 zs)) ∧ w = w' := by
  obtain ⟨R, hR⟩ : ∃ R, R = rises 0 zs := ⟨_, rfl⟩
  rw [← hR]
  have hlen := h.1
  have hn63 : (n : Int) ≤ 9223372036854775807 := by have h1 := h.2.1; have h2 := h.2.2.1; unfold maxLen at h2; omega
  have H := Lib.hid h
  have HR := Lib.hid hR
  have HL := Lib.hid hlen
  clear h hR hlen
  go_enter Tryd.func30, Tryd.ntmps30
  go_wp2
  go_loop [3, 8] (fun s i => ∃ (k : Nat) (S : Int), k ≤ n ∧ i = .int .i64 k ∧ s = .int .i64 S ∧ 0 ≤ S ∧ S ≤ 256 ∧ R = rises S (zs.drop k)) (fun _ i => n - (intOf i).toNat)
  case atStart => exact ⟨0, 0, Nat.zero_le _, rfl, rfl, Int.le_refl _, by omega, HR.out⟩
  case round =>
    obtain ⟨k, S, hk, rfl, rfl, hS0, hS1, hRk⟩ := hrel
    by_cases hkn : k < n
    · have f1 : (k : Int) < (n : Int) := by omega
      have f0 : (0 : Int) ≤ (k : Int) := by omega
      have ft : ((k : Int)).toNat = k := by omega
      obtain ⟨b, off, rfl, _, hcells⟩ := H.out.2.2.2.2.2 (by omega)
      have hc := hcells k hkn
      obtain ⟨z1, z2⟩ := H.out.fits hkn
      rw [drop_cons (by rw [HL.out]; exact hkn)] at hRk
      obtain ⟨z, hz⟩ : ∃ z, z = zs.getD k 0 := ⟨_, rfl⟩
      rw [← hz] at hc z1 z2 hRk
      have HRK := Lib.hid hRk
      clear hRk hz hcells HR
      by_cases h1 : z < S
      · have hR5 := HRK.out
        rw [rises_low h1] at hR5
        subst hR5
        go_wp2
        go_ret
        exact ⟨rfl, rfl⟩
      · by_cases h2 : 255 < z
        · have hR5 := HRK.out
          rw [rises_high h1 h2] at hR5
          subst hR5
          go_wp2
          go_ret
          exact ⟨rfl, rfl⟩
        · have hR5 := HRK.out
          rw [rises_more h1 h2] at hR5
          have HR5 := Lib.hid hR5
          have iw : IntKind.i64.wrap (z + 1) = z + 1 := IntWalk.i64_in _ (by omega)
          have g0 : 0 ≤ z + 1 := by omega
          have g1 : z + 1 ≤ 256 := by omega
          clear hR5 HRK
          go_wp2
          go_round
          case rel => exact ⟨k + 1, z + 1, by omega, by go_num, rfl, g0, g1, HR5.out⟩
          case measure => simp [intOf]; omega
    · have f1 : ¬ ((k : Int) < (n : Int)) := by omega
      have hd : zs.drop k = [] := List.drop_of_length_le (by rw [HL.out]; omega)
      rw [hd] at hRk
      have hRk : R = true := hRk
      subst hRk
      clear HR
      go_wp2
      go_ret
      exact ⟨rfl, rfl⟩
theorem height_any (z : Int) (w : World) : Calls Tryd.prog 31 #[.int .i64 z] w fun e w' => e = .returned (.bool (okHeight z)) ∧ w = w' := by
  by_cases h1 : 0 ≤ z
  · by_cases h2 : z ≤ 1073741824
    · rw [okHeight_yes h1 h2]
      go_enter Tryd.func31, Tryd.ntmps31
      go_wp2
      go_ret
      exact ⟨rfl, rfl⟩
    · rw [okHeight_no (by omega)]
      go_enter Tryd.func31, Tryd.ntmps31
      go_wp2
      go_ret
      exact ⟨rfl, rfl⟩
  · rw [okHeight_no (by omega)]
    go_enter Tryd.func31, Tryd.ntmps31
    go_wp2
    go_ret
    exact ⟨rfl, rfl⟩
/-- A way that was laid into a new block. -/
theorem way_boxed {w : World} {x : PWay} (h : WayIn w x) (t : TypeId) : ∃ v, (w.alloc (.cells x.cells.toArray t)) = v ∧ Below w.heap.size w v ∧ w.heap.size < v.heap.size ∧ WayIn v x ∧ v.rangeAt w.heap.size 0 x.cells :=
  ⟨_, rfl, (Below.refl _ _).alloc (Nat.le_refl _) _, by simp, h.below ((Below.refl _ _).alloc (Nat.le_refl _) _), range_of (heap_alloc_new _ _)⟩
set_option linter.unusedSimpArgs false in
set_option maxRecDepth 100000 in
set_option maxHeartbeats 1600000 in
theorem lockRight_any {w : World} {x : PWay} (h : WayIn w x) : Calls Tryd.prog 7 #[.agg x.cells.toArray] w fun e w' => e = .returned (.bool (wayOk x)) ∧ Below w.heap.size w w' := by
  obtain ⟨b0, r1, hb0⟩ : ∃ b0 r1, wayOk x = (b0 && (r1 && (okHeight x.after && okHeight x.wait))) ∧ b0 = decide (x.n ≤ 16) ∧ r1 = rises 0 x.ks := ⟨_, _, rfl, by rw [h.keys.1], rfl⟩
  obtain ⟨r2, hr2⟩ : ∃ r, okHeight x.after = r := ⟨_, rfl⟩
  obtain ⟨r3, hr3⟩ : ∃ r, okHeight x.wait = r := ⟨_, rfl⟩
  obtain ⟨hb0, hb1, hr1⟩ := hb0
  rw [hb0, hr2, hr3]
  have hri : ∀ W : World, Below w.heap.size w W → Calls Tryd.prog 30 #[.slice x.a x.n x.c] W fun e w' => e = .returned (.bool r1) ∧ W = w' := fun W hW => by rw [hr1]; exact rise_any (h.keys.below hW)
  have hh2 : ∀ W : World, Calls Tryd.prog 31 #[.int .i64 x.after] W fun e w' => e = .returned (.bool r2) ∧ W = w' := fun W => by rw [← hr2]; exact height_any _ W
  have hh3 : ∀ W : World, Calls Tryd.prog 31 #[.int .i64 x.wait] W fun e w' => e = .returned (.bool r3) ∧ W = w' := fun W => by rw [← hr3]; exact height_any _ W
  have HRI := Lib.hid hri
  have HH2 := Lib.hid hh2
  have HH3 := Lib.hid hh3
  have hn63 : (x.n : Int) ≤ 9223372036854775807 := by have h1 := h.keys.2.1; have h2 := h.keys.2.2.1; unfold maxLen at h2; omega
  clear hri hh2 hh3 hb0 hr1 hr2 hr3
  go_enter Tryd.func7, Tryd.ntmps7
  go_upto_region 1 with (fail)
  obtain ⟨v, hv, hb, hlt, hx, hrg⟩ := way_boxed h 26
  rw [hv]
  have c0 := way_keys hrg
  have c1 := way_after hx.sum hrg
  have c2 := way_wait hx.sum hrg
  rw [Nat.zero_add] at c1 c2
  have HB := Lib.hid hb
  obtain ⟨g, hg⟩ : ∃ g, g = w.heap.size := ⟨_, rfl⟩
  rw [← hg] at c0 c1 c2 ⊢
  clear hv hrg hx h hb hg hlt
  by_cases hn : x.n ≤ 16
  · have f1 : (x.n : Int) ≤ 16 := by omega
    rw [decide_eq_true hn] at hb1
    subst hb1
    cases r1 <;> cases r2 <;> cases r3
    all_goals
      go_wp2_with (first | (go_at_call 30; (with_reducible refine (HRI.out _ HB.out).mono ?_); rintro e w' ⟨rfl, rfl⟩) | (go_at_call 31; first | ((with_reducible refine (HH2.out _).mono ?_); rintro e w' ⟨rfl, rfl⟩) | ((with_reducible refine (HH3.out _).mono ?_); rintro e w' ⟨rfl, rfl⟩)) | fail)
      go_ret
      exact ⟨rfl, HB.out⟩
  · have f1 : ¬ (x.n : Int) ≤ 16 := by omega
    rw [decide_eq_false hn] at hb1
    subst hb1
    go_wp2
    go_ret
    exact ⟨rfl, HB.out⟩
end Go.Proofs.YtdaafeaeinomoaaDoor
