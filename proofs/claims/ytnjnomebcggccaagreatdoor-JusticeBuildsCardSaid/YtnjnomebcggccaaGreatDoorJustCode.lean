/- What the code's Key, rightDeal and Shares come to. -/
import Derived.Test.YtnjnomebcggccaaGreatDoorPart6
import Derived.Test.YtnjnomebcggccaaGreatDoorShares15
namespace Go.Proofs.YtnjnomebcggccaaGreatDoor
open Go.RowKit

set_option linter.unusedSimpArgs false in
set_option maxRecDepth 100000 in
set_option maxHeartbeats 6400000 in
theorem key_code : KeyC := by
  intro w z h0 h1
  have iw : IntKind.i64.wrap (100 + z) = 100 + z := IntWalk.i64_in _ ⟨by omega, by omega⟩
  clear h0 h1
  go_enter Tryz.func15, Tryz.ntmps15
  go_wp2
  go_ret
  exact ⟨rfl, Below.refl _ _⟩
theorem results_four15 {fn : Func} {a b c d : Tmp} (h : fn.results = #[.tmp a, .tmp b, .tmp c, .tmp d]) (tmps : Array Value) (P : Program) (w : World) :
    (results fn tmps).run P w = .ok (.tuple #[tmps.getD a undef, tmps.getD b undef, tmps.getD c undef, tmps.getD d undef]) w := by
  simp [results, h]
theorem four_eq15 {a b c a' b' c' : Int} (h1 : a = a') (h2 : b = b') (h3 : c = c') : Ending.returned (.tuple #[.int .i64 a, .int .i64 b, .int .i64 c, .int .i64 0]) = Ending.returned (.tuple #[.int .i64 a', .int .i64 b', .int .i64 c', .int .i64 0]) := by rw [h1, h2, h3]
def dealOk (r f : Int) : Bool := okAmount f && (decide (0 ≤ r) && decide (r ≤ 1000))
set_option linter.unusedSimpArgs false in
set_option maxRecDepth 100000 in
set_option maxHeartbeats 6400000 in
theorem rightDeal_any {w : World} {r f : Int} : Calls Tryz.prog 22 #[.agg #[.int .i64 r, .int .i64 f]] w fun e w' => e = .returned (.bool (dealOk r f)) ∧ Below w.heap.size w w' := by
  have hcon : ∀ W : World, Calls Tryz.prog 21 #[.int .i64 f] W fun e w' => e = .returned (.bool (okAmount f)) ∧ W = w' := fun W => right_any f W
  obtain ⟨V, hV⟩ : ∃ V, dealOk r f = V := ⟨_, rfl⟩
  rw [hV]
  unfold dealOk at hV
  obtain ⟨B, hB⟩ : ∃ B, okAmount f = B := ⟨_, rfl⟩
  rw [hB] at hV hcon
  have HCON := Lib.hid hcon
  clear hcon hB
  go_enter Tryz.func22, Tryz.ntmps22
  go_upto_region 1 with (fail)
  have b1 : Below w.heap.size w (w.alloc (.cells #[.int .i64 r, .int .i64 f] 37)) := (Below.refl _ _).alloc (Nat.le_refl _) _
  have h1 := heap_alloc_new w (.cells #[.int .i64 r, .int .i64 f] 37)
  revert b1 h1
  generalize (w.alloc (.cells #[.int .i64 r, .int .i64 f] 37)) = w1
  obtain ⟨g, hg⟩ : ∃ g, g = w.heap.size := ⟨_, rfl⟩
  rw [← hg]
  intro b1 h1
  rw [hg] at b1
  have HB := Lib.hid b1
  have H1 := Lib.hid h1
  have d0 : w1.cell? ⟨g, 0, none⟩ = some (.int .i64 r) := (cell_of_row w1 g 0 _ _ _ h1).trans rfl
  have d1 : w1.cell? ⟨g, 1, none⟩ = some (.int .i64 f) := (cell_of_row w1 g 1 _ _ _ h1).trans rfl
  clear b1 h1 hg
  cases B
  · obtain rfl : V = false := hV.symm
    go_wp2_with (first | (go_at_call 21; (with_reducible refine (HCON.out _).mono ?_); rintro e w2 ⟨rfl, rfl⟩) | fail)
    go_ret
    exact ⟨rfl, HB.out⟩
  · by_cases q0 : 0 ≤ r
    · have e0 : decide (0 ≤ r) = true := decide_eq_true q0
      by_cases q1 : r ≤ 1000
      · have e1 : decide (r ≤ 1000) = true := decide_eq_true q1
        obtain rfl : V = true := by rw [← hV, e0, e1]; rfl
        clear hV
        go_wp2_with (first | (go_at_call 21; (with_reducible refine (HCON.out _).mono ?_); rintro e w2 ⟨rfl, rfl⟩) | fail)
        go_ret
        exact ⟨rfl, HB.out⟩
      · have e1 : decide (r ≤ 1000) = false := decide_eq_false q1
        obtain rfl : V = false := by rw [← hV, e0, e1]; rfl
        clear hV
        go_wp2_with (first | (go_at_call 21; (with_reducible refine (HCON.out _).mono ?_); rintro e w2 ⟨rfl, rfl⟩) | fail)
        go_ret
        exact ⟨rfl, HB.out⟩
    · have e0 : decide (0 ≤ r) = false := decide_eq_false q0
      obtain rfl : V = false := by rw [← hV, e0]; rfl
      clear hV
      go_wp2_with (first | (go_at_call 21; (with_reducible refine (HCON.out _).mono ?_); rintro e w2 ⟨rfl, rfl⟩) | fail)
      go_ret
      exact ⟨rfl, HB.out⟩
set_option linter.unusedSimpArgs false in
set_option maxRecDepth 100000 in
set_option maxHeartbeats 6400000 in
theorem shares_code : SharesC := by
  intro w n r f hn hr hf
  have hcon : ∀ W : World, Calls Tryz.prog 21 #[.int .i64 n] W fun e w' => e = .returned (.bool (okAmount n)) ∧ W = w' := fun W => right_any n W
  have hrd : ∀ W : World, Calls Tryz.prog 22 #[.agg #[.int .i64 r, .int .i64 f]] W fun e w' => e = .returned (.bool (dealOk r f)) ∧ Below W.heap.size W w' := fun W => rightDeal_any
  have hpt : ∀ (W : World) (k : Int), Calls Tryz.prog 23 #[.int .i64 k, .int .i64 r] W fun e w' => e = .returned (.int .i64 (thouOf k r)) ∧ Below W.heap.size W w' := fun W k => part_any W k r hr
  by_cases hq : 0 ≤ n ∧ n ≤ 1125899906842624
  · rw [show okAmount n = true from okAmount_yes hq.1 hq.2] at hcon
    by_cases hd : 0 ≤ f ∧ f ≤ 1125899906842624 ∧ 0 ≤ r ∧ r ≤ 1000
    · rw [show dealOk r f = true by unfold dealOk; rw [okAmount_yes hd.1 hd.2.1, decide_eq_true hd.2.2.1, decide_eq_true hd.2.2.2]; rfl] at hrd
      rw [sharesV_good (n := n) (r := r) (f := f) (by omega)]
      have hb9 := share_bounds (n := n) (r := r) (f := f) (by omega)
      have hmin : min f n = feeP n f := by unfold feeP; split <;> omega
      have hth : thouOf (n - feeP n f) r = rewP n r f := by
        unfold thouOf rewP
        rw [if_pos ⟨okAmount_yes (by omega) (by omega), by omega⟩]
        by_cases e : r < 1000
        · rw [if_pos e]
        · rw [if_neg e, show r = 1000 by omega]
      obtain ⟨FE, hFE⟩ : ∃ FE, feeP n f = FE := ⟨_, rfl⟩
      obtain ⟨T, hT⟩ : ∃ T, rewP n r f = T := ⟨_, rfl⟩
      rw [hFE] at hmin hth hb9 ⊢
      rw [hT] at hth hb9 ⊢
      have hpt2 : ∀ (W : World) (k : Int), k = n - FE → Calls Tryz.prog 23 #[.int .i64 k, .int .i64 r] W fun e w' => e = .returned (.int .i64 T) ∧ Below W.heap.size W w' := fun W k hk => by rw [hk, ← hth]; exact hpt W _
      obtain ⟨b1, b2, b3, b4, b5, b6⟩ := hb9
      have bb : 0 ≤ FE ∧ FE ≤ n ∧ 0 ≤ T ∧ T ≤ n - FE ∧ n ≤ 1125899906842624 := ⟨b1, b2, b5, b6, hq.2⟩
      have BB := Lib.hid bb
      have HMIN := Lib.hid hmin
      have HCON := Lib.hid hcon
      have HRD := Lib.hid hrd
      have HPT := Lib.hid hpt2
      clear hcon hrd hpt hpt2 hq hd hn hr hf hFE hT hth b1 b2 b3 b4 b5 b6 bb hmin
      go_enter Tryz.func9, Tryz.ntmps9
      go_upto_region 1 with (fail)
      have b1 : Below w.heap.size w (w.alloc (.cells #[.int .i64 r, .int .i64 f] 37)) := (Below.refl _ _).alloc (Nat.le_refl _) _
      have h1 := heap_alloc_new w (.cells #[.int .i64 r, .int .i64 f] 37)
      revert b1 h1
      generalize (w.alloc (.cells #[.int .i64 r, .int .i64 f] 37)) = w1
      obtain ⟨g, hg⟩ : ∃ g, g = w.heap.size := ⟨_, rfl⟩
      rw [← hg]
      intro b1 h1
      rw [hg] at b1
      have HB := Lib.hid b1
      have H1 := Lib.hid h1
      have d0 : w1.cell? ⟨g, 0, none⟩ = some (.int .i64 r) := (cell_of_row w1 g 0 _ _ _ h1).trans rfl
      have d1 : w1.cell? ⟨g, 1, none⟩ = some (.int .i64 f) := (cell_of_row w1 g 1 _ _ _ h1).trans rfl
      clear b1 h1 hg
      have HRG := Lib.hid (range_of H1.out)
      go_wp2_with (first | (refine wpList_mid_wanted (by rfl) 37 _ rfl g 0 rfl [.int .i64 r, .int .i64 f] _ HRG.out Tryz.underlying37 rfl (by kernel_rfl) ?_) | (go_at_call 21; (with_reducible refine (HCON.out _).mono ?_); rintro e w2 ⟨rfl, rfl⟩) | (go_at_call 22; (with_reducible refine (HRD.out _).mono ?_); rintro e w3 ⟨rfl, hb⟩; have HB3 := Lib.hid (bthen HB.out hb); have d0 : w3.cell? ⟨g, 0, none⟩ = some (.int .i64 r) := (cell_of_row w3 g 0 _ _ _ (keep hb H1.out)).trans rfl; have d1 : w3.cell? ⟨g, 1, none⟩ = some (.int .i64 f) := (cell_of_row w3 g 1 _ _ _ (keep hb H1.out)).trans rfl; clear hb) | (go_at_call 23; (with_reducible refine (HPT.out _ _ (by have h9 := BB.out; have h8 := HMIN.out; unfold wrap64; omega)).mono ?_); rintro e w4 ⟨rfl, hb⟩; have HB4 := Lib.hid (bthen HB3.out hb); clear hb) | fail)
      all_goals
        refine bodyPost_ret (results_four15 rfl _ _ _) rfl ?_
        have h9 := BB.out
        have h8 := HMIN.out
        exact ⟨four_eq15 (by (try unfold wrap64); omega) (by omega) (by omega), HB4.out⟩
    · rw [show dealOk r f = false by unfold dealOk okAmount; simp only [Bool.and_eq_false_iff, decide_eq_false_iff_not]; omega] at hrd
      rw [sharesV_bad (n := n) (r := r) (f := f) (by omega)]
      have HCON := Lib.hid hcon
      have HRD := Lib.hid hrd
      clear hcon hrd hpt hq hd hn hr hf
      go_enter Tryz.func9, Tryz.ntmps9
      go_upto_region 1 with (fail)
      have b1 : Below w.heap.size w (w.alloc (.cells #[.int .i64 r, .int .i64 f] 37)) := (Below.refl _ _).alloc (Nat.le_refl _) _
      have h1 := heap_alloc_new w (.cells #[.int .i64 r, .int .i64 f] 37)
      revert b1 h1
      generalize (w.alloc (.cells #[.int .i64 r, .int .i64 f] 37)) = w1
      obtain ⟨g, hg⟩ : ∃ g, g = w.heap.size := ⟨_, rfl⟩
      rw [← hg]
      intro b1 h1
      rw [hg] at b1
      have HB := Lib.hid b1
      have H1 := Lib.hid h1
      have d0 : w1.cell? ⟨g, 0, none⟩ = some (.int .i64 r) := (cell_of_row w1 g 0 _ _ _ h1).trans rfl
      have d1 : w1.cell? ⟨g, 1, none⟩ = some (.int .i64 f) := (cell_of_row w1 g 1 _ _ _ h1).trans rfl
      clear b1 h1 hg
      have HRG := Lib.hid (range_of H1.out)
      go_wp2_with (first | (refine wpList_mid_wanted (by rfl) 37 _ rfl g 0 rfl [.int .i64 r, .int .i64 f] _ HRG.out Tryz.underlying37 rfl (by kernel_rfl) ?_) | (go_at_call 21; (with_reducible refine (HCON.out _).mono ?_); rintro e w2 ⟨rfl, rfl⟩) | (go_at_call 22; (with_reducible refine (HRD.out _).mono ?_); rintro e w3 ⟨rfl, hb⟩; have HB3 := Lib.hid (bthen HB.out hb); have d0 : w3.cell? ⟨g, 0, none⟩ = some (.int .i64 r) := (cell_of_row w3 g 0 _ _ _ (keep hb H1.out)).trans rfl; have d1 : w3.cell? ⟨g, 1, none⟩ = some (.int .i64 f) := (cell_of_row w3 g 1 _ _ _ (keep hb H1.out)).trans rfl; clear hb) | fail)
      refine bodyPost_ret (results_four15 rfl _ _ _) rfl ?_
      exact ⟨rfl, HB3.out⟩
  · rw [show okAmount n = false from okAmount_no (by omega)] at hcon
    rw [sharesV_bad (n := n) (r := r) (f := f) (by omega)]
    have HCON := Lib.hid hcon
    clear hcon hrd hpt hq hn hr hf
    go_enter Tryz.func9, Tryz.ntmps9
    go_upto_region 1 with (fail)
    have b1 : Below w.heap.size w (w.alloc (.cells #[.int .i64 r, .int .i64 f] 37)) := (Below.refl _ _).alloc (Nat.le_refl _) _
    have h1 := heap_alloc_new w (.cells #[.int .i64 r, .int .i64 f] 37)
    revert b1 h1
    generalize (w.alloc (.cells #[.int .i64 r, .int .i64 f] 37)) = w1
    obtain ⟨g, hg⟩ : ∃ g, g = w.heap.size := ⟨_, rfl⟩
    rw [← hg]
    intro b1 h1
    rw [hg] at b1
    have HB := Lib.hid b1
    have H1 := Lib.hid h1
    have d0 : w1.cell? ⟨g, 0, none⟩ = some (.int .i64 r) := (cell_of_row w1 g 0 _ _ _ h1).trans rfl
    have d1 : w1.cell? ⟨g, 1, none⟩ = some (.int .i64 f) := (cell_of_row w1 g 1 _ _ _ h1).trans rfl
    clear b1 h1 hg
    go_wp2_with (first | (go_at_call 21; (with_reducible refine (HCON.out _).mono ?_); rintro e w2 ⟨rfl, rfl⟩) | fail)
    refine bodyPost_ret (results_four15 rfl _ _ _) rfl ?_
    exact ⟨rfl, HB.out⟩
end Go.Proofs.YtnjnomebcggccaaGreatDoor
