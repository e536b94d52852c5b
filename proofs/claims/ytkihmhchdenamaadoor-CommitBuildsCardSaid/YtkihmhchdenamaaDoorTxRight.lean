/- What package tx's checks come to: RightOp, rightIns, rightOuts, rise, Right. -/
import Derived.Test.YtkihmhchdenamaaDoorTxOk
import Derived.Test.YtkihmhchdenamaaDoorEqRef
import Derived.Test.YtkihmhchdenamaaDoorTxBytes
import Derived.Test.YtkihmhchdenamaaDoorLock
namespace Go.Proofs.YtkihmhchdenamaaDoor
open Go.RowKit

theorem upto_any (n m : Int) (w : World) : Calls Tryd.prog 54 #[.int .i64 n, .int .i64 m] w fun e w' => e = .returned (.bool (uptoB n m)) ∧ w = w' := by
  unfold uptoB
  by_cases h1 : 0 ≤ n
  · by_cases h2 : n ≤ m
    · rw [decide_eq_true h1, decide_eq_true h2]
      go_enter Tryd.func54, Tryd.ntmps54
      go_wp2
      go_ret
      exact ⟨rfl, rfl⟩
    · rw [decide_eq_true h1, decide_eq_false h2]
      go_enter Tryd.func54, Tryd.ntmps54
      go_wp2
      go_ret
      exact ⟨rfl, rfl⟩
  · rw [decide_eq_false h1]
    go_enter Tryd.func54, Tryd.ntmps54
    go_wp2
    go_ret
    exact ⟨rfl, rfl⟩
/-- An op says nothing but its kind. -/
def opEmpty (x : POp) : Bool := (decide (x.tower = 0) && (decide (x.channel = 0) && (decide (x.amount = 0) && (decide (x.root = zero32) && decide (x.n = 0)))))
set_option linter.unusedSimpArgs false in
set_option maxRecDepth 100000 in
set_option maxHeartbeats 12800000 in
theorem isEmpty_any {w : World} {x : POp} (h : OpIn w x) : Calls Tryd.prog 53 #[.agg x.cells.toArray] w fun e w' => e = .returned (.bool (opEmpty x)) ∧ Below w.heap.size w w' := by
  have hn63 : (x.n : Int) ≤ 9223372036854775807 := by have h1 := h.data.2.1; have h2 := h.data.2.2.1; unfold maxLen at h2; omega
  have hn0 : (0 : Int) ≤ (x.n : Int) := by omega
  have b1 : Below w.heap.size w (w.alloc (.cells x.cells.toArray 35)) := (Below.refl _ _).alloc (Nat.le_refl _) _
  have hrg := range_of (heap_alloc_new w (.cells x.cells.toArray 35))
  have SR := Lib.hid (sumLen h.root)
  have HX := Lib.hid h
  clear h
  go_enter Tryd.func53, Tryd.ntmps53
  go_upto_region 1 with (fail)
  revert b1 hrg
  generalize (w.alloc (.cells x.cells.toArray 35)) = w1
  obtain ⟨g, hg⟩ : ∃ g, g = w.heap.size := ⟨_, rfl⟩
  rw [← hg]
  intro b1 hrg
  rw [hg] at b1
  have HB := Lib.hid b1
  have c1 := op_tower hrg
  have c2 := op_channel hrg
  have c3 := op_amount hrg
  have c5 := op_data HX.out.root hrg
  have hrr := op_root hrg
  rw [Nat.zero_add] at c1 c2 c3 c5 hrr
  have RR := Lib.hid hrr
  clear hrg hrr hg b1
  obtain ⟨t1, ht1⟩ : ∃ r, decide (x.tower = 0) = r := ⟨_, rfl⟩
  have ft1 : (x.tower == 0) = t1 := by rw [← ht1, Bool.eq_iff_iff]; simp
  obtain ⟨t2, ht2⟩ : ∃ r, decide (x.channel = 0) = r := ⟨_, rfl⟩
  have ft2 : (x.channel == 0) = t2 := by rw [← ht2, Bool.eq_iff_iff]; simp
  obtain ⟨t3, ht3⟩ : ∃ r, decide (x.amount = 0) = r := ⟨_, rfl⟩
  have ft3 : (x.amount == 0) = t3 := by rw [← ht3, Bool.eq_iff_iff]; simp
  obtain ⟨t4, ht4⟩ : ∃ r, decide (x.root = zero32) = r := ⟨_, rfl⟩
  have qt4 : ∀ W : World, (Op.equalIn 10000 23 (.agg (cellsOf x.root).toArray) (.agg (cellsOf zero32).toArray)).run Tryd.prog W = .ok t4 W := fun W => by rw [← ht4]; exact run_eqSums _ _ HX.out.root zero32_len W
  rw [zero32_is] at qt4
  obtain ⟨t5, ht5⟩ : ∃ r, decide (x.n = 0) = r := ⟨_, rfl⟩
  have ft5 : ((x.n : Int) == 0) = t5 := by rw [← ht5, Bool.eq_iff_iff]; simp
  have HR : Hid (opEmpty x = (t1 && (t2 && (t3 && (t4 && t5))))) := Lib.hid (by unfold opEmpty; rw [ht1, ht2, ht3, ht4, ht5])
  clear ht1 ht2 ht3 ht4 ht5
  cases t1
  · go_wp2_with (first | (refine wpList_mid_wanted (by rfl) 23 _ rfl g 4 rfl (cellsOf x.root) _ RR.out Tryd.underlying23 rfl SR.out ?_) | fail)
    go_ret
    exact ⟨by rw [HR.out]; simp, HB.out⟩
  · cases t2
    · go_wp2_with (first | (refine wpList_mid_wanted (by rfl) 23 _ rfl g 4 rfl (cellsOf x.root) _ RR.out Tryd.underlying23 rfl SR.out ?_) | fail)
      go_ret
      exact ⟨by rw [HR.out]; simp, HB.out⟩
    · cases t3
      · go_wp2_with (first | (refine wpList_mid_wanted (by rfl) 23 _ rfl g 4 rfl (cellsOf x.root) _ RR.out Tryd.underlying23 rfl SR.out ?_) | fail)
        go_ret
        exact ⟨by rw [HR.out]; simp, HB.out⟩
      · cases t4
        · go_wp2_with (first | (refine wpList_mid_wanted (by rfl) 23 _ rfl g 4 rfl (cellsOf x.root) _ RR.out Tryd.underlying23 rfl SR.out ?_) | fail)
          go_ret
          exact ⟨by rw [HR.out]; simp, HB.out⟩
        · cases t5
          · go_wp2_with (first | (refine wpList_mid_wanted (by rfl) 23 _ rfl g 4 rfl (cellsOf x.root) _ RR.out Tryd.underlying23 rfl SR.out ?_) | fail)
            go_ret
            exact ⟨by rw [HR.out]; simp, HB.out⟩
          · go_wp2_with (first | (refine wpList_mid_wanted (by rfl) 23 _ rfl g 4 rfl (cellsOf x.root) _ RR.out Tryd.underlying23 rfl SR.out ?_) | fail)
            go_ret
            exact ⟨by rw [HR.out]; simp, HB.out⟩
set_option linter.unusedSimpArgs false in
set_option maxRecDepth 100000 in
set_option maxHeartbeats 12800000 in
theorem rightOp_any {w : World} {x : POp} (h : OpIn w x) : Calls Tryd.prog 45 #[.agg x.cells.toArray] w fun e w' => e = .returned (.bool (opOk x)) ∧ Below w.heap.size w w' := by
  have hn63 : (x.n : Int) ≤ 9223372036854775807 := by have h1 := h.data.2.1; have h2 := h.data.2.2.1; unfold maxLen at h2; omega
  have hn0 : (0 : Int) ≤ (x.n : Int) := by omega
  have b1 : Below w.heap.size w (w.alloc (.cells x.cells.toArray 35)) := (Below.refl _ _).alloc (Nat.le_refl _) _
  have hrg := range_of (heap_alloc_new w (.cells x.cells.toArray 35))
  have HE := Lib.hid (isEmpty_any (h.below b1))
  have SO := Lib.hid (op_size h.root)
  have HX := Lib.hid h
  clear h
  go_enter Tryd.func45, Tryd.ntmps45
  go_upto_region 1 with (fail)
  revert b1 hrg HE
  generalize (w.alloc (.cells x.cells.toArray 35)) = w1
  obtain ⟨g, hg⟩ : ∃ g, g = w.heap.size := ⟨_, rfl⟩
  rw [← hg]
  intro b1 hrg HE
  rw [hg] at b1
  have HB := Lib.hid b1
  have c0 := op_kind hrg
  have c1 := op_tower hrg
  have c2 := op_channel hrg
  have c3 := op_amount hrg
  have c5 := op_data HX.out.root hrg
  rw [Nat.zero_add] at c1 c2 c3 c5
  have RX := Lib.hid hrg
  clear hrg hg b1
  by_cases hk : x.kind = 0
  · have hkb : (x.kind == 0) = true := by simp [hk]
    have hR : opOk x = opEmpty x := opOk_none hk
    obtain ⟨r, hr⟩ : ∃ r, opEmpty x = r := ⟨_, rfl⟩
    rw [hr] at HE hR
    have HR := Lib.hid hR
    clear hk hR hr
    go_wp2_with (first | (refine wpList_load_mid rfl 35 _ rfl g 0 rfl x.cells _ RX.out Tryd.underlying35 rfl SO.out ?_) | fail)
    refine HE.out.mono ?_
    rintro e w7 ⟨rfl, hb7⟩
    have HB7 := Lib.hid (HB.out.trans (hb7.mono HB.out.size))
    clear hb7 c0 c1 c2 c3 c5
    go_wp2_with fail
    go_ret
    exact ⟨by rw [HR.out]; rfl, HB7.out⟩
  · have hkb : (x.kind == 0) = false := by simp [hk]
    have hR := opOk_upto hk
    obtain ⟨r1, hr1⟩ : ∃ r, uptoB x.kind 7 = r := ⟨_, rfl⟩
    have Ur1 : Hid (∀ W : World, Calls Tryd.prog 54 #[.int .i64 x.kind, .int .i64 7] W fun e w' => e = .returned (.bool r1) ∧ W = w') := Lib.hid (fun W => by rw [← hr1]; exact upto_any _ _ W)
    obtain ⟨r2, hr2⟩ : ∃ r, uptoB x.tower 15 = r := ⟨_, rfl⟩
    have Ur2 : Hid (∀ W : World, Calls Tryd.prog 54 #[.int .i64 x.tower, .int .i64 15] W fun e w' => e = .returned (.bool r2) ∧ W = w') := Lib.hid (fun W => by rw [← hr2]; exact upto_any _ _ W)
    obtain ⟨r3, hr3⟩ : ∃ r, uptoB x.channel 1048576 = r := ⟨_, rfl⟩
    have Ur3 : Hid (∀ W : World, Calls Tryd.prog 54 #[.int .i64 x.channel, .int .i64 1048576] W fun e w' => e = .returned (.bool r3) ∧ W = w') := Lib.hid (fun W => by rw [← hr3]; exact upto_any _ _ W)
    obtain ⟨r4, hr4⟩ : ∃ r, uptoB x.amount 1125899906842624 = r := ⟨_, rfl⟩
    have Ur4 : Hid (∀ W : World, Calls Tryd.prog 54 #[.int .i64 x.amount, .int .i64 1125899906842624] W fun e w' => e = .returned (.bool r4) ∧ W = w') := Lib.hid (fun W => by rw [← hr4]; exact upto_any _ _ W)
    obtain ⟨r5, hr5⟩ : ∃ r, decide (x.n ≤ 65536) = r := ⟨_, rfl⟩
    have f5 : decide ((x.n : Int) ≤ 65536) = r5 := by rw [← hr5]; rw [Bool.eq_iff_iff]; simp; omega
    rw [hr1, hr2, hr3, hr4, hr5] at hR
    have HR := Lib.hid hR
    clear hk hR hr1 hr2 hr3 hr4 hr5
    cases r1
    · go_wp2_with (first | (go_at_call 54; first | ((with_reducible refine (Ur1.out _).mono ?_); rintro e w9 ⟨rfl, rfl⟩) | ((with_reducible refine (Ur2.out _).mono ?_); rintro e w9 ⟨rfl, rfl⟩) | ((with_reducible refine (Ur3.out _).mono ?_); rintro e w9 ⟨rfl, rfl⟩) | ((with_reducible refine (Ur4.out _).mono ?_); rintro e w9 ⟨rfl, rfl⟩)) | fail)
      go_ret
      exact ⟨by rw [HR.out]; simp, HB.out⟩
    · cases r2
      · go_wp2_with (first | (go_at_call 54; first | ((with_reducible refine (Ur1.out _).mono ?_); rintro e w9 ⟨rfl, rfl⟩) | ((with_reducible refine (Ur2.out _).mono ?_); rintro e w9 ⟨rfl, rfl⟩) | ((with_reducible refine (Ur3.out _).mono ?_); rintro e w9 ⟨rfl, rfl⟩) | ((with_reducible refine (Ur4.out _).mono ?_); rintro e w9 ⟨rfl, rfl⟩)) | fail)
        go_ret
        exact ⟨by rw [HR.out]; simp, HB.out⟩
      · cases r3
        · go_wp2_with (first | (go_at_call 54; first | ((with_reducible refine (Ur1.out _).mono ?_); rintro e w9 ⟨rfl, rfl⟩) | ((with_reducible refine (Ur2.out _).mono ?_); rintro e w9 ⟨rfl, rfl⟩) | ((with_reducible refine (Ur3.out _).mono ?_); rintro e w9 ⟨rfl, rfl⟩) | ((with_reducible refine (Ur4.out _).mono ?_); rintro e w9 ⟨rfl, rfl⟩)) | fail)
          go_ret
          exact ⟨by rw [HR.out]; simp, HB.out⟩
        · cases r4
          · go_wp2_with (first | (go_at_call 54; first | ((with_reducible refine (Ur1.out _).mono ?_); rintro e w9 ⟨rfl, rfl⟩) | ((with_reducible refine (Ur2.out _).mono ?_); rintro e w9 ⟨rfl, rfl⟩) | ((with_reducible refine (Ur3.out _).mono ?_); rintro e w9 ⟨rfl, rfl⟩) | ((with_reducible refine (Ur4.out _).mono ?_); rintro e w9 ⟨rfl, rfl⟩)) | fail)
            go_ret
            exact ⟨by rw [HR.out]; simp, HB.out⟩
          · cases r5
            · go_wp2_with (first | (go_at_call 54; first | ((with_reducible refine (Ur1.out _).mono ?_); rintro e w9 ⟨rfl, rfl⟩) | ((with_reducible refine (Ur2.out _).mono ?_); rintro e w9 ⟨rfl, rfl⟩) | ((with_reducible refine (Ur3.out _).mono ?_); rintro e w9 ⟨rfl, rfl⟩) | ((with_reducible refine (Ur4.out _).mono ?_); rintro e w9 ⟨rfl, rfl⟩)) | fail)
              go_ret
              exact ⟨by rw [HR.out]; simp, HB.out⟩
            · go_wp2_with (first | (go_at_call 54; first | ((with_reducible refine (Ur1.out _).mono ?_); rintro e w9 ⟨rfl, rfl⟩) | ((with_reducible refine (Ur2.out _).mono ?_); rintro e w9 ⟨rfl, rfl⟩) | ((with_reducible refine (Ur3.out _).mono ?_); rintro e w9 ⟨rfl, rfl⟩) | ((with_reducible refine (Ur4.out _).mono ?_); rintro e w9 ⟨rfl, rfl⟩)) | fail)
              go_ret
              exact ⟨by rw [HR.out]; simp, HB.out⟩
set_option linter.unusedSimpArgs false in
set_option maxRecDepth 100000 in
set_option maxHeartbeats 12800000 in
theorem rightIn_any {w : World} {x : PIn} (h : InIn w x) : Calls Tryd.prog 56 #[.agg x.cells.toArray] w fun e w' => e = .returned (.bool (inOk x)) ∧ Below w.heap.size w w' := by
  have hn63 : (x.n : Int) ≤ 9223372036854775807 := by have h1 := h.pre.2.1; have h2 := h.pre.2.2.1; unfold maxLen at h2; omega
  have hn0 : (0 : Int) ≤ (x.n : Int) := by omega
  have b1 : Below w.heap.size w (w.alloc (.cells x.cells.toArray 47)) := (Below.refl _ _).alloc (Nat.le_refl _) _
  have hrg := range_of (heap_alloc_new w (.cells x.cells.toArray 47))
  have HX := Lib.hid h
  clear h
  go_enter Tryd.func56, Tryd.ntmps56
  go_upto_region 1 with (fail)
  revert b1 hrg
  generalize (w.alloc (.cells x.cells.toArray 47)) = w1
  obtain ⟨g, hg⟩ : ∃ g, g = w.heap.size := ⟨_, rfl⟩
  rw [← hg]
  intro b1 hrg
  rw [hg] at b1
  have HB := Lib.hid b1
  have c0 := in_at HX.out.tx hrg
  have c1 := in_way HX.out.tx hrg
  have c2 := in_pre HX.out.tx hrg
  rw [Nat.zero_add] at c0 c1 c2
  have hR : inOk x = (uptoB x.place 15 && (uptoB x.way 15 && decide (x.n ≤ 64))) := rfl
  clear hrg hg b1
  obtain ⟨r1, hr1⟩ : ∃ r, uptoB x.place 15 = r := ⟨_, rfl⟩
  have Ur1 : Hid (∀ W : World, Calls Tryd.prog 54 #[.int .i64 x.place, .int .i64 15] W fun e w' => e = .returned (.bool r1) ∧ W = w') := Lib.hid (fun W => by rw [← hr1]; exact upto_any _ _ W)
  obtain ⟨r2, hr2⟩ : ∃ r, uptoB x.way 15 = r := ⟨_, rfl⟩
  have Ur2 : Hid (∀ W : World, Calls Tryd.prog 54 #[.int .i64 x.way, .int .i64 15] W fun e w' => e = .returned (.bool r2) ∧ W = w') := Lib.hid (fun W => by rw [← hr2]; exact upto_any _ _ W)
  obtain ⟨r3, hr3⟩ : ∃ r, decide (x.n ≤ 64) = r := ⟨_, rfl⟩
  have f3 : decide ((x.n : Int) ≤ 64) = r3 := by rw [← hr3]; rw [Bool.eq_iff_iff]; simp; omega
  rw [hr1, hr2, hr3] at hR
  have HR := Lib.hid hR
  clear hr1 hr2 hr3 hR
  cases r1
  · go_wp2_with (first | (go_at_call 54; first | ((with_reducible refine (Ur1.out _).mono ?_); rintro e w9 ⟨rfl, rfl⟩) | ((with_reducible refine (Ur2.out _).mono ?_); rintro e w9 ⟨rfl, rfl⟩)) | fail)
    go_ret
    exact ⟨by rw [HR.out]; simp, HB.out⟩
  · cases r2
    · go_wp2_with (first | (go_at_call 54; first | ((with_reducible refine (Ur1.out _).mono ?_); rintro e w9 ⟨rfl, rfl⟩) | ((with_reducible refine (Ur2.out _).mono ?_); rintro e w9 ⟨rfl, rfl⟩)) | fail)
      go_ret
      exact ⟨by rw [HR.out]; simp, HB.out⟩
    · cases r3
      · go_wp2_with (first | (go_at_call 54; first | ((with_reducible refine (Ur1.out _).mono ?_); rintro e w9 ⟨rfl, rfl⟩) | ((with_reducible refine (Ur2.out _).mono ?_); rintro e w9 ⟨rfl, rfl⟩)) | fail)
        go_ret
        exact ⟨by rw [HR.out]; simp, HB.out⟩
      · go_wp2_with (first | (go_at_call 54; first | ((with_reducible refine (Ur1.out _).mono ?_); rintro e w9 ⟨rfl, rfl⟩) | ((with_reducible refine (Ur2.out _).mono ?_); rintro e w9 ⟨rfl, rfl⟩)) | fail)
        go_ret
        exact ⟨by rw [HR.out]; simp, HB.out⟩
set_option linter.unusedSimpArgs false in
set_option maxRecDepth 100000 in
set_option maxHeartbeats 12800000 in
theorem twice_any {w : World} {y x : PIn} {g : Nat} (hy : InIn w y) (ht : x.tx.length = 32) (hx : w.rangeAt g 0 x.cells) (hg : g < w.heap.size) : Calls Tryd.prog 55 #[.agg y.cells.toArray, .pointer (some ⟨g, 0, none⟩)] w fun e w' => e = .returned (.bool (sameRef y x)) ∧ Below w.heap.size w w' := by
  have b1 : Below w.heap.size w (w.alloc (.cells y.cells.toArray 47)) := (Below.refl _ _).alloc (Nat.le_refl _) _
  have hrg := range_of (heap_alloc_new w (.cells y.cells.toArray 47))
  have SY := Lib.hid (refSize (z := y.place) hy.tx)
  have SX := Lib.hid (refSize (z := x.place) ht)
  obtain ⟨r, hr⟩ : ∃ r, sameRef y x = r := ⟨_, rfl⟩
  have q : ∀ W : World, (Op.equalIn 10000 25 (.agg (refCells y.tx y.place).toArray) (.agg (refCells x.tx x.place).toArray)).run Tryd.prog W = .ok r W := fun W => by rw [← hr]; exact run_eqRefs _ _ _ _ hy.tx ht W
  rw [hr]
  have RX := Lib.hid (in_ref (rangeAt_below hx hg b1))
  clear hr hx hg hy ht
  go_enter Tryd.func55, Tryd.ntmps55
  go_upto_region 1 with (fail)
  revert b1 hrg RX
  generalize (w.alloc (.cells y.cells.toArray 47)) = w1
  obtain ⟨g1, hg1⟩ : ∃ g, g = w.heap.size := ⟨_, rfl⟩
  rw [← hg1]
  intro b1 hrg RX
  rw [hg1] at b1
  have HB := Lib.hid b1
  have RY := Lib.hid (in_ref hrg)
  clear hrg hg1 b1
  go_wp2_with (first | (refine wpList_load_mid rfl 25 _ rfl g1 0 rfl (refCells y.tx y.place) _ RY.out Tryd.underlying25 rfl SY.out ?_) | (refine wpList_load_mid rfl 25 _ rfl g 0 rfl (refCells x.tx x.place) _ RX.out Tryd.underlying25 rfl SX.out ?_) | fail)
  go_ret
  exact ⟨rfl, HB.out⟩
set_option linter.unusedSimpArgs false in
set_option maxRecDepth 100000 in
set_option maxHeartbeats 12800000 in
theorem index_in {w : World} {a : Option Addr} {n c : Nat} {xs : List PIn} {x : PIn} {g : Nat} (h : SliceOf inK w a n c xs) (ht : x.tx.length = 32) (hx : w.rangeAt g 0 x.cells) (hg : g < w.heap.size) :
    Calls Tryd.prog 64 #[.slice a n c, .func (.func 55) #[] #[.pointer (some ⟨g, 0, none⟩)]] w fun e w' => (∃ z : Int, e = .returned (.int .i64 z) ∧ -1 ≤ z ∧ decide (0 ≤ z) = xs.any fun y => sameRef y x) ∧ Below w.heap.size w w' := by
  have hn63 := h.len63
  obtain ⟨R, hR⟩ : ∃ R, R = xs.any fun y => sameRef y x := ⟨_, rfl⟩
  rw [← hR]
  have H := Lib.hid h
  have hx0 := Lib.hid hx
  clear hx
  have HR := Lib.hid hR
  clear h hR
  go_enter Tryd.func64, Tryd.ntmps64
  go_upto_region 2 with (fail)
  go_loopw [8] (fun i wr => ∃ j : Nat, j ≤ n ∧ i = .int .i64 j ∧ Below w.heap.size w wr ∧ R = (xs.drop j).any fun y => sameRef y x) (fun i _ => n - (intOf i).toNat)
  case atStart => exact ⟨0, Nat.zero_le _, rfl, Below.refl _ _, HR.out⟩
  case round =>
    obtain ⟨j, hj, rfl, hb, hRj⟩ := hrel
    have HB := Lib.hid hb
    have HRJ := Lib.hid hRj
    clear hb hRj HR
    by_cases hjn : j < n
    · have f1 : (j : Int) < (n : Int) := by omega
      have f0 : (0 : Int) ≤ (j : Int) := by omega
      have ft : ((j : Int)).toNat = j := by omega
      obtain ⟨b1, o1, e1, hlt1, hc1⟩ := (H.out.below HB.out).2.2.2.2.2 (by omega)
      have hx := (H.out.below HB.out).get hjn
      have hrx := hc1 j hjn
      have hRj := HRJ.out
      rw [drop_getD (d := noIn) (by rw [H.out.1]; exact hjn)] at hRj
      replace hx : inK.ok wr (xs.getD j noIn) := hx
      replace hrx : wr.rangeAt b1 (o1 + j * 35) (inK.cells (xs.getD j noIn)) := hrx
      revert hx hrx hRj
      generalize xs.getD j noIn = y
      intro hRj hx hrx
      replace hRj : R = (sameRef y x || (xs.drop (j + 1)).any fun y => sameRef y x) := hRj
      subst e1
      have HRJ := Lib.hid hRj
      have RX : Hid (wr.rangeAt b1 (o1 + j * 35) y.cells) := Lib.hid hrx
      have SX := Lib.hid (in_size (InIn.tx hx))
      have HC := Lib.hid (twice_any hx ht (rangeAt_below hx0.out hg HB.out) (Nat.lt_of_lt_of_le hg HB.out.size))
      clear hc1 hrx hRj hx
      obtain ⟨r, hr⟩ : ∃ r, (sameRef y x) = r := ⟨_, rfl⟩
      rw [hr] at HRJ HC
      clear hr
      cases r
      · have hRt : R = (xs.drop (j + 1)).any fun y => sameRef y x := HRJ.out
        have HRN := Lib.hid hRt
        clear hRt HRJ
        go_wp2_with (first | (refine wpList_load_mid rfl 47 _ rfl b1 (o1 + j * 35) rfl y.cells _ RX.out Tryd.underlying47 rfl SX.out ?_) | (go_at_call 55; (with_reducible refine HC.out.mono ?_); rintro e w7 ⟨rfl, hb7⟩; have HB7 := Lib.hid hb7; clear hb7) | fail)
        go_roundw
        case rel => exact ⟨j + 1, by omega, by go_num, HB.out.trans (HB7.out.mono HB.out.size), HRN.out⟩
        case measure => simp [intOf]; omega
      · have hRf : R = true := HRJ.out
        subst hRf
        go_wp2_with (first | (refine wpList_load_mid rfl 47 _ rfl b1 (o1 + j * 35) rfl y.cells _ RX.out Tryd.underlying47 rfl SX.out ?_) | (go_at_call 55; (with_reducible refine HC.out.mono ?_); rintro e w7 ⟨rfl, hb7⟩; have HB7 := Lib.hid hb7; clear hb7) | fail)
        go_ret
        exact ⟨⟨j, rfl, by omega, by simp⟩, HB.out.trans (HB7.out.mono HB.out.size)⟩
    · have f1 : ¬ ((j : Int) < (n : Int)) := by omega
      have e1 : xs.drop j = [] := List.drop_of_length_le (by rw [H.out.1]; omega)
      have hRt : R = false := by rw [HRJ.out, e1]; rfl
      subst hRt
      clear e1 HRJ
      go_wp2
      go_ret
      exact ⟨⟨-1, rfl, by omega, by decide⟩, HB.out⟩
theorem contains_in {w : World} {a : Option Addr} {n c : Nat} {xs : List PIn} {x : PIn} {g : Nat} (h : SliceOf inK w a n c xs) (ht : x.tx.length = 32) (hx : w.rangeAt g 0 x.cells) (hg : g < w.heap.size) :
    Calls Tryd.prog 57 #[.slice a n c, .func (.func 55) #[] #[.pointer (some ⟨g, 0, none⟩)]] w fun e w' => e = .returned (.bool (xs.any fun y => sameRef y x)) ∧ Below w.heap.size w w' := by
  have HC := Lib.hid (index_in h ht hx hg)
  generalize (xs.any fun y => sameRef y x) = r at *
  clear h
  go_enter Tryd.func57, Tryd.ntmps57
  go_wp2_with fail
  refine HC.out.mono ?_
  rintro e w7 ⟨⟨z, rfl, hz, hzr⟩, hb7⟩
  have HB7 := Lib.hid hb7
  subst hzr
  clear hb7
  go_wp2_with fail
  go_ret
  exact ⟨rfl, HB7.out⟩
set_option linter.unusedSimpArgs false in
set_option maxRecDepth 100000 in
set_option maxHeartbeats 12800000 in
theorem rightOuts1_any {w : World} {y : POut} (h : OutIn w y) : Calls Tryd.prog 59 #[.agg #[.int .i64 y.m, .slice y.a y.n y.c]] w fun e w' => e = .returned (.bool (!outOk y.m y.ws)) ∧ Below w.heap.size w w' := by
  have b1 : Below w.heap.size w (w.alloc (.cells #[.int .i64 y.m, .slice y.a y.n y.c] 50)) := (Below.refl _ _).alloc (Nat.le_refl _) _
  have HC := Lib.hid (lockRightOut_any (m := y.m) (h.ws.below b1))
  have HB := Lib.hid b1
  have H2 := Lib.hid (range_of (cs := [.int .i64 y.m, .slice y.a y.n y.c]) (heap_alloc_new w (.cells #[.int .i64 y.m, .slice y.a y.n y.c] 50)))
  have SX : Hid ((Tryd.prog.info? 50).map (·.size) = some [Value.int .i64 y.m, .slice y.a y.n y.c].length) := Lib.hid Tryd.sizeOut
  generalize outOk y.m y.ws = r at *
  clear h b1
  go_enter Tryd.func59, Tryd.ntmps59
  go_wp2_with (first | (refine wpList_load_mid rfl 50 _ rfl w.heap.size 0 rfl [.int .i64 y.m, .slice y.a y.n y.c] _ H2.out Tryd.underlying50 rfl SX.out ?_) | (go_at_call 60; (with_reducible refine HC.out.mono ?_); rintro e w7 ⟨rfl, hb7⟩; have HB7 := Lib.hid hb7; clear hb7) | fail)
  go_ret
  exact ⟨rfl, HB.out.trans (HB7.out.mono HB.out.size)⟩
set_option linter.unusedSimpArgs false in
set_option maxRecDepth 100000 in
set_option maxHeartbeats 12800000 in
theorem index_out {w : World} {a : Option Addr} {n c : Nat} {xs : List POut} (h : SliceOf outK w a n c xs) :
    Calls Tryd.prog 65 #[.slice a n c, .func (.func 59) #[] #[]] w fun e w' => (∃ z : Int, e = .returned (.int .i64 z) ∧ -1 ≤ z ∧ decide (0 ≤ z) = xs.any fun y => !outOk y.m y.ws) ∧ Below w.heap.size w w' := by
  have hn63 := h.len63
  obtain ⟨R, hR⟩ : ∃ R, R = xs.any fun y => !outOk y.m y.ws := ⟨_, rfl⟩
  rw [← hR]
  have H := Lib.hid h
  have HR := Lib.hid hR
  clear h hR
  go_enter Tryd.func65, Tryd.ntmps65
  go_upto_region 2 with (fail)
  go_loopw [8] (fun x wr => ∃ j : Nat, j ≤ n ∧ x = .int .i64 j ∧ Below w.heap.size w wr ∧ R = (xs.drop j).any fun y => !outOk y.m y.ws) (fun x _ => n - (intOf x).toNat)
  case atStart => exact ⟨0, Nat.zero_le _, rfl, Below.refl _ _, HR.out⟩
  case round =>
    obtain ⟨j, hj, rfl, hb, hRj⟩ := hrel
    have HB := Lib.hid hb
    have HRJ := Lib.hid hRj
    clear hb hRj HR
    by_cases hjn : j < n
    · have f1 : (j : Int) < (n : Int) := by omega
      have f0 : (0 : Int) ≤ (j : Int) := by omega
      have ft : ((j : Int)).toNat = j := by omega
      obtain ⟨b1, o1, e1, hlt1, hc1⟩ := (H.out.below HB.out).2.2.2.2.2 (by omega)
      have hx := (H.out.below HB.out).get hjn
      have hrx := hc1 j hjn
      have hRj := HRJ.out
      rw [drop_getD (d := noOut) (by rw [H.out.1]; exact hjn)] at hRj
      replace hx : outK.ok wr (xs.getD j noOut) := hx
      replace hrx : wr.rangeAt b1 (o1 + j * 2) (outK.cells (xs.getD j noOut)) := hrx
      revert hx hrx hRj
      generalize xs.getD j noOut = y
      intro hRj hx hrx
      replace hRj : R = (!outOk y.m y.ws || (xs.drop (j + 1)).any fun y => !outOk y.m y.ws) := hRj
      subst e1
      have HRJ := Lib.hid hRj
      have RX : Hid (wr.rangeAt b1 (o1 + j * 2) [.int .i64 y.m, .slice y.a y.n y.c]) := Lib.hid hrx
      have SX := Lib.hid (show (Tryd.prog.info? 50).map (·.size) = some [Value.int .i64 y.m, .slice y.a y.n y.c].length from Tryd.sizeOut)
      have HC := Lib.hid (rightOuts1_any hx)
      clear hc1 hrx hRj hx
      obtain ⟨r, hr⟩ : ∃ r, (!outOk y.m y.ws) = r := ⟨_, rfl⟩
      rw [hr] at HRJ HC
      clear hr
      cases r
      · have hRt : R = (xs.drop (j + 1)).any fun y => !outOk y.m y.ws := HRJ.out
        have HRN := Lib.hid hRt
        clear hRt HRJ
        go_wp2_with (first | (refine wpList_load_mid rfl 50 _ rfl b1 (o1 + j * 2) rfl [.int .i64 y.m, .slice y.a y.n y.c] _ RX.out Tryd.underlying50 rfl SX.out ?_) | (go_at_call 59; (with_reducible refine HC.out.mono ?_); rintro e w7 ⟨rfl, hb7⟩; have HB7 := Lib.hid hb7; clear hb7) | fail)
        go_roundw
        case rel => exact ⟨j + 1, by omega, by go_num, HB.out.trans (HB7.out.mono HB.out.size), HRN.out⟩
        case measure => simp [intOf]; omega
      · have hRf : R = true := HRJ.out
        subst hRf
        go_wp2_with (first | (refine wpList_load_mid rfl 50 _ rfl b1 (o1 + j * 2) rfl [.int .i64 y.m, .slice y.a y.n y.c] _ RX.out Tryd.underlying50 rfl SX.out ?_) | (go_at_call 59; (with_reducible refine HC.out.mono ?_); rintro e w7 ⟨rfl, hb7⟩; have HB7 := Lib.hid hb7; clear hb7) | fail)
        go_ret
        exact ⟨⟨j, rfl, by omega, by simp⟩, HB.out.trans (HB7.out.mono HB.out.size)⟩
    · have f1 : ¬ ((j : Int) < (n : Int)) := by omega
      have e1 : xs.drop j = [] := List.drop_of_length_le (by rw [H.out.1]; omega)
      have hRt : R = false := by rw [HRJ.out, e1]; rfl
      subst hRt
      clear e1 HRJ
      go_wp2
      go_ret
      exact ⟨⟨-1, rfl, by omega, by decide⟩, HB.out⟩
theorem contains_out {w : World} {a : Option Addr} {n c : Nat} {xs : List POut} (h : SliceOf outK w a n c xs) :
    Calls Tryd.prog 58 #[.slice a n c, .func (.func 59) #[] #[]] w fun e w' => e = .returned (.bool (xs.any fun y => !outOk y.m y.ws)) ∧ Below w.heap.size w w' := by
  have HC := Lib.hid (index_out h)
  generalize (xs.any fun y => !outOk y.m y.ws) = r at *
  clear h
  go_enter Tryd.func58, Tryd.ntmps58
  go_wp2_with fail
  refine HC.out.mono ?_
  rintro e w7 ⟨⟨z, rfl, hz, hzr⟩, hb7⟩
  have HB7 := Lib.hid hb7
  subst hzr
  clear hb7
  go_wp2_with fail
  go_ret
  exact ⟨rfl, HB7.out⟩
set_option linter.unusedSimpArgs false in
set_option maxRecDepth 100000 in
set_option maxHeartbeats 12800000 in
theorem rightOuts_any {w : World} {a : Option Addr} {n c : Nat} {xs : List POut} (h : SliceOf outK w a n c xs) : Calls Tryd.prog 47 #[.slice a n c] w fun e w' => e = .returned (.bool (outsOk xs)) ∧ Below w.heap.size w w' := by
  have HC := Lib.hid (contains_out h)
  have e : outsOk xs = !(xs.any fun y => !outOk y.m y.ws) := by unfold outsOk; simp [List.all_eq_not_any_not]
  rw [e]
  generalize (xs.any fun y => !outOk y.m y.ws) = r at *
  clear h e
  go_enter Tryd.func47, Tryd.ntmps47
  go_wp2_with (first | (go_at_call 58; (with_reducible refine HC.out.mono ?_); rintro e w7 ⟨rfl, hb7⟩; have HB7 := Lib.hid hb7; clear hb7) | fail)
  go_ret
  exact ⟨rfl, HB7.out⟩
theorem noSign_is : noSign.cells.toArray = #[.int .i64 0, .int .u8 0, .int .u8 0, .int .u8 0, .int .u8 0, .int .u8 0, .int .u8 0, .int .u8 0, .int .u8 0, .int .u8 0, .int .u8 0, .int .u8 0, .int .u8 0, .int .u8 0, .int .u8 0, .int .u8 0, .int .u8 0, .int .u8 0, .int .u8 0, .int .u8 0, .int .u8 0, .int .u8 0, .int .u8 0, .int .u8 0, .int .u8 0, .int .u8 0, .int .u8 0, .int .u8 0, .int .u8 0, .int .u8 0, .int .u8 0, .int .u8 0, .int .u8 0] := rfl
set_option linter.unusedSimpArgs false in
set_option maxRecDepth 100000 in
set_option maxHeartbeats 12800000 in
theorem rightIns_any {w : World} {a : Option Addr} {n c : Nat} {xs : List PIn} (h : SliceOf inK w a n c xs) : Calls Tryd.prog 46 #[.slice a n c] w fun e w' => e = .returned (.bool (insOk [] xs)) ∧ Below w.heap.size w w' := by
  have hmf : ∀ (fn : Fn) (first cap : Array Value) (w : World), (Instr.makeFunc fn first cap).run Tryd.prog w = .ok (.func fn first cap) w := fun _ _ _ _ => rfl
  have hn63 := h.len63
  have hnc : (n : Int) ≤ (c : Int) := by have := h.2.1; omega
  have hc63 : (c : Int) ≤ 9223372036854775807 := by have h2 := h.2.2.1; unfold maxLen at h2; omega
  obtain ⟨R, hR⟩ : ∃ R, R = insOk [] xs := ⟨_, rfl⟩
  rw [← hR]
  have H := Lib.hid h
  have HR := Lib.hid hR
  clear h hR
  go_enter Tryd.func46, Tryd.ntmps46
  go_upto_region 2 with (fail)
  go_loopw [8] (fun x wr => ∃ j : Nat, j ≤ n ∧ x = .int .i64 j ∧ Below w.heap.size w wr ∧ R = insOk (xs.take j) (xs.drop j)) (fun x _ => n - (intOf x).toNat)
  case atStart => exact ⟨0, Nat.zero_le _, rfl, Below.refl _ _, HR.out⟩
  case round =>
    obtain ⟨j, hj, rfl, hb, hRj⟩ := hrel
    have HB := Lib.hid hb
    have HRJ := Lib.hid hRj
    clear hb hRj HR
    by_cases hjn : j < n
    · have f1 : (j : Int) < (n : Int) := by omega
      have f0 : (0 : Int) ≤ (j : Int) := by omega
      have f2 : (j : Int) ≤ (n : Int) := by omega
      have f3 : (j : Int) ≤ (c : Int) := by omega
      have ft : ((j : Int)).toNat = j := by omega
      obtain ⟨b1, o1, e1, hlt1, hc1⟩ := (H.out.below HB.out).2.2.2.2.2 (by omega)
      have hx := (H.out.below HB.out).get hjn
      have hrx := hc1 j hjn
      have hTK := (H.out.below HB.out).take (k := j) (by omega)
      have hRj := HRJ.out
      rw [insOk_step (by rw [H.out.1]; exact hjn)] at hRj
      replace hx : InIn wr (xs.getD j noIn) := hx
      replace hrx : wr.rangeAt b1 (o1 + j * 35) (xs.getD j noIn).cells := hrx
      revert hx hrx hRj
      generalize xs.getD j noIn = y
      intro hRj hx hrx
      subst e1
      have HRJ := Lib.hid hRj
      have RX := Lib.hid hrx
      have SX := Lib.hid (in_size hx.tx)
      have AY := Lib.hid (in_sizeA hx.tx)
      have ZY : Hid (noIn.cells.toArray.size = y.cells.toArray.size) := Lib.hid (by rw [List.size_toArray, List.size_toArray, PIn.len hx.tx]; rfl)
      have HX := Lib.hid hx
      have HTK := Lib.hid hTK
      clear hc1 hrx hRj hx hTK
      go_upto_region 4 with (first | (refine wpList_load_mid rfl 47 _ rfl b1 (o1 + j * 35) rfl y.cells _ RX.out Tryd.underlying47 rfl SX.out ?_) | (refine wpList_store_row rfl 47 _ _ rfl wr.heap.size y.cells.toArray rfl rfl 47 noIn.cells.toArray (heap_alloc_new _ _) AY.out ZY.out (all_oneCell_toArray y.one) ?_) | fail)
      rw [← noIn_is, layT_is]
      have h5 := layT_heap 47 noIn.cells wr y.cells
      have b5 := layT_self 47 noIn.cells wr y.cells
      revert h5 b5
      generalize layT 47 noIn.cells wr y.cells = w5
      obtain ⟨g5, hg5⟩ : ∃ g5, g5 = wr.heap.size := ⟨_, rfl⟩
      rw [← hg5]
      intro h5 b5
      rw [hg5] at b5
      have H5 := Lib.hid h5
      have HB5 := Lib.hid (HB.out.trans (b5.mono HB.out.size))
      have hlt5 : g5 < w5.heap.size := lt_of_block h5
      have HRI := Lib.hid (rightIn_any (show InIn w5 y from inK.below (w := wr) (x := y) HX.out b5))
      have HCI : Hid (∀ W : World, Below w5.heap.size w5 W → Calls Tryd.prog 57 #[.slice (some ⟨b1, o1, none⟩) j c, .func (.func 55) #[] #[.pointer (some ⟨g5, 0, none⟩)]] W fun e w' => e = .returned (.bool ((xs.take j).any fun a => sameRef a y)) ∧ Below W.heap.size W w') :=
        Lib.hid (fun W hW => contains_in ((HTK.out.below b5).below hW) HX.out.tx (range_of ((hW.block _ hlt5).trans h5)) (Nat.lt_of_lt_of_le hlt5 hW.size))
      obtain ⟨r1, hr1⟩ : ∃ r, inOk y = r := ⟨_, rfl⟩
      obtain ⟨r2, hr2⟩ : ∃ r, ((xs.take j).any fun a => sameRef a y) = r := ⟨_, rfl⟩
      rw [hr1] at HRI HRJ
      rw [hr2] at HCI HRJ
      have HB5s := Lib.hid hlt5
      clear h5 b5 hg5 hr1 hr2 hlt5 RX HB HTK HX
      try simp only [Act.put]
      cases r1
      · have hRf : R = false := HRJ.out
        subst hRf
        go_wp2_with (first | (refine wpList_load_row rfl 47 _ rfl g5 rfl 47 y.cells.toArray (0, 0) _ H5.out Tryd.underlying47 rfl AY.out ?_) | (go_at_call 56; (with_reducible refine HRI.out.mono ?_); rintro e w6 ⟨rfl, hb6⟩; have HB6 := Lib.hid hb6; clear hb6) | fail)
        go_ret
        exact ⟨rfl, HB5.out.trans (HB6.out.mono HB5.out.size)⟩
      · cases r2
        · have hRt : R = insOk (xs.take (j + 1)) (xs.drop (j + 1)) := HRJ.out
          have HRN := Lib.hid hRt
          clear hRt HRJ
          go_wp2_with (first | (refine wpList_load_row rfl 47 _ rfl g5 rfl 47 y.cells.toArray (0, 0) _ H5.out Tryd.underlying47 rfl AY.out ?_) | (go_at_call 56; (with_reducible refine HRI.out.mono ?_); rintro e w6 ⟨rfl, hb6⟩; have HB6 := Lib.hid hb6; clear hb6) | (go_at_call 57; (with_reducible refine (HCI.out _ HB6.out).mono ?_); rintro e w7 ⟨rfl, hb7⟩; have HB7 := Lib.hid hb7; clear hb7) | fail)
          go_roundw
          case rel => exact ⟨j + 1, by omega, by go_num, (HB5.out.trans (HB6.out.mono HB5.out.size)).trans (HB7.out.mono (Nat.le_trans HB5.out.size HB6.out.size)), HRN.out⟩
          case measure => simp [intOf]; omega
        · have hRf : R = false := HRJ.out
          subst hRf
          go_wp2_with (first | (refine wpList_load_row rfl 47 _ rfl g5 rfl 47 y.cells.toArray (0, 0) _ H5.out Tryd.underlying47 rfl AY.out ?_) | (go_at_call 56; (with_reducible refine HRI.out.mono ?_); rintro e w6 ⟨rfl, hb6⟩; have HB6 := Lib.hid hb6; clear hb6) | (go_at_call 57; (with_reducible refine (HCI.out _ HB6.out).mono ?_); rintro e w7 ⟨rfl, hb7⟩; have HB7 := Lib.hid hb7; clear hb7) | fail)
          go_ret
          exact ⟨rfl, (HB5.out.trans (HB6.out.mono HB5.out.size)).trans (HB7.out.mono (Nat.le_trans HB5.out.size HB6.out.size))⟩
    · have f1 : ¬ ((j : Int) < (n : Int)) := by omega
      have hRj := HRJ.out
      rw [insOk_end (by rw [H.out.1]; omega)] at hRj
      subst hRj
      clear HRJ
      go_wp2
      go_ret
      exact ⟨rfl, HB.out⟩
set_option linter.unusedSimpArgs false in
set_option maxRecDepth 100000 in
set_option maxHeartbeats 12800000 in
theorem txRise_any {w : World} {a : Option Addr} {n c : Nat} {xs : List PSign} (h : SliceOf signK w a n c xs) : Calls Tryd.prog 48 #[.slice a n c] w fun e w' => e = .returned (.bool (rises 0 (keysOf xs))) ∧ Below w.heap.size w w' := by
  have hn63 := h.len63
  obtain ⟨R, hR⟩ : ∃ R, R = rises 0 (keysOf xs) := ⟨_, rfl⟩
  rw [← hR]
  have H := Lib.hid h
  have HR := Lib.hid hR
  clear h hR
  go_enter Tryd.func48, Tryd.ntmps48
  go_upto_region 3 with (fail)
  go_loopw [3, 8] (fun s x wr => ∃ (j : Nat) (S : Int), j ≤ n ∧ x = .int .i64 j ∧ s = .int .i64 S ∧ 0 ≤ S ∧ S ≤ 256 ∧ Below w.heap.size w wr ∧ R = rises S (keysOf (xs.drop j))) (fun _ x _ => n - (intOf x).toNat)
  case atStart => exact ⟨0, 0, Nat.zero_le _, rfl, rfl, Int.le_refl _, by omega, Below.refl _ _, HR.out⟩
  case round =>
    obtain ⟨j, S, hj, rfl, rfl, hS0, hS1, hb, hRj⟩ := hrel
    have HB := Lib.hid hb
    have HRJ := Lib.hid hRj
    clear hb hRj HR
    by_cases hjn : j < n
    · have f1 : (j : Int) < (n : Int) := by omega
      have f0 : (0 : Int) ≤ (j : Int) := by omega
      have ft : ((j : Int)).toNat = j := by omega
      obtain ⟨b1, o1, e1, hlt1, hc1⟩ := (H.out.below HB.out).2.2.2.2.2 (by omega)
      have hx := (H.out.below HB.out).get hjn
      have hrx := hc1 j hjn
      have hRj := HRJ.out
      rw [drop_getD (d := noSign) (by rw [H.out.1]; exact hjn)] at hRj
      replace hx : SignIn (xs.getD j noSign) := hx
      replace hrx : wr.rangeAt b1 (o1 + j * 33) (xs.getD j noSign).cells := hrx
      revert hx hrx hRj
      generalize xs.getD j noSign = y
      intro hRj hx hrx
      replace hRj : R = rises S (y.key :: keysOf (xs.drop (j + 1))) := hRj
      subst e1
      have HRJ := Lib.hid hRj
      have RX := Lib.hid hrx
      have SX := Lib.hid (sign_size hx.sum)
      have AY := Lib.hid (sign_sizeA hx.sum)
      have ZY : Hid (noSign.cells.toArray.size = y.cells.toArray.size) := Lib.hid (by rw [List.size_toArray, List.size_toArray, PSign.len hx.sum]; rfl)
      obtain ⟨k1, k2⟩ := hx.key
      clear hc1 hrx hRj hx
      go_upto_region 5 with (first | (refine wpList_load_mid rfl 86 _ rfl b1 (o1 + j * 33) rfl y.cells _ RX.out Tryd.underlying86 rfl SX.out ?_) | (refine wpList_store_row rfl 86 _ _ rfl wr.heap.size y.cells.toArray rfl rfl 86 noSign.cells.toArray (heap_alloc_new _ _) AY.out ZY.out (all_oneCell_toArray y.one) ?_) | fail)
      rw [← noSign_is, layT_is]
      have h5 := layT_heap 86 noSign.cells wr y.cells
      have b5 := layT_self 86 noSign.cells wr y.cells
      revert h5 b5
      generalize layT 86 noSign.cells wr y.cells = w5
      obtain ⟨g5, hg5⟩ : ∃ g5, g5 = wr.heap.size := ⟨_, rfl⟩
      rw [← hg5]
      intro h5 b5
      rw [hg5] at b5
      have H5 := Lib.hid h5
      have HB5 := Lib.hid (HB.out.trans (b5.mono HB.out.size))
      have c0 : w5.cell? ⟨g5, 0, none⟩ = some (.int .i64 y.key) := sign_key (range_of h5)
      clear h5 b5 hg5 RX HB
      try simp only [Act.put]
      by_cases h1 : y.key < S
      · have hR5 := HRJ.out
        rw [rises_low h1] at hR5
        subst hR5
        go_wp2
        go_ret
        exact ⟨rfl, HB5.out⟩
      · by_cases h2 : 255 < y.key
        · have hR5 := HRJ.out
          rw [rises_high h1 h2] at hR5
          subst hR5
          go_wp2
          go_ret
          exact ⟨rfl, HB5.out⟩
        · have hR5 := HRJ.out
          rw [rises_more h1 h2] at hR5
          have HR5 := Lib.hid hR5
          have iw : IntKind.i64.wrap (y.key + 1) = y.key + 1 := IntWalk.i64_in _ (by omega)
          have g0 : 0 ≤ y.key + 1 := by omega
          have g1 : y.key + 1 ≤ 256 := by omega
          clear hR5 HRJ
          go_wp2
          go_roundw
          case rel => exact ⟨j + 1, y.key + 1, by omega, by go_num, rfl, g0, g1, HB5.out, HR5.out⟩
          case measure => simp [intOf]; omega
    · have f1 : ¬ ((j : Int) < (n : Int)) := by omega
      have hRj := HRJ.out
      rw [List.drop_of_length_le (by rw [H.out.1]; omega)] at hRj
      replace hRj : R = true := hRj
      subst hRj
      clear HRJ
      go_wp2
      go_ret
      exact ⟨rfl, HB.out⟩
set_option linter.unusedSimpArgs false in
set_option maxRecDepth 100000 in
set_option maxHeartbeats 12800000 in
theorem txRight_any {w : World} {x : PTx} (h : TxIn w x) : Calls Tryd.prog 33 #[.agg x.cells.toArray] w fun e w' => e = .returned (.bool (txOk x)) ∧ Below w.heap.size w w' := by
  have hi63 := h.ins.len63
  have ho63 := h.outs.len63
  have hs63 := h.signs.len63
  have b1 : Below w.heap.size w (w.alloc (.cells x.cells.toArray 38)) := (Below.refl _ _).alloc (Nat.le_refl _) _
  have hrg := range_of (heap_alloc_new w (.cells x.cells.toArray 38))
  have H1 := Lib.hid (h.below b1)
  have HR0 := Lib.hid h.op.root
  have SO := Lib.hid (op_size h.op.root)
  obtain ⟨R, hR⟩ : ∃ R, txOk x = R := ⟨_, rfl⟩
  rw [hR]
  have HRS := Lib.hid hR
  have hlt := lt_of_block (heap_alloc_new w (.cells x.cells.toArray 38))
  clear h hR
  go_enter Tryd.func33, Tryd.ntmps33
  go_upto_region 1 with (fail)
  revert b1 hrg H1 hlt
  generalize (w.alloc (.cells x.cells.toArray 38)) = w1
  obtain ⟨g, hg⟩ : ∃ g, g = w.heap.size := ⟨_, rfl⟩
  rw [← hg]
  intro b1 hrg H1 hlt
  rw [hg] at b1
  have HB := Lib.hid b1
  have hro := tx_op hrg
  rw [Nat.zero_add] at hro
  have ck := op_kind hro
  have RO := Lib.hid hro
  -- the parts, in every world behind
  have CI : Hid (∀ W : World, Below w1.heap.size w1 W → W.cell? ⟨g, 0, none⟩ = some (.slice x.ia x.inn x.ic)) := Lib.hid (fun W hW => tx_ins (rangeAt_below hrg hlt hW))
  have CO : Hid (∀ W : World, Below w1.heap.size w1 W → W.cell? ⟨g, 1, none⟩ = some (.slice x.oa x.on x.oc)) := Lib.hid (fun W hW => by have h9 := tx_outs (rangeAt_below hrg hlt hW); rw [Nat.zero_add] at h9; exact h9)
  have CS : Hid (∀ W : World, Below w1.heap.size w1 W → W.cell? ⟨g, 39, none⟩ = some (.slice x.sa x.sn x.sc)) := Lib.hid (fun W hW => by have h9 := tx_signs HR0.out (rangeAt_below hrg hlt hW); rw [Nat.zero_add] at h9; exact h9)
  have c0 := CI.out _ (Below.refl _ _)
  have c1 := CO.out _ (Below.refl _ _)
  have c39 := CS.out _ (Below.refl _ _)
  clear hrg hg b1 hro hlt
  have hR := HRS.out
  unfold txOk at hR
  by_cases hl : x.inn ≤ 16 ∧ x.on ≤ 16 ∧ x.sn ≤ 16
  · rw [decide_eq_true hl, Bool.true_and] at hR
    obtain ⟨l1, l2, l3⟩ := hl
    have f1 : ¬ 16 < (x.inn : Int) := by omega
    have f2 : ¬ 16 < (x.on : Int) := by omega
    have f3 : ¬ 16 < (x.sn : Int) := by omega
    by_cases he : x.inn ≠ 0 ∨ x.op.kind ≠ 0
    · rw [decide_eq_true he, Bool.true_and] at hR
      have g1 : (((x.inn : Int) == 0) && (x.op.kind == 0)) = false := by
        rcases he with he | he
        · have h9 : ((x.inn : Int) == 0) = false := by simp; omega
          rw [h9, Bool.false_and]
        · have h9 : (x.op.kind == 0) = false := by simpa using he
          rw [h9, Bool.and_false]
      have HOP := Lib.hid (rightOp_any H1.out.op)
      have HIN := Lib.hid (fun (W : World) (hW : Below w1.heap.size w1 W) => rightIns_any (H1.out.ins.below hW))
      have HOU := Lib.hid (fun (W : World) (hW : Below w1.heap.size w1 W) => rightOuts_any (H1.out.outs.below hW))
      have HSI := Lib.hid (fun (W : World) (hW : Below w1.heap.size w1 W) => txRise_any (H1.out.signs.below hW))
      generalize opOk x.op = r1 at *
      generalize insOk [] x.ins = r2 at *
      generalize outsOk x.outs = r3 at *
      generalize rises 0 (keysOf x.signs) = r4 at *
      clear HRS H1 he
      subst hR
      have kind0 : (((x.inn : Int) == 0) = true ∧ (x.op.kind == 0) = false) ∨ ((x.inn : Int) == 0) = false := by
        cases h9 : ((x.inn : Int) == 0)
        · exact .inr rfl
        · rw [h9, Bool.true_and] at g1
          exact .inl ⟨rfl, g1⟩
      clear g1
      rcases kind0 with ⟨t0, t1⟩ | t0
      · cases r1
        · go_wp2_with (first | (refine wpList_load_mid rfl 35 _ rfl g 2 rfl x.op.cells _ RO.out Tryd.underlying35 rfl SO.out ?_) | (go_at_call 45; (with_reducible refine HOP.out.mono ?_); rintro e w5 ⟨rfl, hb5⟩; have HB5 := Lib.hid hb5; have d0 := CI.out _ hb5; clear hb5) | (go_at_call 46; (with_reducible refine (HIN.out _ HB5.out).mono ?_); rintro e w6 ⟨rfl, hb6⟩; have HB6 := Lib.hid (HB5.out.trans (hb6.mono HB5.out.size)); have d1 := CO.out _ HB6.out; clear hb6) | (go_at_call 47; (with_reducible refine (HOU.out _ HB6.out).mono ?_); rintro e w7 ⟨rfl, hb7⟩; have HB7 := Lib.hid (HB6.out.trans (hb7.mono HB6.out.size)); have d2 := CS.out _ HB7.out; clear hb7) | (go_at_call 48; (with_reducible refine (HSI.out _ HB7.out).mono ?_); rintro e w8 ⟨rfl, hb8⟩; have HB8 := Lib.hid (HB7.out.trans (hb8.mono HB7.out.size)); clear hb8) | fail)
          all_goals go_ret
          all_goals exact ⟨rfl, HB.out.trans (HB5.out.mono HB.out.size)⟩
        · cases r2
          · go_wp2_with (first | (refine wpList_load_mid rfl 35 _ rfl g 2 rfl x.op.cells _ RO.out Tryd.underlying35 rfl SO.out ?_) | (go_at_call 45; (with_reducible refine HOP.out.mono ?_); rintro e w5 ⟨rfl, hb5⟩; have HB5 := Lib.hid hb5; have d0 := CI.out _ hb5; clear hb5) | (go_at_call 46; (with_reducible refine (HIN.out _ HB5.out).mono ?_); rintro e w6 ⟨rfl, hb6⟩; have HB6 := Lib.hid (HB5.out.trans (hb6.mono HB5.out.size)); have d1 := CO.out _ HB6.out; clear hb6) | (go_at_call 47; (with_reducible refine (HOU.out _ HB6.out).mono ?_); rintro e w7 ⟨rfl, hb7⟩; have HB7 := Lib.hid (HB6.out.trans (hb7.mono HB6.out.size)); have d2 := CS.out _ HB7.out; clear hb7) | (go_at_call 48; (with_reducible refine (HSI.out _ HB7.out).mono ?_); rintro e w8 ⟨rfl, hb8⟩; have HB8 := Lib.hid (HB7.out.trans (hb8.mono HB7.out.size)); clear hb8) | fail)
            all_goals go_ret
            all_goals exact ⟨rfl, HB.out.trans (HB6.out.mono HB.out.size)⟩
          · cases r3
            · go_wp2_with (first | (refine wpList_load_mid rfl 35 _ rfl g 2 rfl x.op.cells _ RO.out Tryd.underlying35 rfl SO.out ?_) | (go_at_call 45; (with_reducible refine HOP.out.mono ?_); rintro e w5 ⟨rfl, hb5⟩; have HB5 := Lib.hid hb5; have d0 := CI.out _ hb5; clear hb5) | (go_at_call 46; (with_reducible refine (HIN.out _ HB5.out).mono ?_); rintro e w6 ⟨rfl, hb6⟩; have HB6 := Lib.hid (HB5.out.trans (hb6.mono HB5.out.size)); have d1 := CO.out _ HB6.out; clear hb6) | (go_at_call 47; (with_reducible refine (HOU.out _ HB6.out).mono ?_); rintro e w7 ⟨rfl, hb7⟩; have HB7 := Lib.hid (HB6.out.trans (hb7.mono HB6.out.size)); have d2 := CS.out _ HB7.out; clear hb7) | (go_at_call 48; (with_reducible refine (HSI.out _ HB7.out).mono ?_); rintro e w8 ⟨rfl, hb8⟩; have HB8 := Lib.hid (HB7.out.trans (hb8.mono HB7.out.size)); clear hb8) | fail)
              all_goals go_ret
              all_goals exact ⟨rfl, HB.out.trans (HB7.out.mono HB.out.size)⟩
            · cases r4
              · go_wp2_with (first | (refine wpList_load_mid rfl 35 _ rfl g 2 rfl x.op.cells _ RO.out Tryd.underlying35 rfl SO.out ?_) | (go_at_call 45; (with_reducible refine HOP.out.mono ?_); rintro e w5 ⟨rfl, hb5⟩; have HB5 := Lib.hid hb5; have d0 := CI.out _ hb5; clear hb5) | (go_at_call 46; (with_reducible refine (HIN.out _ HB5.out).mono ?_); rintro e w6 ⟨rfl, hb6⟩; have HB6 := Lib.hid (HB5.out.trans (hb6.mono HB5.out.size)); have d1 := CO.out _ HB6.out; clear hb6) | (go_at_call 47; (with_reducible refine (HOU.out _ HB6.out).mono ?_); rintro e w7 ⟨rfl, hb7⟩; have HB7 := Lib.hid (HB6.out.trans (hb7.mono HB6.out.size)); have d2 := CS.out _ HB7.out; clear hb7) | (go_at_call 48; (with_reducible refine (HSI.out _ HB7.out).mono ?_); rintro e w8 ⟨rfl, hb8⟩; have HB8 := Lib.hid (HB7.out.trans (hb8.mono HB7.out.size)); clear hb8) | fail)
                all_goals go_ret
                all_goals exact ⟨rfl, HB.out.trans (HB8.out.mono HB.out.size)⟩
              · go_wp2_with (first | (refine wpList_load_mid rfl 35 _ rfl g 2 rfl x.op.cells _ RO.out Tryd.underlying35 rfl SO.out ?_) | (go_at_call 45; (with_reducible refine HOP.out.mono ?_); rintro e w5 ⟨rfl, hb5⟩; have HB5 := Lib.hid hb5; have d0 := CI.out _ hb5; clear hb5) | (go_at_call 46; (with_reducible refine (HIN.out _ HB5.out).mono ?_); rintro e w6 ⟨rfl, hb6⟩; have HB6 := Lib.hid (HB5.out.trans (hb6.mono HB5.out.size)); have d1 := CO.out _ HB6.out; clear hb6) | (go_at_call 47; (with_reducible refine (HOU.out _ HB6.out).mono ?_); rintro e w7 ⟨rfl, hb7⟩; have HB7 := Lib.hid (HB6.out.trans (hb7.mono HB6.out.size)); have d2 := CS.out _ HB7.out; clear hb7) | (go_at_call 48; (with_reducible refine (HSI.out _ HB7.out).mono ?_); rintro e w8 ⟨rfl, hb8⟩; have HB8 := Lib.hid (HB7.out.trans (hb8.mono HB7.out.size)); clear hb8) | fail)
                all_goals go_ret
                all_goals exact ⟨rfl, HB.out.trans (HB8.out.mono HB.out.size)⟩
      · cases r1
        · go_wp2_with (first | (refine wpList_load_mid rfl 35 _ rfl g 2 rfl x.op.cells _ RO.out Tryd.underlying35 rfl SO.out ?_) | (go_at_call 45; (with_reducible refine HOP.out.mono ?_); rintro e w5 ⟨rfl, hb5⟩; have HB5 := Lib.hid hb5; have d0 := CI.out _ hb5; clear hb5) | (go_at_call 46; (with_reducible refine (HIN.out _ HB5.out).mono ?_); rintro e w6 ⟨rfl, hb6⟩; have HB6 := Lib.hid (HB5.out.trans (hb6.mono HB5.out.size)); have d1 := CO.out _ HB6.out; clear hb6) | (go_at_call 47; (with_reducible refine (HOU.out _ HB6.out).mono ?_); rintro e w7 ⟨rfl, hb7⟩; have HB7 := Lib.hid (HB6.out.trans (hb7.mono HB6.out.size)); have d2 := CS.out _ HB7.out; clear hb7) | (go_at_call 48; (with_reducible refine (HSI.out _ HB7.out).mono ?_); rintro e w8 ⟨rfl, hb8⟩; have HB8 := Lib.hid (HB7.out.trans (hb8.mono HB7.out.size)); clear hb8) | fail)
          all_goals go_ret
          all_goals exact ⟨rfl, HB.out.trans (HB5.out.mono HB.out.size)⟩
        · cases r2
          · go_wp2_with (first | (refine wpList_load_mid rfl 35 _ rfl g 2 rfl x.op.cells _ RO.out Tryd.underlying35 rfl SO.out ?_) | (go_at_call 45; (with_reducible refine HOP.out.mono ?_); rintro e w5 ⟨rfl, hb5⟩; have HB5 := Lib.hid hb5; have d0 := CI.out _ hb5; clear hb5) | (go_at_call 46; (with_reducible refine (HIN.out _ HB5.out).mono ?_); rintro e w6 ⟨rfl, hb6⟩; have HB6 := Lib.hid (HB5.out.trans (hb6.mono HB5.out.size)); have d1 := CO.out _ HB6.out; clear hb6) | (go_at_call 47; (with_reducible refine (HOU.out _ HB6.out).mono ?_); rintro e w7 ⟨rfl, hb7⟩; have HB7 := Lib.hid (HB6.out.trans (hb7.mono HB6.out.size)); have d2 := CS.out _ HB7.out; clear hb7) | (go_at_call 48; (with_reducible refine (HSI.out _ HB7.out).mono ?_); rintro e w8 ⟨rfl, hb8⟩; have HB8 := Lib.hid (HB7.out.trans (hb8.mono HB7.out.size)); clear hb8) | fail)
            all_goals go_ret
            all_goals exact ⟨rfl, HB.out.trans (HB6.out.mono HB.out.size)⟩
          · cases r3
            · go_wp2_with (first | (refine wpList_load_mid rfl 35 _ rfl g 2 rfl x.op.cells _ RO.out Tryd.underlying35 rfl SO.out ?_) | (go_at_call 45; (with_reducible refine HOP.out.mono ?_); rintro e w5 ⟨rfl, hb5⟩; have HB5 := Lib.hid hb5; have d0 := CI.out _ hb5; clear hb5) | (go_at_call 46; (with_reducible refine (HIN.out _ HB5.out).mono ?_); rintro e w6 ⟨rfl, hb6⟩; have HB6 := Lib.hid (HB5.out.trans (hb6.mono HB5.out.size)); have d1 := CO.out _ HB6.out; clear hb6) | (go_at_call 47; (with_reducible refine (HOU.out _ HB6.out).mono ?_); rintro e w7 ⟨rfl, hb7⟩; have HB7 := Lib.hid (HB6.out.trans (hb7.mono HB6.out.size)); have d2 := CS.out _ HB7.out; clear hb7) | (go_at_call 48; (with_reducible refine (HSI.out _ HB7.out).mono ?_); rintro e w8 ⟨rfl, hb8⟩; have HB8 := Lib.hid (HB7.out.trans (hb8.mono HB7.out.size)); clear hb8) | fail)
              all_goals go_ret
              all_goals exact ⟨rfl, HB.out.trans (HB7.out.mono HB.out.size)⟩
            · cases r4
              · go_wp2_with (first | (refine wpList_load_mid rfl 35 _ rfl g 2 rfl x.op.cells _ RO.out Tryd.underlying35 rfl SO.out ?_) | (go_at_call 45; (with_reducible refine HOP.out.mono ?_); rintro e w5 ⟨rfl, hb5⟩; have HB5 := Lib.hid hb5; have d0 := CI.out _ hb5; clear hb5) | (go_at_call 46; (with_reducible refine (HIN.out _ HB5.out).mono ?_); rintro e w6 ⟨rfl, hb6⟩; have HB6 := Lib.hid (HB5.out.trans (hb6.mono HB5.out.size)); have d1 := CO.out _ HB6.out; clear hb6) | (go_at_call 47; (with_reducible refine (HOU.out _ HB6.out).mono ?_); rintro e w7 ⟨rfl, hb7⟩; have HB7 := Lib.hid (HB6.out.trans (hb7.mono HB6.out.size)); have d2 := CS.out _ HB7.out; clear hb7) | (go_at_call 48; (with_reducible refine (HSI.out _ HB7.out).mono ?_); rintro e w8 ⟨rfl, hb8⟩; have HB8 := Lib.hid (HB7.out.trans (hb8.mono HB7.out.size)); clear hb8) | fail)
                all_goals go_ret
                all_goals exact ⟨rfl, HB.out.trans (HB8.out.mono HB.out.size)⟩
              · go_wp2_with (first | (refine wpList_load_mid rfl 35 _ rfl g 2 rfl x.op.cells _ RO.out Tryd.underlying35 rfl SO.out ?_) | (go_at_call 45; (with_reducible refine HOP.out.mono ?_); rintro e w5 ⟨rfl, hb5⟩; have HB5 := Lib.hid hb5; have d0 := CI.out _ hb5; clear hb5) | (go_at_call 46; (with_reducible refine (HIN.out _ HB5.out).mono ?_); rintro e w6 ⟨rfl, hb6⟩; have HB6 := Lib.hid (HB5.out.trans (hb6.mono HB5.out.size)); have d1 := CO.out _ HB6.out; clear hb6) | (go_at_call 47; (with_reducible refine (HOU.out _ HB6.out).mono ?_); rintro e w7 ⟨rfl, hb7⟩; have HB7 := Lib.hid (HB6.out.trans (hb7.mono HB6.out.size)); have d2 := CS.out _ HB7.out; clear hb7) | (go_at_call 48; (with_reducible refine (HSI.out _ HB7.out).mono ?_); rintro e w8 ⟨rfl, hb8⟩; have HB8 := Lib.hid (HB7.out.trans (hb8.mono HB7.out.size)); clear hb8) | fail)
                all_goals go_ret
                all_goals exact ⟨rfl, HB.out.trans (HB8.out.mono HB.out.size)⟩
    · rw [decide_eq_false he, Bool.false_and] at hR
      have t0 : ((x.inn : Int) == 0) = true := by simp; omega
      have t1 : (x.op.kind == 0) = true := by simp; omega
      subst hR
      clear he
      go_wp2
      all_goals go_ret
      all_goals exact ⟨rfl, HB.out⟩
  · rw [decide_eq_false hl, Bool.false_and] at hR
    subst hR
    have f1 : 16 < max (max (x.inn : Int) (x.on : Int)) (x.sn : Int) := by omega
    clear hl
    go_wp2
    all_goals go_ret
    all_goals exact ⟨rfl, HB.out⟩
end Go.Proofs.YtkihmhchdenamaaDoor
