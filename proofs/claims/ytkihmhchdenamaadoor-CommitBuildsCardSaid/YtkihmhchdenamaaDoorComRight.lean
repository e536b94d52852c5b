/- Which channels and states may be: what the code's functions come to. -/
import Derived.Test.YtkihmhchdenamaaDoorLaw14
import Derived.Test.YtkihmhchdenamaaDoorCoin
namespace Go.Proofs.YtkihmhchdenamaaDoor
open Go.RowKit

theorem comupto_any (w : World) (z m : Int) : Calls Tryd.prog 20 #[.int .i64 z, .int .i64 m] w fun e w' => e = .returned (.bool (decide (0 ≤ z) && decide (z ≤ m))) ∧ w = w' := by
  obtain ⟨t1, h1⟩ : ∃ r, decide (0 ≤ z) = r := ⟨_, rfl⟩
  obtain ⟨t2, h2⟩ : ∃ r, decide (z ≤ m) = r := ⟨_, rfl⟩
  go_enter Tryd.func20, Tryd.ntmps20
  rw [h1, h2]
  cases t1
  · go_wp2
    go_ret
    exact ⟨rfl, rfl⟩
  · cases t2
    · go_wp2
      go_ret
      exact ⟨rfl, rfl⟩
    · go_wp2
      go_ret
      exact ⟨rfl, rfl⟩
def keysOk (x : PChan) : Bool := decide (0 ≤ x.client ∧ x.client ≤ 255 ∧ 0 ≤ x.peer ∧ x.peer ≤ 255)
def timesOk (x : PChan) : Bool := decide (1 ≤ x.window ∧ x.window < x.wait ∧ x.wait ≤ 65536)
theorem keysOk_is (x : PChan) : keysOk x = ((decide (0 ≤ x.client) && decide (x.client ≤ 255)) && (decide (0 ≤ x.peer) && decide (x.peer ≤ 255))) := by simp [keysOk, Bool.and_assoc]
theorem timesOk_is (x : PChan) : timesOk x = (decide (1 ≤ x.window) && (decide (x.window < x.wait) && decide (x.wait ≤ 65536))) := by simp [timesOk]
theorem chanOk_is (x : PChan) : chanOk x = ((decide (0 ≤ x.id) && decide (x.id ≤ 1048576)) && (keysOk x && ((x.client != x.peer) && (decide (0 < x.cap) && (okAmount x.cap && (timesOk x && (decide (0 ≤ x.fat) && decide (x.fat ≤ 15)))))))) := by
  rw [Bool.eq_iff_iff]
  simp only [chanOk, keysOk, timesOk, okAmount, Bool.and_eq_true, decide_eq_true_eq, bne_iff_ne]
  omega
set_option linter.unusedSimpArgs false in
set_option maxRecDepth 100000 in
set_option maxHeartbeats 6400000 in
theorem rightKeys_any (w : World) {x : PChan} (hf : x.ftx.length = 32) : Calls Tryd.prog 21 #[.agg x.cells.toArray] w fun e w' => e = .returned (.bool (keysOk x)) ∧ Below w.heap.size w w' := by
  obtain ⟨u1, hu1, ku1⟩ : ∃ u, (decide (0 ≤ x.client) && decide (x.client ≤ 255)) = u ∧ ∀ W : World, Calls Tryd.prog 20 #[.int .i64 (x.client), .int .i64 255] W fun e w' => e = .returned (.bool u) ∧ W = w' := ⟨_, rfl, fun W => comupto_any W _ _⟩
  have Ku1 := Lib.hid ku1
  obtain ⟨u2, hu2, ku2⟩ : ∃ u, (decide (0 ≤ x.peer) && decide (x.peer ≤ 255)) = u ∧ ∀ W : World, Calls Tryd.prog 20 #[.int .i64 (x.peer), .int .i64 255] W fun e w' => e = .returned (.bool u) ∧ W = w' := ⟨_, rfl, fun W => comupto_any W _ _⟩
  have Ku2 := Lib.hid ku2
  have HR : Hid (keysOk x = (u1 && u2)) := Lib.hid (by rw [← hu1, ← hu2]; exact keysOk_is x)
  clear hu1 hu2 ku1 ku2
  go_enter Tryd.func21, Tryd.ntmps21
  go_upto_region 1 with (fail)
  have b1 : Below w.heap.size w (w.alloc (.cells x.cells.toArray 27)) := (Below.refl _ _).alloc (Nat.le_refl _) _
  have h1 := heap_alloc_new w (.cells x.cells.toArray 27)
  revert b1 h1
  generalize (w.alloc (.cells x.cells.toArray 27)) = w1
  obtain ⟨g, hg⟩ : ∃ g, g = w.heap.size := ⟨_, rfl⟩
  rw [← hg]
  intro b1 h1
  rw [hg] at b1
  have HB := Lib.hid b1
  have hat := chan_at hf (range_of h1)
  have c1 := hat.client
  have c2 := hat.peer
  rw [Nat.zero_add] at c1 c2
  clear hat
  obtain ⟨X, hX⟩ : ∃ X, x.cells.toArray = X := ⟨_, rfl⟩
  rw [hX]
  clear h1 hg b1 hX
  cases u1
  · go_wp2_with (first | (go_at_call 20; (first | (with_reducible refine (Ku1.out _).mono ?_) | (with_reducible refine (Ku2.out _).mono ?_)); rintro e w2 ⟨rfl, rfl⟩) | fail)
    go_ret
    exact ⟨by rw [HR.out]; simp, HB.out⟩
  · cases u2
    · go_wp2_with (first | (go_at_call 20; (first | (with_reducible refine (Ku1.out _).mono ?_) | (with_reducible refine (Ku2.out _).mono ?_)); rintro e w2 ⟨rfl, rfl⟩) | fail)
      go_ret
      exact ⟨by rw [HR.out]; simp, HB.out⟩
    · go_wp2_with (first | (go_at_call 20; (first | (with_reducible refine (Ku1.out _).mono ?_) | (with_reducible refine (Ku2.out _).mono ?_)); rintro e w2 ⟨rfl, rfl⟩) | fail)
      go_ret
      exact ⟨by rw [HR.out]; simp, HB.out⟩
set_option linter.unusedSimpArgs false in
set_option maxRecDepth 100000 in
set_option maxHeartbeats 6400000 in
theorem rightTimes_any (w : World) {x : PChan} (hf : x.ftx.length = 32) : Calls Tryd.prog 23 #[.agg x.cells.toArray] w fun e w' => e = .returned (.bool (timesOk x)) ∧ Below w.heap.size w w' := by
  obtain ⟨u1, hu1⟩ : ∃ r, decide (1 ≤ x.window) = r := ⟨_, rfl⟩
  obtain ⟨u2, hu2⟩ : ∃ r, decide (x.window < x.wait) = r := ⟨_, rfl⟩
  obtain ⟨u3, hu3⟩ : ∃ r, decide (x.wait ≤ 65536) = r := ⟨_, rfl⟩
  have HR : Hid (timesOk x = (u1 && (u2 && u3))) := Lib.hid (by rw [← hu1, ← hu2, ← hu3]; exact timesOk_is x)
  go_enter Tryd.func23, Tryd.ntmps23
  go_upto_region 1 with (fail)
  have b1 : Below w.heap.size w (w.alloc (.cells x.cells.toArray 27)) := (Below.refl _ _).alloc (Nat.le_refl _) _
  have h1 := heap_alloc_new w (.cells x.cells.toArray 27)
  revert b1 h1
  generalize (w.alloc (.cells x.cells.toArray 27)) = w1
  obtain ⟨g, hg⟩ : ∃ g, g = w.heap.size := ⟨_, rfl⟩
  rw [← hg]
  intro b1 h1
  rw [hg] at b1
  have HB := Lib.hid b1
  have hat := chan_at hf (range_of h1)
  have c37 := hat.wait
  have c38 := hat.window
  rw [Nat.zero_add] at c37 c38
  clear hat
  obtain ⟨X, hX⟩ : ∃ X, x.cells.toArray = X := ⟨_, rfl⟩
  rw [hX]
  clear h1 hg b1 hX
  cases u1
  · go_wp2_with fail
    go_ret
    exact ⟨by rw [HR.out]; simp, HB.out⟩
  · cases u2
    · go_wp2_with fail
      go_ret
      exact ⟨by rw [HR.out]; simp, HB.out⟩
    · cases u3
      · go_wp2_with fail
        go_ret
        exact ⟨by rw [HR.out]; simp, HB.out⟩
      · go_wp2_with fail
        go_ret
        exact ⟨by rw [HR.out]; simp, HB.out⟩
set_option linter.unusedSimpArgs false in
set_option maxRecDepth 100000 in
set_option maxHeartbeats 6400000 in
theorem rightChannel_any (w : World) {x : PChan} (hf : x.ftx.length = 32) : Calls Tryd.prog 6 #[.agg x.cells.toArray] w fun e w' => e = .returned (.bool (chanOk x)) ∧ Below w.heap.size w w' := by
  obtain ⟨u1, hu1, ku1⟩ : ∃ u, (decide (0 ≤ x.id) && decide (x.id ≤ 1048576)) = u ∧ ∀ W : World, Calls Tryd.prog 20 #[.int .i64 (x.id), .int .i64 1048576] W fun e w' => e = .returned (.bool u) ∧ W = w' := ⟨_, rfl, fun W => comupto_any W _ _⟩
  have Ku1 := Lib.hid ku1
  obtain ⟨u7, hu7, ku7⟩ : ∃ u, (decide (0 ≤ x.fat) && decide (x.fat ≤ 15)) = u ∧ ∀ W : World, Calls Tryd.prog 20 #[.int .i64 (x.fat), .int .i64 15] W fun e w' => e = .returned (.bool u) ∧ W = w' := ⟨_, rfl, fun W => comupto_any W _ _⟩
  have Ku7 := Lib.hid ku7
  obtain ⟨u2, hu2, ku2⟩ : ∃ u, keysOk x = u ∧ ∀ W : World, Calls Tryd.prog 21 #[.agg x.cells.toArray] W fun e w' => e = .returned (.bool u) ∧ Below W.heap.size W w' := ⟨_, rfl, fun W => rightKeys_any W hf⟩
  obtain ⟨u5, hu5, ku5⟩ : ∃ u, okAmount x.cap = u ∧ ∀ W : World, Calls Tryd.prog 22 #[.int .i64 x.cap] W fun e w' => e = .returned (.bool u) ∧ W = w' := ⟨_, rfl, fun W => right_any _ W⟩
  obtain ⟨u6, hu6, ku6⟩ : ∃ u, timesOk x = u ∧ ∀ W : World, Calls Tryd.prog 23 #[.agg x.cells.toArray] W fun e w' => e = .returned (.bool u) ∧ Below W.heap.size W w' := ⟨_, rfl, fun W => rightTimes_any W hf⟩
  obtain ⟨u3, hu3⟩ : ∃ r, (x.client != x.peer) = r := ⟨_, rfl⟩
  obtain ⟨u4, hu4⟩ : ∃ r, decide (0 < x.cap) = r := ⟨_, rfl⟩
  have HR : Hid (chanOk x = (u1 && (u2 && (u3 && (u4 && (u5 && (u6 && u7))))))) := Lib.hid (by rw [← hu1, ← hu2, ← hu3, ← hu4, ← hu5, ← hu6, ← hu7]; exact chanOk_is x)
  have HK := Lib.hid ku2
  have HO := Lib.hid ku5
  have HT := Lib.hid ku6
  have HF := Lib.hid hf
  have SZ := Lib.hid (chan_size hf)
  clear hu1 hu2 hu5 hu6 hu7 ku1 ku7 ku2 ku5 ku6
  go_enter Tryd.func6, Tryd.ntmps6
  go_upto_region 1 with (fail)
  have b1 : Below w.heap.size w (w.alloc (.cells x.cells.toArray 27)) := (Below.refl _ _).alloc (Nat.le_refl _) _
  have h1 := heap_alloc_new w (.cells x.cells.toArray 27)
  revert b1 h1
  generalize (w.alloc (.cells x.cells.toArray 27)) = w1
  obtain ⟨g, hg⟩ : ∃ g, g = w.heap.size := ⟨_, rfl⟩
  rw [← hg]
  intro b1 h1
  rw [hg] at b1
  have HB := Lib.hid b1
  have hat := chan_at hf (range_of h1)
  have c0 := hat.id
  have c1 := hat.client
  have c2 := hat.peer
  have c35 := hat.fat
  have c36 := hat.cap
  rw [Nat.zero_add] at c1 c2 c35 c36
  clear hat
  have R1 := Lib.hid (range_of h1)
  have G1 := Lib.hid h1
  clear h1 hg b1
  cases u1
  · go_wp2_with (first | (go_at_call 20; (first | (with_reducible refine (Ku1.out _).mono ?_) | (with_reducible refine (Ku7.out _).mono ?_)); rintro e w2 ⟨rfl, rfl⟩) | fail)
    go_ret
    exact ⟨by rw [HR.out]; simp, HB.out⟩
  · cases u2
    · go_wp2_with (first | (go_at_call 20; (first | (with_reducible refine (Ku1.out _).mono ?_) | (with_reducible refine (Ku7.out _).mono ?_)); rintro e w2 ⟨rfl, rfl⟩) | (refine wpList_mid_wanted (by rfl) 27 _ rfl g 0 rfl x.cells _ R1.out Tryd.underlying27 rfl SZ.out ?_) | (go_at_call 21; (with_reducible refine (HK.out _).mono ?_); rintro e w3 ⟨rfl, hb⟩; have HB3 := Lib.hid (bthen HB.out hb); clear c0 c1 c2 c35 c36; have hat := chan_at HF.out (range_of (keep hb G1.out)); have c1 := hat.client; have c2 := hat.peer; have c35 := hat.fat; have c36 := hat.cap; rw [Nat.zero_add] at c1 c2 c35 c36; have R3 := Lib.hid (range_of (keep hb G1.out)); have G3 := Lib.hid (keep hb G1.out); clear hat; clear hb) | fail)
      go_ret
      exact ⟨by rw [HR.out]; simp, HB3.out⟩
    · cases u3
      · go_wp2_with (first | (go_at_call 20; (first | (with_reducible refine (Ku1.out _).mono ?_) | (with_reducible refine (Ku7.out _).mono ?_)); rintro e w2 ⟨rfl, rfl⟩) | (refine wpList_mid_wanted (by rfl) 27 _ rfl g 0 rfl x.cells _ R1.out Tryd.underlying27 rfl SZ.out ?_) | (go_at_call 21; (with_reducible refine (HK.out _).mono ?_); rintro e w3 ⟨rfl, hb⟩; have HB3 := Lib.hid (bthen HB.out hb); clear c0 c1 c2 c35 c36; have hat := chan_at HF.out (range_of (keep hb G1.out)); have c1 := hat.client; have c2 := hat.peer; have c35 := hat.fat; have c36 := hat.cap; rw [Nat.zero_add] at c1 c2 c35 c36; have R3 := Lib.hid (range_of (keep hb G1.out)); have G3 := Lib.hid (keep hb G1.out); clear hat; clear hb) | fail)
        go_ret
        exact ⟨by rw [HR.out]; simp, HB3.out⟩
      · cases u4
        · go_wp2_with (first | (go_at_call 20; (first | (with_reducible refine (Ku1.out _).mono ?_) | (with_reducible refine (Ku7.out _).mono ?_)); rintro e w2 ⟨rfl, rfl⟩) | (refine wpList_mid_wanted (by rfl) 27 _ rfl g 0 rfl x.cells _ R1.out Tryd.underlying27 rfl SZ.out ?_) | (go_at_call 21; (with_reducible refine (HK.out _).mono ?_); rintro e w3 ⟨rfl, hb⟩; have HB3 := Lib.hid (bthen HB.out hb); clear c0 c1 c2 c35 c36; have hat := chan_at HF.out (range_of (keep hb G1.out)); have c1 := hat.client; have c2 := hat.peer; have c35 := hat.fat; have c36 := hat.cap; rw [Nat.zero_add] at c1 c2 c35 c36; have R3 := Lib.hid (range_of (keep hb G1.out)); have G3 := Lib.hid (keep hb G1.out); clear hat; clear hb) | fail)
          go_ret
          exact ⟨by rw [HR.out]; simp, HB3.out⟩
        · cases u5
          · go_wp2_with (first | (go_at_call 20; (first | (with_reducible refine (Ku1.out _).mono ?_) | (with_reducible refine (Ku7.out _).mono ?_)); rintro e w2 ⟨rfl, rfl⟩) | (refine wpList_mid_wanted (by rfl) 27 _ rfl g 0 rfl x.cells _ R1.out Tryd.underlying27 rfl SZ.out ?_) | (go_at_call 21; (with_reducible refine (HK.out _).mono ?_); rintro e w3 ⟨rfl, hb⟩; have HB3 := Lib.hid (bthen HB.out hb); clear c0 c1 c2 c35 c36; have hat := chan_at HF.out (range_of (keep hb G1.out)); have c1 := hat.client; have c2 := hat.peer; have c35 := hat.fat; have c36 := hat.cap; rw [Nat.zero_add] at c1 c2 c35 c36; have R3 := Lib.hid (range_of (keep hb G1.out)); have G3 := Lib.hid (keep hb G1.out); clear hat; clear hb) | (go_at_call 22; (with_reducible refine (HO.out _).mono ?_); rintro e w4 ⟨rfl, rfl⟩) | fail)
            go_ret
            exact ⟨by rw [HR.out]; simp, HB3.out⟩
          · cases u6
            · go_wp2_with (first | (go_at_call 20; (first | (with_reducible refine (Ku1.out _).mono ?_) | (with_reducible refine (Ku7.out _).mono ?_)); rintro e w2 ⟨rfl, rfl⟩) | (refine wpList_mid_wanted (by rfl) 27 _ rfl g 0 rfl x.cells _ R1.out Tryd.underlying27 rfl SZ.out ?_) | (go_at_call 21; (with_reducible refine (HK.out _).mono ?_); rintro e w3 ⟨rfl, hb⟩; have HB3 := Lib.hid (bthen HB.out hb); clear c0 c1 c2 c35 c36; have hat := chan_at HF.out (range_of (keep hb G1.out)); have c1 := hat.client; have c2 := hat.peer; have c35 := hat.fat; have c36 := hat.cap; rw [Nat.zero_add] at c1 c2 c35 c36; have R3 := Lib.hid (range_of (keep hb G1.out)); have G3 := Lib.hid (keep hb G1.out); clear hat; clear hb) | (go_at_call 22; (with_reducible refine (HO.out _).mono ?_); rintro e w4 ⟨rfl, rfl⟩) | (refine wpList_mid_wanted (by rfl) 27 _ rfl g 0 rfl x.cells _ R3.out Tryd.underlying27 rfl SZ.out ?_) | (go_at_call 23; (with_reducible refine (HT.out _).mono ?_); rintro e w5 ⟨rfl, hb⟩; have HB5 := Lib.hid (bthen HB3.out hb); clear c1 c2 c35 c36; have hat := chan_at HF.out (range_of (keep hb G3.out)); have c1 := hat.client; have c2 := hat.peer; have c35 := hat.fat; have c36 := hat.cap; rw [Nat.zero_add] at c1 c2 c35 c36; have R5 := Lib.hid (range_of (keep hb G3.out)); have G5 := Lib.hid (keep hb G3.out); clear hat; clear hb) | fail)
              go_ret
              exact ⟨by rw [HR.out]; simp, HB5.out⟩
            · cases u7
              · go_wp2_with (first | (go_at_call 20; (first | (with_reducible refine (Ku1.out _).mono ?_) | (with_reducible refine (Ku7.out _).mono ?_)); rintro e w2 ⟨rfl, rfl⟩) | (refine wpList_mid_wanted (by rfl) 27 _ rfl g 0 rfl x.cells _ R1.out Tryd.underlying27 rfl SZ.out ?_) | (go_at_call 21; (with_reducible refine (HK.out _).mono ?_); rintro e w3 ⟨rfl, hb⟩; have HB3 := Lib.hid (bthen HB.out hb); clear c0 c1 c2 c35 c36; have hat := chan_at HF.out (range_of (keep hb G1.out)); have c1 := hat.client; have c2 := hat.peer; have c35 := hat.fat; have c36 := hat.cap; rw [Nat.zero_add] at c1 c2 c35 c36; have R3 := Lib.hid (range_of (keep hb G1.out)); have G3 := Lib.hid (keep hb G1.out); clear hat; clear hb) | (go_at_call 22; (with_reducible refine (HO.out _).mono ?_); rintro e w4 ⟨rfl, rfl⟩) | (refine wpList_mid_wanted (by rfl) 27 _ rfl g 0 rfl x.cells _ R3.out Tryd.underlying27 rfl SZ.out ?_) | (go_at_call 23; (with_reducible refine (HT.out _).mono ?_); rintro e w5 ⟨rfl, hb⟩; have HB5 := Lib.hid (bthen HB3.out hb); clear c1 c2 c35 c36; have hat := chan_at HF.out (range_of (keep hb G3.out)); have c1 := hat.client; have c2 := hat.peer; have c35 := hat.fat; have c36 := hat.cap; rw [Nat.zero_add] at c1 c2 c35 c36; have R5 := Lib.hid (range_of (keep hb G3.out)); have G5 := Lib.hid (keep hb G3.out); clear hat; clear hb) | fail)
                go_ret
                exact ⟨by rw [HR.out]; simp, HB5.out⟩
              · go_wp2_with (first | (go_at_call 20; (first | (with_reducible refine (Ku1.out _).mono ?_) | (with_reducible refine (Ku7.out _).mono ?_)); rintro e w2 ⟨rfl, rfl⟩) | (refine wpList_mid_wanted (by rfl) 27 _ rfl g 0 rfl x.cells _ R1.out Tryd.underlying27 rfl SZ.out ?_) | (go_at_call 21; (with_reducible refine (HK.out _).mono ?_); rintro e w3 ⟨rfl, hb⟩; have HB3 := Lib.hid (bthen HB.out hb); clear c0 c1 c2 c35 c36; have hat := chan_at HF.out (range_of (keep hb G1.out)); have c1 := hat.client; have c2 := hat.peer; have c35 := hat.fat; have c36 := hat.cap; rw [Nat.zero_add] at c1 c2 c35 c36; have R3 := Lib.hid (range_of (keep hb G1.out)); have G3 := Lib.hid (keep hb G1.out); clear hat; clear hb) | (go_at_call 22; (with_reducible refine (HO.out _).mono ?_); rintro e w4 ⟨rfl, rfl⟩) | (refine wpList_mid_wanted (by rfl) 27 _ rfl g 0 rfl x.cells _ R3.out Tryd.underlying27 rfl SZ.out ?_) | (go_at_call 23; (with_reducible refine (HT.out _).mono ?_); rintro e w5 ⟨rfl, hb⟩; have HB5 := Lib.hid (bthen HB3.out hb); clear c1 c2 c35 c36; have hat := chan_at HF.out (range_of (keep hb G3.out)); have c1 := hat.client; have c2 := hat.peer; have c35 := hat.fat; have c36 := hat.cap; rw [Nat.zero_add] at c1 c2 c35 c36; have R5 := Lib.hid (range_of (keep hb G3.out)); have G5 := Lib.hid (keep hb G3.out); clear hat; clear hb) | fail)
                go_ret
                exact ⟨by rw [HR.out]; simp, HB5.out⟩
end Go.Proofs.YtkihmhchdenamaaDoor
