/- What law 14's rightChannel and right come to. Which channels and states may be: what the code's functions come to. Done as a plain function of what is left and the error. A channel's bytes, plainly; what bytes are read as, as a channel. What ledger.Channel comes to: a channel's bytes. What ledger.ReadChannel comes to: bytes are read as the channel whose bytes they are, or as none. -/
import Derived.Test.YteddkkcheaghaaaGreatDoorChanm
import Derived.Test.YteddkkcheaghaaaGreatDoorSteps
import Derived.Test.YteddkkcheaghaaaGreatDoorWanted
import Derived.Test.YteddkkcheaghaaaGreatDoorLks
import Derived.Test.YteddkkcheaghaaaGreatDoorWire
import Derived.Test.YteddkkcheaghaaaGreatDoorTx
import Derived.Test.YteddkkcheaghaaaGreatDoorBonds
namespace Go.Proofs.YteddkkcheaghaaaGreatDoor
open Go.RowKit

/-- May a channel be? -/
def chanOk (x : PChan) : Bool := decide (0 ≤ x.id ∧ x.id ≤ 1048576 ∧ 0 ≤ x.client ∧ x.client ≤ 255 ∧ 0 ≤ x.peer ∧ x.peer ≤ 255 ∧ x.client ≠ x.peer ∧ 1 ≤ x.cap ∧ x.cap ≤ 1125899906842624 ∧ 1 ≤ x.window ∧ x.window < x.wait ∧ x.wait ≤ 65536 ∧ 0 ≤ x.fat ∧ x.fat ≤ 15)
end Go.Proofs.YteddkkcheaghaaaGreatDoor
namespace Go.Proofs.YteddkkcheaghaaaGreatDoor
open Go.RowKit

theorem comupto_any (w : World) (z m : Int) : Calls Tryz.prog 74 #[.int .i64 z, .int .i64 m] w fun e w' => e = .returned (.bool (decide (0 ≤ z) && decide (z ≤ m))) ∧ w = w' := by
  obtain ⟨t1, h1⟩ : ∃ r, decide (0 ≤ z) = r := ⟨_, rfl⟩
  obtain ⟨t2, h2⟩ : ∃ r, decide (z ≤ m) = r := ⟨_, rfl⟩
  go_enter Tryz.func74, Tryz.ntmps74
  rw [h1, h2]
  cases t1
  · go_wp2
    go_ret
    exact ⟨rfl, rfl⟩
  · cases t2
    · go_wp2
      go_ret
      exact ⟨rfl, rfl⟩
    · go_wp2
      go_ret
      exact ⟨rfl, rfl⟩
def keysOk (x : PChan) : Bool := decide (0 ≤ x.client ∧ x.client ≤ 255 ∧ 0 ≤ x.peer ∧ x.peer ≤ 255)
def timesOk (x : PChan) : Bool := decide (1 ≤ x.window ∧ x.window < x.wait ∧ x.wait ≤ 65536)
theorem keysOk_is (x : PChan) : keysOk x = ((decide (0 ≤ x.client) && decide (x.client ≤ 255)) && (decide (0 ≤ x.peer) && decide (x.peer ≤ 255))) := by simp [keysOk, Bool.and_assoc]
theorem timesOk_is (x : PChan) : timesOk x = (decide (1 ≤ x.window) && (decide (x.window < x.wait) && decide (x.wait ≤ 65536))) := by simp [timesOk]
theorem chanOk_is (x : PChan) : chanOk x = ((decide (0 ≤ x.id) && decide (x.id ≤ 1048576)) && (keysOk x && ((x.client != x.peer) && (decide (0 < x.cap) && (okAmount x.cap && (timesOk x && (decide (0 ≤ x.fat) && decide (x.fat ≤ 15)))))))) := by
  rw [Bool.eq_iff_iff]
  simp only [chanOk, keysOk, timesOk, okAmount, Bool.and_eq_true, decide_eq_true_eq, bne_iff_ne]
  omega
set_option linter.unusedSimpArgs false in
set_option maxRecDepth 100000 in
set_option maxHeartbeats 6400000 in
theorem rightKeys_any (w : World) {x : PChan} (hf : x.ftx.length = 32) : Calls Tryz.prog 66 #[.agg x.cells.toArray] w fun e w' => e = .returned (.bool (keysOk x)) ∧ Below w.heap.size w w' := by
  obtain ⟨u1, hu1, ku1⟩ : ∃ u, (decide (0 ≤ x.client) && decide (x.client ≤ 255)) = u ∧ ∀ W : World, Calls Tryz.prog 74 #[.int .i64 (x.client), .int .i64 255] W fun e w' => e = .returned (.bool u) ∧ W = w' := ⟨_, rfl, fun W => comupto_any W _ _⟩
  have Ku1 := Lib.hid ku1
  obtain ⟨u2, hu2, ku2⟩ : ∃ u, (decide (0 ≤ x.peer) && decide (x.peer ≤ 255)) = u ∧ ∀ W : World, Calls Tryz.prog 74 #[.int .i64 (x.peer), .int .i64 255] W fun e w' => e = .returned (.bool u) ∧ W = w' := ⟨_, rfl, fun W => comupto_any W _ _⟩
  have Ku2 := Lib.hid ku2
  have HR : Hid (keysOk x = (u1 && u2)) := Lib.hid (by rw [← hu1, ← hu2]; exact keysOk_is x)
  clear hu1 hu2 ku1 ku2
  go_enter Tryz.func66, Tryz.ntmps66
  go_upto_region 1 with (fail)
  have b1 : Below w.heap.size w (w.alloc (.cells x.cells.toArray 73)) := (Below.refl _ _).alloc (Nat.le_refl _) _
  have h1 := heap_alloc_new w (.cells x.cells.toArray 73)
  revert b1 h1
  generalize (w.alloc (.cells x.cells.toArray 73)) = w1
  obtain ⟨g, hg⟩ : ∃ g, g = w.heap.size := ⟨_, rfl⟩
  rw [← hg]
  intro b1 h1
  rw [hg] at b1
  have HB := Lib.hid b1
  have hat := chan_at hf (range_of h1)
  have c1 := hat.client
  have c2 := hat.peer
  rw [Nat.zero_add] at c1 c2
  clear hat
  obtain ⟨X, hX⟩ : ∃ X, x.cells.toArray = X := ⟨_, rfl⟩
  rw [hX]
  clear h1 hg b1 hX
  cases u1
  · go_wp2_with (first | (go_at_call 74; (first | (with_reducible refine (Ku1.out _).mono ?_) | (with_reducible refine (Ku2.out _).mono ?_)); rintro e w2 ⟨rfl, rfl⟩) | fail)
    go_ret
    exact ⟨by rw [HR.out]; simp, HB.out⟩
  · cases u2
    · go_wp2_with (first | (go_at_call 74; (first | (with_reducible refine (Ku1.out _).mono ?_) | (with_reducible refine (Ku2.out _).mono ?_)); rintro e w2 ⟨rfl, rfl⟩) | fail)
      go_ret
      exact ⟨by rw [HR.out]; simp, HB.out⟩
    · go_wp2_with (first | (go_at_call 74; (first | (with_reducible refine (Ku1.out _).mono ?_) | (with_reducible refine (Ku2.out _).mono ?_)); rintro e w2 ⟨rfl, rfl⟩) | fail)
      go_ret
      exact ⟨by rw [HR.out]; simp, HB.out⟩
set_option linter.unusedSimpArgs false in
set_option maxRecDepth 100000 in
set_option maxHeartbeats 6400000 in
theorem rightTimes_any (w : World) {x : PChan} (hf : x.ftx.length = 32) : Calls Tryz.prog 76 #[.agg x.cells.toArray] w fun e w' => e = .returned (.bool (timesOk x)) ∧ Below w.heap.size w w' := by
  obtain ⟨u1, hu1⟩ : ∃ r, decide (1 ≤ x.window) = r := ⟨_, rfl⟩
  obtain ⟨u2, hu2⟩ : ∃ r, decide (x.window < x.wait) = r := ⟨_, rfl⟩
  obtain ⟨u3, hu3⟩ : ∃ r, decide (x.wait ≤ 65536) = r := ⟨_, rfl⟩
  have HR : Hid (timesOk x = (u1 && (u2 && u3))) := Lib.hid (by rw [← hu1, ← hu2, ← hu3]; exact timesOk_is x)
  go_enter Tryz.func76, Tryz.ntmps76
  go_upto_region 1 with (fail)
  have b1 : Below w.heap.size w (w.alloc (.cells x.cells.toArray 73)) := (Below.refl _ _).alloc (Nat.le_refl _) _
  have h1 := heap_alloc_new w (.cells x.cells.toArray 73)
  revert b1 h1
  generalize (w.alloc (.cells x.cells.toArray 73)) = w1
  obtain ⟨g, hg⟩ : ∃ g, g = w.heap.size := ⟨_, rfl⟩
  rw [← hg]
  intro b1 h1
  rw [hg] at b1
  have HB := Lib.hid b1
  have hat := chan_at hf (range_of h1)
  have c37 := hat.wait
  have c38 := hat.window
  rw [Nat.zero_add] at c37 c38
  clear hat
  obtain ⟨X, hX⟩ : ∃ X, x.cells.toArray = X := ⟨_, rfl⟩
  rw [hX]
  clear h1 hg b1 hX
  cases u1
  · go_wp2_with fail
    go_ret
    exact ⟨by rw [HR.out]; simp, HB.out⟩
  · cases u2
    · go_wp2_with fail
      go_ret
      exact ⟨by rw [HR.out]; simp, HB.out⟩
    · cases u3
      · go_wp2_with fail
        go_ret
        exact ⟨by rw [HR.out]; simp, HB.out⟩
      · go_wp2_with fail
        go_ret
        exact ⟨by rw [HR.out]; simp, HB.out⟩
set_option linter.unusedSimpArgs false in
set_option maxRecDepth 100000 in
set_option maxHeartbeats 6400000 in
theorem rightChannel_any (w : World) {x : PChan} (hf : x.ftx.length = 32) : Calls Tryz.prog 30 #[.agg x.cells.toArray] w fun e w' => e = .returned (.bool (chanOk x)) ∧ Below w.heap.size w w' := by
  obtain ⟨u1, hu1, ku1⟩ : ∃ u, (decide (0 ≤ x.id) && decide (x.id ≤ 1048576)) = u ∧ ∀ W : World, Calls Tryz.prog 74 #[.int .i64 (x.id), .int .i64 1048576] W fun e w' => e = .returned (.bool u) ∧ W = w' := ⟨_, rfl, fun W => comupto_any W _ _⟩
  have Ku1 := Lib.hid ku1
  obtain ⟨u7, hu7, ku7⟩ : ∃ u, (decide (0 ≤ x.fat) && decide (x.fat ≤ 15)) = u ∧ ∀ W : World, Calls Tryz.prog 74 #[.int .i64 (x.fat), .int .i64 15] W fun e w' => e = .returned (.bool u) ∧ W = w' := ⟨_, rfl, fun W => comupto_any W _ _⟩
  have Ku7 := Lib.hid ku7
  obtain ⟨u2, hu2, ku2⟩ : ∃ u, keysOk x = u ∧ ∀ W : World, Calls Tryz.prog 66 #[.agg x.cells.toArray] W fun e w' => e = .returned (.bool u) ∧ Below W.heap.size W w' := ⟨_, rfl, fun W => rightKeys_any W hf⟩
  obtain ⟨u5, hu5, ku5⟩ : ∃ u, okAmount x.cap = u ∧ ∀ W : World, Calls Tryz.prog 75 #[.int .i64 x.cap] W fun e w' => e = .returned (.bool u) ∧ W = w' := ⟨_, rfl, fun W => right_any _ W⟩
  obtain ⟨u6, hu6, ku6⟩ : ∃ u, timesOk x = u ∧ ∀ W : World, Calls Tryz.prog 76 #[.agg x.cells.toArray] W fun e w' => e = .returned (.bool u) ∧ Below W.heap.size W w' := ⟨_, rfl, fun W => rightTimes_any W hf⟩
  obtain ⟨u3, hu3⟩ : ∃ r, (x.client != x.peer) = r := ⟨_, rfl⟩
  obtain ⟨u4, hu4⟩ : ∃ r, decide (0 < x.cap) = r := ⟨_, rfl⟩
  have HR : Hid (chanOk x = (u1 && (u2 && (u3 && (u4 && (u5 && (u6 && u7))))))) := Lib.hid (by rw [← hu1, ← hu2, ← hu3, ← hu4, ← hu5, ← hu6, ← hu7]; exact chanOk_is x)
  have HK := Lib.hid ku2
  have HO := Lib.hid ku5
  have HT := Lib.hid ku6
  have HF := Lib.hid hf
  have SZ := Lib.hid (chan_size hf)
  clear hu1 hu2 hu5 hu6 hu7 ku1 ku7 ku2 ku5 ku6
  go_enter Tryz.func30, Tryz.ntmps30
  go_upto_region 1 with (fail)
  have b1 : Below w.heap.size w (w.alloc (.cells x.cells.toArray 73)) := (Below.refl _ _).alloc (Nat.le_refl _) _
  have h1 := heap_alloc_new w (.cells x.cells.toArray 73)
  revert b1 h1
  generalize (w.alloc (.cells x.cells.toArray 73)) = w1
  obtain ⟨g, hg⟩ : ∃ g, g = w.heap.size := ⟨_, rfl⟩
  rw [← hg]
  intro b1 h1
  rw [hg] at b1
  have HB := Lib.hid b1
  have hat := chan_at hf (range_of h1)
  have c0 := hat.id
  have c1 := hat.client
  have c2 := hat.peer
  have c35 := hat.fat
  have c36 := hat.cap
  rw [Nat.zero_add] at c1 c2 c35 c36
  clear hat
  have R1 := Lib.hid (range_of h1)
  have G1 := Lib.hid h1
  clear h1 hg b1
  cases u1
  · go_wp2_with (first | (go_at_call 74; (first | (with_reducible refine (Ku1.out _).mono ?_) | (with_reducible refine (Ku7.out _).mono ?_)); rintro e w2 ⟨rfl, rfl⟩) | fail)
    go_ret
    exact ⟨by rw [HR.out]; simp, HB.out⟩
  · cases u2
    · go_wp2_with (first | (go_at_call 74; (first | (with_reducible refine (Ku1.out _).mono ?_) | (with_reducible refine (Ku7.out _).mono ?_)); rintro e w2 ⟨rfl, rfl⟩) | (refine wpList_mid_wanted (by rfl) 73 _ rfl g 0 rfl x.cells _ R1.out Tryz.underlying73 rfl SZ.out ?_) | (go_at_call 66; (with_reducible refine (HK.out _).mono ?_); rintro e w3 ⟨rfl, hb⟩; have HB3 := Lib.hid (bthen HB.out hb); clear c0 c1 c2 c35 c36; have hat := chan_at HF.out (range_of (keep hb G1.out)); have c1 := hat.client; have c2 := hat.peer; have c35 := hat.fat; have c36 := hat.cap; rw [Nat.zero_add] at c1 c2 c35 c36; have R3 := Lib.hid (range_of (keep hb G1.out)); have G3 := Lib.hid (keep hb G1.out); clear hat; clear hb) | fail)
      go_ret
      exact ⟨by rw [HR.out]; simp, HB3.out⟩
    · cases u3
      · go_wp2_with (first | (go_at_call 74; (first | (with_reducible refine (Ku1.out _).mono ?_) | (with_reducible refine (Ku7.out _).mono ?_)); rintro e w2 ⟨rfl, rfl⟩) | (refine wpList_mid_wanted (by rfl) 73 _ rfl g 0 rfl x.cells _ R1.out Tryz.underlying73 rfl SZ.out ?_) | (go_at_call 66; (with_reducible refine (HK.out _).mono ?_); rintro e w3 ⟨rfl, hb⟩; have HB3 := Lib.hid (bthen HB.out hb); clear c0 c1 c2 c35 c36; have hat := chan_at HF.out (range_of (keep hb G1.out)); have c1 := hat.client; have c2 := hat.peer; have c35 := hat.fat; have c36 := hat.cap; rw [Nat.zero_add] at c1 c2 c35 c36; have R3 := Lib.hid (range_of (keep hb G1.out)); have G3 := Lib.hid (keep hb G1.out); clear hat; clear hb) | fail)
        go_ret
        exact ⟨by rw [HR.out]; simp, HB3.out⟩
      · cases u4
        · go_wp2_with (first | (go_at_call 74; (first | (with_reducible refine (Ku1.out _).mono ?_) | (with_reducible refine (Ku7.out _).mono ?_)); rintro e w2 ⟨rfl, rfl⟩) | (refine wpList_mid_wanted (by rfl) 73 _ rfl g 0 rfl x.cells _ R1.out Tryz.underlying73 rfl SZ.out ?_) | (go_at_call 66; (with_reducible refine (HK.out _).mono ?_); rintro e w3 ⟨rfl, hb⟩; have HB3 := Lib.hid (bthen HB.out hb); clear c0 c1 c2 c35 c36; have hat := chan_at HF.out (range_of (keep hb G1.out)); have c1 := hat.client; have c2 := hat.peer; have c35 := hat.fat; have c36 := hat.cap; rw [Nat.zero_add] at c1 c2 c35 c36; have R3 := Lib.hid (range_of (keep hb G1.out)); have G3 := Lib.hid (keep hb G1.out); clear hat; clear hb) | fail)
          go_ret
          exact ⟨by rw [HR.out]; simp, HB3.out⟩
        · cases u5
          · go_wp2_with (first | (go_at_call 74; (first | (with_reducible refine (Ku1.out _).mono ?_) | (with_reducible refine (Ku7.out _).mono ?_)); rintro e w2 ⟨rfl, rfl⟩) | (refine wpList_mid_wanted (by rfl) 73 _ rfl g 0 rfl x.cells _ R1.out Tryz.underlying73 rfl SZ.out ?_) | (go_at_call 66; (with_reducible refine (HK.out _).mono ?_); rintro e w3 ⟨rfl, hb⟩; have HB3 := Lib.hid (bthen HB.out hb); clear c0 c1 c2 c35 c36; have hat := chan_at HF.out (range_of (keep hb G1.out)); have c1 := hat.client; have c2 := hat.peer; have c35 := hat.fat; have c36 := hat.cap; rw [Nat.zero_add] at c1 c2 c35 c36; have R3 := Lib.hid (range_of (keep hb G1.out)); have G3 := Lib.hid (keep hb G1.out); clear hat; clear hb) | (go_at_call 75; (with_reducible refine (HO.out _).mono ?_); rintro e w4 ⟨rfl, rfl⟩) | fail)
            go_ret
            exact ⟨by rw [HR.out]; simp, HB3.out⟩
          · cases u6
            · go_wp2_with (first | (go_at_call 74; (first | (with_reducible refine (Ku1.out _).mono ?_) | (with_reducible refine (Ku7.out _).mono ?_)); rintro e w2 ⟨rfl, rfl⟩) | (refine wpList_mid_wanted (by rfl) 73 _ rfl g 0 rfl x.cells _ R1.out Tryz.underlying73 rfl SZ.out ?_) | (go_at_call 66; (with_reducible refine (HK.out _).mono ?_); rintro e w3 ⟨rfl, hb⟩; have HB3 := Lib.hid (bthen HB.out hb); clear c0 c1 c2 c35 c36; have hat := chan_at HF.out (range_of (keep hb G1.out)); have c1 := hat.client; have c2 := hat.peer; have c35 := hat.fat; have c36 := hat.cap; rw [Nat.zero_add] at c1 c2 c35 c36; have R3 := Lib.hid (range_of (keep hb G1.out)); have G3 := Lib.hid (keep hb G1.out); clear hat; clear hb) | (go_at_call 75; (with_reducible refine (HO.out _).mono ?_); rintro e w4 ⟨rfl, rfl⟩) | (refine wpList_mid_wanted (by rfl) 73 _ rfl g 0 rfl x.cells _ R3.out Tryz.underlying73 rfl SZ.out ?_) | (go_at_call 76; (with_reducible refine (HT.out _).mono ?_); rintro e w5 ⟨rfl, hb⟩; have HB5 := Lib.hid (bthen HB3.out hb); clear c1 c2 c35 c36; have hat := chan_at HF.out (range_of (keep hb G3.out)); have c1 := hat.client; have c2 := hat.peer; have c35 := hat.fat; have c36 := hat.cap; rw [Nat.zero_add] at c1 c2 c35 c36; have R5 := Lib.hid (range_of (keep hb G3.out)); have G5 := Lib.hid (keep hb G3.out); clear hat; clear hb) | fail)
              go_ret
              exact ⟨by rw [HR.out]; simp, HB5.out⟩
            · cases u7
              · go_wp2_with (first | (go_at_call 74; (first | (with_reducible refine (Ku1.out _).mono ?_) | (with_reducible refine (Ku7.out _).mono ?_)); rintro e w2 ⟨rfl, rfl⟩) | (refine wpList_mid_wanted (by rfl) 73 _ rfl g 0 rfl x.cells _ R1.out Tryz.underlying73 rfl SZ.out ?_) | (go_at_call 66; (with_reducible refine (HK.out _).mono ?_); rintro e w3 ⟨rfl, hb⟩; have HB3 := Lib.hid (bthen HB.out hb); clear c0 c1 c2 c35 c36; have hat := chan_at HF.out (range_of (keep hb G1.out)); have c1 := hat.client; have c2 := hat.peer; have c35 := hat.fat; have c36 := hat.cap; rw [Nat.zero_add] at c1 c2 c35 c36; have R3 := Lib.hid (range_of (keep hb G1.out)); have G3 := Lib.hid (keep hb G1.out); clear hat; clear hb) | (go_at_call 75; (with_reducible refine (HO.out _).mono ?_); rintro e w4 ⟨rfl, rfl⟩) | (refine wpList_mid_wanted (by rfl) 73 _ rfl g 0 rfl x.cells _ R3.out Tryz.underlying73 rfl SZ.out ?_) | (go_at_call 76; (with_reducible refine (HT.out _).mono ?_); rintro e w5 ⟨rfl, hb⟩; have HB5 := Lib.hid (bthen HB3.out hb); clear c1 c2 c35 c36; have hat := chan_at HF.out (range_of (keep hb G3.out)); have c1 := hat.client; have c2 := hat.peer; have c35 := hat.fat; have c36 := hat.cap; rw [Nat.zero_add] at c1 c2 c35 c36; have R5 := Lib.hid (range_of (keep hb G3.out)); have G5 := Lib.hid (keep hb G3.out); clear hat; clear hb) | fail)
                go_ret
                exact ⟨by rw [HR.out]; simp, HB5.out⟩
              · go_wp2_with (first | (go_at_call 74; (first | (with_reducible refine (Ku1.out _).mono ?_) | (with_reducible refine (Ku7.out _).mono ?_)); rintro e w2 ⟨rfl, rfl⟩) | (refine wpList_mid_wanted (by rfl) 73 _ rfl g 0 rfl x.cells _ R1.out Tryz.underlying73 rfl SZ.out ?_) | (go_at_call 66; (with_reducible refine (HK.out _).mono ?_); rintro e w3 ⟨rfl, hb⟩; have HB3 := Lib.hid (bthen HB.out hb); clear c0 c1 c2 c35 c36; have hat := chan_at HF.out (range_of (keep hb G1.out)); have c1 := hat.client; have c2 := hat.peer; have c35 := hat.fat; have c36 := hat.cap; rw [Nat.zero_add] at c1 c2 c35 c36; have R3 := Lib.hid (range_of (keep hb G1.out)); have G3 := Lib.hid (keep hb G1.out); clear hat; clear hb) | (go_at_call 75; (with_reducible refine (HO.out _).mono ?_); rintro e w4 ⟨rfl, rfl⟩) | (refine wpList_mid_wanted (by rfl) 73 _ rfl g 0 rfl x.cells _ R3.out Tryz.underlying73 rfl SZ.out ?_) | (go_at_call 76; (with_reducible refine (HT.out _).mono ?_); rintro e w5 ⟨rfl, hb⟩; have HB5 := Lib.hid (bthen HB3.out hb); clear c1 c2 c35 c36; have hat := chan_at HF.out (range_of (keep hb G3.out)); have c1 := hat.client; have c2 := hat.peer; have c35 := hat.fat; have c36 := hat.cap; rw [Nat.zero_add] at c1 c2 c35 c36; have R5 := Lib.hid (range_of (keep hb G3.out)); have G5 := Lib.hid (keep hb G3.out); clear hat; clear hb) | fail)
                go_ret
                exact ⟨by rw [HR.out]; simp, HB5.out⟩
end Go.Proofs.YteddkkcheaghaaaGreatDoor
namespace Go.Proofs.YteddkkcheaghaaaGreatDoor
open Go.RowKit

/-- The error at the end. -/
def doneE (s : List UInt8 × Int) : Int := if s.2 = 0 then (if s.1 = [] then 0 else 3) else s.2
theorem done_st {yb : Nat} {s : List UInt8 × Int} (w : World) (h : EyeAt w yb s.1 s.2) : Calls Tryz.prog 72 #[.pointer (some ⟨yb, 0, none⟩)] w fun r w' => r = .returned (.int .i64 (doneE s)) ∧ (∃ s' : List UInt8 × Int, EyeAt w' yb s'.1 s'.2) ∧ But w.heap.size yb w w' := by
  unfold doneE
  by_cases h0 : s.2 = 0
  · rw [if_pos h0]
    rw [h0] at h
    by_cases h1 : s.1 = []
    · rw [if_pos h1]
      rw [h1] at h
      exact (done_all h).mono fun r w' ⟨e1, e2⟩ => ⟨e1, ⟨([], 0), by rw [← e2]; exact h⟩, by rw [← e2]; exact But.refl _ _ _⟩
    · rw [if_neg h1]
      exact (done_left h1 h).mono fun _ _ ⟨e1, e2, e3⟩ => ⟨e1, ⟨(s.1, 3), e2⟩, e3⟩
  · rw [if_neg h0]
    exact (done_later s.2 h0 h).mono fun r w' ⟨e1, e2⟩ => ⟨e1, ⟨s, by rw [← e2]; exact h⟩, by rw [← e2]; exact But.refl _ _ _⟩
theorem doneE_zero {s : List UInt8 × Int} (h : doneE s = 0) : s = ([], 0) := by
  obtain ⟨l, e⟩ := s
  unfold doneE at h
  dsimp only at h
  split at h
  · rename_i h1
    split at h
    · rename_i h2
      rw [h1, h2]
    · cases h
  · rename_i h1
    exact absurd h h1
end Go.Proofs.YteddkkcheaghaaaGreatDoor
namespace Go.Proofs.YteddkkcheaghaaaGreatDoor
open Go.RowKit

def top63 : Int := 9223372036854775807
theorem numUp (l : List UInt8) : uptoOf l top63 = ((((numOf l).1 : Nat) : Int), (numOf l).2.1, (((numOf l).2.2 : Nat) : Int)) := by
  obtain ⟨v, k, x, hv, h1, _, _, h4, _⟩ := num_facts l
  unfold uptoOf top63
  rw [hv]
  by_cases h0 : x = 0
  · subst h0
    rw [if_neg (by simp), if_neg (by show ¬ (9223372036854775807 : Int) < ((v : Nat) : Int); omega)]
    rfl
  · obtain ⟨rfl, rfl⟩ := h4 h0
    rw [if_pos h0]
    rfl
theorem num_st {yb : Nat} {s : List UInt8 × Int} {w : World} (h : EyeAt w yb s.1 s.2) : Calls Tryz.prog 70 #[.pointer (some ⟨yb, 0, none⟩)] w fun r w' =>
    r = .returned (.int .i64 (upR s top63).1) ∧ EyeAt w' yb (upR s top63).2.1 (upR s top63).2.2 ∧ But w.heap.size yb w w' := by
  by_cases h0 : s.2 = 0
  · unfold upR
    rw [if_pos h0, numUp]
    rw [h0] at h
    exact num_first h
  · rw [upR_bad _ h0]
    exact (num_later s.2 h0 h).mono fun r w' ⟨e1, e2⟩ => ⟨e1, by rw [← e2]; exact h, by rw [← e2]; exact But.refl _ _ _⟩
theorem top_nn : (0 : Int) ≤ top63 := by unfold top63; omega
theorem up_fits (s : List UInt8 × Int) : Fits (upR s top63).1 := by
  have h9 := upR_range s top_nn
  generalize (upR s top63).1 = z at h9
  unfold top63 at h9
  constructor <;> omega
def chanB (x : PChan) : List UInt8 := numB x.id ++ (numB x.client ++ (numB x.peer ++ (x.ftx ++ (numB x.fat ++ (numB x.cap ++ (numB x.wait ++ numB x.window))))))
def chA (b : List UInt8) : Int × (List UInt8 × Int) := upR (b, 0) top63
def chC (b : List UInt8) : Int × (List UInt8 × Int) := upR (chA b).2 top63
def chP (b : List UInt8) : Int × (List UInt8 × Int) := upR (chC b).2 top63
def chT (b : List UInt8) : List UInt8 × (List UInt8 × Int) := sumR (chP b).2
def chF (b : List UInt8) : Int × (List UInt8 × Int) := upR (chT b).2 top63
def chV (b : List UInt8) : Int × (List UInt8 × Int) := upR (chF b).2 top63
def chW (b : List UInt8) : Int × (List UInt8 × Int) := upR (chV b).2 top63
def chZ (b : List UInt8) : Int × (List UInt8 × Int) := upR (chW b).2 top63
def chE (b : List UInt8) : Int := doneE (chZ b).2
def chX (b : List UInt8) : PChan := ⟨(chA b).1, (chC b).1, (chP b).1, (chT b).1, (chF b).1, (chV b).1, (chW b).1, (chZ b).1⟩
/-- What is told of bytes. -/
def rdE (b : List UInt8) : Int := if chE b = 0 then (if chanOk (chX b) = true then 0 else 4) else chE b
def rdX (b : List UInt8) : PChan := if rdE b = 0 then chX b else noChan
theorem chX_in (b : List UInt8) : ChanIn (chX b) := ⟨up_fits _, up_fits _, up_fits _, sumR_len _, up_fits _, up_fits _, up_fits _, up_fits _⟩
theorem ch_bytes {b : List UInt8} (h : chE b = 0) : b = chanB (chX b) := by
  have h1 := doneE_zero h
  obtain ⟨g7, k8⟩ := upR_ok (s := (chW b).2) (m := top63) (show (chZ b).2.2 = 0 by rw [h1])
  obtain ⟨g6, k7⟩ := upR_ok (s := (chV b).2) (m := top63) g7
  obtain ⟨g5, k6⟩ := upR_ok (s := (chF b).2) (m := top63) g6
  obtain ⟨g4, k5⟩ := upR_ok (s := (chT b).2) (m := top63) g5
  obtain ⟨g3, k4⟩ := sumR_ok (s := (chP b).2) g4
  obtain ⟨g2, k3⟩ := upR_ok (s := (chC b).2) (m := top63) g3
  obtain ⟨g1, k2⟩ := upR_ok (s := (chA b).2) (m := top63) g2
  obtain ⟨_, k1⟩ := upR_ok (s := (b, 0)) (m := top63) g1
  have h2 : (chZ b).2.1 = [] := by rw [h1]
  have k8' : (chW b).2.1 = numB (chZ b).1 ++ (chZ b).2.1 := k8
  have k7' : (chV b).2.1 = numB (chW b).1 ++ (chW b).2.1 := k7
  have k6' : (chF b).2.1 = numB (chV b).1 ++ (chV b).2.1 := k6
  have k5' : (chT b).2.1 = numB (chF b).1 ++ (chF b).2.1 := k5
  have k4' : (chP b).2.1 = (chT b).1 ++ (chT b).2.1 := k4
  have k3' : (chC b).2.1 = numB (chP b).1 ++ (chP b).2.1 := k3
  have k2' : (chA b).2.1 = numB (chC b).1 ++ (chC b).2.1 := k2
  have k1' : b = numB (chA b).1 ++ (chA b).2.1 := k1
  rw [h2, List.append_nil] at k8'
  rw [k8'] at k7'
  rw [k7'] at k6'
  rw [k6'] at k5'
  rw [k5'] at k4'
  rw [k4'] at k3'
  rw [k3'] at k2'
  rw [k2'] at k1'
  exact k1'
theorem up_back {z : Int} {s : List UInt8 × Int} (t : List UInt8) (hs : s = (numB z ++ t, 0)) (h0 : 0 ≤ z) (h1 : Fits z) : upR s top63 = (z, (t, 0)) := by
  rw [hs]
  exact upR_put _ h0 (by have h9 := h1.2; unfold top63; omega) h1.2
theorem ch_back {x : PChan} (hi : ChanIn x) (h1 : 0 ≤ x.id) (h2 : 0 ≤ x.client) (h3 : 0 ≤ x.peer) (h4 : 0 ≤ x.fat) (h5 : 0 ≤ x.cap) (h6 : 0 ≤ x.wait) (h7 : 0 ≤ x.window) : chE (chanB x) = 0 ∧ chX (chanB x) = x := by
  obtain ⟨t7, d7⟩ : ∃ t, t = numB x.window := ⟨_, rfl⟩
  obtain ⟨t6, d6⟩ : ∃ t, t = numB x.wait ++ t7 := ⟨_, rfl⟩
  obtain ⟨t5, d5⟩ : ∃ t, t = numB x.cap ++ t6 := ⟨_, rfl⟩
  obtain ⟨t4, d4⟩ : ∃ t, t = numB x.fat ++ t5 := ⟨_, rfl⟩
  obtain ⟨t3, d3⟩ : ∃ t, t = x.ftx ++ t4 := ⟨_, rfl⟩
  obtain ⟨t2, d2⟩ : ∃ t, t = numB x.peer ++ t3 := ⟨_, rfl⟩
  obtain ⟨t1, d1⟩ : ∃ t, t = numB x.client ++ t2 := ⟨_, rfl⟩
  have hb : chanB x = numB x.id ++ t1 := by rw [d1, d2, d3, d4, d5, d6, d7]; rfl
  have e1 : chA (chanB x) = (x.id, (t1, 0)) := up_back t1 (by rw [hb]) h1 hi.id
  have e2 : chC (chanB x) = (x.client, (t2, 0)) := up_back t2 (by rw [e1, d1]) h2 hi.client
  have e3 : chP (chanB x) = (x.peer, (t3, 0)) := up_back t3 (by rw [e2, d2]) h3 hi.peer
  have e4 : chT (chanB x) = (x.ftx, (t4, 0)) := by
    unfold chT
    rw [e3, d3]
    exact sumR_put _ hi.ftx
  have e5 : chF (chanB x) = (x.fat, (t5, 0)) := up_back t5 (by rw [e4, d4]) h4 hi.fat
  have e6 : chV (chanB x) = (x.cap, (t6, 0)) := up_back t6 (by rw [e5, d5]) h5 hi.cap
  have e7 : chW (chanB x) = (x.wait, (t7, 0)) := up_back t7 (by rw [e6, d6]) h6 hi.wait
  have e8 : chZ (chanB x) = (x.window, ([], 0)) := up_back [] (by rw [e7, d7, List.append_nil]) h7 hi.window
  constructor
  · unfold chE
    rw [e8]
    rfl
  · unfold chX
    rw [e1, e2, e3, e4, e5, e6, e7, e8]
theorem chanOk_pos {x : PChan} (h : chanOk x = true) : 0 ≤ x.id ∧ 0 ≤ x.client ∧ 0 ≤ x.peer ∧ 0 ≤ x.fat ∧ 0 ≤ x.cap ∧ 0 ≤ x.wait ∧ 0 ≤ x.window := by
  unfold chanOk at h
  have h9 := of_decide_eq_true h
  omega
/-- A channel that may be is read of its bytes. -/
theorem rd_back {x : PChan} (hi : ChanIn x) (hk : chanOk x = true) : rdE (chanB x) = 0 ∧ rdX (chanB x) = x := by
  obtain ⟨h1, h2, h3, h4, h5, h6, h7⟩ := chanOk_pos hk
  obtain ⟨e1, e2⟩ := ch_back hi h1 h2 h3 h4 h5 h6 h7
  have e3 : rdE (chanB x) = 0 := by
    unfold rdE
    rw [if_pos e1, e2, if_pos hk]
  exact ⟨e3, by unfold rdX; rw [if_pos e3, e2]⟩
theorem rd_ok {b : List UInt8} (h : rdE b = 0) : rdX b = chX b ∧ chanOk (rdX b) = true ∧ chanB (rdX b) = b := by
  have e : rdX b = chX b := if_pos h
  unfold rdE at h
  by_cases h0 : chE b = 0
  · rw [if_pos h0] at h
    by_cases h1 : chanOk (chX b) = true
    · exact ⟨e, by rw [e]; exact h1, by rw [e]; exact (ch_bytes h0).symm⟩
    · rw [if_neg h1] at h
      omega
  · rw [if_neg h0] at h
    exact absurd h h0
theorem rd_no {b : List UInt8} (h : rdE b ≠ 0) : rdX b = noChan := if_neg h
end Go.Proofs.YteddkkcheaghaaaGreatDoor
namespace Go.Proofs.YteddkkcheaghaaaGreatDoor
open Go.RowKit

/-- A slice of bytes is told, in new blocks. -/
def TextOut18 (w : World) (l : List UInt8) (e : Ending) (w' : World) : Prop := ∃ a n c, e = .returned (.slice a n c) ∧ Row w' a n c l ∧ (∀ y, a = some y → w.heap.size ≤ y.block) ∧ Below w.heap.size w w'
theorem sumLen18 {s : List UInt8} (h : s.length = 32) : (Tryz.prog.info? 28).map (·.size) = some (cellsOf s).length := by rw [cellsOf_len, h]; exact Tryz.size28
/-- A slice literal of three numbers, in a region. -/
theorem step_three18 {ops : Array Oper} {o : Oper} {tmps : Array Value} {ds : List Deferred} {w : World} {K : Act → World → Prop} {Q : Exit → Act → World → Prop} {E : Prop} {d : Nat} {u v t : Operand} {x y z : Int} (hd : o.dst = some d) (hw : Region.wanted o (yielded ops tmps) = true) (ho : o.op = .buildSlice 38 3 #[(0, u), (1, v), (2, t)])
    (hu : Act.eval { tmps := tmps, defers := ds } u = .int .i64 x) (hv : Act.eval { tmps := tmps, defers := ds } v = .int .i64 y) (ht : Act.eval { tmps := tmps, defers := ds } t = .int .i64 z)
    (h : ∀ (p : Nat) (w' : World), w.heap.size ≤ p → w'.heap[p]? = some (.cells #[.int .i64 x, .int .i64 y, .int .i64 z] 3 (0, 0)) → Below w.heap.size w w' → K { tmps := tmps.setIfInBounds d (.slice (some ⟨p, 0, none⟩) 3 3), defers := ds } w') :
    if Region.wanted o (yielded ops tmps) = true then Oper.wp Tryz.prog o { tmps := tmps, defers := ds } w K Q else E := by
  rw [if_pos hw]
  obtain ⟨ie, h1, h2, h3, _⟩ := info_parts Tryz.zeroInt
  have hrun : (Instr.buildSlice 38 3 #[(0, .int .i64 x), (1, .int .i64 y), (2, .int .i64 z)]).run Tryz.prog w = .ok (.slice (some ⟨w.heap.size, 0, none⟩) 3 3) (w.alloc (.cells #[.int .i64 x, .int .i64 y, .int .i64 z] 3)) :=
    run_buildSlice w 38 3 3 _ _ ie _ Tryz.underlying38 h1 h2 (by rw [h3]; omega) (by rw [h3]; omega) (by rw [h3]; simp [Instr.fill, Value.cells]; rw [show Array.range 3 = #[0, 1, 2] by rfl]; simp)
  unfold Oper.wp execOp
  simp only [ho, List.map_toArray, List.map_cons, List.map_nil, hu, hv, ht, Sem.run_bind, hrun, Sem.run_pure, Result.andThen_ok]
  show K (Act.put _ o.dst _) _
  rw [hd]
  exact h _ _ (Nat.le_refl _) (heap_alloc_new _ _) ((Below.refl _ _).alloc (Nat.le_refl _) _)
theorem wpList_four18 {ops : Array Oper} {rest : List Oper} {o : Oper} {A : Act} {w : World} {Q : Exit → Act → World → Prop} (hgd : o.guard = none) (u v u2 v2 : Operand) (ho : o.op = .buildSlice 38 4 #[(0, u), (1, v), (2, u2), (3, v2)]) (y z y2 z2 : Int) (hu : A.eval u = .int .i64 y) (hv : A.eval v = .int .i64 z) (hu2 : A.eval u2 = .int .i64 y2) (hv2 : A.eval v2 = .int .i64 z2)
    (h : ∀ (p : Nat) (w' : World), w.heap.size ≤ p → w'.heap[p]? = some (.cells #[.int .i64 y, .int .i64 z, .int .i64 y2, .int .i64 z2] 3 (0, 0)) → Below w.heap.size w w' → wpList Tryz.prog ops Q rest (A.put o.dst (.slice (some ⟨p, 0, none⟩) 4 4)) w') : wpList Tryz.prog ops Q (o :: rest) A w := by
  refine wpList_plain hgd fun K' hK => ?_
  obtain ⟨ie, h1, h2, h3, _⟩ := info_parts Tryz.zeroInt
  have hrun : (Instr.buildSlice 38 4 #[(0, .int .i64 y), (1, .int .i64 z), (2, .int .i64 y2), (3, .int .i64 z2)]).run Tryz.prog w = .ok (.slice (some ⟨w.heap.size, 0, none⟩) 4 4) (w.alloc (.cells #[.int .i64 y, .int .i64 z, .int .i64 y2, .int .i64 z2] 3)) :=
    run_buildSlice w 38 3 4 _ _ ie _ Tryz.underlying38 h1 h2 (by rw [h3]; omega) (by rw [h3]; omega) (by rw [h3]; simp [Instr.fill, Value.cells]; rw [show Array.range 4 = #[0, 1, 2, 3] by rfl]; simp)
  unfold Oper.wp execOp
  simp only [ho, List.map_toArray, List.map_cons, List.map_nil, hu, hv, hu2, hv2, Sem.run_bind, hrun, Sem.run_pure, Result.andThen_ok]
  exact hK _ _ (h _ _ (Nat.le_refl _) (heap_alloc_new _ _) ((Below.refl _ _).alloc (Nat.le_refl _) _))
theorem lit3 {w : World} {g B pb : Nat} {x y z : Int} {fr : Nat × Nat} (h : w.heap[g]? = some (.cells #[.int .i64 x, .int .i64 y, .int .i64 z] 3 fr)) : ∀ wr, But B pb w wr → Keeps w wr → ∀ j, j < 3 → wr.cell? ⟨g, 0 + j, none⟩ = some (.int .i64 ([x, y, z].getD j 0)) := fun wr _ hk j hj => by
  have h9 := (hk g _ _ _ h (by decide) (by decide) (by decide)).trans h
  rw [cell_of_row wr g _ _ _ _ h9]
  match j, hj with
  | 0, _ => rfl
  | 1, _ => rfl
  | 2, _ => rfl
set_option linter.unusedSimpArgs false in
set_option maxRecDepth 100000 in
set_option maxHeartbeats 6400000 in
theorem putchan_any {w : World} {x : PChan} (h : ChanIn x) : Calls Tryz.prog 29 #[.agg x.cells.toArray] w (TextOut18 w (chanB x)) := by
  have n1 := (numB_len x.id).2
  have n2 := (numB_len x.client).2
  have n3 := (numB_len x.peer).2
  have n4 := (numB_len x.fat).2
  have n5 := (numB_len x.cap).2
  have n6 := (numB_len x.wait).2
  have n7 := (numB_len x.window).2
  have hz3 : Hid (∀ v ∈ [x.id, x.client, x.peer], v ≤ 9223372036854775807) := Lib.hid fun v hv => by
    simp at hv
    rcases hv with rfl | rfl | rfl
    · exact h.id.2
    · exact h.client.2
    · exact h.peer.2
  have hz4 : Hid (∀ v ∈ [x.fat, x.cap, x.wait, x.window], v ≤ 9223372036854775807) := Lib.hid fun v hv => by
    simp at hv
    rcases hv with rfl | rfl | rfl | rfl
    · exact h.fat.2
    · exact h.cap.2
    · exact h.wait.2
    · exact h.window.2
  obtain ⟨NA, hNA⟩ : ∃ NA, NA = numsB [x.id, x.client, x.peer] := ⟨_, rfl⟩
  obtain ⟨NZ, hNZ⟩ : ∃ NZ, NZ = numsB [x.fat, x.cap, x.wait, x.window] := ⟨_, rfl⟩
  have TE : Hid (chanB x = (([] ++ NA) ++ x.ftx) ++ NZ) := Lib.hid (by rw [hNA, hNZ]; simp [chanB, numsB])
  have HLN : Hid (([] ++ NA).length ≤ 1000000) := Lib.hid (by rw [hNA]; simp [numsB]; omega)
  have HLM : Hid ((([] ++ NA) ++ x.ftx).length ≤ 1000000) := Lib.hid (by rw [hNA]; simp [numsB, h.ftx]; omega)
  have HLL : Hid (((([] ++ NA) ++ x.ftx) ++ NZ).length ≤ 140737488355328) := Lib.hid (by rw [hNA, hNZ]; simp [numsB, h.ftx]; omega)
  have HNA := Lib.hid hNA
  have HNZ := Lib.hid hNZ
  have SXH := Lib.hid (sumLen18 h.ftx)
  have HF := Lib.hid h.ftx
  clear h hNA hNZ n1 n2 n3 n4 n5 n6 n7
  go_enter Tryz.func29, Tryz.ntmps29
  go_upto_region 2 with (fail)
  have b1 : Below w.heap.size w ((w.alloc (.cells x.cells.toArray 73)).alloc (.cells #[.pointer none, .int .i64 0] 81)) := ((Below.refl _ _).alloc (Nat.le_refl _) _).alloc (by simp) _
  have h1 : ((w.alloc (.cells x.cells.toArray 73)).alloc (.cells #[.pointer none, .int .i64 0] 81)).heap[w.heap.size]? = some (.cells x.cells.toArray 73 (0, 0)) := by
    rw [heap_alloc_old _ _ (by simp), heap_alloc_new]
  have h2 : ((w.alloc (.cells x.cells.toArray 73)).alloc (.cells #[.pointer none, .int .i64 0] 81)).heap[w.heap.size + 1]? = some (.cells #[.pointer none, .int .i64 0] 81 (0, 0)) := heap_alloc_at _ _ _ (by simp)
  revert b1 h1 h2
  generalize ((w.alloc (.cells x.cells.toArray 73)).alloc (.cells #[.pointer none, .int .i64 0] 81)) = w1
  obtain ⟨g, hg⟩ : ∃ g, g = w.heap.size := ⟨_, rfl⟩
  obtain ⟨pb, hpb⟩ : ∃ pb, pb = g + 1 := ⟨_, rfl⟩
  rw [← hg, ← hpb]
  intro b1 h1 h2
  rw [hg] at b1
  have HB1 := Lib.hid b1
  have HGL := Lib.hid (lt_of_block h1)
  have HGN : Hid (g ≠ pb) := Lib.hid (by omega)
  have HPG : Hid (w.heap.size ≤ pb) := Lib.hid (by omega)
  obtain ⟨B, hB⟩ : ∃ B, B = w1.heap.size := ⟨_, rfl⟩
  have HBE := Lib.hid hB
  have HGB : Hid (g < B) := Lib.hid (by rw [hB]; exact HGL.out)
  have HG1 := Lib.hid h1
  have HCA : Hid (∀ W : World, But B pb w1 W → ChanAt W g 0 x) := Lib.hid fun W hW => chan_at HF.out (range_of (But.heap hW HG1.out HGB.out HGN.out))
  have HP0 : Hid (PenAt w1.drew B pb []) := Lib.hid (.inl ⟨h2, rfl⟩)
  clear hB b1 h1 h2 hg hpb
  refine wp_region_held_drew (S := fun w' => But B pb w1 w') (by kernel_rfl) (by have h9 := But.refl B pb w1; exact ⟨h9.os, h9.tape, h9.output, h9.size, h9.block⟩) (fun hHeld => ?_)
  refine tkP 0 rfl rfl ?_
  refine tkA 1 rfl rfl (yields_cell (by rfl) rfl rfl (b := g) (o := 0) (fun w0 hSw => (HCA.out _ hSw).id) Tryz.isAgg3) ?_
  refine tkP 2 rfl rfl ?_
  refine tkA 3 rfl rfl (yields_cell (by rfl) rfl rfl (b := g) (o := 1) (fun w0 hSw => (HCA.out _ hSw).client) Tryz.isAgg3) ?_
  refine tkP 4 rfl rfl ?_
  refine tkA 5 rfl rfl (yields_cell (by rfl) rfl rfl (b := g) (o := 2) (fun w0 hSw => (HCA.out _ hSw).peer) Tryz.isAgg3) ?_
  refine tkP 8 rfl rfl ?_
  refine tkP 9 rfl rfl ?_
  refine tkA 10 rfl rfl (yieldsIf_load_mid (by rfl) _ _ rfl g 3 rfl (cellsOf x.ftx) _ (fun w0 hSw => (range_append (HCA.out _ hSw).fund).1) Tryz.underlying28 rfl SXH.out) ?_
  refine tkR 6 rfl (fun K hK => ?_)
  refine step_three18 (d := 10) (x := x.id) (y := x.client) (z := x.peer) rfl (by rfl) rfl (by rfl) (by rfl) (by rfl) ?_
  intro p v0 hgp hlit hbl
  have LIT := Lib.hid hlit
  have HZv0 : Hid (B ≤ w1.drew.heap.size) := Lib.hid (by rw [HBE.out]; exact Nat.le_refl _)
  have HPv0 := Lib.hid (PenAt.below HP0.out HZv0.out hbl)
  have HSv0 := Lib.hid (But.of (p := pb) (hbl.mono HZv0.out))
  clear hlit hbl hgp
  refine hK.out _ _ (by (try dsimp only); exact But.trans hHeld HSv0.out) (fun hHeld => ?_)
  clear hK K
  refine tkR 7 rfl (fun K hK => ?_)
  have HZv1 : Hid (B ≤ (v0).heap.size) := Lib.hid (by have h9 := But.size hHeld; rw [← HBE.out] at h9; exact h9)
  go_simp
  go_wp2_with ((go_at_call 73; (with_reducible refine ((pnums_typed (n := 3) (c := 3) (off := 0) _ rfl (Nat.le_refl _) (by unfold maxLen; omega) hz3.out (lit3 LIT.out) HPv0.out HZv1.out (by omega) (by simp))).mono ?_); rintro e v1 ⟨rfl, hp, hb, _⟩; have HPv1 := Lib.hid hp; have HSv1 := Lib.hid hb; clear hp hb))
  refine hK.out _ _ (by (try dsimp only); exact But.trans hHeld HSv1.out) (fun hHeld => ?_)
  clear hK K
  refine tkR 11 rfl (fun K hK => ?_)
  have HZv2 : Hid (B ≤ (v1).heap.size) := Lib.hid (by have h9 := But.size hHeld; rw [← HBE.out] at h9; exact h9)
  go_simp
  go_wp2_with ((go_at_call 26; (with_reducible refine (psum_at _ HF.out (show PenAt v1 B pb ([] ++ NA) by rw [HNA.out]; exact HPv1.out) HZv2.out HLN.out).mono ?_); rintro e v2 ⟨rfl, hp, hb⟩; have HPv2 := Lib.hid hp; have HSv2 := Lib.hid hb; clear hp hb))
  refine hK.out _ _ (by (try dsimp only); exact But.trans hHeld HSv2.out) (fun hHeld => ?_)
  clear hK K
  refine wpAnyH_done (by kernel_rfl) ?_ _
  have HB2 := Lib.hid (show But B pb w1 v2 from hHeld)
  have CA := HCA.out _ HB2.out
  have c35 := CA.fat
  have c36 := CA.cap
  have c37 := CA.wait
  have c38 := CA.window
  have HZ2 : Hid (B ≤ v2.heap.size) := Lib.hid (by have h9 := HB2.out.size; rw [← HBE.out] at h9; exact h9)
  clear hHeld CA
  go_wp2_with (first | (refine wpList_four18 rfl _ _ _ _ rfl x.fat x.cap x.wait x.window rfl rfl rfl rfl ?_; intro p v3 hgp hlit hbl; have LIT2 := Lib.hid hlit; have HPv3 := Lib.hid (PenAt.below HPv2.out HZ2.out hbl); have HZ3 := Lib.hid (Nat.le_trans HZ2.out hbl.size); have HB3 := Lib.hid (But.trans HB2.out (But.of (p := pb) (hbl.mono HZ2.out))); clear hgp hlit hbl) | (go_at_call 73; (with_reducible refine (pnums_typed (n := 4) (c := 4) (off := 0) _ rfl (Nat.le_refl _) (by unfold maxLen; omega) hz4.out (lit4 LIT2.out) HPv3.out HZ3.out (by omega) HLM.out).mono ?_); rintro e v4 ⟨rfl, hp, hb, _⟩; have HPv4 := Lib.hid hp; have HB4 := Lib.hid (But.trans HB3.out hb); have HZ4 := Lib.hid (Nat.le_trans HZ3.out hb.size); clear hp hb) | (go_at_call 27; (with_reducible refine (bytes_any (show PenAt v4 B pb ((([] ++ NA) ++ x.ftx) ++ NZ) by rw [HNZ.out]; exact HPv4.out) HLL.out).mono ?_); rintro e v9 ⟨a9, n9, c9, rfl, hr9, hf9, hb9⟩; have HR := Lib.hid hr9; have HFR := Lib.hid hf9; have HB9 := Lib.hid hb9; clear hr9 hf9 hb9) | fail)
  have HEND : Hid (Below w.heap.size w v9) := Lib.hid (HB1.out.trans (But.below (But.mono (But.trans HB4.out (But.of (HB9.out.mono HZ4.out))) (by rw [HBE.out]; exact HB1.out.size)) HPG.out))
  go_ret
  refine ⟨_, _, _, rfl, ?_, fun y hy => Nat.le_trans (Nat.le_trans HB1.out.size (by rw [← HBE.out]; exact HZ4.out)) (HFR.out y hy), HEND.out⟩
  rw [TE.out]
  exact HR.out
end Go.Proofs.YteddkkcheaghaaaGreatDoor
namespace Go.Proofs.YteddkkcheaghaaaGreatDoor
open Go.RowKit

theorem eye_cells18 {w : World} {yb : Nat} {l : List UInt8} {e : Int} (h : EyeAt w yb l e) : ∃ cs, w.heap[yb]? = some (.cells cs 226 (0, 0)) := by
  obtain ⟨a, N, c, hh, _⟩ := h
  exact ⟨_, hh⟩
/-- How all stands while a channel is read: g5 is the variable, g2 the result. -/
structure CSt (w0 : World) (yb g2 g5 : Nat) (x : List Value) (s : List UInt8 × Int) (w : World) : Prop where
  res : w.heap[g2]? = some (.cells noChan.cells.toArray 73 (0, 0))
  var : w.heap[g5]? = some (.cells x.toArray 73 (0, 0))
  eye : EyeAt w yb s.1 s.2
  below : Below w0.heap.size w0 w
theorem CSt.read {w0 w w' : World} {yb g2 g5 : Nat} {x : List Value} {s s' : List UInt8 × Int} (h : CSt w0 yb g2 g5 x s w) (hy : w0.heap.size ≤ yb) (he : EyeAt w' yb s'.1 s'.2) (hb : But w.heap.size yb w w') : CSt w0 yb g2 g5 x s' w' := by
  obtain ⟨ce, hce⟩ := eye_cells18 h.eye
  refine ⟨hb.heap h.res (lt_of_block h.res) (fun e => ?_), hb.heap h.var (lt_of_block h.var) (fun e => ?_), he, But.in h.below hb hy⟩
  · have h9 := h.res
    rw [e, hce] at h9
    simp at h9
  · have h9 := h.var
    rw [e, hce] at h9
    simp at h9
theorem CSt.put {w0 w w' : World} {yb g2 g5 : Nat} {x x' : List Value} {s : List UInt8 × Int} (h : CSt w0 yb g2 g5 x s w) (hg : w0.heap.size ≤ g5) (hne : g2 ≠ g5) (hv : w'.heap[g5]? = some (.cells x'.toArray 73 (0, 0))) (hb : But w.heap.size g5 w w') : CSt w0 yb g2 g5 x' s w' := by
  obtain ⟨ce, hce⟩ := eye_cells18 h.eye
  refine ⟨hb.heap h.res (lt_of_block h.res) hne, hv, h.eye.typed hb h.var (by decide) (fun e => ?_), But.in h.below hb hg⟩
  have h9 := h.var
  rw [← e, hce] at h9
  simp at h9
theorem build_noChan18 (w : World) : (Instr.build 73 ([] : List (Nat × Value)).toArray).run Tryz.prog w = .ok (.agg noChan.cells.toArray) w := by kernel_rfl
theorem chan_set18 (us : List Value) (vs : List Value) (v : Value) {rT : List UInt8} (h : rT.length = 32) {k : Nat} (hu : us.length = 3 := by rfl) : (us ++ (cellsOf rT ++ vs)).set (35 + k) v = us ++ (cellsOf rT ++ vs.set k v) := by
  have e : (cellsOf rT).length = 32 := by rw [cellsOf_len, h]
  rw [List.set_append_right _ _ (by omega), hu, List.set_append_right _ _ (by omega), e, show 35 + k - 3 - 32 = k by omega]
set_option linter.unusedSimpArgs false in
set_option maxRecDepth 100000 in
set_option maxHeartbeats 6400000 in
theorem readchan_any {w : World} {a : Option Addr} {n c : Nat} {b : List UInt8} (h : Row w a n c b) (hn : n ≤ 1000000) :
    Calls Tryz.prog 28 #[.slice a n c] w fun e w' => e = .returned (.tuple #[.agg (rdX b).cells.toArray, .int .i64 (rdE b)]) ∧ Below w.heap.size w w' := by
  have hbl : b.length ≤ 1000000 := by rw [h.1]; exact hn
  have l0 : (chP b).2.1.length ≤ b.length := Nat.le_trans (upR_le (chC b).2 top63) (Nat.le_trans (upR_le (chA b).2 top63) (upR_le (b, 0) top63))
  have hci := chX_in b
  have hxv : chX b = ⟨(chA b).1, (chC b).1, (chP b).1, (chT b).1, (chF b).1, (chV b).1, (chW b).1, (chZ b).1⟩ := rfl
  obtain ⟨rA, erA⟩ : ∃ r, (chA b).1 = r := ⟨_, rfl⟩
  obtain ⟨sA, esA⟩ : ∃ r, (chA b).2 = r := ⟨_, rfl⟩
  obtain ⟨rC, erC⟩ : ∃ r, (chC b).1 = r := ⟨_, rfl⟩
  obtain ⟨sC, esC⟩ : ∃ r, (chC b).2 = r := ⟨_, rfl⟩
  obtain ⟨rP, erP⟩ : ∃ r, (chP b).1 = r := ⟨_, rfl⟩
  obtain ⟨sP, esP⟩ : ∃ r, (chP b).2 = r := ⟨_, rfl⟩
  obtain ⟨rT, erT⟩ : ∃ r, (chT b).1 = r := ⟨_, rfl⟩
  obtain ⟨sT, esT⟩ : ∃ r, (chT b).2 = r := ⟨_, rfl⟩
  obtain ⟨rF, erF⟩ : ∃ r, (chF b).1 = r := ⟨_, rfl⟩
  obtain ⟨sF, esF⟩ : ∃ r, (chF b).2 = r := ⟨_, rfl⟩
  obtain ⟨rV, erV⟩ : ∃ r, (chV b).1 = r := ⟨_, rfl⟩
  obtain ⟨sV, esV⟩ : ∃ r, (chV b).2 = r := ⟨_, rfl⟩
  obtain ⟨rW, erW⟩ : ∃ r, (chW b).1 = r := ⟨_, rfl⟩
  obtain ⟨sW, esW⟩ : ∃ r, (chW b).2 = r := ⟨_, rfl⟩
  obtain ⟨rZ, erZ⟩ : ∃ r, (chZ b).1 = r := ⟨_, rfl⟩
  obtain ⟨sZ, esZ⟩ : ∃ r, (chZ b).2 = r := ⟨_, rfl⟩
  obtain ⟨E, hE⟩ : ∃ E, chE b = E := ⟨_, rfl⟩
  obtain ⟨X, hX⟩ : ∃ X, chX b = X := ⟨_, rfl⟩
  obtain ⟨R, hR⟩ : ∃ R, chanOk X = R := ⟨_, rfl⟩
  have HLK : Hid (∀ W : World, Below w.heap.size w W → Calls Tryz.prog 69 #[.slice a n c] W fun r w' => ∃ yb, r = .returned (.pointer (some ⟨yb, 0, none⟩)) ∧ W.heap.size ≤ yb ∧ EyeAt w' yb b 0 ∧ Below W.heap.size W w') := Lib.hid fun W hb => look_any (h.below hb) (by omega)
  have HUA : Hid (∀ (W : World) (yb : Nat), EyeAt W yb b 0 → Calls Tryz.prog 70 #[.pointer (some ⟨yb, 0, none⟩)] W fun r w' => r = .returned (.int .i64 rA) ∧ EyeAt w' yb sA.1 sA.2 ∧ But W.heap.size yb W w') := Lib.hid fun W yb he => by
    have h9 := num_st (s := (b, 0)) he
    rw [← erA, ← esA]
    exact h9
  have HUC : Hid (∀ (W : World) (yb : Nat), EyeAt W yb sA.1 sA.2 → Calls Tryz.prog 70 #[.pointer (some ⟨yb, 0, none⟩)] W fun r w' => r = .returned (.int .i64 rC) ∧ EyeAt w' yb sC.1 sC.2 ∧ But W.heap.size yb W w') := Lib.hid fun W yb he => by
    have h9 := num_st (s := sA) he
    rw [← erC, ← esC]
    unfold chC
    rw [esA]
    exact h9
  have HUP : Hid (∀ (W : World) (yb : Nat), EyeAt W yb sC.1 sC.2 → Calls Tryz.prog 70 #[.pointer (some ⟨yb, 0, none⟩)] W fun r w' => r = .returned (.int .i64 rP) ∧ EyeAt w' yb sP.1 sP.2 ∧ But W.heap.size yb W w') := Lib.hid fun W yb he => by
    have h9 := num_st (s := sC) he
    rw [← erP, ← esP]
    unfold chP
    rw [esC]
    exact h9
  have HUT : Hid (∀ (W : World) (yb : Nat), EyeAt W yb sP.1 sP.2 → Calls Tryz.prog 71 #[.pointer (some ⟨yb, 0, none⟩)] W fun r w' => r = .returned (.agg (cellsOf rT).toArray) ∧ EyeAt w' yb sT.1 sT.2 ∧ But W.heap.size yb W w') := Lib.hid fun W yb he => by
    have h9 := sum_st (s := sP) W he (by rw [← esP]; omega)
    rw [← erT, ← esT]
    unfold chT
    rw [esP]
    exact h9
  have HUF : Hid (∀ (W : World) (yb : Nat), EyeAt W yb sT.1 sT.2 → Calls Tryz.prog 70 #[.pointer (some ⟨yb, 0, none⟩)] W fun r w' => r = .returned (.int .i64 rF) ∧ EyeAt w' yb sF.1 sF.2 ∧ But W.heap.size yb W w') := Lib.hid fun W yb he => by
    have h9 := num_st (s := sT) he
    rw [← erF, ← esF]
    unfold chF
    rw [esT]
    exact h9
  have HUV : Hid (∀ (W : World) (yb : Nat), EyeAt W yb sF.1 sF.2 → Calls Tryz.prog 70 #[.pointer (some ⟨yb, 0, none⟩)] W fun r w' => r = .returned (.int .i64 rV) ∧ EyeAt w' yb sV.1 sV.2 ∧ But W.heap.size yb W w') := Lib.hid fun W yb he => by
    have h9 := num_st (s := sF) he
    rw [← erV, ← esV]
    unfold chV
    rw [esF]
    exact h9
  have HUW : Hid (∀ (W : World) (yb : Nat), EyeAt W yb sV.1 sV.2 → Calls Tryz.prog 70 #[.pointer (some ⟨yb, 0, none⟩)] W fun r w' => r = .returned (.int .i64 rW) ∧ EyeAt w' yb sW.1 sW.2 ∧ But W.heap.size yb W w') := Lib.hid fun W yb he => by
    have h9 := num_st (s := sV) he
    rw [← erW, ← esW]
    unfold chW
    rw [esV]
    exact h9
  have HUZ : Hid (∀ (W : World) (yb : Nat), EyeAt W yb sW.1 sW.2 → Calls Tryz.prog 70 #[.pointer (some ⟨yb, 0, none⟩)] W fun r w' => r = .returned (.int .i64 rZ) ∧ EyeAt w' yb sZ.1 sZ.2 ∧ But W.heap.size yb W w') := Lib.hid fun W yb he => by
    have h9 := num_st (s := sW) he
    rw [← erZ, ← esZ]
    unfold chZ
    rw [esW]
    exact h9
  have HDN : Hid (∀ (W : World) (yb : Nat), EyeAt W yb sZ.1 sZ.2 → Calls Tryz.prog 72 #[.pointer (some ⟨yb, 0, none⟩)] W fun r w' => r = .returned (.int .i64 E) ∧ (∃ s' : List UInt8 × Int, EyeAt w' yb s'.1 s'.2) ∧ But W.heap.size yb W w') := Lib.hid fun W yb he => by
    have h9 := done_st (s := sZ) W he
    rw [← hE]
    unfold chE
    rw [esZ]
    exact h9
  rw [erA, erC, erP, erT, erF, erV, erW, erZ] at hxv
  have hft : rT.length = 32 := by rw [← erT]; exact sumR_len _
  have HFT := Lib.hid hft
  rw [hX] at hxv hci
  have HXC : Hid (X.cells = [.int .i64 rA, .int .i64 rC, .int .i64 rP] ++ (cellsOf rT ++ [.int .i64 rF, .int .i64 rV, .int .i64 rW, .int .i64 rZ])) := Lib.hid (by rw [hxv]; simp [PChan.cells, refCells])
  have HXF := Lib.hid hci.ftx
  have HRC : Hid (∀ W : World, Calls Tryz.prog 30 #[.agg X.cells.toArray] W fun e w' => e = .returned (.bool R) ∧ Below W.heap.size W w') := Lib.hid fun W => by rw [← hR]; exact rightChannel_any W hci.ftx
  have G0 : Hid (E = 0 → R = true → rdX b = X ∧ rdE b = 0) := Lib.hid fun e1 e2 => by
    have h9 : rdE b = 0 := by unfold rdE; rw [hE, if_pos e1, hX, hR, if_pos e2]
    exact ⟨by unfold rdX; rw [if_pos h9, hX], h9⟩
  have G4 : Hid (E = 0 → R = false → rdX b = noChan ∧ rdE b = 4) := Lib.hid fun e1 e2 => by
    have h9 : rdE b = 4 := by unfold rdE; rw [hE, if_pos e1, hX, hR, e2]; rfl
    exact ⟨by unfold rdX; rw [if_neg (by omega)], h9⟩
  have G1 : Hid (E ≠ 0 → rdX b = noChan ∧ rdE b = E) := Lib.hid fun e1 => by
    have h9 : rdE b = E := by unfold rdE; rw [hE, if_neg e1]
    exact ⟨by unfold rdX; rw [if_neg (by rw [h9]; exact e1)], h9⟩
  have SZ0 : Hid ((Tryz.prog.info? 73).map (·.size) = some noChan.cells.length) := Lib.hid (chan_size rfl)
  have SZX : Hid ((Tryz.prog.info? 73).map (·.size) = some X.cells.length) := Lib.hid (chan_size hci.ftx)
  have HSD : Hid ((Tryz.prog.info? 28).map (·.size) = some (cellsOf rT).length) := Lib.hid (by rw [cellsOf_len, hft]; exact Tryz.size28)
  generalize rdX b = RX at G0 G4 G1 ⊢
  generalize rdE b = RE at G0 G4 G1 ⊢
  clear h hn hbl l0 hci hxv hft hE hX hR erA esA erC esC erP esP erT esT erF esF erV esV erW esW erZ esZ
  go_enter Tryz.func28, Tryz.ntmps28
  go_upto_region 1 with (first | (refine wpList_new rfl 73 rfl noChan.cells.toArray Tryz.zeroChan ?_; intro g2 w1 hg2 h1 b1; go_frame) | fail)
  have hB2 : w.heap.size ≤ g2 := by omega
  have HB1 := Lib.hid b1
  have H1 := Lib.hid h1
  clear b1 h1 hg2
  go_wp2_with fail
  refine (HLK.out _ HB1.out).mono ?_
  rintro e w2 ⟨yb, rfl, hyb1, he2, hb2⟩
  have hyb : w.heap.size ≤ yb := Nat.le_trans HB1.out.size hyb1
  have HE2 := Lib.hid he2
  have H2 := Lib.hid (keep hb2 H1.out)
  have HB2 := Lib.hid (bthen HB1.out hb2)
  clear he2 hb2 hyb1 HLK HB1 H1
  go_upto_region 3 with (first | (refine wpList_new rfl 73 rfl noChan.cells.toArray Tryz.zeroChan ?_; intro g5 w3 hg5 h3 b3; go_frame) | fail)
  have hne : g2 ≠ g5 := by have := lt_of_block H2.out; omega
  have hB5 : w.heap.size ≤ g5 := by have := HB2.out.size; omega
  have RS : Hid (CSt w yb g2 g5 noChan.cells (b, 0) w3) := Lib.hid ⟨keep b3 H2.out, h3, HE2.out.below b3, bthen HB2.out b3⟩
  clear b3 h3 hg5 HE2 H2 HB2
  have RS : Hid (CSt w yb g2 g5 ([.int .i64 0, .int .i64 0, .int .i64 0] ++ (cellsOf zero32 ++ [.int .i64 0, .int .i64 0, .int .i64 0, .int .i64 0]) : List Value) (b, 0) w3) := Lib.hid (by have h9 := RS.out; exact h9)
  go_wp2_with fail
  refine (HUA.out _ _ RS.out.eye).mono ?_
  rintro e w4 ⟨rfl, he, hb⟩
  have RS := Lib.hid (RS.out.read (s' := sA) hyb he hb)
  clear he hb HUA
  go_upto_region 4 with (first | (refine wpList_field10 rfl 3 _ _ rfl g5 0 rfl (.int .i64 rA) rfl 73 _ RS.out.var (by simp [cellsOf_len, zero32_len]) (by kernel_rfl) rfl ?_; intro w5 hv hb) | fail)
  replace hv : w5.heap[g5]? = some (.cells ([.int .i64 rA, .int .i64 0, .int .i64 0] ++ (cellsOf zero32 ++ [.int .i64 0, .int .i64 0, .int .i64 0, .int .i64 0]) : List Value).toArray 73 (0, 0)) := hv
  have RS := Lib.hid (RS.out.put (x' := ([.int .i64 rA, .int .i64 0, .int .i64 0] ++ (cellsOf zero32 ++ [.int .i64 0, .int .i64 0, .int .i64 0, .int .i64 0]) : List Value)) hB5 hne hv hb)
  clear hv hb
  go_wp2_with fail
  refine (HUC.out _ _ RS.out.eye).mono ?_
  rintro e w4 ⟨rfl, he, hb⟩
  have RS := Lib.hid (RS.out.read (s' := sC) hyb he hb)
  clear he hb HUC
  go_upto_region 5 with (first | (refine wpList_field10 rfl 3 _ _ rfl g5 1 rfl (.int .i64 rC) rfl 73 _ RS.out.var (by simp [cellsOf_len, zero32_len]) (by kernel_rfl) rfl ?_; intro w5 hv hb) | fail)
  replace hv : w5.heap[g5]? = some (.cells ([.int .i64 rA, .int .i64 rC, .int .i64 0] ++ (cellsOf zero32 ++ [.int .i64 0, .int .i64 0, .int .i64 0, .int .i64 0]) : List Value).toArray 73 (0, 0)) := hv
  have RS := Lib.hid (RS.out.put (x' := ([.int .i64 rA, .int .i64 rC, .int .i64 0] ++ (cellsOf zero32 ++ [.int .i64 0, .int .i64 0, .int .i64 0, .int .i64 0]) : List Value)) hB5 hne hv hb)
  clear hv hb
  go_wp2_with fail
  refine (HUP.out _ _ RS.out.eye).mono ?_
  rintro e w4 ⟨rfl, he, hb⟩
  have RS := Lib.hid (RS.out.read (s' := sP) hyb he hb)
  clear he hb HUP
  go_upto_region 6 with (first | (refine wpList_field10 rfl 3 _ _ rfl g5 2 rfl (.int .i64 rP) rfl 73 _ RS.out.var (by simp [cellsOf_len, zero32_len]) (by kernel_rfl) rfl ?_; intro w5 hv hb) | fail)
  replace hv : w5.heap[g5]? = some (.cells ([.int .i64 rA, .int .i64 rC, .int .i64 rP] ++ (cellsOf zero32 ++ [.int .i64 0, .int .i64 0, .int .i64 0, .int .i64 0]) : List Value).toArray 73 (0, 0)) := hv
  have RS := Lib.hid (RS.out.put (x' := ([.int .i64 rA, .int .i64 rC, .int .i64 rP] ++ (cellsOf zero32 ++ [.int .i64 0, .int .i64 0, .int .i64 0, .int .i64 0]) : List Value)) hB5 hne hv hb)
  clear hv hb
  go_wp2_with fail
  refine (HUT.out _ _ RS.out.eye).mono ?_
  rintro e w4 ⟨rfl, he, hb⟩
  have RS := Lib.hid (RS.out.read (s' := sT) hyb he hb)
  clear he hb HUT
  go_upto_region 7 with (first | (refine wpList_part10 rfl 28 _ _ rfl g5 3 rfl (cellsOf rT) rfl 73 [.int .i64 rA, .int .i64 rC, .int .i64 rP] (cellsOf zero32) [.int .i64 0, .int .i64 0, .int .i64 0, .int .i64 0] RS.out.var rfl (by rw [cellsOf_len, cellsOf_len, HFT.out]; rfl) HSD.out (cellsOf_one rT) ?_; intro w5 hv hb) | fail)
  have RS := Lib.hid (RS.out.put (x' := ([.int .i64 rA, .int .i64 rC, .int .i64 rP] ++ (cellsOf rT ++ [.int .i64 0, .int .i64 0, .int .i64 0, .int .i64 0]) : List Value)) hB5 hne hv hb)
  clear hv hb
  go_wp2_with fail
  refine (HUF.out _ _ RS.out.eye).mono ?_
  rintro e w4 ⟨rfl, he, hb⟩
  have RS := Lib.hid (RS.out.read (s' := sF) hyb he hb)
  clear he hb HUF
  go_upto_region 8 with (first | (refine wpList_field10 rfl 3 _ _ rfl g5 35 rfl (.int .i64 rF) rfl 73 _ RS.out.var (by simp [cellsOf_len, HFT.out]) (by kernel_rfl) rfl ?_; intro w5 hv hb) | fail)
  rw [chan_set18 _ _ _ HFT.out (k := 0)] at hv
  replace hv : w5.heap[g5]? = some (.cells ([.int .i64 rA, .int .i64 rC, .int .i64 rP] ++ (cellsOf rT ++ [.int .i64 rF, .int .i64 0, .int .i64 0, .int .i64 0]) : List Value).toArray 73 (0, 0)) := hv
  have RS := Lib.hid (RS.out.put (x' := ([.int .i64 rA, .int .i64 rC, .int .i64 rP] ++ (cellsOf rT ++ [.int .i64 rF, .int .i64 0, .int .i64 0, .int .i64 0]) : List Value)) hB5 hne hv hb)
  clear hv hb
  go_wp2_with fail
  refine (HUV.out _ _ RS.out.eye).mono ?_
  rintro e w4 ⟨rfl, he, hb⟩
  have RS := Lib.hid (RS.out.read (s' := sV) hyb he hb)
  clear he hb HUV
  go_upto_region 9 with (first | (refine wpList_field10 rfl 2 _ _ rfl g5 36 rfl (.int .i64 rV) rfl 73 _ RS.out.var (by simp [cellsOf_len, HFT.out]) (by kernel_rfl) rfl ?_; intro w5 hv hb) | fail)
  rw [chan_set18 _ _ _ HFT.out (k := 1)] at hv
  replace hv : w5.heap[g5]? = some (.cells ([.int .i64 rA, .int .i64 rC, .int .i64 rP] ++ (cellsOf rT ++ [.int .i64 rF, .int .i64 rV, .int .i64 0, .int .i64 0]) : List Value).toArray 73 (0, 0)) := hv
  have RS := Lib.hid (RS.out.put (x' := ([.int .i64 rA, .int .i64 rC, .int .i64 rP] ++ (cellsOf rT ++ [.int .i64 rF, .int .i64 rV, .int .i64 0, .int .i64 0]) : List Value)) hB5 hne hv hb)
  clear hv hb
  go_wp2_with fail
  refine (HUW.out _ _ RS.out.eye).mono ?_
  rintro e w4 ⟨rfl, he, hb⟩
  have RS := Lib.hid (RS.out.read (s' := sW) hyb he hb)
  clear he hb HUW
  go_upto_region 10 with (first | (refine wpList_field10 rfl 3 _ _ rfl g5 37 rfl (.int .i64 rW) rfl 73 _ RS.out.var (by simp [cellsOf_len, HFT.out]) (by kernel_rfl) rfl ?_; intro w5 hv hb) | fail)
  rw [chan_set18 _ _ _ HFT.out (k := 2)] at hv
  replace hv : w5.heap[g5]? = some (.cells ([.int .i64 rA, .int .i64 rC, .int .i64 rP] ++ (cellsOf rT ++ [.int .i64 rF, .int .i64 rV, .int .i64 rW, .int .i64 0]) : List Value).toArray 73 (0, 0)) := hv
  have RS := Lib.hid (RS.out.put (x' := ([.int .i64 rA, .int .i64 rC, .int .i64 rP] ++ (cellsOf rT ++ [.int .i64 rF, .int .i64 rV, .int .i64 rW, .int .i64 0]) : List Value)) hB5 hne hv hb)
  clear hv hb
  go_wp2_with fail
  refine (HUZ.out _ _ RS.out.eye).mono ?_
  rintro e w4 ⟨rfl, he, hb⟩
  have RS := Lib.hid (RS.out.read (s' := sZ) hyb he hb)
  clear he hb HUZ
  go_upto_region 11 with (first | (refine wpList_field10 rfl 3 _ _ rfl g5 38 rfl (.int .i64 rZ) rfl 73 _ RS.out.var (by simp [cellsOf_len, HFT.out]) (by kernel_rfl) rfl ?_; intro w5 hv hb) | fail)
  rw [chan_set18 _ _ _ HFT.out (k := 3)] at hv
  replace hv : w5.heap[g5]? = some (.cells ([.int .i64 rA, .int .i64 rC, .int .i64 rP] ++ (cellsOf rT ++ [.int .i64 rF, .int .i64 rV, .int .i64 rW, .int .i64 rZ]) : List Value).toArray 73 (0, 0)) := hv
  have RS := Lib.hid (RS.out.put (x' := ([.int .i64 rA, .int .i64 rC, .int .i64 rP] ++ (cellsOf rT ++ [.int .i64 rF, .int .i64 rV, .int .i64 rW, .int .i64 rZ]) : List Value)) hB5 hne hv hb)
  clear hv hb
  rw [← HXC.out] at RS
  go_wp2_with fail
  refine (HDN.out _ _ RS.out.eye).mono ?_
  rintro e wd ⟨rfl, ⟨sd, he⟩, hb⟩
  have RS := Lib.hid (RS.out.read (s' := sd) hyb he hb)
  clear he hb HDN
  by_cases h0 : E = 0
  · subst h0
    have hb : ((0 : Int) != 0) = false := by decide
    have RV := Lib.hid (range_of RS.out.var)
    have XL : Hid (X.cells.length = noChan.cells.length) := Lib.hid (by rw [PChan.len HXF.out]; rfl)
    clear G1
    cases R with
    | true =>
      obtain ⟨rfl, rfl⟩ := G0.out rfl rfl
      go_upto_region 14 with (fail)
      go_wp2_with (first | (refine wpList_load_mid rfl 73 _ rfl g5 0 rfl RX.cells _ RV.out Tryz.underlying73 rfl SZX.out ?_) | (go_at_call 30; (with_reducible refine (HRC.out _).mono ?_); rintro e w8 ⟨rfl, hb8⟩; have RS8 := Lib.hid (RS.out.res); have HB8 := Lib.hid hb8; have RV8 := Lib.hid (range_of (keep hb8 RS.out.var)); have RE8 := Lib.hid (keep hb8 RS.out.res); clear hb8) | (refine wpList_load_mid rfl 73 _ rfl g5 0 rfl RX.cells _ RV8.out Tryz.underlying73 rfl SZX.out ?_) | (refine wpList_row10 rfl 73 _ _ rfl g2 RX.cells rfl rfl 73 noChan.cells RE8.out SZX.out XL.out.symm (PChan.one _) ?_; intro w9 hh9 hb9) | fail)
      refine bodyPost_ret (results_cell_then rfl _ _ g2 73 RX.cells.toArray (0, 0) _ (.int .i64 0) rfl rfl hh9 Tryz.underlying73 rfl (by rw [List.size_toArray]; exact SZX.out)) rfl ⟨rfl, But.in (bthen RS.out.below HB8.out) hb9 hB2⟩
    | false =>
      obtain ⟨rfl, rfl⟩ := G4.out rfl rfl
      go_wp2_with (first | (refine wpList_load_mid rfl 73 _ rfl g5 0 rfl X.cells _ RV.out Tryz.underlying73 rfl SZX.out ?_) | (go_at_call 30; (with_reducible refine (HRC.out _).mono ?_); rintro e w8 ⟨rfl, hb8⟩; have HB8 := Lib.hid hb8; have RE8 := Lib.hid (keep hb8 RS.out.res); clear hb8) | (refine wpList_build10 rfl rfl (vs := []) (by rfl) build_noChan18 ?_) | (refine wpList_row10 rfl 73 _ _ rfl g2 noChan.cells (by rfl) (by rfl) 73 noChan.cells RE8.out SZ0.out rfl (PChan.one _) ?_; intro w9 hh9 hb9) | fail)
      refine bodyPost_ret (results_cell_then rfl _ _ g2 73 noChan.cells.toArray (0, 0) _ (.int .i64 4) rfl rfl hh9 Tryz.underlying73 rfl (by rw [List.size_toArray]; exact SZ0.out)) rfl ⟨rfl, But.in (bthen RS.out.below HB8.out) hb9 hB2⟩
  · have hb : (E != 0) = true := by simpa using h0
    obtain ⟨rfl, rfl⟩ := G1.out h0
    clear h0 G0 G4 G1
    go_wp2_with (first | (refine wpList_build10 rfl rfl (vs := []) (by rfl) build_noChan18 ?_) | (refine wpList_row10 rfl 73 _ _ rfl g2 noChan.cells (by rfl) (by rfl) 73 noChan.cells RS.out.res SZ0.out rfl (PChan.one _) ?_; intro w9 hh9 hb9) | fail)
    refine bodyPost_ret (results_cell_then rfl _ _ g2 73 noChan.cells.toArray (0, 0) _ (.int .i64 RE) rfl rfl hh9 Tryz.underlying73 rfl (by rw [List.size_toArray]; exact SZ0.out)) rfl ⟨rfl, But.in RS.out.below hb9 hB2⟩
end Go.Proofs.YteddkkcheaghaaaGreatDoor
