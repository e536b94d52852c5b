/- Which states may be of a channel: what the code's functions come to. -/
import Derived.Test.YtkihmhchdenamaaDoorComRight
namespace Go.Proofs.YtkihmhchdenamaaDoor
open Go.RowKit

def pairCells (h0 h1 : List UInt8) : List Value := cellsOf h0 ++ cellsOf h1
theorem pairCells_len {h0 h1 : List UInt8} (a : h0.length = 32) (b : h1.length = 32) : (pairCells h0 h1).length = 64 := by simp [pairCells, cellsOf_len, a, b]
theorem pairCells_one (h0 h1 : List UInt8) : ∀ v ∈ pairCells h0 h1, v.oneCell' = true := by
  intro v hv
  rcases List.mem_append.1 hv with hv | hv
  all_goals exact cellsOf_one _ v hv
theorem sizePair {h0 h1 : List UInt8} (a : h0.length = 32) (b : h1.length = 32) : (Tryd.prog.info? 28).map (·.size) = some (pairCells h0 h1).length := by rw [pairCells_len a b]; kernel_rfl
theorem state_pair {w : World} {b o : Nat} {x : PState} (h : w.rangeAt b o x.cells) : w.rangeAt b (o + 3) (pairCells x.h0 x.h1) := (range_cons (range_cons (range_cons h).2).2).2
theorem index_pair {h : List UInt8} {cs : List Value} {k : Nat} {z : Int} (hz : z = (k : Int)) (hk : k < 2) (e : cs.toArray.extract (k * 32) (k * 32 + 32) = (cellsOf h).toArray) (W : World) : (Instr.index 28 (.agg cs.toArray) (.int .i64 z)).run Tryd.prog W = .ok (.agg (cellsOf h).toArray) W := by
  have e0 : (asIntOf (.int .i64 z)).run Tryd.prog W = .ok (.i64, z) W := rfl
  have e1 : (isAgg 23).run Tryd.prog W = .ok true W := by kernel_rfl
  have e2 : (sizeOf 23).run Tryd.prog W = .ok 32 W := by kernel_rfl
  have e3 : z.toNat * 32 = k * 32 := by rw [hz]; rfl
  simp only [Instr.index, Sem.run_bind, e0, run_underlying Tryd.underlying28, Result.andThen_ok]
  rw [if_pos (by omega)]
  simp only [Sem.run_bind, e2, Result.andThen_ok, e3, part, e1, if_true, Sem.run_pure, e]
theorem index_first {h0 h1 : List UInt8} (a : h0.length = 32) (W : World) : (Instr.index 28 (.agg (pairCells h0 h1).toArray) (.int .i64 0)).run Tryd.prog W = .ok (.agg (cellsOf h0).toArray) W := index_pair (k := 0) rfl (by omega) (by
  apply Array.toList_inj.1
  simp [pairCells, cellsOf_len, a]) W
theorem index_second {h0 h1 : List UInt8} (a : h0.length = 32) (b : h1.length = 32) (W : World) : (Instr.index 28 (.agg (pairCells h0 h1).toArray) (.int .i64 1)).run Tryd.prog W = .ok (.agg (cellsOf h1).toArray) W := index_pair (k := 1) rfl (by omega) (by
  apply Array.toList_inj.1
  simp [pairCells, cellsOf_len, a]
  exact List.take_of_length_le (by rw [cellsOf_len, b]; exact Nat.le_refl _)) W
theorem sum_zero14 : (Tryd.prog.info? 23).map (fun i => (i.zero, i.size, i.bytes)) = some (some (.agg (cellsOf zero32).toArray), 32, 32) := by kernel_rfl
def hashesOk (h0 h1 : List UInt8) : Bool := !decide (h0 = zero32) && !decide (h1 = zero32)
def comesOk (n a b : Int) : Bool := (addFrom 0 [a, b]).2 == 0 && (addFrom 0 [a, b]).1 == n
theorem comesOk_is {n a b : Int} (hn : n ≤ 1125899906842624) : comesOk n a b = decide (0 ≤ a ∧ a ≤ 1125899906842624 ∧ 0 ≤ b ∧ b ≤ 1125899906842624 ∧ a + b = n) := by
  by_cases h1 : a < 0 ∨ 1125899906842624 < a
  · rw [comesOk, addFrom_bad h1, decide_eq_false (by omega)]; rfl
  · by_cases h2 : b < 0 ∨ 1125899906842624 < b
    · rw [comesOk, addFrom_more (by omega) (by omega) (by omega), addFrom_bad h2, decide_eq_false (by omega)]; rfl
    · by_cases h3 : 1125899906842624 < 0 + a + b
      · rw [comesOk, addFrom_more (by omega) (by omega) (by omega), addFrom_over (by omega) (by omega) h3, decide_eq_false (by omega)]; rfl
      · rw [comesOk, addFrom_more (by omega) (by omega) (by omega), addFrom_more (by omega) (by omega) (by omega), Bool.eq_iff_iff]
        simp [addFrom]
        omega
theorem stateOk_is (c : PChan) (s : PState) : stateOk c s = (chanOk c && ((decide (0 ≤ s.n) && decide (s.n ≤ 1048576)) && (hashesOk s.h0 s.h1 && comesOk c.cap s.client s.peer))) := by
  cases h : chanOk c
  · simp [stateOk, h]
  · rw [comesOk_is (by simp [chanOk] at h; omega)]
    simp [stateOk, h, hashesOk, Bool.and_assoc]
set_option linter.unusedSimpArgs false in
set_option maxRecDepth 100000 in
set_option maxHeartbeats 6400000 in
theorem rightHashes_any (w : World) {h0 h1 : List UInt8} (a : h0.length = 32) (b : h1.length = 32) : Calls Tryd.prog 24 #[.agg (pairCells h0 h1).toArray] w fun e w' => e = .returned (.bool (hashesOk h0 h1)) ∧ Below w.heap.size w w' := by
  obtain ⟨Z0, hz0⟩ : ∃ Z0, decide (h0 = zero32) = Z0 := ⟨_, rfl⟩
  obtain ⟨Z1, hz1⟩ : ∃ Z1, decide (h1 = zero32) = Z1 := ⟨_, rfl⟩
  have Q0 : Hid (∀ W : World, (Op.equalIn 10000 23 (.agg (cellsOf h0).toArray) (.agg (cellsOf zero32).toArray)).run Tryd.prog W = .ok Z0 W) := Lib.hid fun W => by rw [← hz0]; exact run_eqSums h0 zero32 a rfl W
  have Q1 : Hid (∀ W : World, (Op.equalIn 10000 23 (.agg (cellsOf h1).toArray) (.agg (cellsOf zero32).toArray)).run Tryd.prog W = .ok Z1 W) := Lib.hid fun W => by rw [← hz1]; exact run_eqSums h1 zero32 b rfl W
  have HZ0 := Lib.hid hz0
  have HZ1 := Lib.hid hz1
  have CL0 : Hid ((cellsOf h0).length = 32) := Lib.hid (by rw [cellsOf_len, a])
  have CL1 : Hid ((cellsOf h1).length = 32) := Lib.hid (by rw [cellsOf_len, b])
  have AZ0 := Lib.hid (size_of a)
  have AZ1 := Lib.hid (size_of b)
  have SZ : Hid ((Tryd.prog.info? 28).map (·.size) = some (pairCells h0 h1).toArray.size) := Lib.hid (by rw [List.size_toArray]; exact sizePair a b)
  obtain ⟨X, hX, i0, i1⟩ : ∃ X, (pairCells h0 h1).toArray = X ∧ (∀ W : World, (Instr.index 28 (.agg X) (.int .i64 0)).run Tryd.prog W = .ok (.agg (cellsOf h0).toArray) W) ∧ (∀ W : World, (Instr.index 28 (.agg X) (.int .i64 1)).run Tryd.prog W = .ok (.agg (cellsOf h1).toArray) W) := ⟨_, rfl, fun W => index_first a W, fun W => index_second a b W⟩
  rw [hX] at SZ ⊢
  have I0 := Lib.hid i0
  have I1 := Lib.hid i1
  clear hz0 hz1 a b i0 i1 hX
  go_enter Tryd.func24, Tryd.ntmps24
  go_upto_region 1 with (fail)
  have b1 : Below w.heap.size w (w.alloc (.cells X 28)) := (Below.refl _ _).alloc (Nat.le_refl _) _
  have h1 := heap_alloc_new w (.cells X 28)
  revert b1 h1
  generalize (w.alloc (.cells X 28)) = w1
  obtain ⟨g, hg⟩ : ∃ g, g = w.heap.size := ⟨_, rfl⟩
  rw [← hg]
  intro b1 hx1
  rw [hg] at b1
  have HB := Lib.hid b1
  have H1 := Lib.hid hx1
  clear b1 hx1 hg
  go_wp2_with (first | (refine wpList_load_row rfl 28 _ rfl g rfl 28 X (0, 0) _ H1.out Tryd.underlying28 rfl SZ.out ?_) | fail)
  go_loopw [6] (fun i wr => ∃ j : Nat, j ≤ 2 ∧ i = .int .i64 j ∧ (1 ≤ j → Z0 = false) ∧ (2 ≤ j → Z1 = false) ∧ Below w.heap.size w wr) (fun i _ => 2 - (intOf i).toNat)
  case atStart => exact ⟨0, by omega, rfl, fun h => absurd h (by omega), fun h => absurd h (by omega), HB.out⟩
  case round =>
    obtain ⟨j, hj, rfl, hk0, hk1, hb2⟩ := hrel
    have HB2 := Lib.hid hb2
    clear hb2
    rcases (show j = 0 ∨ j = 1 ∨ j = 2 by omega) with rfl | rfl | rfl
    · have iW := I0.out
      have qW := Q0.out
      clear I0 I1 Q0 Q1
      cases Z0
      · go_wp2_with (first | (refine wpList_var rfl rfl 23 rfl _ _ rfl (cellsOf zero32).toArray sum_zero14 rfl (cellsOf h0) (fun _ => rfl) (fun _ => rfl) CL0.out (cellsOf_one h0) ?_; intro p w3 hq hh hb; go_frame; have HP := Lib.hid hh; have HB3 := Lib.hid (bthen HB2.out hb); clear hq hh hb) | (refine wpList_load_row rfl 23 _ rfl p rfl 23 (cellsOf h0).toArray (0, 0) _ HP.out Tryd.underlying23 rfl AZ0.out ?_) | (refine wpList_build10 rfl rfl (vs := []) rfl build_zero14 ?_; go_frame) | fail)
        go_roundw
        case rel => exact ⟨1, by omega, rfl, fun _ => by simp, fun h => absurd h (by omega), HB3.out⟩
        case measure => simp [intOf]; try omega
      · go_wp2_with (first | (refine wpList_var rfl rfl 23 rfl _ _ rfl (cellsOf zero32).toArray sum_zero14 rfl (cellsOf h0) (fun _ => rfl) (fun _ => rfl) CL0.out (cellsOf_one h0) ?_; intro p w3 hq hh hb; go_frame; have HP := Lib.hid hh; have HB3 := Lib.hid (bthen HB2.out hb); clear hq hh hb) | (refine wpList_load_row rfl 23 _ rfl p rfl 23 (cellsOf h0).toArray (0, 0) _ HP.out Tryd.underlying23 rfl AZ0.out ?_) | (refine wpList_build10 rfl rfl (vs := []) rfl build_zero14 ?_; go_frame) | fail)
        go_ret
        exact ⟨by rw [hashesOk, HZ0.out]; simp, HB3.out⟩
    · have iW := I1.out
      have qW := Q1.out
      clear I0 I1 Q0 Q1
      cases Z1
      · go_wp2_with (first | (refine wpList_var rfl rfl 23 rfl _ _ rfl (cellsOf zero32).toArray sum_zero14 rfl (cellsOf h1) (fun _ => rfl) (fun _ => rfl) CL1.out (cellsOf_one h1) ?_; intro p w3 hq hh hb; go_frame; have HP := Lib.hid hh; have HB3 := Lib.hid (bthen HB2.out hb); clear hq hh hb) | (refine wpList_load_row rfl 23 _ rfl p rfl 23 (cellsOf h1).toArray (0, 0) _ HP.out Tryd.underlying23 rfl AZ1.out ?_) | (refine wpList_build10 rfl rfl (vs := []) rfl build_zero14 ?_; go_frame) | fail)
        go_roundw
        case rel => exact ⟨2, by omega, rfl, fun _ => hk0 (by omega), fun _ => by simp, HB3.out⟩
        case measure => simp [intOf]; try omega
      · go_wp2_with (first | (refine wpList_var rfl rfl 23 rfl _ _ rfl (cellsOf zero32).toArray sum_zero14 rfl (cellsOf h1) (fun _ => rfl) (fun _ => rfl) CL1.out (cellsOf_one h1) ?_; intro p w3 hq hh hb; go_frame; have HP := Lib.hid hh; have HB3 := Lib.hid (bthen HB2.out hb); clear hq hh hb) | (refine wpList_load_row rfl 23 _ rfl p rfl 23 (cellsOf h1).toArray (0, 0) _ HP.out Tryd.underlying23 rfl AZ1.out ?_) | (refine wpList_build10 rfl rfl (vs := []) rfl build_zero14 ?_; go_frame) | fail)
        go_ret
        exact ⟨by rw [hashesOk, HZ1.out]; simp, HB3.out⟩
    · have z0 := hk0 (by omega)
      have z1 := hk1 (by omega)
      subst z0 z1
      go_wp2_with fail
      go_ret
      exact ⟨by rw [hashesOk, HZ0.out, HZ1.out]; rfl, HB2.out⟩
set_option linter.unusedSimpArgs false in
set_option maxRecDepth 100000 in
set_option maxHeartbeats 6400000 in
theorem comesTo_any (w : World) {n : Int} {x : PState} (hx : StateIn x) : Calls Tryd.prog 25 #[.int .i64 n, .agg x.cells.toArray] w fun e w' => e = .returned (.bool (comesOk n x.client x.peer)) ∧ Below w.heap.size w w' := by
  obtain ⟨P, E, u1, u2, hu1, hu2, hc, hadd⟩ : ∃ (P E : Int) (u1 u2 : Bool), (E == 0) = u1 ∧ (P == n) = u2 ∧ comesOk n x.client x.peer = (u1 && u2) ∧ ∀ (W : World) (g : Nat), W.heap[g]? = some (.cells #[.int .i64 x.client, .int .i64 x.peer] 2 (0, 0)) → Calls Tryd.prog 32 #[.slice (some ⟨g, 0, none⟩) 2 2] W fun e w' => e = .returned (.tuple #[.int .i64 P, .int .i64 E]) ∧ Below W.heap.size W w' := ⟨_, _, _, _, rfl, rfl, rfl, fun W g h => add_any (numbers_two h hx.client hx.peer)⟩
  have HR := Lib.hid hc
  have HA := Lib.hid hadd
  have HX := Lib.hid hx
  clear hc hadd hx
  go_enter Tryd.func25, Tryd.ntmps25
  go_upto_region 1 with (fail)
  have b1 : Below w.heap.size w (w.alloc (.cells x.cells.toArray 30)) := (Below.refl _ _).alloc (Nat.le_refl _) _
  have h1 := heap_alloc_new w (.cells x.cells.toArray 30)
  revert b1 h1
  generalize (w.alloc (.cells x.cells.toArray 30)) = w1
  obtain ⟨g, hg⟩ : ∃ g, g = w.heap.size := ⟨_, rfl⟩
  rw [← hg]
  intro b1 h1
  rw [hg] at b1
  have HB := Lib.hid b1
  have hat := state_at HX.out (range_of h1)
  have c1 := hat.client
  have c2 := hat.peer
  rw [Nat.zero_add] at c1 c2
  clear hat
  obtain ⟨X, hX⟩ : ∃ X, x.cells.toArray = X := ⟨_, rfl⟩
  rw [hX]
  clear h1 hg b1 hX
  go_wp2_with fail
  have b2 : Below w1.heap.size w1 (w1.alloc (.cells #[.int .i64 x.client, .int .i64 x.peer] 2)) := (Below.refl _ _).alloc (Nat.le_refl _) _
  refine (HA.out _ w1.heap.size (heap_alloc_new _ _)).mono ?_
  rintro e w3 ⟨rfl, hb⟩
  have HB3 := Lib.hid (bthen HB.out (bthen b2 hb))
  clear b2 hb HA HB
  cases u1
  · go_wp2_with fail
    go_ret
    exact ⟨by rw [HR.out]; simp, HB3.out⟩
  · cases u2
    · go_wp2_with fail
      go_ret
      exact ⟨by rw [HR.out]; simp, HB3.out⟩
    · go_wp2_with fail
      go_ret
      exact ⟨by rw [HR.out]; simp, HB3.out⟩
set_option linter.unusedSimpArgs false in
set_option maxRecDepth 100000 in
set_option maxHeartbeats 6400000 in
theorem rightState_any (w : World) {c : PChan} {s : PState} (hf : c.ftx.length = 32) (hs : StateIn s) : Calls Tryd.prog 8 #[.agg c.cells.toArray, .agg s.cells.toArray] w fun e w' => e = .returned (.bool (stateOk c s)) ∧ Below w.heap.size w w' := by
  obtain ⟨u2, hu2, ku2⟩ : ∃ u, (decide (0 ≤ s.n) && decide (s.n ≤ 1048576)) = u ∧ ∀ W : World, Calls Tryd.prog 20 #[.int .i64 (s.n), .int .i64 1048576] W fun e w' => e = .returned (.bool u) ∧ W = w' := ⟨_, rfl, fun W => comupto_any W _ _⟩
  have Ku2 := Lib.hid ku2
  obtain ⟨u1, hu1, ku1⟩ : ∃ u, chanOk c = u ∧ ∀ W : World, Calls Tryd.prog 6 #[.agg c.cells.toArray] W fun e w' => e = .returned (.bool u) ∧ Below W.heap.size W w' := ⟨_, rfl, fun W => rightChannel_any W hf⟩
  obtain ⟨u3, hu3, ku3⟩ : ∃ u, hashesOk s.h0 s.h1 = u ∧ ∀ W : World, Calls Tryd.prog 24 #[.agg (pairCells s.h0 s.h1).toArray] W fun e w' => e = .returned (.bool u) ∧ Below W.heap.size W w' := ⟨_, rfl, fun W => rightHashes_any W hs.h0 hs.h1⟩
  obtain ⟨u4, hu4, ku4⟩ : ∃ u, comesOk c.cap s.client s.peer = u ∧ ∀ W : World, Calls Tryd.prog 25 #[.int .i64 c.cap, .agg s.cells.toArray] W fun e w' => e = .returned (.bool u) ∧ Below W.heap.size W w' := ⟨_, rfl, fun W => comesTo_any W hs⟩
  have HR : Hid (stateOk c s = (u1 && (u2 && (u3 && u4)))) := Lib.hid (by rw [← hu1, ← hu2, ← hu3, ← hu4]; exact stateOk_is c s)
  have HRC := Lib.hid ku1
  have HRH := Lib.hid ku3
  have HRT := Lib.hid ku4
  have HF := Lib.hid hf
  have HS := Lib.hid hs
  have SZC := Lib.hid (chan_sizeA hf)
  have SZS := Lib.hid (state_size hs)
  have SZP := Lib.hid (sizePair hs.h0 hs.h1)
  clear hu1 hu2 hu3 hu4 ku1 ku2 ku3 ku4 hf hs
  go_enter Tryd.func8, Tryd.ntmps8
  go_upto_region 1 with (fail)
  have b1 : Below w.heap.size w ((w.alloc (.cells c.cells.toArray 27)).alloc (.cells s.cells.toArray 30)) := ((Below.refl _ _).alloc (Nat.le_refl _) _).alloc (by simp) _
  have h1 : ((w.alloc (.cells c.cells.toArray 27)).alloc (.cells s.cells.toArray 30)).heap[w.heap.size]? = some (.cells c.cells.toArray 27 (0, 0)) := by
    rw [heap_alloc_old _ _ (by simp), heap_alloc_new]
  have h2 : ((w.alloc (.cells c.cells.toArray 27)).alloc (.cells s.cells.toArray 30)).heap[w.heap.size + 1]? = some (.cells s.cells.toArray 30 (0, 0)) := heap_alloc_at _ _ _ (by simp)
  revert b1 h1 h2
  generalize ((w.alloc (.cells c.cells.toArray 27)).alloc (.cells s.cells.toArray 30)) = w1
  obtain ⟨g, hg⟩ : ∃ g, g = w.heap.size := ⟨_, rfl⟩
  rw [← hg]
  intro b1 h1 h2
  rw [hg] at b1
  have HB1 := Lib.hid b1
  have H1 := Lib.hid h1
  have H2 := Lib.hid h2
  clear b1 h1 h2 hg
  cases u1
  · go_wp2_with (first | (refine wpList_load_row rfl 27 _ rfl g rfl 27 c.cells.toArray (0, 0) _ H1.out Tryd.underlying27 rfl SZC.out ?_) | (go_at_call 6; (with_reducible refine (HRC.out _).mono ?_); rintro e w2 ⟨rfl, hb⟩; have HB2 := Lib.hid (bthen HB1.out hb); have c0 := (state_at HS.out (range_of (keep hb H2.out))).n; have RP := Lib.hid (state_pair (range_of (keep hb H2.out))); rw [Nat.zero_add] at RP; have H12 := Lib.hid (keep hb H1.out); have H22 := Lib.hid (keep hb H2.out); clear hb) | fail)
    go_ret
    exact ⟨by rw [HR.out]; simp, HB2.out⟩
  · cases u2
    · go_wp2_with (first | (refine wpList_load_row rfl 27 _ rfl g rfl 27 c.cells.toArray (0, 0) _ H1.out Tryd.underlying27 rfl SZC.out ?_) | (go_at_call 6; (with_reducible refine (HRC.out _).mono ?_); rintro e w2 ⟨rfl, hb⟩; have HB2 := Lib.hid (bthen HB1.out hb); have c0 := (state_at HS.out (range_of (keep hb H2.out))).n; have RP := Lib.hid (state_pair (range_of (keep hb H2.out))); rw [Nat.zero_add] at RP; have H12 := Lib.hid (keep hb H1.out); have H22 := Lib.hid (keep hb H2.out); clear hb) | (go_at_call 20; (first | (with_reducible refine (Ku2.out _).mono ?_)); rintro e w2 ⟨rfl, rfl⟩) | fail)
      go_ret
      exact ⟨by rw [HR.out]; simp, HB2.out⟩
    · cases u3
      · go_wp2_with (first | (refine wpList_load_row rfl 27 _ rfl g rfl 27 c.cells.toArray (0, 0) _ H1.out Tryd.underlying27 rfl SZC.out ?_) | (go_at_call 6; (with_reducible refine (HRC.out _).mono ?_); rintro e w2 ⟨rfl, hb⟩; have HB2 := Lib.hid (bthen HB1.out hb); have c0 := (state_at HS.out (range_of (keep hb H2.out))).n; have RP := Lib.hid (state_pair (range_of (keep hb H2.out))); rw [Nat.zero_add] at RP; have H12 := Lib.hid (keep hb H1.out); have H22 := Lib.hid (keep hb H2.out); clear hb) | (go_at_call 20; (first | (with_reducible refine (Ku2.out _).mono ?_)); rintro e w2 ⟨rfl, rfl⟩) | (refine wpList_mid_wanted (by rfl) 28 _ rfl (g + 1) 3 rfl (pairCells s.h0 s.h1) _ RP.out Tryd.underlying28 rfl SZP.out ?_) | (go_at_call 24; (with_reducible refine (HRH.out _).mono ?_); rintro e w3 ⟨rfl, hb⟩; have HB3 := Lib.hid (bthen HB2.out hb); have c36 := (chan_at HF.out (range_of (keep hb H12.out))).cap; rw [Nat.zero_add] at c36; have RS := Lib.hid (range_of (keep hb H22.out)); clear hb) | fail)
        go_ret
        exact ⟨by rw [HR.out]; simp, HB3.out⟩
      · cases u4
        · go_wp2_with (first | (refine wpList_load_row rfl 27 _ rfl g rfl 27 c.cells.toArray (0, 0) _ H1.out Tryd.underlying27 rfl SZC.out ?_) | (go_at_call 6; (with_reducible refine (HRC.out _).mono ?_); rintro e w2 ⟨rfl, hb⟩; have HB2 := Lib.hid (bthen HB1.out hb); have c0 := (state_at HS.out (range_of (keep hb H2.out))).n; have RP := Lib.hid (state_pair (range_of (keep hb H2.out))); rw [Nat.zero_add] at RP; have H12 := Lib.hid (keep hb H1.out); have H22 := Lib.hid (keep hb H2.out); clear hb) | (go_at_call 20; (first | (with_reducible refine (Ku2.out _).mono ?_)); rintro e w2 ⟨rfl, rfl⟩) | (refine wpList_mid_wanted (by rfl) 28 _ rfl (g + 1) 3 rfl (pairCells s.h0 s.h1) _ RP.out Tryd.underlying28 rfl SZP.out ?_) | (go_at_call 24; (with_reducible refine (HRH.out _).mono ?_); rintro e w3 ⟨rfl, hb⟩; have HB3 := Lib.hid (bthen HB2.out hb); have c36 := (chan_at HF.out (range_of (keep hb H12.out))).cap; rw [Nat.zero_add] at c36; have RS := Lib.hid (range_of (keep hb H22.out)); clear hb) | (refine wpList_mid_wanted (by rfl) 30 _ rfl (g + 1) 0 rfl s.cells _ RS.out Tryd.underlying30 rfl SZS.out ?_) | (go_at_call 25; (with_reducible refine (HRT.out _).mono ?_); rintro e w4 ⟨rfl, hb⟩; have HB4 := Lib.hid (bthen HB3.out hb); clear hb) | fail)
          go_ret
          exact ⟨by rw [HR.out]; simp, HB4.out⟩
        · go_wp2_with (first | (refine wpList_load_row rfl 27 _ rfl g rfl 27 c.cells.toArray (0, 0) _ H1.out Tryd.underlying27 rfl SZC.out ?_) | (go_at_call 6; (with_reducible refine (HRC.out _).mono ?_); rintro e w2 ⟨rfl, hb⟩; have HB2 := Lib.hid (bthen HB1.out hb); have c0 := (state_at HS.out (range_of (keep hb H2.out))).n; have RP := Lib.hid (state_pair (range_of (keep hb H2.out))); rw [Nat.zero_add] at RP; have H12 := Lib.hid (keep hb H1.out); have H22 := Lib.hid (keep hb H2.out); clear hb) | (go_at_call 20; (first | (with_reducible refine (Ku2.out _).mono ?_)); rintro e w2 ⟨rfl, rfl⟩) | (refine wpList_mid_wanted (by rfl) 28 _ rfl (g + 1) 3 rfl (pairCells s.h0 s.h1) _ RP.out Tryd.underlying28 rfl SZP.out ?_) | (go_at_call 24; (with_reducible refine (HRH.out _).mono ?_); rintro e w3 ⟨rfl, hb⟩; have HB3 := Lib.hid (bthen HB2.out hb); have c36 := (chan_at HF.out (range_of (keep hb H12.out))).cap; rw [Nat.zero_add] at c36; have RS := Lib.hid (range_of (keep hb H22.out)); clear hb) | (refine wpList_mid_wanted (by rfl) 30 _ rfl (g + 1) 0 rfl s.cells _ RS.out Tryd.underlying30 rfl SZS.out ?_) | (go_at_call 25; (with_reducible refine (HRT.out _).mono ?_); rintro e w4 ⟨rfl, hb⟩; have HB4 := Lib.hid (bthen HB3.out hb); clear hb) | fail)
          go_ret
          exact ⟨by rw [HR.out]; simp, HB4.out⟩
end Go.Proofs.YtkihmhchdenamaaDoor
