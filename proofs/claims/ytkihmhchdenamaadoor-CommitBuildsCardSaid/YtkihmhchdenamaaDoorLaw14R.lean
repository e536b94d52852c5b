/- What law 14's right comes to. -/
import Derived.Test.YtkihmhchdenamaaDoorLaw14
namespace Go.Proofs.YtkihmhchdenamaaDoor
open Go.RowKit

set_option linter.unusedSimpArgs false in
set_option maxRecDepth 100000 in
set_option maxHeartbeats 6400000 in
theorem right_law {w : World} {c : PChan} {s : PState} (hc : ChanIn c) (hs : StateIn s) : Calls Tryd.prog 9 #[.agg c.cells.toArray, .agg s.cells.toArray] w fun e w' => e = .returned (.bool (stateOk c s)) ∧ Below w.heap.size w w' := by
  obtain ⟨R, hR⟩ : ∃ R, chanOk c = R := ⟨_, rfl⟩
  have HR := Lib.hid hR
  have HRC : Hid (∀ W : World, Calls Tryd.prog 7 #[.agg c.cells.toArray] W fun e w' => e = .returned (.bool R) ∧ Below W.heap.size W w') := Lib.hid fun W => by rw [← hR]; exact rightChannel_law W hc.ftx
  have SZC := Lib.hid (chan_sizeA hc.ftx)
  clear hR
  go_enter Tryd.func9, Tryd.ntmps9
  go_upto_region 1 with (fail)
  have b1 : Below w.heap.size w ((w.alloc (.cells c.cells.toArray 27)).alloc (.cells s.cells.toArray 30)) := ((Below.refl _ _).alloc (Nat.le_refl _) _).alloc (by simp) _
  have h1 : ((w.alloc (.cells c.cells.toArray 27)).alloc (.cells s.cells.toArray 30)).heap[w.heap.size]? = some (.cells c.cells.toArray 27 (0, 0)) := by
    rw [heap_alloc_old _ _ (by simp), heap_alloc_new]
  have h2 : ((w.alloc (.cells c.cells.toArray 27)).alloc (.cells s.cells.toArray 30)).heap[w.heap.size + 1]? = some (.cells s.cells.toArray 30 (0, 0)) := heap_alloc_at _ _ _ (by simp)
  revert b1 h1 h2
  generalize ((w.alloc (.cells c.cells.toArray 27)).alloc (.cells s.cells.toArray 30)) = w1
  obtain ⟨g, hg⟩ : ∃ g, g = w.heap.size := ⟨_, rfl⟩
  rw [← hg]
  intro b1 h1 h2
  rw [hg] at b1
  have HB1 := Lib.hid b1
  have H1 := Lib.hid h1
  have H2 := Lib.hid h2
  clear b1 h1 h2 hg
  go_wp2_with (first | (refine wpList_load_row rfl 27 _ rfl g rfl 27 c.cells.toArray (0, 0) _ H1.out Tryd.underlying27 rfl SZC.out ?_) | fail)
  refine (HRC.out _).mono ?_
  rintro e w2 ⟨rfl, hb⟩
  have HFIN := Lib.hid (bthen HB1.out hb)
  have hat := state_at hs (range_of (keep hb H2.out))
  have c0 := hat.n
  have c1 := hat.client
  have c2 := hat.peer
  have c36 := (chan_at hc.ftx (range_of (keep hb H1.out))).cap
  have r0 := hat.h0
  have r1 := hat.h1
  rw [Nat.zero_add] at c1 c2 c36 r0 r1
  obtain ⟨C, hC⟩ : ∃ C, c.cells.toArray = C := ⟨_, rfl⟩
  obtain ⟨X, hX⟩ : ∃ X, s.cells.toArray = X := ⟨_, rfl⟩
  rw [hC, hX]
  have hl0 := hs.h0
  have hl1 := hs.h1
  clear hat hC hX hb HRC SZC H1 H2 HB1 hs hc
  obtain ⟨n, client, peer, h0, h1⟩ := s
  obtain ⟨id, cl, pr, ftx, fat, cap, wait, window⟩ := c
  dsimp only at *
  obtain ⟨Z0, hz0⟩ : ∃ Z0, decide (h0 = zero32) = Z0 := ⟨_, rfl⟩
  obtain ⟨Z1, hz1⟩ : ∃ Z1, decide (h1 = zero32) = Z1 := ⟨_, rfl⟩
  have q0 : ∀ W : World, (Op.equalIn 10000 23 (.agg (cellsOf h0).toArray) (.agg (cellsOf zero32).toArray)).run Tryd.prog W = .ok Z0 W := fun W => by rw [← hz0]; exact run_eqSums h0 zero32 hl0 rfl W
  have q1 : ∀ W : World, (Op.equalIn 10000 23 (.agg (cellsOf h1).toArray) (.agg (cellsOf zero32).toArray)).run Tryd.prog W = .ok Z1 W := fun W => by rw [← hz1]; exact run_eqSums h1 zero32 hl1 rfl W
  have HZ0 := Lib.hid hz0
  have HZ1 := Lib.hid hz1
  have R0 := Lib.hid r0
  have R1 := Lib.hid r1
  have SZ0 : Hid ((Tryd.prog.info? 23).map (·.size) = some (cellsOf h0).length) := Lib.hid (by rw [cellsOf_len, hl0]; exact Tryd.size23)
  have SZ1 : Hid ((Tryd.prog.info? 23).map (·.size) = some (cellsOf h1).length) := Lib.hid (by rw [cellsOf_len, hl1]; exact Tryd.size23)
  clear hz0 hz1 r0 r1 hl0 hl1
  cases R
  · go_wp2_with fail
    go_ret
    exact ⟨by rw [stateOk_mk, HR.out]; rfl, HFIN.out⟩
  · by_cases a1 : n < 0
    · have ea1 : decide (n < 0) = true := decide_eq_true a1
      go_wp2_with fail
      go_ret
      exact ⟨by rw [stateOk_mk, HR.out, Bool.true_and, show decide (0 ≤ n ∧ n ≤ 1048576) = false from decide_eq_false (by omega)]; rfl, HFIN.out⟩
    · have ea1 : decide (n < 0) = false := decide_eq_false a1
      by_cases a2 : 1048576 < n
      · have ea2 : decide (1048576 < n) = true := decide_eq_true a2
        go_wp2_with fail
        go_ret
        exact ⟨by rw [stateOk_mk, HR.out, Bool.true_and, show decide (0 ≤ n ∧ n ≤ 1048576) = false from decide_eq_false (by omega)]; rfl, HFIN.out⟩
      · have ea2 : decide (1048576 < n) = false := decide_eq_false a2
        cases Z0
        · cases Z1
          · go_upto_region 3 with (go_big_may; first | (refine wpList_mid_wanted (by rfl) 23 _ rfl (g + 1) 3 rfl (cellsOf h0) _ R0.out Tryd.underlying23 rfl SZ0.out ?_) | (refine wpList_mid_wanted (by rfl) 23 _ rfl (g + 1) 35 rfl (cellsOf h1) _ R1.out Tryd.underlying23 rfl SZ1.out ?_) | (refine wpList_build_wanted (by rfl) rfl (vs := []) rfl build_zero14 ?_) | fail)
            by_cases d1 : 0 ≤ client
            · have ed1 : decide (0 ≤ client) = true := decide_eq_true d1
              by_cases d2 : client ≤ 1125899906842624
              · have ed2 : decide (client ≤ 1125899906842624) = true := decide_eq_true d2
                by_cases d3 : 0 ≤ peer
                · have ed3 : decide (0 ≤ peer) = true := decide_eq_true d3
                  by_cases d4 : peer ≤ 1125899906842624
                  · have ed4 : decide (peer ≤ 1125899906842624) = true := decide_eq_true d4
                    by_cases d5 : client + peer = cap
                    · have ed5 : (client + peer == cap) = true := by simp [d5]
                      go_wp2_with fail
                      go_ret
                      exact ⟨by rw [stateOk_mk, HR.out, Bool.true_and, show decide (0 ≤ n ∧ n ≤ 1048576) = true from decide_eq_true (by omega), HZ0.out, HZ1.out, show decide (0 ≤ client ∧ client ≤ 1125899906842624 ∧ 0 ≤ peer ∧ peer ≤ 1125899906842624 ∧ client + peer = cap) = true from decide_eq_true (by omega)]; rfl, HFIN.out⟩
                    · have ed5 : (client + peer == cap) = false := by simp [d5]
                      go_wp2_with fail
                      go_ret
                      exact ⟨by rw [stateOk_mk, HR.out, Bool.true_and, show decide (0 ≤ n ∧ n ≤ 1048576) = true from decide_eq_true (by omega), HZ0.out, HZ1.out, show decide (0 ≤ client ∧ client ≤ 1125899906842624 ∧ 0 ≤ peer ∧ peer ≤ 1125899906842624 ∧ client + peer = cap) = false from decide_eq_false (by omega)]; rfl, HFIN.out⟩
                  · have ed4 : decide (peer ≤ 1125899906842624) = false := decide_eq_false d4
                    go_wp2_with fail
                    go_ret
                    exact ⟨by rw [stateOk_mk, HR.out, Bool.true_and, show decide (0 ≤ n ∧ n ≤ 1048576) = true from decide_eq_true (by omega), HZ0.out, HZ1.out, show decide (0 ≤ client ∧ client ≤ 1125899906842624 ∧ 0 ≤ peer ∧ peer ≤ 1125899906842624 ∧ client + peer = cap) = false from decide_eq_false (by omega)]; rfl, HFIN.out⟩
                · have ed3 : decide (0 ≤ peer) = false := decide_eq_false d3
                  go_wp2_with fail
                  go_ret
                  exact ⟨by rw [stateOk_mk, HR.out, Bool.true_and, show decide (0 ≤ n ∧ n ≤ 1048576) = true from decide_eq_true (by omega), HZ0.out, HZ1.out, show decide (0 ≤ client ∧ client ≤ 1125899906842624 ∧ 0 ≤ peer ∧ peer ≤ 1125899906842624 ∧ client + peer = cap) = false from decide_eq_false (by omega)]; rfl, HFIN.out⟩
              · have ed2 : decide (client ≤ 1125899906842624) = false := decide_eq_false d2
                go_wp2_with fail
                go_ret
                exact ⟨by rw [stateOk_mk, HR.out, Bool.true_and, show decide (0 ≤ n ∧ n ≤ 1048576) = true from decide_eq_true (by omega), HZ0.out, HZ1.out, show decide (0 ≤ client ∧ client ≤ 1125899906842624 ∧ 0 ≤ peer ∧ peer ≤ 1125899906842624 ∧ client + peer = cap) = false from decide_eq_false (by omega)]; rfl, HFIN.out⟩
            · have ed1 : decide (0 ≤ client) = false := decide_eq_false d1
              go_wp2_with fail
              go_ret
              exact ⟨by rw [stateOk_mk, HR.out, Bool.true_and, show decide (0 ≤ n ∧ n ≤ 1048576) = true from decide_eq_true (by omega), HZ0.out, HZ1.out, show decide (0 ≤ client ∧ client ≤ 1125899906842624 ∧ 0 ≤ peer ∧ peer ≤ 1125899906842624 ∧ client + peer = cap) = false from decide_eq_false (by omega)]; rfl, HFIN.out⟩
          · go_wp2_with (first | (refine wpList_mid_wanted (by rfl) 23 _ rfl (g + 1) 3 rfl (cellsOf h0) _ R0.out Tryd.underlying23 rfl SZ0.out ?_) | (refine wpList_mid_wanted (by rfl) 23 _ rfl (g + 1) 35 rfl (cellsOf h1) _ R1.out Tryd.underlying23 rfl SZ1.out ?_) | (refine wpList_build_wanted (by rfl) rfl (vs := []) rfl build_zero14 ?_) | fail)
            go_ret
            exact ⟨by rw [stateOk_mk, HR.out, Bool.true_and, show decide (0 ≤ n ∧ n ≤ 1048576) = true from decide_eq_true (by omega), HZ0.out, HZ1.out]; rfl, HFIN.out⟩
        · go_wp2_with (first | (refine wpList_mid_wanted (by rfl) 23 _ rfl (g + 1) 3 rfl (cellsOf h0) _ R0.out Tryd.underlying23 rfl SZ0.out ?_) | (refine wpList_build_wanted (by rfl) rfl (vs := []) rfl build_zero14 ?_) | fail)
          go_ret
          exact ⟨by rw [stateOk_mk, HR.out, Bool.true_and, show decide (0 ≤ n ∧ n ≤ 1048576) = true from decide_eq_true (by omega), HZ0.out]; rfl, HFIN.out⟩
end Go.Proofs.YtkihmhchdenamaaDoor
