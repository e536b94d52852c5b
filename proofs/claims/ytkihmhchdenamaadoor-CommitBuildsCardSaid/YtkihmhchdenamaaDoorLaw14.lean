/- What law 14's rightChannel and right come to. -/
import Derived.Test.YtkihmhchdenamaaDoorStateMem
import Derived.Test.YtkihmhchdenamaaDoorSteps
import Derived.Test.YtkihmhchdenamaaDoorWanted
namespace Go.Proofs.YtkihmhchdenamaaDoor
open Go.RowKit

/-- May a channel be? -/
def chanOk (x : PChan) : Bool := decide (0 ≤ x.id ∧ x.id ≤ 1048576 ∧ 0 ≤ x.client ∧ x.client ≤ 255 ∧ 0 ≤ x.peer ∧ x.peer ≤ 255 ∧ x.client ≠ x.peer ∧ 1 ≤ x.cap ∧ x.cap ≤ 1125899906842624 ∧ 1 ≤ x.window ∧ x.window < x.wait ∧ x.wait ≤ 65536 ∧ 0 ≤ x.fat ∧ x.fat ≤ 15)
theorem chanOk_mk (id client peer : Int) (ftx : List UInt8) (fat cap wait window : Int) : chanOk ⟨id, client, peer, ftx, fat, cap, wait, window⟩ = decide (0 ≤ id ∧ id ≤ 1048576 ∧ 0 ≤ client ∧ client ≤ 255 ∧ 0 ≤ peer ∧ peer ≤ 255 ∧ client ≠ peer ∧ 1 ≤ cap ∧ cap ≤ 1125899906842624 ∧ 1 ≤ window ∧ window < wait ∧ wait ≤ 65536 ∧ 0 ≤ fat ∧ fat ≤ 15) := rfl
/-- May a state be of a channel? -/
def stateOk (c : PChan) (s : PState) : Bool := chanOk c && (decide (0 ≤ s.n ∧ s.n ≤ 1048576) && (!decide (s.h0 = zero32) && (!decide (s.h1 = zero32) && decide (0 ≤ s.client ∧ s.client ≤ 1125899906842624 ∧ 0 ≤ s.peer ∧ s.peer ≤ 1125899906842624 ∧ s.client + s.peer = c.cap))))
theorem stateOk_mk (c : PChan) (n client peer : Int) (h0 h1 : List UInt8) : stateOk c ⟨n, client, peer, h0, h1⟩ = (chanOk c && (decide (0 ≤ n ∧ n ≤ 1048576) && (!decide (h0 = zero32) && (!decide (h1 = zero32) && decide (0 ≤ client ∧ client ≤ 1125899906842624 ∧ 0 ≤ peer ∧ peer ≤ 1125899906842624 ∧ client + peer = c.cap))))) := rfl
theorem build_zero14 (w : World) : (Instr.build 23 ([] : List (Nat × Value)).toArray).run Tryd.prog w = .ok (.agg (cellsOf zero32).toArray) w := by kernel_rfl
set_option linter.unusedSimpArgs false in
set_option maxRecDepth 100000 in
set_option maxHeartbeats 6400000 in
theorem rightChannel_law (w : World) {x : PChan} (hf : x.ftx.length = 32) : Calls Tryd.prog 7 #[.agg x.cells.toArray] w fun e w' => e = .returned (.bool (chanOk x)) ∧ Below w.heap.size w w' := by
  go_enter Tryd.func7, Tryd.ntmps7
  go_upto_region 1 with (fail)
  have b1 : Below w.heap.size w (w.alloc (.cells x.cells.toArray 27)) := (Below.refl _ _).alloc (Nat.le_refl _) _
  have h1 := heap_alloc_new w (.cells x.cells.toArray 27)
  revert b1 h1
  generalize (w.alloc (.cells x.cells.toArray 27)) = w1
  obtain ⟨g, hg⟩ : ∃ g, g = w.heap.size := ⟨_, rfl⟩
  rw [← hg]
  intro b1 h1
  rw [hg] at b1
  have HB := Lib.hid b1
  have hat := chan_at hf (range_of h1)
  have c0 := hat.id
  have c1 := hat.client
  have c2 := hat.peer
  have c35 := hat.fat
  have c36 := hat.cap
  have c37 := hat.wait
  have c38 := hat.window
  rw [Nat.zero_add] at c1 c2 c35 c36 c37 c38
  obtain ⟨X, hX⟩ : ∃ X, x.cells.toArray = X := ⟨_, rfl⟩
  rw [hX]
  clear hat h1 hg b1 hX
  obtain ⟨id, client, peer, ftx, fat, cap, wait, window⟩ := x
  dsimp only at *
  by_cases a1 : id < 0
  · have ea1 : decide (id < 0) = true := decide_eq_true a1
    go_wp2_with fail
    go_ret
    exact ⟨by rw [chanOk_mk, decide_eq_false (by omega)]; rfl, HB.out⟩
  · have ea1 : decide (id < 0) = false := decide_eq_false a1
    by_cases a2 : 1048576 < id
    · have ea2 : decide (1048576 < id) = true := decide_eq_true a2
      go_wp2_with fail
      go_ret
      exact ⟨by rw [chanOk_mk, decide_eq_false (by omega)]; rfl, HB.out⟩
    · have ea2 : decide (1048576 < id) = false := decide_eq_false a2
      by_cases a3 : client < 0
      · have ea3 : decide (client < 0) = true := decide_eq_true a3
        go_wp2_with fail
        go_ret
        exact ⟨by rw [chanOk_mk, decide_eq_false (by omega)]; rfl, HB.out⟩
      · have ea3 : decide (client < 0) = false := decide_eq_false a3
        by_cases a4 : 255 < client
        · have ea4 : decide (255 < client) = true := decide_eq_true a4
          go_wp2_with fail
          go_ret
          exact ⟨by rw [chanOk_mk, decide_eq_false (by omega)]; rfl, HB.out⟩
        · have ea4 : decide (255 < client) = false := decide_eq_false a4
          by_cases a5 : peer < 0
          · have ea5 : decide (peer < 0) = true := decide_eq_true a5
            go_wp2_with fail
            go_ret
            exact ⟨by rw [chanOk_mk, decide_eq_false (by omega)]; rfl, HB.out⟩
          · have ea5 : decide (peer < 0) = false := decide_eq_false a5
            by_cases a6 : 255 < peer
            · have ea6 : decide (255 < peer) = true := decide_eq_true a6
              go_wp2_with fail
              go_ret
              exact ⟨by rw [chanOk_mk, decide_eq_false (by omega)]; rfl, HB.out⟩
            · have ea6 : decide (255 < peer) = false := decide_eq_false a6
              by_cases a7 : client = peer
              · have ea7 : (client == peer) = true := by simp [a7]
                go_wp2_with fail
                go_ret
                exact ⟨by rw [chanOk_mk, decide_eq_false (by omega)]; rfl, HB.out⟩
              · have ea7 : (client == peer) = false := by simp [a7]
                by_cases b1 : 1 ≤ cap
                · have eb1 : decide (1 ≤ cap) = true := decide_eq_true b1
                  by_cases b2 : cap ≤ 1125899906842624
                  · have eb2 : decide (cap ≤ 1125899906842624) = true := decide_eq_true b2
                    by_cases b3 : 1 ≤ window
                    · have eb3 : decide (1 ≤ window) = true := decide_eq_true b3
                      by_cases b4 : window < wait
                      · have eb4 : decide (window < wait) = true := decide_eq_true b4
                        by_cases b5 : wait ≤ 65536
                        · have eb5 : decide (wait ≤ 65536) = true := decide_eq_true b5
                          by_cases b6 : 0 ≤ fat
                          · have eb6 : decide (0 ≤ fat) = true := decide_eq_true b6
                            by_cases b7 : fat ≤ 15
                            · have eb7 : decide (fat ≤ 15) = true := decide_eq_true b7
                              go_wp2_with fail
                              go_ret
                              exact ⟨by rw [chanOk_mk, decide_eq_true (by omega)]; rfl, HB.out⟩
                            · have eb7 : decide (fat ≤ 15) = false := decide_eq_false b7
                              go_wp2_with fail
                              go_ret
                              exact ⟨by rw [chanOk_mk, decide_eq_false (by omega)]; rfl, HB.out⟩
                          · have eb6 : decide (0 ≤ fat) = false := decide_eq_false b6
                            go_wp2_with fail
                            go_ret
                            exact ⟨by rw [chanOk_mk, decide_eq_false (by omega)]; rfl, HB.out⟩
                        · have eb5 : decide (wait ≤ 65536) = false := decide_eq_false b5
                          go_wp2_with fail
                          go_ret
                          exact ⟨by rw [chanOk_mk, decide_eq_false (by omega)]; rfl, HB.out⟩
                      · have eb4 : decide (window < wait) = false := decide_eq_false b4
                        go_wp2_with fail
                        go_ret
                        exact ⟨by rw [chanOk_mk, decide_eq_false (by omega)]; rfl, HB.out⟩
                    · have eb3 : decide (1 ≤ window) = false := decide_eq_false b3
                      go_wp2_with fail
                      go_ret
                      exact ⟨by rw [chanOk_mk, decide_eq_false (by omega)]; rfl, HB.out⟩
                  · have eb2 : decide (cap ≤ 1125899906842624) = false := decide_eq_false b2
                    go_wp2_with fail
                    go_ret
                    exact ⟨by rw [chanOk_mk, decide_eq_false (by omega)]; rfl, HB.out⟩
                · have eb1 : decide (1 ≤ cap) = false := decide_eq_false b1
                  go_wp2_with fail
                  go_ret
                  exact ⟨by rw [chanOk_mk, decide_eq_false (by omega)]; rfl, HB.out⟩
end Go.Proofs.YtkihmhchdenamaaDoor
