/- A nil pen writes nothing; bytes as a string. -/
import Derived.Test.YtdcieknblahoeaaAwake
import Derived.Laws.BytesArg
namespace Go.Proofs.Ytdcieknblahoeaa
open Go.RowKit

theorem ptext_nil {a : Option Addr} {n c : Nat} (w : World) (hn : n ≤ 9223372036854775807) : Calls Try.prog 10 #[.pointer none, .slice a n c] w fun r w' => r = .returned (.pointer none) ∧ Below w.heap.size w w' := by
  go_enter Try.func10, Try.ntmps10
  go_wp2_with fail
  refine (pnum_nil _ _ (by omega)).mono ?_
  rintro r w1 ⟨rfl, hb1⟩
  have HB1 := Lib.hid hb1
  clear hb1
  go_wp2_with fail
  refine (write_nil _ _).mono ?_
  rintro r w2 ⟨rfl, rfl⟩
  go_wp2_with fail
  go_ret
  exact ⟨rfl, HB1.out⟩

/-- A slice of numbers that reads as 'l'. -/
def Ints (w : World) (a : Option Addr) (n c : Nat) (l : List Int) : Prop :=
  l.length = n ∧ n ≤ c ∧ c ≤ maxLen ∧ (∀ z ∈ l, z ≤ 9223372036854775807) ∧ (0 < n → ∃ b off, a = some ⟨b, off, none⟩ ∧ b < w.heap.size ∧ ∀ j, j < n → w.cell? ⟨b, off + j, none⟩ = some (.int .i64 (l.getD j 0)))

set_option maxHeartbeats 800000 in
theorem pnums_nil {a : Option Addr} {n c : Nat} {l : List Int} (w : World) (h : Ints w a n c l) : Calls Try.prog 9 #[.pointer none, .slice a n c] w fun r w' => r = .returned (.pointer none) ∧ Below w.heap.size w w' := by
  obtain ⟨hl, hnc, hcm, hz, hsome⟩ := h
  have hn63 : n ≤ 9223372036854775807 := by unfold maxLen at hcm; omega
  by_cases h0 : 0 < n
  · obtain ⟨b, off, rfl, hlt, hcell⟩ := hsome h0
    go_enter Try.func9, Try.ntmps9
    go_wp2
    go_loopw [9] (fun i wr => ∃ k : Nat, k ≤ n ∧ i = .int .i64 k ∧ Below w.heap.size w wr) (fun i _ => n - (intOf i).toNat)
    case atStart => exact ⟨0, Nat.zero_le _, rfl, Below.refl _ _⟩
    case round =>
      obtain ⟨k, hk, rfl, hb⟩ := hrel
      have HB := Lib.hid hb
      have hbz := hb.size
      by_cases hkn : k < n
      · have hck : wr.cell? ⟨b, off + k, none⟩ = some (.int .i64 (l.getD k 0)) := (hb.cell (p := ⟨b, off + k, none⟩) hlt).trans (hcell k hkn)
        have hzk : l.getD k 0 ≤ 9223372036854775807 := by
          have hkl : k < l.length := by omega
          have e : l.getD k 0 = l[k] := by simp [List.getD, hkl]
          rw [e]
          exact hz _ (List.getElem_mem hkl)
        obtain ⟨z, hze⟩ : ∃ z, z = l.getD k 0 := ⟨_, rfl⟩
        rw [← hze] at hck hzk
        clear hcell hsome hb hz hze hl
        go_wp2_with (go_at_call 24; refine (pnum_nil _ _ hzk).mono ?_; rintro r w1 ⟨rfl, hb1⟩; have HB1 := Lib.hid hb1; clear hb1)
        go_roundw
        case rel => exact ⟨k + 1, by omega, by go_num, HB.out.trans (HB1.out.mono hbz)⟩
        case measure => simp [intOf]; omega
      · obtain rfl : k = n := by omega
        clear hcell hsome hb hz hl
        go_wp2
        go_ret
        exact ⟨rfl, HB.out⟩
  · obtain rfl : n = 0 := by omega
    clear hsome hz hl
    go_enter Try.func9, Try.ntmps9
    go_wp2
    refine wp_loop_rounds 1 ?_
    rw [rounds_succ]
    go_wp2
    go_ret
    exact ⟨rfl, Below.refl _ _⟩

theorem psum_nil (vs : Array Value) (w : World) : Calls Try.prog 11 #[.pointer none, .agg vs] w fun r w' => r = .returned (.pointer none) ∧ Below w.heap.size w w' := by
  go_enter Try.func11, Try.ntmps11
  go_wp2_with fail
  refine (write_nil _ _).mono ?_
  rintro r w2 ⟨rfl, rfl⟩
  go_wp2_with fail
  go_ret
  exact ⟨rfl, (Below.refl _ _).alloc (Nat.le_refl _) _⟩

/-- 'string(b)'. -/
theorem conv_row {w : World} {a : Option Addr} {n c : Nat} {l : List UInt8} (h : Row w a n c l) : (convert 23 9 (.slice a n c)).run Try.prog w = .ok (.string ⟨l.toArray⟩) w := by
  have hl := h.1
  cases a with
  | some x =>
    subst hl
    refine run_convert_bytes_back w 23 9 5 x c l Try.underlying23 Try.underlying5 Try.underlying9 (fun j hj => ?_)
    obtain ⟨b, off, he, _, hc⟩ := h.2.2.2.2 (by omega)
    cases he
    have e1 : (⟨b, off, none⟩ : Addr).add j = ⟨b, off + j, none⟩ := by simp [Addr.add]
    rw [e1, hc j hj]
    simp [List.getD, hj]
  | none =>
    have hc := h.2.2.2.1 rfl
    have hn : n = 0 := by have := h.2.1; omega
    subst hn
    obtain rfl : l = [] := List.eq_nil_of_length_eq_zero hl
    exact run_convert_bytes_nil w 23 5 Try.underlying23 Try.underlying5 0 c 9 Try.underlying9
end Go.Proofs.Ytdcieknblahoeaa
