/- What a half of a signature, and the statements' cut, come to. -/
import Derived.Test.YtjmdkgjfcfnbiaaDoorBits
namespace Go.Proofs.YtjmdkgjfcfnbiaaDoor
open Go.RowKit
set_option maxRecDepth 100000 in
set_option maxHeartbeats 1600000 in
theorem half_any {w : World} {a : Option Addr} {m c : Nat} {l : List UInt8} (n : Nat) (hn : n * 32 + 32 ≤ m) (hm : m ≤ 1000000) (h : Row w a m c l) :
    Calls Tryd.prog 24 #[.slice a m c, .int .i64 (n : Int)] w fun e w' => e = .returned (.agg (cellsOf (piece l n)).toArray) ∧ Below w.heap.size w w' := by
  obtain ⟨b, off, rfl, hlt, hc⟩ := h.2.2.2.2 (by omega)
  have hl := h.1
  have hmc := h.2.1
  obtain ⟨s, hs, hsl, hsr⟩ : ∃ s, piece l n = s ∧ s.length = 32 ∧ w.rangeAt b (off + n * 32) (cellsOf s) := by
    refine ⟨_, rfl, piece_len (by omega), fun j v hj => ?_⟩
    have hlen : (piece l n).length = 32 := piece_len (by omega)
    have hj32 : j < 32 := by
      have := (List.getElem?_eq_some_iff.1 hj).1
      rw [cellsOf_len, hlen] at this
      exact this
    rw [Nat.add_assoc, hc (n * 32 + j) (by omega), ← hj, cellsOf_get (by omega)]
    unfold piece
    simp [List.getD, hj32]
  rw [hs]
  have h1 : (n : Int) * 32 ≤ (m : Int) := by omega
  have h2 : ((n : Int) + 1) * 32 ≤ (m : Int) := by omega
  have SZ := Lib.hid (size_of hsl)
  have HZ := Lib.hid (zero_of hsl)
  have HR := Lib.hid hsr
  have q : ∀ W : World, (Instr.arrayAt 23 (.slice (some ⟨b, off + n * 32, none⟩) ((n + 1) * 32 - n * 32) (c - n * 32))).run Tryd.prog W = .ok (.pointer (some ⟨b, off + n * 32, none⟩)) W := fun W => by
    have e : (n + 1) * 32 - n * 32 = 32 := by rw [Nat.add_mul]; omega
    simp [Instr.arrayAt, run_underlying Tryd.underlying23, e]
  clear hs hsl hsr hc h hl
  go_enter Tryd.func24, Tryd.ntmps24
  go_wp2_with (first | (refine wpList_load_mid rfl 23 _ rfl b (off + n * 32) rfl (cellsOf s) _ (rangeAt_below HR.out hlt ((Below.refl _ _).alloc (Nat.le_refl _) _)) Tryd.underlying23 rfl (by simpa using SZ.out) ?_) | (refine wpList_store_row rfl 23 _ _ rfl w.heap.size (cellsOf s).toArray rfl rfl 23 (cellsOf zero32).toArray (heap_alloc_new _ _) SZ.out HZ.out (all_oneCell_toArray (cellsOf_one s)) ?_) | fail)
  rw [← zero32_is, laySum_is]
  have h5 := laySum_heap w s
  have b5 := laySum_self w s
  revert h5 b5
  generalize laySum w s = w2
  intro h5 b5
  exact bodyPost_ret (results_cell_row rfl _ _ w.heap.size 23 (cellsOf s).toArray (0, 0) _ rfl h5 Tryd.underlying23 rfl SZ.out) rfl ⟨rfl, b5⟩
theorem cut_any {w : World} {a : Option Addr} {n c : Nat} {l : List UInt8} (h : Row w a n c l) : Calls Tryd.prog 6 #[.slice a n c] w fun e w' => e = .returned (.slice a (min n 200) c) ∧ Row w a (min n 200) c (l.take 200) ∧ w = w' := by
  have hr : Row w a (min n 200) c (l.take 200) := by
    rw [show l.take 200 = l.take (min n 200) by rw [← h.1, List.take_eq_take_iff]; omega]
    exact h.take (by omega)
  have HR := Lib.hid hr
  have h1 := h.2.1
  have h2 := h.2.2.1
  unfold maxLen at h2
  clear h hr
  by_cases h40 : 200 < n
  · rw [Nat.min_eq_right (by omega)] at HR ⊢
    go_enter Tryd.func6, Tryd.ntmps6
    go_wp2
    go_ret
    exact ⟨rfl, HR.out, rfl⟩
  · rw [Nat.min_eq_left (by omega)] at HR ⊢
    go_enter Tryd.func6, Tryd.ntmps6
    go_wp2
    go_ret
    exact ⟨rfl, HR.out, rfl⟩
end Go.Proofs.YtjmdkgjfcfnbiaaDoor
