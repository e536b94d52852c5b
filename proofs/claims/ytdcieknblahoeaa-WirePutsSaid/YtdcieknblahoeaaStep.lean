/- The law's 'step' (function 22): what it does with an eye that has failed, and with one that has not. -/
import Derived.Test.YtdcieknblahoeaaSum
import Derived.BigQuiet
namespace Go.Proofs.Ytdcieknblahoeaa
open Go.RowKit

theorem ret_pair {a b : Int} {v : Value} (h : a = b) : Ending.returned (.tuple #[.int .i64 a, v]) = .returned (.tuple #[.int .i64 b, v]) := by rw [h]

theorem zero32_all : zero32.toArray.all (·.oneCell') = true := by
  rw [List.all_toArray]
  exact List.all_eq_true.2 (cellsOf_one _)
theorem sumCells_all (l1 : List UInt8) : (sumCells l1).toArray.all (·.oneCell') = true := by
  rw [List.all_toArray]
  exact List.all_eq_true.2 (sumCells_one l1)

theorem row_zero (w : World) (g : Nat) (t : TypeId) (h : w.heap[g]? = some (.cells zero32.toArray t (0, 0))) : Row w (some ⟨g, 0, none⟩) 32 32 (List.replicate 32 0) :=
  row_new rfl (Nat.le_refl _) (by unfold maxLen; omega) zero32 t h (fun _ hj => cellsOf_get hj)

theorem sum_later {yb : Nat} {l : List UInt8} {e : Int} (w : World) (he : e ≠ 0) (h : EyeAt w yb l e) : Calls Try.prog 16 #[.pointer (some ⟨yb, 0, none⟩)] w fun r w' => r = .returned (.agg zero32.toArray) ∧ EyeAt w' yb l e ∧ But w.heap.size yb w w' :=
  sum_any (l1 := []) w h (fun W hW => (raw_later e 32 he hW).mono fun r w' ⟨h1, h2⟩ => ⟨none, 0, 0, h1, Row.nil w', fun x e => (by cases e), by rw [← h2]; exact hW, by rw [← h2]; exact But.refl _ _ _⟩) (.inl rfl)
theorem rawOf_32 (l : List UInt8) : (rawOf l 32).1.length = 0 ∨ (rawOf l 32).1.length = 32 := by
  unfold rawOf
  split
  · exact .inl rfl
  · right; simp; omega
theorem sum_first {yb : Nat} {l : List UInt8} (w : World) (h : EyeAt w yb l 0) (hm : l.length ≤ 140737488355328) : Calls Try.prog 16 #[.pointer (some ⟨yb, 0, none⟩)] w fun r w' =>
    r = .returned (.agg (sumCells (rawOf l 32).1).toArray) ∧ EyeAt w' yb (rawOf l 32).2.1 (rawOf l 32).2.2 ∧ But w.heap.size yb w w' :=
  sum_any w h (fun _ hW => raw_first 32 hW hm) (rawOf_32 l)

theorem But.drewN {B p : Nat} {w w' : World} (h : But B p w w') (n : Nat) : But B p w (w'.drewN n) := ⟨h.os, h.tape, h.output, h.size, h.block⟩
theorem But.after {p : Nat} {w w1 w2 : World} (h : Below w.heap.size w w1) (k : But w1.heap.size p w1 w2) : But w.heap.size p w w2 :=
  (But.of h).trans ⟨k.os, k.tape, k.output, k.size, fun i hi hp => k.block i (Nat.lt_of_lt_of_le hi h.size) hp⟩
theorem sum_store {w w2 : World} {yb B : Nat} {l : List UInt8} {e : Int} (hy : EyeAt w2 yb l e) (hb : But B yb w w2) (hB : B ≤ w2.heap.size) (cells : Array Value) :
    EyeAt ((w2.alloc (.cells zero32.toArray 25)).setRow w2.heap.size cells) yb l e ∧ But B yb w ((w2.alloc (.cells zero32.toArray 25)).setRow w2.heap.size cells) ∧ ((w2.alloc (.cells zero32.toArray 25)).setRow w2.heap.size cells).heap[w2.heap.size]? = some (.cells cells 25 (0, 0)) := by
  have h1 : EyeAt (w2.alloc (.cells zero32.toArray 25)) yb l e := hy.below ((Below.refl _ _).alloc (Nat.le_refl _) _)
  have hg := heap_alloc_new w2 (.cells zero32.toArray 25)
  have hlt := hy.lt
  have hb1 : But B yb w2 (w2.alloc (.cells zero32.toArray 25)) := (But.refl _ _ _).alloc hB _
  have hb2 : But B yb (w2.alloc (.cells zero32.toArray 25)) ((w2.alloc (.cells zero32.toArray 25)).setRow w2.heap.size cells) := But.of (((but_setRow _ w2.heap.size cells).mono (by simp; omega)).below hB)
  exact ⟨h1.typed (but_setRow _ _ _) hg (by decide) (by omega), (hb.trans hb1).trans hb2, setRow_heap _ _ _ _ 25 _ hg⟩

/-- What a step tells, of an eye that has failed: 0, and no byte but 0; the eye stays as it is. -/
def Still (yb : Nat) (l : List UInt8) (e : Int) (w : World) (r : Ending) (w' : World) : Prop :=
  ∃ a k c z, r = .returned (.tuple #[.int .i64 0, .slice a k c]) ∧ Row w' a k c z ∧ (∀ x ∈ z, x = 0) ∧ EyeAt w' yb l e ∧ But w.heap.size yb w w'

set_option maxRecDepth 100000 in
set_option maxHeartbeats 1600000 in
theorem step_later {yb : Nat} {l : List UInt8} {e : Int} (w : World) (K N : Int) (he : e ≠ 0) (h : EyeAt w yb l e) : Calls Try.prog 22 #[.pointer (some ⟨yb, 0, none⟩), .agg #[.int .i64 K, .int .i64 N]] w (Still yb l e w) := by
  have hb1 : Below w.heap.size w (w.alloc (.cells #[.int .i64 K, .int .i64 N] 50)) := (Below.refl _ _).alloc (Nat.le_refl _) _
  have h1 : EyeAt (w.alloc (.cells #[.int .i64 K, .int .i64 N] 50)) yb l e := h.below hb1
  have HY1 := Lib.hid h1
  have HB1 := Lib.hid hb1
  have HE := Lib.hid he
  have HY := Lib.hid h
  clear h h1 hb1 he
  by_cases h0 : K = 0
  · subst h0
    go_enter Try.func22, Try.ntmps22
    go_wp2_with (go_at_call 14; refine (num_later e HE.out HY1.out).mono ?_; rintro r w' ⟨rfl, rfl⟩)
    go_ret2
    exact ⟨none, 0, 0, [], rfl, Row.nil _, fun x hx => by simp at hx, HY1.out, But.of HB1.out⟩
  · by_cases h1 : K = 1
    · subst h1
      go_enter Try.func22, Try.ntmps22
      go_wp2_with (go_at_call 19; refine (upto_later e _ HE.out HY1.out).mono ?_; rintro r w' ⟨rfl, rfl⟩)
      go_ret2
      exact ⟨none, 0, 0, [], rfl, Row.nil _, fun x hx => by simp at hx, HY1.out, But.of HB1.out⟩
    · by_cases h2 : K = 2
      · subst h2
        go_enter Try.func22, Try.ntmps22
        go_wp2_with (go_at_call 21; refine (raw_later e _ HE.out HY1.out).mono ?_; rintro r w' ⟨rfl, rfl⟩)
        go_ret2
        exact ⟨none, 0, 0, [], rfl, Row.nil _, fun x hx => by simp at hx, HY1.out, But.of HB1.out⟩
      · by_cases h3 : K = 3
        · subst h3
          go_enter Try.func22, Try.ntmps22
          go_wp2_with (go_at_call 15; refine (text_later e _ HE.out HY1.out).mono ?_; rintro r w' ⟨rfl, rfl⟩)
          go_ret2
          exact ⟨none, 0, 0, [], rfl, Row.nil _, fun x hx => by simp at hx, HY1.out, But.of HB1.out⟩
        · by_cases h4 : K = 4
          · subst h4
            go_enter Try.func22, Try.ntmps22
            go_wp2_with (first | (go_at_call 16; refine (sum_later _ HE.out HY1.out).mono ?_; rintro r w2 ⟨rfl, hy2, hb2⟩; have HY2 := Lib.hid hy2; have HB2 := Lib.hid hb2; have HG : Hid ((w2.alloc (.cells zero32.toArray 25)).heap[w2.heap.size]? = some (.cells zero32.toArray 25 (0, 0))) := (heap_alloc_new w2 _); clear hy2 hb2) | (refine wpList_store_row rfl 25 (.tmp 6) (.tmp 38) rfl w2.heap.size zero32.toArray rfl rfl 25 zero32.toArray (by exact HG.out) Try.size25 rfl zero32_all ?_))
            have hz1 : w.heap.size ≤ w2.heap.size := Nat.le_trans HB1.out.size HB2.out.size
            have hbw : But w.heap.size yb w w2 := But.after HB1.out HB2.out
            obtain ⟨f1, f2, f3⟩ := sum_store HY2.out hbw hz1 zero32.toArray
            have F1 := Lib.hid f1
            have F2 := Lib.hid f2
            have F3 := Lib.hid f3
            clear f1 f2 f3 hbw
            go_quiet (fail)
            go_wp2
            go_ret2
            exact ⟨_, _, _, _, rfl, row_zero _ _ 25 F3.out, fun x hx => by simp at hx; exact hx, F1.out, F2.out.drewN nq⟩
          · have e0 : (K == 0) = false := by simpa using h0
            have e1 : (K == 1) = false := by simpa using h1
            have e2 : (K == 2) = false := by simpa using h2
            have e3 : (K == 3) = false := by simpa using h3
            have e4 : (K == 4) = false := by simpa using h4
            clear h0 h1 h2 h3 h4
            go_enter Try.func22, Try.ntmps22
            go_wp2_with (go_at_call 23; refine (fail_later e _ HE.out HY1.out).mono ?_; rintro r w' ⟨rfl, rfl⟩)
            go_ret2
            exact ⟨none, 0, 0, [], rfl, Row.nil _, fun x hx => by simp at hx, HY1.out, But.of HB1.out⟩

/-- What a step does with an eye that has not failed. -/
def Steps (yb : Nat) (l : List UInt8) (K N : Int) (w : World) (r : Ending) (w' : World) : Prop :=
  ∃ v a k c l' e', r = .returned (.tuple #[.int .i64 v, .slice a k c]) ∧ EyeAt w' yb l' e' ∧ l'.length ≤ l.length ∧ (4 < K → e' = N) ∧ But w.heap.size yb w w'

theorem rawOf_le (l : List UInt8) (n : Int) : (rawOf l n).2.1.length ≤ l.length := by
  unfold rawOf
  split
  · exact Nat.le_refl _
  · simp
theorem textOf_le (l : List UInt8) (n : Int) : (textOf l n).2.1.length ≤ l.length := by
  unfold textOf
  split
  · exact Nat.le_trans (rawOf_le _ _) (by simp)
  · simp

set_option maxRecDepth 100000 in
set_option maxHeartbeats 1600000 in
theorem step_first {yb : Nat} {l : List UInt8} (w : World) (K N : Int) (h : EyeAt w yb l 0) (hm : l.length ≤ 140737488355328) : Calls Try.prog 22 #[.pointer (some ⟨yb, 0, none⟩), .agg #[.int .i64 K, .int .i64 N]] w (Steps yb l K N w) := by
  have hb1 : Below w.heap.size w (w.alloc (.cells #[.int .i64 K, .int .i64 N] 50)) := (Below.refl _ _).alloc (Nat.le_refl _) _
  have h1 : EyeAt (w.alloc (.cells #[.int .i64 K, .int .i64 N] 50)) yb l 0 := h.below hb1
  have HY1 := Lib.hid h1
  have HB1 := Lib.hid hb1
  have HM := Lib.hid hm
  clear h h1 hb1 hm
  by_cases h0 : K = 0
  · subst h0
    go_enter Try.func22, Try.ntmps22
    go_wp2_with (go_at_call 14; refine (num_first HY1.out).mono ?_; rintro r w2 ⟨rfl, hy2, hb2⟩; have HY2 := Lib.hid hy2; have HB2 := Lib.hid hb2; clear hy2 hb2)
    go_ret2
    exact ⟨_, none, 0, 0, _, _, rfl, HY2.out, by simp, fun h => by omega, But.after HB1.out HB2.out⟩
  · by_cases h1 : K = 1
    · subst h1
      go_enter Try.func22, Try.ntmps22
      go_wp2_with (go_at_call 19; refine (upto_first N HY1.out).mono ?_; rintro r w2 ⟨rfl, hy2, hb2⟩; have HY2 := Lib.hid hy2; have HB2 := Lib.hid hb2; clear hy2 hb2)
      go_ret2
      exact ⟨_, none, 0, 0, _, _, rfl, HY2.out, by simp, fun h => by omega, But.after HB1.out HB2.out⟩
    · by_cases h2 : K = 2
      · subst h2
        go_enter Try.func22, Try.ntmps22
        go_wp2_with (go_at_call 21; refine (raw_first N HY1.out HM.out).mono ?_; rintro r w2 ⟨a, k, c, rfl, _, _, hy2, hb2⟩; have HY2 := Lib.hid hy2; have HB2 := Lib.hid hb2; clear hy2 hb2)
        go_ret2
        exact ⟨0, _, _, _, _, _, rfl, HY2.out, rawOf_le _ _, fun h => by omega, But.after HB1.out HB2.out⟩
      · by_cases h3 : K = 3
        · subst h3
          go_enter Try.func22, Try.ntmps22
          go_wp2_with (go_at_call 15; refine (text_first N HY1.out HM.out).mono ?_; rintro r w2 ⟨a, k, c, rfl, _, _, hy2, hb2⟩; have HY2 := Lib.hid hy2; have HB2 := Lib.hid hb2; clear hy2 hb2)
          go_ret2
          exact ⟨0, _, _, _, _, _, rfl, HY2.out, textOf_le _ _, fun h => by omega, But.after HB1.out HB2.out⟩
        · by_cases h4 : K = 4
          · subst h4
            have HSZ : Hid ((Try.prog.info? 25).map (·.size) = some (sumCells (rawOf l 32).1).toArray.size) := by
              show _ = _
              rw [List.size_toArray, sumCells_len]
              exact Try.size25
            have HZL : Hid (zero32.toArray.size = (sumCells (rawOf l 32).1).toArray.size) := by
              show _ = _
              rw [List.size_toArray, List.size_toArray, sumCells_len]
              rfl
            go_enter Try.func22, Try.ntmps22
            go_wp2_with (first | (go_at_call 16; refine (sum_first _ HY1.out HM.out).mono ?_; rintro r w2 ⟨rfl, hy2, hb2⟩; have HY2 := Lib.hid hy2; have HB2 := Lib.hid hb2; have HG : Hid ((w2.alloc (.cells zero32.toArray 25)).heap[w2.heap.size]? = some (.cells zero32.toArray 25 (0, 0))) := (heap_alloc_new w2 _); clear hy2 hb2) | (refine wpList_store_row rfl 25 (.tmp 6) (.tmp 38) rfl w2.heap.size (sumCells (rawOf l 32).1).toArray rfl rfl 25 zero32.toArray (by exact HG.out) HSZ.out HZL.out (sumCells_all _) ?_))
            have hz1 : w.heap.size ≤ w2.heap.size := Nat.le_trans HB1.out.size HB2.out.size
            have hbw : But w.heap.size yb w w2 := But.after HB1.out HB2.out
            obtain ⟨f1, f2, _⟩ := sum_store HY2.out hbw hz1 (sumCells (rawOf l 32).1).toArray
            have F1 := Lib.hid f1
            have F2 := Lib.hid f2
            clear f1 f2 hbw
            go_quiet (fail)
            go_wp2
            go_ret2
            exact ⟨0, _, _, _, _, _, rfl, F1.out, rawOf_le _ _, fun h => by omega, F2.out.drewN nq⟩
          · have e0 : (K == 0) = false := by simpa using h0
            have e1 : (K == 1) = false := by simpa using h1
            have e2 : (K == 2) = false := by simpa using h2
            have e3 : (K == 3) = false := by simpa using h3
            have e4 : (K == 4) = false := by simpa using h4
            clear h0 h1 h2 h3 h4
            go_enter Try.func22, Try.ntmps22
            go_wp2_with (go_at_call 23; refine (fail_first N HY1.out).mono ?_; rintro r w2 ⟨rfl, hy2, hb2⟩; have HY2 := Lib.hid hy2; have HB2 := Lib.hid hb2; clear hy2 hb2)
            go_ret2
            exact ⟨0, none, 0, 0, _, _, rfl, HY2.out, Nat.le_refl _, fun _ => rfl, But.after HB1.out HB2.out⟩
end Go.Proofs.Ytdcieknblahoeaa
