/- What spread comes to: a block's words of all rounds. -/
import Derived.Test.YtjmdkgjfcfnbiaaDoorBytes
import Derived.WalkSmall
namespace Go.Proofs.YtjmdkgjfcfnbiaaDoor
open Go.RowKit

/-- Words as cells. -/
def wordsOf (l : List (BitVec 32)) : List Value := l.map fun x => .int .u32 (num x)
def zerosW (n : Nat) : List Value := List.replicate n (.int .u32 0)
theorem wordsOf_one (l : List (BitVec 32)) : ∀ v ∈ wordsOf l, v.oneCell' = true := by
  intro v hv
  obtain ⟨b, _, rfl⟩ := List.mem_map.1 hv
  rfl
theorem wordsOf_get {l : List (BitVec 32)} {j : Nat} (hj : j < l.length) : (wordsOf l)[j]? = some (.int .u32 (num (l.getD j 0))) := by
  simp [wordsOf, List.getD, hj]
/-- The array of which the first k words are known. -/
def schedRow (q : List UInt8) (k : Nat) : List Value := wordsOf (sched q k) ++ zerosW (64 - k)
theorem schedRow_len (q : List UInt8) (k : Nat) (h : k ≤ 64) : (schedRow q k).length = 64 := by
  unfold schedRow wordsOf zerosW
  rw [List.length_append, List.length_map, sched_len, List.length_replicate]; omega
theorem schedRow_get (q : List UInt8) (k j : Nat) (h : k ≤ 64) (hj : j < k) : (schedRow q k)[j]? = some (.int .u32 (num ((sched q 64).getD j 0))) := by
  unfold schedRow
  rw [List.getElem?_append_left (by simp [wordsOf, sched_len, hj]), wordsOf_get (by rw [sched_len]; exact hj), sched_get q k 64 j hj h]
theorem schedRow_zero (q : List UInt8) (k j : Nat) (hj : k ≤ j) (h : j < 64) : (schedRow q k)[j]? = some (.int .u32 0) := by
  unfold schedRow zerosW
  have e : (wordsOf (sched q k)).length = k := by simp [wordsOf, sched_len]
  rw [List.getElem?_append_right (by omega), e, List.getElem?_replicate, if_pos (by omega)]
theorem schedRow_full (q : List UInt8) : schedRow q 64 = wordsOf (sched q 64) := by simp [schedRow, zerosW]
theorem schedRow_set (q : List UInt8) (k : Nat) (h : k < 64) : (schedRow q k).set k (.int .u32 (num (nextWord q k (sched q k)))) = schedRow q (k + 1) := by
  unfold schedRow
  have e : (wordsOf (sched q k)).length = k := by simp [wordsOf, sched_len]
  rw [List.set_append_right _ _ (by omega), e]
  have e2 : zerosW (64 - k) = .int .u32 0 :: zerosW (64 - (k + 1)) := by
    unfold zerosW
    rw [show 64 - k = (64 - (k + 1)) + 1 by omega, List.replicate_succ]
  rw [e2, Nat.sub_self, List.set_cons_zero]
  show _ = wordsOf (sched q k ++ [nextWord q k (sched q k)]) ++ _
  simp [wordsOf]
theorem nextWord_low (q : List UInt8) (k : Nat) (h : k < 16) : nextWord q k (sched q k) = word q k := by
  unfold nextWord; rw [if_pos h]
theorem nextWord_high (q : List UInt8) (k : Nat) (h : k < 48) : nextWord q (k + 16) (sched q (k + 16)) = (sched q 64).getD k 0 + shift3 ((sched q 64).getD (k + 1) 0) 7 18 3 + (sched q 64).getD (k + 9) 0 + shift3 ((sched q 64).getD (k + 14) 0) 17 19 10 := by
  unfold nextWord
  rw [if_neg (by omega), show k + 16 - 16 = k by omega, show k + 16 - 15 = k + 1 by omega, show k + 16 - 7 = k + 9 by omega, show k + 16 - 2 = k + 14 by omega]
  rw [sched_get q (k + 16) 64 k (by omega) (by omega), sched_get q (k + 16) 64 (k + 1) (by omega) (by omega), sched_get q (k + 16) 64 (k + 9) (by omega) (by omega), sched_get q (k + 16) 64 (k + 14) (by omega) (by omega)]
theorem word_take (q : List UInt8) (k : Nat) : word ((q.drop (4 * k)).take 4) 0 = word q k := by
  simp [word, List.getD]
theorem zeros_row (q : List UInt8) : (schedRow q 0).toArray = (zerosW 64).toArray := rfl
theorem zerosW_is : (zerosW 64).toArray = #[.int .u32 0, .int .u32 0, .int .u32 0, .int .u32 0, .int .u32 0, .int .u32 0, .int .u32 0, .int .u32 0, .int .u32 0, .int .u32 0, .int .u32 0, .int .u32 0, .int .u32 0, .int .u32 0, .int .u32 0, .int .u32 0,
  .int .u32 0, .int .u32 0, .int .u32 0, .int .u32 0, .int .u32 0, .int .u32 0, .int .u32 0, .int .u32 0, .int .u32 0, .int .u32 0, .int .u32 0, .int .u32 0, .int .u32 0, .int .u32 0, .int .u32 0, .int .u32 0,
  .int .u32 0, .int .u32 0, .int .u32 0, .int .u32 0, .int .u32 0, .int .u32 0, .int .u32 0, .int .u32 0, .int .u32 0, .int .u32 0, .int .u32 0, .int .u32 0, .int .u32 0, .int .u32 0, .int .u32 0, .int .u32 0,
  .int .u32 0, .int .u32 0, .int .u32 0, .int .u32 0, .int .u32 0, .int .u32 0, .int .u32 0, .int .u32 0, .int .u32 0, .int .u32 0, .int .u32 0, .int .u32 0, .int .u32 0, .int .u32 0, .int .u32 0, .int .u32 0] := rfl
theorem Tryd.size58 : (Tryd.prog.info? 58).map (·.size) = some 64 := by kernel_rfl
/-- What holds in a round of spread: the first k words are known; all else is as it was. -/
def SpreadAt (w : World) (rb : Nat) (q : List UInt8) (k : Nat) (wr : World) : Prop :=
  wr.heap[rb + 1]? = some (.cells (schedRow q k).toArray 58 (0, 0)) ∧ wr.heap[rb]? = some (.cells (zerosW 64).toArray 58 (0, 0)) ∧ rb = w.heap.size ∧ Below w.heap.size w wr
theorem SpreadAt.drew {w wr : World} {rb k : Nat} {q : List UInt8} (h : SpreadAt w rb q k wr) (n : Nat) : SpreadAt w rb q k (wr.drewN n) :=
  ⟨h.1, h.2.1, h.2.2.1, below_drewN h.2.2.2 n⟩
theorem SpreadAt.same {w wr w2 : World} {rb k : Nat} {q : List UInt8} (h : SpreadAt w rb q k wr) (h1 : w2.heap = wr.heap) (h2 : w2.os = wr.os) (h3 : w2.tape = wr.tape) (h4 : w2.output = wr.output) : SpreadAt w rb q k w2 :=
  ⟨by rw [h1]; exact h.1, by rw [h1]; exact h.2.1, h.2.2.1, h.2.2.2.trans ⟨h2, h3, h4, by rw [h1]; exact Nat.le_refl _, fun k _ => by rw [h1]⟩⟩
theorem SpreadAt.set {w wr : World} {rb k : Nat} {q : List UInt8} (h : SpreadAt w rb q k wr) (hk : k < 64) {x : BitVec 32} (hx : x = nextWord q k (sched q k)) : SpreadAt w rb q (k + 1) (wr.setCell ⟨rb + 1, k, none⟩ (.int .u32 (num x))) := by
  subst hx
  refine ⟨?_, (Below.heap_setCell _ _ _ _ (by simp)).trans h.2.1, h.2.2.1, h.2.2.2.setCell (by show w.heap.size ≤ rb + 1; rw [h.2.2.1]; omega) _⟩
  rw [heap_setCell_same wr (rb + 1) k _ _ _ h.1, ← schedRow_set q k hk]
  simp
theorem SpreadAt.cell {w wr : World} {rb k j : Nat} {q : List UInt8} (h : SpreadAt w rb q k wr) (hk : k ≤ 64) (hj : j < k) : wr.cell? ⟨rb + 1, j, none⟩ = some (.int .u32 (num ((sched q 64).getD j 0))) := by
  rw [cell_of_row wr _ _ _ _ _ h.1]
  simpa using schedRow_get q k j hk hj
theorem SpreadAt.zero {w wr : World} {rb k : Nat} {q : List UInt8} (h : SpreadAt w rb q k wr) (hk : k < 64) : wr.cell? ⟨rb + 1, k, none⟩ = some (.int .u32 0) := by
  rw [cell_of_row wr _ _ _ _ _ h.1]
  simpa using schedRow_zero q k k (Nat.le_refl _) hk
theorem SpreadAt.free {w wr : World} {rb k : Nat} (j : Nat) {q : List UInt8} (h : SpreadAt w rb q k wr) : wr.frozen? ⟨rb + 1, j, none⟩ = false := frozen_of_row wr _ j _ _ h.1
theorem SpreadAt.drop {w wr : World} {rb k : Nat} {q : List UInt8} {a : Option Addr} {n c : Nat} (h : SpreadAt w rb q k wr) (hr : Row w a n c q) : Row wr a n c q := hr.below h.2.2.2
theorem shifted_int (x : BitVec 32) (i j k : Int) (h : 0 < i ∧ i < 32 ∧ 0 < j ∧ j < 32 ∧ 0 ≤ k ∧ k < 32) (w : World) : Calls Tryd.prog 29 #[.int .u32 (num x), .int .i64 i, .int .i64 j, .int .i64 k] w fun e w' => e = .returned (.int .u32 (num (shift3 x i.toNat j.toNat k.toNat))) ∧ ∃ n, w' = w.drewN n := by
  obtain ⟨a, rfl⟩ := Int.eq_ofNat_of_zero_le (show 0 ≤ i by omega)
  obtain ⟨b, rfl⟩ := Int.eq_ofNat_of_zero_le (show 0 ≤ j by omega)
  obtain ⟨c, rfl⟩ := Int.eq_ofNat_of_zero_le (show 0 ≤ k by omega)
  exact shifted_any x a b c (by omega) (by omega) (by omega) (by omega) (by omega) w

set_option maxRecDepth 100000 in
set_option maxHeartbeats 1600000 in
theorem spread_any {w : World} {a : Option Addr} {c : Nat} {q : List UInt8} (h : Row w a 64 c q) : Calls Tryd.prog 26 #[.slice a 64 c] w fun e w' => e = .returned (.agg (wordsOf (sched q 64)).toArray) ∧ Below w.heap.size w w' := by
  obtain ⟨b, off, rfl, hlt, hcell⟩ := h.2.2.2.2 (by omega)
  have hcap := h.2.1
  have hmax := h.2.2.1
  unfold maxLen at hmax
  have HROW := Lib.hid h
  clear hcell h
  go_enter Tryd.func26, Tryd.ntmps26
  go_wp2
  have hb1 : Below w.heap.size w ((w.alloc (.cells (zerosW 64).toArray 58)).alloc (.cells (zerosW 64).toArray 58)) := ((Below.refl _ _).alloc (Nat.le_refl _) _).alloc (by simp) _
  have hr1 : ((w.alloc (.cells (zerosW 64).toArray 58)).alloc (.cells (zerosW 64).toArray 58)).heap[w.heap.size]? = some (.cells (zerosW 64).toArray 58 (0, 0)) := heap_alloc2_old _ _ _
  have hs1 : ((w.alloc (.cells (zerosW 64).toArray 58)).alloc (.cells (zerosW 64).toArray 58)).heap[w.heap.size + 1]? = some (.cells (zerosW 64).toArray 58 (0, 0)) := heap_alloc2_new _ _ _
  rw [← zerosW_is]
  revert hb1 hr1 hs1
  generalize ((w.alloc (.cells (zerosW 64).toArray 58)).alloc (.cells (zerosW 64).toArray 58)) = w1
  obtain ⟨rb, hrb⟩ : ∃ rb, rb = w.heap.size := ⟨_, rfl⟩
  rw [← hrb]
  intro hb1 hr1 hs1
  have HB1 := Lib.hid hb1
  have HR1 := Lib.hid hr1
  have HS1 := Lib.hid hs1
  have HRB := Lib.hid hrb
  clear hb1 hr1 hs1 hrb
  have HA : Hid (SpreadAt w rb q 0 w1) := ⟨HS1.out, HR1.out, HRB.out, by rw [← HRB.out]; exact HB1.out⟩
  clear HB1 HR1 HS1
  go_loopw [6] (fun i wr => ∃ k : Nat, k ≤ 16 ∧ i = .int .i64 k ∧ SpreadAt w rb q k wr) (fun i _ => 16 - (intOf i).toNat)
  case atStart => exact ⟨0, Nat.zero_le _, rfl, HA.out⟩
  case round =>
    obtain ⟨k, hk, rfl, hat⟩ := hrel
    by_cases hlt16 : k < 16
    · have HAT := Lib.hid hat
      have hrow1 : Row wr (some ⟨b, off + 4 * k, none⟩) 4 (c - 4 * k) ((q.drop (4 * k)).take 4) := ((HROW.out.below HAT.out.2.2.2).drop (k := 4 * k) (a' := some ⟨b, off + 4 * k, none⟩) (by omega) (fun e => by cases e) (fun _ b' off' e => by cases e; rfl)).take (by omega)
      have HROW1 := Lib.hid hrow1
      have hz := hat.zero (by omega)
      have hf := hat.free k
      clear hat hrow1
      go_wp2_with fail
      refine (wordOf_any HROW1.out (by omega)).mono ?_
      rintro e w2 ⟨rfl, m, rfl⟩
      go_wp2_with fail
      have hx : word ((q.drop (4 * k)).take 4) 0 = nextWord q k (sched q k) := by rw [word_take, nextWord_low q k hlt16]
      go_roundw
      case rel => exact ⟨k + 1, by omega, by go_num, (HAT.out.drew m).set (by omega) hx⟩
      case measure => simp [intOf]; omega
    · have hk16 : k = 16 := by omega
      rw [hk16] at hat
      have HAT := Lib.hid hat
      clear hat hk16
      go_wp2_with fail
      go_loopw [20] (fun i wx => ∃ k : Nat, k ≤ 48 ∧ i = .int .i64 k ∧ SpreadAt w rb q (k + 16) wx) (fun i _ => 48 - (intOf i).toNat)
      case atStart => exact ⟨0, Nat.zero_le _, rfl, HAT.out⟩
      case round =>
        obtain ⟨k, hk, rfl, hat⟩ := hrel
        by_cases hlt48 : k < 48
        · have hn := nextWord_high q k hlt48
          have HN := Lib.hid hn
          obtain ⟨x0, hx0⟩ : ∃ x, x = (sched q 64).getD k 0 := ⟨_, rfl⟩
          obtain ⟨x1, hx1⟩ : ∃ x, x = (sched q 64).getD (k + 1) 0 := ⟨_, rfl⟩
          obtain ⟨x9, hx9⟩ : ∃ x, x = (sched q 64).getD (k + 9) 0 := ⟨_, rfl⟩
          obtain ⟨x14, hx14⟩ : ∃ x, x = (sched q 64).getD (k + 14) 0 := ⟨_, rfl⟩
          have c0 := hat.cell (j := k) (by omega) (by omega)
          have c1 := hat.cell (j := k + 1) (by omega) (by omega)
          have c9 := hat.cell (j := k + 9) (by omega) (by omega)
          have c14 := hat.cell (j := k + 14) (by omega) (by omega)
          rw [← hx0] at c0
          rw [← hx1] at c1
          rw [← hx9] at c9
          rw [← hx14] at c14
          have z16 := hat.zero (by omega)
          have f16 := hat.free (k + 16)
          have HAT2 := Lib.hid hat
          rw [← hx0, ← hx1, ← hx9, ← hx14] at hn
          have HX := Lib.hid hn
          have e1 : IntKind.i64.wrap ((k : Int) + 1) = (k : Int) + 1 := IntWalk.i64_in _ ⟨by omega, by omega⟩
          have e9 : IntKind.i64.wrap ((k : Int) + 9) = (k : Int) + 9 := IntWalk.i64_in _ ⟨by omega, by omega⟩
          have e14 : IntKind.i64.wrap ((k : Int) + 14) = (k : Int) + 14 := IntWalk.i64_in _ ⟨by omega, by omega⟩
          have e16 : IntKind.i64.wrap ((k : Int) + 16) = (k : Int) + 16 := IntWalk.i64_in _ ⟨by omega, by omega⟩
          have t1 : ((k : Int) + 1).toNat = k + 1 := by omega
          have t9 : ((k : Int) + 9).toNat = k + 9 := by omega
          have t14 : ((k : Int) + 14).toNat = k + 14 := by omega
          have t16 : ((k : Int) + 16).toNat = k + 16 := by omega
          have p0 : (k : Int) < 64 := by omega
          have q0 : 0 ≤ (k : Int) := by omega
          have p1 : 0 ≤ (k : Int) + 1 ∧ (k : Int) + 1 < 64 := by omega
          have p9 : 0 ≤ (k : Int) + 9 ∧ (k : Int) + 9 < 64 := by omega
          have p14 : 0 ≤ (k : Int) + 14 ∧ (k : Int) + 14 < 64 := by omega
          have p16 : 0 ≤ (k : Int) + 16 ∧ (k : Int) + 16 < 64 := by omega
          have a1 := wrap_add x0 (shift3 x1 7 18 3)
          have a2 := wrap_add (x0 + shift3 x1 7 18 3) x9
          have a3 := wrap_add (x0 + shift3 x1 7 18 3 + x9) (shift3 x14 17 19 10)
          have s0 : ∀ (W : World) v, (W.setCell ⟨rb + 1, k + 16, none⟩ v).cell? ⟨rb + 1, k, none⟩ = W.cell? ⟨rb + 1, k, none⟩ := fun W v => World.cell?_setCell_other W _ _ v (by simp)
          have s1 : ∀ (W : World) v, (W.setCell ⟨rb + 1, k + 16, none⟩ v).cell? ⟨rb + 1, k + 1, none⟩ = W.cell? ⟨rb + 1, k + 1, none⟩ := fun W v => World.cell?_setCell_other W _ _ v (by simp)
          have s9 : ∀ (W : World) v, (W.setCell ⟨rb + 1, k + 16, none⟩ v).cell? ⟨rb + 1, k + 9, none⟩ = W.cell? ⟨rb + 1, k + 9, none⟩ := fun W v => World.cell?_setCell_other W _ _ v (by simp)
          have s14 : ∀ (W : World) v, (W.setCell ⟨rb + 1, k + 16, none⟩ v).cell? ⟨rb + 1, k + 14, none⟩ = W.cell? ⟨rb + 1, k + 14, none⟩ := fun W v => World.cell?_setCell_other W _ _ v (by simp)
          clear hat hn hx0 hx1 hx9 hx14 HN
          go_wp2_with fail
          go_region_held3 (fun w' => w'.cell? ⟨rb + 1, k, none⟩ = some (.int .u32 (num x0)) ∧ w'.cell? ⟨rb + 1, k + 1, none⟩ = some (.int .u32 (num x1)) ∧ w'.cell? ⟨rb + 1, k + 9, none⟩ = some (.int .u32 (num x9)) ∧ w'.cell? ⟨rb + 1, k + 14, none⟩ = some (.int .u32 (num x14)) ∧ w'.frozen? ⟨rb + 1, k + 16, none⟩ = false)
            (first | exact ⟨c0, c1, c9, c14, f16⟩ | go_keep)
            ((go_at_call 29; refine (shifted_int _ _ _ _ (by decide) _).mono ?_; rintro e w2 ⟨rfl, m, rfl⟩))
          all_goals
            go_wp2_with fail
            go_roundw
            case rel => exact ⟨k + 1, by omega, by go_num, by rw [show k + 1 + 16 = k + 16 + 1 by omega]; exact (HAT2.out.drew _).set (by omega) HX.out.symm⟩
            case measure => simp [intOf]; omega
        · obtain rfl : k = 48 := by omega
          have hall : (schedRow q 64).toArray.all (·.oneCell') = true := by
            rw [List.all_toArray]
            exact List.all_eq_true.2 (fun v hv => by rw [schedRow_full] at hv; exact wordsOf_one _ v hv)
          have hlen : (schedRow q 64).toArray.size = 64 := by rw [List.size_toArray]; exact schedRow_len q 64 (by omega)
          have hsz : (Tryd.prog.info? 58).map (·.size) = some (schedRow q 64).toArray.size := by rw [hlen]; exact Tryd.size58
          have hzl : (zerosW 64).toArray.size = (schedRow q 64).toArray.size := by rw [hlen]; rfl
          have HALL := Lib.hid hall
          have HSZ := Lib.hid hsz
          have HZL := Lib.hid hzl
          have HAT2 := Lib.hid hat
          clear hall hlen hsz hzl hat
          go_wp2_with (first | (refine wpList_load_row rfl 58 _ rfl (rb + 1) rfl 58 (schedRow q 64).toArray (0, 0) _ HAT2.out.1 Tryd.underlying58 rfl HSZ.out ?_) | (refine wpList_store_row rfl 58 _ _ rfl rb (schedRow q 64).toArray rfl rfl 58 (zerosW 64).toArray HAT2.out.2.1 HSZ.out HZL.out HALL.out ?_))
          have hb4 : Below w.heap.size w (wr.setRow rb (schedRow q 64).toArray) := HAT2.out.2.2.2.trans (((but_setRow wr rb (schedRow q 64).toArray).mono HAT2.out.2.2.2.size).below (by have := HRB.out; omega))
          exact bodyPost_ret (results_cell_row rfl _ _ rb 58 (schedRow q 64).toArray (0, 0) _ rfl (setRow_heap wr rb _ _ 58 _ HAT2.out.2.1) Tryd.underlying58 rfl HSZ.out) rfl ⟨by rw [schedRow_full], hb4⟩
end Go.Proofs.YtjmdkgjfcfnbiaaDoor
