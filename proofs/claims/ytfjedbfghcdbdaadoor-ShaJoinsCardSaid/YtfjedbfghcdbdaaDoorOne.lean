/- What the document's own 'one' comes to: a block makes eight words of eight words; and its constants. -/
import Derived.Test.YtfjedbfghcdbdaaDoorHash
import Derived.WalkSmall
import Derived.Outline
import Derived.BigRegion
import Derived.Great.BuildSlice
namespace Go.Proofs.YtfjedbfghcdbdaaDoor
open Go.RowKit

theorem turn_int (x : BitVec 32) (i : Int) (h : 0 < i ∧ i < 32) (w : World) : Calls Tryd.prog 21 #[.int .u32 (num x), .int .i64 i] w fun e w' => e = .returned (.int .u32 (num (x.rotateRight i.toNat))) ∧ ∃ n, w' = w.drewN n := by
  obtain ⟨a, rfl⟩ := Int.eq_ofNat_of_zero_le (show 0 ≤ i by omega)
  exact turn_any x a (by omega) (by omega) w
/-- A quiet callee behind quiet regions. -/
theorem quiet_more {P : Program} {f : FuncId} {args : Array Value} {w : World} {a n : Nat} {v : Value}
    (h : Calls P f args (w.drewN (a + n)) fun e w' => e = .returned v ∧ ∃ m, w' = (w.drewN (a + n)).drewN m) :
    Calls P f args (w.drewN (a + n)) fun e w'' => e = .returned v ∧ ∃ m, w'' = w.drewN (a + m) :=
  h.mono fun _ _ ⟨he, m, hm⟩ => ⟨he, n + m, by rw [hm, World.drewN_drewN, Nat.add_assoc]⟩
theorem shr3 (x : BitVec 32) : num x / (8 : Int) = num (x >>> (3 : Nat)) := shr_div x 3
theorem shr10 (x : BitVec 32) : num x / (1024 : Int) = num (x >>> (10 : Nat)) := shr_div x 10
theorem make64 (w : World) : (Instr.makeSlice 44 (.int .i64 64) (.int .i64 64)).run Tryd.prog w = .ok (.slice (some ⟨w.heap.size, 0, none⟩) 64 64) (w.alloc (.cells (zerosW 64).toArray 36)) := by kernel_rfl
theorem make8 (w : World) : (Instr.makeSlice 44 (.int .i64 8) (.int .i64 8)).run Tryd.prog w = .ok (.slice (some ⟨w.heap.size, 0, none⟩) 8 8) (w.alloc (.cells (zerosW 8).toArray 36)) := by kernel_rfl

/-- The first k words are known; all else is as it was. -/
def SchedAt (w : World) (q : List UInt8) (k : Nat) (wr : World) : Prop :=
  wr.heap[w.heap.size]? = some (.cells (schedRow q k).toArray 36 (0, 0)) ∧ Below w.heap.size w wr
theorem SchedAt.same {w wr w2 : World} {k : Nat} {q : List UInt8} (h : SchedAt w q k wr) (h1 : w2.heap = wr.heap) (h2 : w2.os = wr.os) (h3 : w2.tape = wr.tape) (h4 : w2.output = wr.output) : SchedAt w q k w2 :=
  ⟨by rw [h1]; exact h.1, h.2.trans ⟨h2, h3, h4, by rw [h1]; exact Nat.le_refl _, fun k _ => by rw [h1]⟩⟩
theorem SchedAt.set {w wr : World} {k : Nat} {q : List UInt8} (h : SchedAt w q k wr) (hk : k < 64) {x : BitVec 32} (hx : x = nextWord q k (sched q k)) : SchedAt w q (k + 1) (wr.setCell ⟨w.heap.size, k, none⟩ (.int .u32 (num x))) := by
  subst hx
  refine ⟨?_, h.2.setCell (Nat.le_refl _) _⟩
  rw [heap_setCell_same wr _ k _ _ _ h.1, ← schedRow_set q k hk]
  simp
theorem SchedAt.cell {w wr : World} {k j : Nat} {q : List UInt8} (h : SchedAt w q k wr) (hk : k ≤ 64) (hj : j < k) : wr.cell? ⟨w.heap.size, j, none⟩ = some (.int .u32 (num ((sched q 64).getD j 0))) := by
  rw [cell_of_row wr _ _ _ _ _ h.1]
  simpa using schedRow_get q k j hk hj
theorem SchedAt.zero {w wr : World} {k : Nat} {q : List UInt8} (h : SchedAt w q k wr) (hk : k < 64) : wr.cell? ⟨w.heap.size, k, none⟩ = some (.int .u32 0) := by
  rw [cell_of_row wr _ _ _ _ _ h.1]
  simpa using schedRow_zero q k k (Nat.le_refl _) hk
theorem SchedAt.free {w wr : World} {k : Nat} (j : Nat) {q : List UInt8} (h : SchedAt w q k wr) : wr.frozen? ⟨w.heap.size, j, none⟩ = false := frozen_of_row wr _ j _ _ h.1
theorem SchedAt.drop {w wr : World} {k : Nat} {q : List UInt8} {a : Option Addr} {n c : Nat} (h : SchedAt w q k wr) (hr : Row w a n c q) : Row wr a n c q := hr.below h.2

theorem nextWord_at (q : List UInt8) (k : Nat) (h : 16 ≤ k) (hk : k < 64) : nextWord q k (sched q k) = (sched q 64).getD (k - 16) 0 + shift3 ((sched q 64).getD (k - 15) 0) 7 18 3 + (sched q 64).getD (k - 7) 0 + shift3 ((sched q 64).getD (k - 2) 0) 17 19 10 := by
  unfold nextWord
  rw [if_neg (by omega)]
  rw [sched_get q k 64 (k - 16) (by omega) (by omega), sched_get q k 64 (k - 15) (by omega) (by omega), sched_get q k 64 (k - 7) (by omega) (by omega), sched_get q k 64 (k - 2) (by omega) (by omega)]

/-- An array of words of which the first j are laid. -/
def copyRow (l : List (BitVec 32)) (j : Nat) : List Value := wordsOf (l.take j) ++ zerosW (l.length - j)
theorem copyRow_set (l : List (BitVec 32)) (j : Nat) (h : j < l.length) : (copyRow l j).set j (.int .u32 (num (l.getD j 0))) = copyRow l (j + 1) := by
  unfold copyRow
  have e : (wordsOf (l.take j)).length = j := by rw [wordsOf_len, List.length_take]; omega
  rw [List.set_append_right _ _ (by omega), e]
  have e2 : zerosW (l.length - j) = .int .u32 0 :: zerosW (l.length - (j + 1)) := by
    unfold zerosW
    rw [show l.length - j = (l.length - (j + 1)) + 1 by omega, List.replicate_succ]
  have e3 : wordsOf (l.take j ++ [l[j]]) = wordsOf (l.take j) ++ [.int .u32 (num l[j])] := by
    unfold wordsOf
    rw [List.map_append]
    rfl
  have e4 : l.getD j 0 = l[j] := by simp [List.getD, h]
  rw [e2, Nat.sub_self, List.set_cons_zero, List.take_succ_eq_append_getElem h, e3, e4, List.append_assoc]
  rfl
theorem copyRow_zero (l : List (BitVec 32)) (j : Nat) (h : j < l.length) : (copyRow l j)[j]? = some (.int .u32 0) := by
  unfold copyRow zerosW
  have e : (wordsOf (l.take j)).length = j := by rw [wordsOf_len, List.length_take]; omega
  rw [List.getElem?_append_right (by omega), e, List.getElem?_replicate, if_pos (by omega)]
theorem copyRow_all (l : List (BitVec 32)) : copyRow l l.length = wordsOf l := by simp [copyRow, zerosW]
theorem copyRow_none (l : List (BitVec 32)) : copyRow l 0 = zerosW l.length := by simp [copyRow, wordsOf]
theorem choice_or (e f g : BitVec 32) : (e &&& f) ||| (~~~e &&& g) = choice e f g := by
  unfold choice
  ext i hi
  simp
  cases e[i] <;> cases f[i] <;> cases g[i] <;> rfl
theorem major_or (a b c : BitVec 32) : (a &&& b) ||| (a &&& c) ||| (b &&& c) = major a b c := by
  unfold major
  ext i hi
  simp
  cases a[i] <;> cases b[i] <;> cases c[i] <;> rfl
theorem num_not' (x : BitVec 32) : bits .xor .u32 (num x) 4294967295 = num (~~~x) := by
  have e : (4294967295 : Int) = num 4294967295 := rfl
  rw [e, bits_xor, BitVec.xor_comm]
  congr 1
/-- Words at block g, in a world where all that was there is as it was. -/
def WordsAt (w : World) (g : Nat) (row : List Value) (W : World) : Prop := W.heap[g]? = some (.cells row.toArray 36 (0, 0)) ∧ w.heap.size ≤ g ∧ Below w.heap.size w W
theorem WordsAt.below {w W W' : World} {g : Nat} {row : List Value} (h : WordsAt w g row W) (hb : Below W.heap.size W W') : WordsAt w g row W' :=
  ⟨(hb.block _ (lt_of_block h.1)).trans h.1, h.2.1, h.2.2.trans (hb.mono h.2.2.size)⟩
theorem WordsAt.other {w W : World} {g g' j : Nat} {row : List Value} {u : Value} (h : WordsAt w g row W) (hg : g' ≠ g) (hg' : w.heap.size ≤ g') : WordsAt w g row (W.setCell ⟨g', j, none⟩ u) :=
  ⟨(Below.heap_setCell _ _ _ _ (Ne.symm hg)).trans h.1, h.2.1, h.2.2.setCell hg' _⟩
theorem WordsAt.lay {w W : World} {g j : Nat} {l : List (BitVec 32)} (h : WordsAt w g (copyRow l j) W) (hj : j < l.length) {x : BitVec 32} (hx : x = l.getD j 0) : WordsAt w g (copyRow l (j + 1)) (W.setCell ⟨g, j, none⟩ (.int .u32 (num x))) := by
  subst hx
  refine ⟨?_, h.2.1, h.2.2.setCell h.2.1 _⟩
  rw [heap_setCell_same W _ j _ _ _ h.1, ← copyRow_set l j hj]
  simp
theorem WordsAt.zero {w W : World} {g j : Nat} {l : List (BitVec 32)} (h : WordsAt w g (copyRow l j) W) (hj : j < l.length) : W.cell? ⟨g, j, none⟩ = some (.int .u32 0) := by
  rw [cell_of_row W _ _ _ _ _ h.1]
  simpa using copyRow_zero l j hj
theorem WordsAt.free {w W : World} {g : Nat} {row : List Value} (h : WordsAt w g row W) (j : Nat) : W.frozen? ⟨g, j, none⟩ = false := frozen_of_row W _ j _ _ h.1
theorem WordsAt.cell {w W : World} {g j : Nat} {l : List (BitVec 32)} (h : WordsAt w g (wordsOf l) W) (hj : j < l.length) : W.cell? ⟨g, j, none⟩ = some (.int .u32 (num (l.getD j 0))) := by
  rw [cell_of_row W _ _ _ _ _ h.1]
  simpa using wordsOf_get hj
theorem WordsAt.same {w W w2 : World} {g : Nat} {row : List Value} (h : WordsAt w g row W) (h1 : w2.heap = W.heap) (h2 : w2.os = W.os) (h3 : w2.tape = W.tape) (h4 : w2.output = W.output) : WordsAt w g row w2 :=
  ⟨by rw [h1]; exact h.1, h.2.1, h.2.2.trans ⟨h2, h3, h4, by rw [h1]; exact Nat.le_refl _, fun k _ => by rw [h1]⟩⟩
theorem WordsAt.allocd {w W W2 : World} {g : Nat} {row : List Value} {o : Obj} (h : WordsAt w g row W) (h1 : W2.heap = (W.alloc o).heap) (h2 : W2.os = W.os) (h3 : W2.tape = W.tape) (h4 : W2.output = W.output) : WordsAt w g row W2 :=
  (h.below ((Below.refl _ _).alloc (Nat.le_refl _) o)).same h1 h2 h3 h4
theorem WordsAt.newly {w W W2 : World} {g : Nat} {row : List Value} {l : List (BitVec 32)} (h : WordsAt w g row W) (h1 : W2.heap = (W.alloc (.cells (wordsOf l).toArray 36)).heap) (h2 : W2.os = W.os) (h3 : W2.tape = W.tape) (h4 : W2.output = W.output) : WordsAt w W.heap.size (wordsOf l) W2 :=
  ⟨by rw [h1]; exact heap_alloc_new _ _, h.2.2.size, (h.allocd h1 h2 h3 h4).2.2⟩
theorem old_cell {w W : World} {g j : Nat} {l : List (BitVec 32)} (hg : w.heap[g]? = some (.cells (wordsOf l).toArray 36 (0, 0))) (hb : Below w.heap.size w W) (hj : j < l.length) : W.cell? ⟨g, j, none⟩ = some (.int .u32 (num (l.getD j 0))) := by
  rw [cell_of_row W _ _ _ _ _ ((hb.block _ (lt_of_block hg)).trans hg)]
  simpa using wordsOf_get hj
theorem eight_len (v : Eight) : v.list.length = 8 := rfl

set_option maxRecDepth 100000 in
theorem constants_any (w : World) : Calls Tryd.prog 17 #[] w fun e w' => e = .returned (.slice (some ⟨w.heap.size, 0, none⟩) 64 64) ∧ w'.heap[w.heap.size]? = some (.cells (wordsOf ks).toArray 36 (0, 0)) ∧ Below w.heap.size w w' := by
  go_enter Tryd.func17, Tryd.ntmps17
  go_wp2
  go_ret
  refine ⟨rfl, ?_, (Below.refl _ _).alloc (Nat.le_refl _) _⟩
  rw [heap_alloc_new]
  rfl

set_option maxRecDepth 100000 in
set_option maxHeartbeats 4000000 in
theorem one_any {w : World} {hg kg c : Nat} {a : Option Addr} {v : Eight} {q : List UInt8} (hh : w.heap[hg]? = some (.cells (wordsOf v.list).toArray 36 (0, 0))) (hk : w.heap[kg]? = some (.cells (wordsOf ks).toArray 36 (0, 0))) (hb : Row w a 64 c q) :
    Calls Tryd.prog 18 #[.slice (some ⟨hg, 0, none⟩) 8 8, .slice (some ⟨kg, 0, none⟩) 64 64, .slice a 64 c] w fun e w' => ∃ g, e = .returned (.slice (some ⟨g, 0, none⟩) 8 8) ∧ w.heap.size ≤ g ∧ w'.heap[g]? = some (.cells (wordsOf (compress v q).list).toArray 36 (0, 0)) ∧ Below w.heap.size w w' := by
  have HH := Lib.hid hh
  have HK := Lib.hid hk
  have HB := Lib.hid hb
  obtain ⟨b, off, rfl, hlt, _⟩ := hb.2.2.2.2 (by omega)
  have hm64 := make64
  have hm8 := make8
  clear hh hk hb
  go_enter Tryd.func18, Tryd.ntmps18
  go_wp2_with fail
  have h0 : SchedAt w q 0 (w.alloc (.cells (zerosW 64).toArray 36)) := ⟨heap_alloc_new _ _, (Below.refl _ _).alloc (Nat.le_refl _) _⟩
  revert h0
  generalize (w.alloc (.cells (zerosW 64).toArray 36)) = w1
  intro h0
  have H0 := Lib.hid h0
  clear h0
  clear hm64
  obtain ⟨gb, hgb⟩ : ∃ gb, gb = w.heap.size := ⟨_, rfl⟩
  have HGB := Lib.hid hgb
  rw [← hgb]
  have hne : b ≠ gb := by omega
  clear hgb
  go_loopw [8] (fun i wr => ∃ k : Nat, k ≤ 64 ∧ i = .int .i64 k ∧ SchedAt w q k wr) (fun i _ => 64 - (intOf i).toNat)
  case atStart => exact ⟨0, Nat.zero_le _, rfl, H0.out⟩
  case round =>
    obtain ⟨k, hk, rfl, hat⟩ := hrel
    have HAT := Lib.hid hat
    by_cases h64 : k < 64
    -- A
    · by_cases h16 : k < 16
      · have hrow := hat.drop HB.out
        obtain ⟨b', off', he, _, hcells⟩ := hrow.2.2.2.2 (by omega)
        cases he
        obtain ⟨x0, hx0, g0⟩ := byte_lt q (4 * k)
        obtain ⟨x1, hx1, g1⟩ := byte_lt q (4 * k + 1)
        obtain ⟨x2, hx2, g2⟩ := byte_lt q (4 * k + 2)
        obtain ⟨x3, hx3, g3⟩ := byte_lt q (4 * k + 3)
        have c0 := hcells (4 * k) (by omega)
        have c1 := hcells (4 * k + 1) (by omega)
        have c2 := hcells (4 * k + 2) (by omega)
        have c3 := hcells (4 * k + 3) (by omega)
        rw [← hx0] at c0
        rw [← hx1] at c1
        rw [← hx2] at c2
        rw [← hx3] at c3
        have z := hat.zero (by omega)
        have f := hat.free k
        rw [← HGB.out] at z f
        obtain ⟨J, hJ⟩ : ∃ J, J = 4 * k := ⟨_, rfl⟩
        rw [← hJ] at c0 c1 c2 c3
        obtain ⟨X, hX⟩ : ∃ X, X = nextWord q k (sched q k) := ⟨_, rfl⟩
        have hE : (x0 : Int) * 16777216 + (x1 : Int) * 65536 + (x2 : Int) * 256 + (x3 : Int) = num X := by
          rw [hX, nextWord_low q k h16]
          unfold word
          rw [← hx0, ← hx1, ← hx2, ← hx3, num_ofNat _ (by omega)]
          simp
        have HX := Lib.hid hX
        have HE := Lib.hid hE
        have e4 : 4 * (k : Int) = (J : Int) := by omega
        have e0 : IntKind.i64.wrap (J : Int) = (J : Int) := IntWalk.i64_in _ ⟨by omega, by omega⟩
        have e1 : IntKind.i64.wrap ((J : Int) + 1) = (J : Int) + 1 := IntWalk.i64_in _ ⟨by omega, by omega⟩
        have e2 : IntKind.i64.wrap ((J : Int) + 2) = (J : Int) + 2 := IntWalk.i64_in _ ⟨by omega, by omega⟩
        have e3 : IntKind.i64.wrap ((J : Int) + 3) = (J : Int) + 3 := IntWalk.i64_in _ ⟨by omega, by omega⟩
        have t1 : ((J : Int) + 1).toNat = J + 1 := by omega
        have t2 : ((J : Int) + 2).toNat = J + 2 := by omega
        have t3 : ((J : Int) + 3).toNat = J + 3 := by omega
        have p0 : 0 ≤ (J : Int) ∧ (J : Int) < 64 := by omega
        have p1 : 0 ≤ (J : Int) + 1 ∧ (J : Int) + 1 < 64 := by omega
        have p2 : 0 ≤ (J : Int) + 2 ∧ (J : Int) + 2 < 64 := by omega
        have p3 : 0 ≤ (J : Int) + 3 ∧ (J : Int) + 3 < 64 := by omega
        have pk : (k : Int) < 64 := by omega
        have qk : 0 ≤ (k : Int) := by omega
        have r0 : IntKind.u32.wrap (x0 : Int) = (x0 : Int) := by rw [IntKind.wrap_u32']; omega
        have r1 : IntKind.u32.wrap (x1 : Int) = (x1 : Int) := by rw [IntKind.wrap_u32']; omega
        have r2 : IntKind.u32.wrap (x2 : Int) = (x2 : Int) := by rw [IntKind.wrap_u32']; omega
        have r3 : IntKind.u32.wrap (x3 : Int) = (x3 : Int) := by rw [IntKind.wrap_u32']; omega
        have m0 : IntKind.u32.wrap ((x0 : Int) * 16777216) = (x0 : Int) * 16777216 := by rw [IntKind.wrap_u32']; omega
        have m1 : IntKind.u32.wrap ((x1 : Int) * 65536) = (x1 : Int) * 65536 := by rw [IntKind.wrap_u32']; omega
        have m2 : IntKind.u32.wrap ((x2 : Int) * 256) = (x2 : Int) * 256 := by rw [IntKind.wrap_u32']; omega
        have m01 : IntKind.u32.wrap ((x0 : Int) * 16777216 + (x1 : Int) * 65536) = (x0 : Int) * 16777216 + (x1 : Int) * 65536 := by rw [IntKind.wrap_u32']; omega
        have m012 : IntKind.u32.wrap ((x0 : Int) * 16777216 + (x1 : Int) * 65536 + (x2 : Int) * 256) = (x0 : Int) * 16777216 + (x1 : Int) * 65536 + (x2 : Int) * 256 := by rw [IntKind.wrap_u32']; omega
        have m0123 : IntKind.u32.wrap ((x0 : Int) * 16777216 + (x1 : Int) * 65536 + (x2 : Int) * 256 + (x3 : Int)) = num X := by rw [← hE, IntKind.wrap_u32']; omega
        have s0 : ∀ (W : World) v, (W.setCell ⟨gb, k, none⟩ v).cell? ⟨b, off + J, none⟩ = W.cell? ⟨b, off + J, none⟩ := fun W v => World.cell?_setCell_far W _ _ v (Ne.symm hne)
        have s1 : ∀ (W : World) v, (W.setCell ⟨gb, k, none⟩ v).cell? ⟨b, off + (J + 1), none⟩ = W.cell? ⟨b, off + (J + 1), none⟩ := fun W v => World.cell?_setCell_far W _ _ v (Ne.symm hne)
        have s2 : ∀ (W : World) v, (W.setCell ⟨gb, k, none⟩ v).cell? ⟨b, off + (J + 2), none⟩ = W.cell? ⟨b, off + (J + 2), none⟩ := fun W v => World.cell?_setCell_far W _ _ v (Ne.symm hne)
        have s3 : ∀ (W : World) v, (W.setCell ⟨gb, k, none⟩ v).cell? ⟨b, off + (J + 3), none⟩ = W.cell? ⟨b, off + (J + 3), none⟩ := fun W v => World.cell?_setCell_far W _ _ v (Ne.symm hne)
        clear hat hrow hcells hx0 hx1 hx2 hx3 hJ hX hE hm8
        go_wp2_with fail
        go_region_held3 (fun w' => w'.cell? ⟨b, off + J, none⟩ = some (.int .u8 (x0 : Int)) ∧ w'.cell? ⟨b, off + (J + 1), none⟩ = some (.int .u8 (x1 : Int)) ∧ w'.cell? ⟨b, off + (J + 2), none⟩ = some (.int .u8 (x2 : Int)) ∧ w'.cell? ⟨b, off + (J + 3), none⟩ = some (.int .u8 (x3 : Int)) ∧ w'.frozen? ⟨gb, k, none⟩ = false)
          (first | exact ⟨c0, c1, c2, c3, f⟩ | go_keep)
          (fail)
        all_goals
          go_wp2_with fail
          go_roundw
          case rel =>
            have hset := (HAT.out.same (w2 := wr.drew) rfl rfl rfl rfl).set h64 HX.out
            rw [← HGB.out] at hset
            exact ⟨k + 1, by omega, by go_num, hset.same rfl rfl rfl rfl⟩
          case measure => simp [intOf]; omega
      · have hn := nextWord_at q k (by omega) h64
        have HN := Lib.hid hn
        obtain ⟨k16, hk16⟩ : ∃ j, j = k - 16 := ⟨_, rfl⟩
        obtain ⟨k15, hk15⟩ : ∃ j, j = k - 15 := ⟨_, rfl⟩
        obtain ⟨k7, hk7⟩ : ∃ j, j = k - 7 := ⟨_, rfl⟩
        obtain ⟨k2, hk2⟩ : ∃ j, j = k - 2 := ⟨_, rfl⟩
        rw [← hk16, ← hk15, ← hk7, ← hk2] at hn
        obtain ⟨x0, hx0⟩ : ∃ x, x = (sched q 64).getD k16 0 := ⟨_, rfl⟩
        obtain ⟨x1, hx1⟩ : ∃ x, x = (sched q 64).getD k15 0 := ⟨_, rfl⟩
        obtain ⟨x9, hx9⟩ : ∃ x, x = (sched q 64).getD k7 0 := ⟨_, rfl⟩
        obtain ⟨x14, hx14⟩ : ∃ x, x = (sched q 64).getD k2 0 := ⟨_, rfl⟩
        have c0 := hat.cell (j := k16) (by omega) (by omega)
        have c1 := hat.cell (j := k15) (by omega) (by omega)
        have c9 := hat.cell (j := k7) (by omega) (by omega)
        have c14 := hat.cell (j := k2) (by omega) (by omega)
        have z := hat.zero (by omega)
        have f := hat.free k
        rw [← HGB.out] at c0 c1 c9 c14 z f
        rw [← hx0] at c0
        rw [← hx1] at c1
        rw [← hx9] at c9
        rw [← hx14] at c14
        rw [← hx0, ← hx1, ← hx9, ← hx14] at hn
        have HX := Lib.hid hn
        have e16 : (k : Int) - 16 = (k16 : Int) := by omega
        have e15 : (k : Int) - 15 = (k15 : Int) := by omega
        have e7 : (k : Int) - 7 = (k7 : Int) := by omega
        have e2 : (k : Int) - 2 = (k2 : Int) := by omega
        have d16 : IntKind.i64.wrap (k16 : Int) = (k16 : Int) := IntWalk.i64_in _ ⟨by omega, by omega⟩
        have d15 : IntKind.i64.wrap (k15 : Int) = (k15 : Int) := IntWalk.i64_in _ ⟨by omega, by omega⟩
        have d7 : IntKind.i64.wrap (k7 : Int) = (k7 : Int) := IntWalk.i64_in _ ⟨by omega, by omega⟩
        have d2 : IntKind.i64.wrap (k2 : Int) = (k2 : Int) := IntWalk.i64_in _ ⟨by omega, by omega⟩
        have p16 : (k16 : Int) < 64 := by omega
        have p15 : (k15 : Int) < 64 := by omega
        have p7 : (k7 : Int) < 64 := by omega
        have p2 : (k2 : Int) < 64 := by omega
        have q16 : 0 ≤ (k16 : Int) := by omega
        have q15 : 0 ≤ (k15 : Int) := by omega
        have q7 : 0 ≤ (k7 : Int) := by omega
        have q2 : 0 ≤ (k2 : Int) := by omega
        have pk : (k : Int) < 64 := by omega
        have qk : 0 ≤ (k : Int) := by omega
        have b1 := bits_xor (x1.rotateRight 7) (x1.rotateRight 18)
        have b2 : bits .xor .u32 (num (x1.rotateRight 7 ^^^ x1.rotateRight 18)) (num (x1 >>> 3)) = num (shift3 x1 7 18 3) := by rw [bits_xor]; rfl
        have b3 := bits_xor (x14.rotateRight 17) (x14.rotateRight 19)
        have b4 : bits .xor .u32 (num (x14.rotateRight 17 ^^^ x14.rotateRight 19)) (num (x14 >>> 10)) = num (shift3 x14 17 19 10) := by rw [bits_xor]; rfl
        have h3 := shr3 x1
        have h10 := shr10 x14
        have hE : (((num x0 + bits .xor .u32 (num (x1.rotateRight 7 ^^^ x1.rotateRight 18)) (num x1 / 8)) % 4294967296 + num x9) % 4294967296 + bits .xor .u32 (num (x14.rotateRight 17 ^^^ x14.rotateRight 19)) (num x14 / 1024)) % 4294967296 = num (x0 + shift3 x1 7 18 3 + x9 + shift3 x14 17 19 10) := by
          rw [h3, h10, b2, b4, mod_add, mod_add, mod_add]
        have HE := Lib.hid hE
        clear hE h3 h10 b2 b4
        have hne0 : (⟨gb, k, none⟩ : Addr) ≠ ⟨gb, k16, none⟩ := by intro e; injection e with _ e2 _; omega
        have hne9 : (⟨gb, k, none⟩ : Addr) ≠ ⟨gb, k7, none⟩ := by intro e; injection e with _ e2 _; omega
        have s0 : ∀ (W : World) v, (W.setCell ⟨gb, k, none⟩ v).cell? ⟨gb, k16, none⟩ = W.cell? ⟨gb, k16, none⟩ := fun W v => World.cell?_setCell_other W _ _ v hne0
        have s9 : ∀ (W : World) v, (W.setCell ⟨gb, k, none⟩ v).cell? ⟨gb, k7, none⟩ = W.cell? ⟨gb, k7, none⟩ := fun W v => World.cell?_setCell_other W _ _ v hne9
        clear hat hn hx0 hx1 hx9 hx14 HN hk16 hk15 hk7 hk2 hne0 hne9 hm8
        go_wp2_with fail
        go_quiet (fail)
        go_wp2_with fail
        go_region_held3 (fun w' => w'.cell? ⟨gb, k16, none⟩ = some (.int .u32 (num x0)) ∧ w'.cell? ⟨gb, k7, none⟩ = some (.int .u32 (num x9)) ∧ w'.frozen? ⟨gb, k, none⟩ = false)
          (first | exact ⟨c0, c9, f⟩ | go_keep)
          ((go_at_call 21; refine (turn_int _ _ (by decide) _).mono ?_; rintro e w2 ⟨rfl, m, rfl⟩))
        all_goals
          go_wp2_with fail
          go_roundw
          case rel =>
            have hset := (HAT.out.same (w2 := wr.drew) rfl rfl rfl rfl).set h64 HX.out.symm
            rw [← HGB.out] at hset
            refine ⟨k + 1, by omega, by go_num, ?_⟩
            rw [HE.out]
            exact hset.same rfl rfl rfl rfl
          case measure => simp [intOf]; omega
    -- B
    · have hk64 : k = 64 := by omega
      rw [hk64] at hat
      have hs0 : WordsAt w gb (wordsOf (sched q 64)) wr := ⟨by rw [HGB.out, ← schedRow_full]; exact hat.1, by rw [HGB.out]; exact Nat.le_refl _, hat.2⟩
      have HS0 := Lib.hid hs0
      clear hat hk64 hs0 HAT
      go_wp2_with fail
      obtain ⟨vb0, hvb0⟩ : ∃ vb0, vb0 = wr.heap.size := ⟨_, rfl⟩
      have hb1 : Below wr.heap.size wr (wr.alloc (.cells (zerosW 8).toArray 36)) := (Below.refl _ _).alloc (Nat.le_refl _) _
      have hs1 : WordsAt w gb (wordsOf (sched q 64)) (wr.alloc (.cells (zerosW 8).toArray 36)) := HS0.out.below hb1
      have hv1 : WordsAt w vb0 (copyRow v.list 0) (wr.alloc (.cells (zerosW 8).toArray 36)) := ⟨by rw [hvb0]; exact heap_alloc_new _ _, by rw [hvb0]; exact HS0.out.2.2.size, hs1.2.2⟩
      have hgv : gb < vb0 := by rw [hvb0]; exact lt_of_block HS0.out.1
      rw [← hvb0]
      revert hs1 hv1
      generalize (wr.alloc (.cells (zerosW 8).toArray 36)) = w2
      intro hs1 hv1
      have HS1 := Lib.hid hs1
      have HV1 := Lib.hid hv1
      clear hs1 hv1 hvb0 hb1
      go_loopw [12] (fun i wx => ∃ j : Nat, j ≤ 8 ∧ i = .int .i64 j ∧ WordsAt w gb (wordsOf (sched q 64)) wx ∧ WordsAt w vb0 (copyRow v.list j) wx) (fun i _ => 8 - (intOf i).toNat)
      case atStart => exact ⟨0, Nat.zero_le _, rfl, HS1.out, HV1.out⟩
      case round =>
        obtain ⟨j, hj, rfl, hs, hv⟩ := hrel
        have HS := Lib.hid hs
        have HV := Lib.hid hv
        by_cases hj8 : j < 8
        · have cj := old_cell HH.out hs.2.2 (j := j) (by rw [eight_len]; exact hj8)
          have zj := hv.zero (by rw [eight_len]; exact hj8)
          have fj := hv.free j
          obtain ⟨x, hx⟩ : ∃ x, x = v.list.getD j 0 := ⟨_, rfl⟩
          rw [← hx] at cj
          have HX := Lib.hid hx
          have pj : (j : Int) < 8 := by omega
          have qj : 0 ≤ (j : Int) := by omega
          clear hs hv hx hm8
          go_wp2_with fail
          go_roundw
          case rel => exact ⟨j + 1, by omega, by go_num, HS.out.other (by omega) HV.out.2.1, HV.out.lay (by rw [eight_len]; exact hj8) HX.out⟩
          case measure => simp [intOf]; omega
        · have hj' : j = 8 := by omega
          rw [hj', show (8 : Nat) = v.list.length from rfl, copyRow_all] at hv
          have HV2 := Lib.hid hv
          clear hs hv hj' HV
          go_wp2_with fail
          obtain ⟨jj, hjj⟩ : ∃ jj : World, jj = wr := ⟨_, rfl⟩
          have HS2 : Hid (WordsAt w gb (wordsOf (sched q 64)) jj) := by rw [hjj]; exact HS.out
          have HV3 : Hid (WordsAt w vb0 (wordsOf v.list) jj) := by rw [hjj]; exact HV2.out
          rw [← hjj]
          clear hjj HS HV2
          go_loopw [11, 13] (fun s i wx => ∃ (m vb : Nat) (r : Eight), m ≤ 64 ∧ i = .int .i64 m ∧ s = .slice (some ⟨vb, 0, none⟩) 8 8 ∧ Hid (r = rounds (sched q 64) v m) ∧ WordsAt w gb (wordsOf (sched q 64)) wx ∧ WordsAt w vb (wordsOf r.list) wx) (fun _ i _ => 64 - (intOf i).toNat)
          case atStart => exact ⟨0, vb0, v, Nat.zero_le _, rfl, rfl, Lib.hid rfl, HS2.out, HV3.out⟩
          case round =>
            obtain ⟨m, vb, ⟨a, b', c', d, e, f, g, h⟩, hm, rfl, rfl, HR, hs, hv⟩ := hrel
            have HS := Lib.hid hs
            have HV := Lib.hid hv
            by_cases hm64 : m < 64
            · have ck := old_cell HK.out hs.2.2 (j := m) hm64
              have cw := hs.cell (j := m) (by rw [sched_len]; exact hm64)
              have c0 := hv.cell (j := 0) (by rw [eight_len]; omega)
              have c1 := hv.cell (j := 1) (by rw [eight_len]; omega)
              have c2 := hv.cell (j := 2) (by rw [eight_len]; omega)
              have c3 := hv.cell (j := 3) (by rw [eight_len]; omega)
              have c4 := hv.cell (j := 4) (by rw [eight_len]; omega)
              have c5 := hv.cell (j := 5) (by rw [eight_len]; omega)
              have c6 := hv.cell (j := 6) (by rw [eight_len]; omega)
              have c7 := hv.cell (j := 7) (by rw [eight_len]; omega)
              simp only [Eight.list, List.getD_cons_zero, List.getD_cons_succ] at c0 c1 c2 c3 c4 c5 c6 c7
              obtain ⟨x, hx⟩ : ∃ x, x = ks.getD m 0 := ⟨_, rfl⟩
              obtain ⟨y, hy⟩ : ∃ y, y = (sched q 64).getD m 0 := ⟨_, rfl⟩
              rw [← hx] at ck
              rw [← hy] at cw
              have HX := Lib.hid hx
              have HY := Lib.hid hy
              have pm : (m : Int) < 64 := by omega
              have qm : 0 ≤ (m : Int) := by omega
              have b1 := bits_and e f
              have b2 := num_not' e
              have b3 := bits_and (~~~e) g
              obtain ⟨ch, hch⟩ : ∃ ch, ch = choice e f g := ⟨_, rfl⟩
              have b4 : bits .or .u32 (num (e &&& f)) (num (~~~e &&& g)) = num ch := by rw [bits_or, hch, choice_or]
              have m1 := bits_and a b'
              have m2 := bits_and a c'
              have m3 := bits_and b' c'
              have m4 := bits_or (a &&& b') (a &&& c')
              obtain ⟨mj, hmj⟩ : ∃ mj, mj = major a b' c' := ⟨_, rfl⟩
              have m5 : bits .or .u32 (num ((a &&& b') ||| (a &&& c'))) (num (b' &&& c')) = num mj := by rw [bits_or, hmj, major_or]
              have x1 := bits_xor (e.rotateRight 6) (e.rotateRight 11)
              have x2 : bits .xor .u32 (num (e.rotateRight 6 ^^^ e.rotateRight 11)) (num (e.rotateRight 25)) = num (turn3 e 6 11 25) := by rw [bits_xor]; rfl
              have x3 := bits_xor (a.rotateRight 2) (a.rotateRight 13)
              have x4 : bits .xor .u32 (num (a.rotateRight 2 ^^^ a.rotateRight 13)) (num (a.rotateRight 22)) = num (turn3 a 2 13 22) := by rw [bits_xor]; rfl
              obtain ⟨T, hT⟩ : ∃ T, T = tee ⟨a, b', c', d, e, f, g, h⟩ x y := ⟨_, rfl⟩
              obtain ⟨U, hU⟩ : ∃ U, U = you ⟨a, b', c', d, e, f, g, h⟩ := ⟨_, rfl⟩
              have a1 := wrap_add h (turn3 e 6 11 25)
              have a2 := wrap_add (h + turn3 e 6 11 25) ch
              have a3 := wrap_add (h + turn3 e 6 11 25 + ch) x
              have a4 : IntKind.u32.wrap (num (h + turn3 e 6 11 25 + ch + x) + num y) = num T := by rw [wrap_add, hT, hch]; rfl
              have a5 : IntKind.u32.wrap (num (turn3 a 2 13 22) + num mj) = num U := by rw [wrap_add, hU, hmj]; rfl
              have a6 := wrap_add T U
              have a6' := mod_add T U
              have a7 := wrap_add d T
              have a7' := mod_add d T
              have hnext : round ⟨a, b', c', d, e, f, g, h⟩ x y = ⟨T + U, a, b', c', d + T, e, f, g⟩ := by rw [hT, hU]; rfl
              have HN := Lib.hid hnext
              clear hx hy hs hv hch hmj hT hU hnext hm8
              go_wp2_with fail
              go_quiet (fail)
              go_wp2_with fail
              go_quiet (fail)
              go_wp2_with fail
              go_quiet ((go_at_call 21; exact quiet_more (turn_int _ _ (by decide) _)))
              go_wp2_with fail
              go_quiet ((go_at_call 21; exact quiet_more (turn_int _ _ (by decide) _)))
              go_wp2_with fail
              go_region_held3 (fun w' => w'.cell? ⟨vb, 0, none⟩ = some (.int .u32 (num a)) ∧ w'.cell? ⟨vb, 1, none⟩ = some (.int .u32 (num b')) ∧ w'.cell? ⟨vb, 2, none⟩ = some (.int .u32 (num c')) ∧ w'.cell? ⟨vb, 3, none⟩ = some (.int .u32 (num d)) ∧ w'.cell? ⟨vb, 4, none⟩ = some (.int .u32 (num e)) ∧ w'.cell? ⟨vb, 5, none⟩ = some (.int .u32 (num f)) ∧ w'.cell? ⟨vb, 6, none⟩ = some (.int .u32 (num g)))
                (first | exact ⟨c0, c1, c2, c3, c4, c5, c6⟩ | go_keep)
                (fail)
              all_goals
                go_wp2_with fail
                go_roundw
                case rel =>
                  refine ⟨m + 1, _, ⟨T + U, a, b', c', d + T, e, f, g⟩, by omega, by go_num, rfl, Lib.hid (by rw [← HN.out, HX.out, HY.out]; show _ = round (rounds _ _ m) _ _; rw [← HR.out]), ?_, ?_⟩
                  · exact HS.out.allocd rfl rfl rfl rfl
                  · exact HS.out.newly rfl rfl rfl rfl
                case measure => simp [intOf]; omega
            · have hm' : m = 64 := by omega
              have hr := HR.out
              rw [hm'] at hr
              have hcomp : compress v q = v.add ⟨a, b', c', d, e, f, g, h⟩ := by rw [hr]; rfl
              have HCOMP := Lib.hid hcomp
              obtain ⟨V, hV⟩ : ∃ V : Eight, V = ⟨a, b', c', d, e, f, g, h⟩ := ⟨_, rfl⟩
              rw [← hV] at hv hcomp
              have HV := Lib.hid hv
              have HCOMP := Lib.hid hcomp
              clear hv hm' hr hcomp hV
              go_wp2_with fail
              obtain ⟨ob, hob⟩ : ∃ ob, ob = wr.heap.size := ⟨_, rfl⟩
              have hv5 : WordsAt w vb (wordsOf V.list) (wr.alloc (.cells (zerosW 8).toArray 36)) := HV.out.allocd rfl rfl rfl rfl
              have ho5 : WordsAt w ob (copyRow (v.add V).list 0) (wr.alloc (.cells (zerosW 8).toArray 36)) := ⟨by rw [hob]; exact heap_alloc_new _ _, by rw [hob]; exact hs.2.2.size, hv5.2.2⟩
              have hvo : vb < ob := by rw [hob]; exact lt_of_block HV.out.1
              rw [← hob]
              revert hv5 ho5
              generalize (wr.alloc (.cells (zerosW 8).toArray 36)) = w5
              intro hv5 ho5
              have HV5 := Lib.hid hv5
              have HO5 := Lib.hid ho5
              clear hv5 ho5 hob hs
              go_loopw [20] (fun i wx => ∃ j : Nat, j ≤ 8 ∧ i = .int .i64 j ∧ WordsAt w vb (wordsOf V.list) wx ∧ WordsAt w ob (copyRow (v.add V).list j) wx) (fun i _ => 8 - (intOf i).toNat)
              case atStart => exact ⟨0, Nat.zero_le _, rfl, HV5.out, HO5.out⟩
              case round =>
                obtain ⟨j, hj, rfl, hv, ho⟩ := hrel
                have HV6 := Lib.hid hv
                have HO6 := Lib.hid ho
                by_cases hj8 : j < 8
                · have ch := old_cell HH.out hv.2.2 (j := j) (by rw [eight_len]; exact hj8)
                  have cv := hv.cell (j := j) (by rw [eight_len]; exact hj8)
                  have zj := ho.zero (by rw [eight_len]; exact hj8)
                  have fj := ho.free j
                  have hadd : v.list.getD j 0 + V.list.getD j 0 = (v.add V).list.getD j 0 := by
                    rcases (show j = 0 ∨ j = 1 ∨ j = 2 ∨ j = 3 ∨ j = 4 ∨ j = 5 ∨ j = 6 ∨ j = 7 by omega) with rfl | rfl | rfl | rfl | rfl | rfl | rfl | rfl <;> rfl
                  obtain ⟨x, hx⟩ : ∃ x, x = v.list.getD j 0 := ⟨_, rfl⟩
                  obtain ⟨y, hy⟩ : ∃ y, y = V.list.getD j 0 := ⟨_, rfl⟩
                  rw [← hx] at ch hadd
                  rw [← hy] at cv hadd
                  have HADD := Lib.hid hadd
                  have pj : (j : Int) < 8 := by omega
                  have qj : 0 ≤ (j : Int) := by omega
                  have a1 := wrap_add x y
                  have a1' := mod_add x y
                  have hg0 : hg < w.heap.size := lt_of_block HH.out
                  have hov := ho.2.1
                  have s0 : ∀ (W : World) u, (W.setCell ⟨ob, j, none⟩ u).cell? ⟨hg, j, none⟩ = W.cell? ⟨hg, j, none⟩ := fun W u => World.cell?_setCell_far W _ _ u (show ob ≠ hg by omega)
                  have s1 : ∀ (W : World) u, (W.setCell ⟨ob, j, none⟩ u).cell? ⟨vb, j, none⟩ = W.cell? ⟨vb, j, none⟩ := fun W u => World.cell?_setCell_far W _ _ u (show ob ≠ vb by omega)
                  clear hv ho hx hy hadd hm8 hg0 hov
                  go_wp2_with fail
                  go_region_held3 (fun w' => w'.cell? ⟨hg, j, none⟩ = some (.int .u32 (num x)) ∧ w'.cell? ⟨vb, j, none⟩ = some (.int .u32 (num y)) ∧ w'.frozen? ⟨ob, j, none⟩ = false)
                    (first | exact ⟨ch, cv, fj⟩ | go_keep)
                    (fail)
                  all_goals
                    go_wp2_with fail
                    go_roundw
                    case rel =>
                      refine ⟨j + 1, by omega, by go_num, ?_, ?_⟩
                      · exact (HV6.out.other (g' := ob) (j := j) (u := .int .u32 (num (x + y))) (by omega) HO6.out.2.1).same rfl rfl rfl rfl
                      · exact (HO6.out.lay (by rw [eight_len]; exact hj8) HADD.out).same rfl rfl rfl rfl
                    case measure => simp [intOf]; omega
                · have hj' : j = 8 := by omega
                  rw [hj', show (8 : Nat) = (v.add V).list.length from rfl, copyRow_all, ← HCOMP.out] at ho
                  have HF := Lib.hid ho
                  clear hv ho hj' HO6
                  go_wp2_with fail
                  go_ret
                  exact ⟨ob, rfl, HF.out.2.1, HF.out.1, HF.out.2.2⟩
end Go.Proofs.YtfjedbfghcdbdaaDoor
