/- Words of 32 bits as the walk spells them: sums, bits and shifts of naturals below 2 to the 32nd are those of BitVec 32. No program is named. What the functions of words come to, one contract each: RotateLeft32, turned, shifted. SHA-256 as a plain function of lists of bytes, as the document's chapter 2 says it, and how it is summed piece by piece. No program is named. What wordOf and bytesOf come to: four bytes as a word, a word as four bytes. What spread comes to: a block's words of all rounds. A sum under way, as it lies in memory: eight words, a block's bytes, how many there were. What is behind a sum under way when more bytes come, as plain lists. What mix comes to: a block makes eight words of eight words. What put comes to: a sum under way takes more bytes. What begin comes to: the sum of nothing yet. What begin and end come to: the sum of nothing yet; the sum. A call that sums: what stands under way. What Join comes to: the sum of parts under a tag. Rows of two parts and of one. No function of the program is named. Laws for a region that draws its order: the next operation taken by its slot's number; sums compared; guarded loads. No function of the program is named. What Pair comes to: the sum of two sums under a tag. -/
import Derived.WalkKit
import Derived.Lib.Hide
import Derived.Laws.BitsAllLaws
import Derived.IntWalk
import Derived.Test.YtlnenkmcegadmaaDoorProg
import Derived.Deep.QuietTactic
import Derived.BigQuiet
import Derived.Test.YtlnenkmcegadmaaDoorMemory
import Derived.WalkSmall
import Derived.Outline
import Derived.BigRegion
import Derived.Deep.CutRange
import Derived.Stop.BytesEq
namespace Go.Proofs.YtlnenkmcegadmaaDoor
open Go.RowKit

/-- A word's number, as an integer. -/
def num (x : BitVec 32) : Int := ((x.toNat : Nat) : Int)
theorem num_lt (x : BitVec 32) : num x < 4294967296 := by
  have := x.isLt; unfold num; omega
theorem num_nonneg (x : BitVec 32) : 0 ≤ num x := by unfold num; omega
theorem num_ofNat (n : Nat) (h : n < 4294967296) : num (BitVec.ofNat 32 n) = (n : Int) := by
  unfold num; rw [BitVec.toNat_ofNat, Nat.mod_eq_of_lt (by simpa using h)]
theorem ofInt_num (x : BitVec 32) : BitVec.ofInt 32 (num x) = x := by
  unfold num; rw [BitVec.ofInt_natCast]; simp
theorem wrap_num (x : BitVec 32) : IntKind.u32.wrap ((x.toNat : Nat) : Int) = num x := by
  rw [IntKind.wrap_u32']; have := x.isLt; unfold num; omega
theorem bits_and (x y : BitVec 32) : bits .and .u32 (num x) (num y) = num (x &&& y) := by
  show IntKind.u32.wrap ((BitVec.ofInt 32 (num x) &&& BitVec.ofInt 32 (num y)).toNat : Int) = _
  rw [ofInt_num, ofInt_num, wrap_num]
theorem bits_or (x y : BitVec 32) : bits .or .u32 (num x) (num y) = num (x ||| y) := by
  show IntKind.u32.wrap ((BitVec.ofInt 32 (num x) ||| BitVec.ofInt 32 (num y)).toNat : Int) = _
  rw [ofInt_num, ofInt_num, wrap_num]
theorem bits_xor (x y : BitVec 32) : bits .xor .u32 (num x) (num y) = num (x ^^^ y) := by
  show IntKind.u32.wrap ((BitVec.ofInt 32 (num x) ^^^ BitVec.ofInt 32 (num y)).toNat : Int) = _
  rw [ofInt_num, ofInt_num, wrap_num]
theorem wrap_add (x y : BitVec 32) : IntKind.u32.wrap (num x + num y) = num (x + y) := by
  rw [IntKind.wrap_u32']; unfold num; rw [BitVec.toNat_add]; omega
theorem mod_add (x y : BitVec 32) : (num x + num y) % 4294967296 = num (x + y) := by
  rw [← wrap_add, IntKind.wrap_u32']

theorem shl_num (x : BitVec 32) (s : Nat) (h : s < 32) (k : IntKind) : Op.shift .shl .u32 (num x) k (s : Int) = pure (.int .u32 (num (x <<< s))) := by
  have e : min (s : Int).toNat IntKind.u32.bits = s := by simp [IntKind.bits]; omega
  have n : ¬ ((s : Int) < 0) := by omega
  unfold Op.shift
  rw [if_neg n, e]
  show pure (Value.int IntKind.u32 (IntKind.u32.wrap (num x * 2 ^ s))) = _
  rw [IntKind.wrap_u32']
  have : num x * 2 ^ s % 4294967296 = num (x <<< s) := by
    unfold num
    rw [BitVec.toNat_shiftLeft, Nat.shiftLeft_eq]
    simp
  rw [this]
theorem shr_num (x : BitVec 32) (s : Nat) (h : s < 32) (k : IntKind) : Op.shift .shr .u32 (num x) k (s : Int) = pure (.int .u32 (num (x >>> s))) := by
  have e : min (s : Int).toNat IntKind.u32.bits = s := by simp [IntKind.bits]; omega
  have n : ¬ ((s : Int) < 0) := by omega
  unfold Op.shift
  rw [if_neg n, e]
  show pure (Value.int IntKind.u32 ((num x).fdiv (2 ^ s))) = _
  have : (num x).fdiv (2 ^ s) = num (x >>> s) := by
    unfold num
    rw [BitVec.toNat_ushiftRight, Nat.shiftRight_eq_div_pow, Int.fdiv_eq_ediv_of_nonneg _ (Int.le_of_lt (Int.pow_pos (by decide)))]
    simp
  rw [this]
theorem shr_div (x : BitVec 32) (s : Nat) : num x / 2 ^ s = num (x >>> s) := by
  unfold num
  rw [BitVec.toNat_ushiftRight, Nat.shiftRight_eq_div_pow]
  simp
theorem low31 (i s : Nat) (h : s + i = 32) (h0 : 0 < i) (h1 : i < 32) : bits .and .u64 (IntKind.u64.wrap (-(i : Int))) 31 = (s : Int) := by
  have key : ∀ i : Fin 32, 0 < i.val → bits .and .u64 (IntKind.u64.wrap (-(i.val : Int))) 31 = ((32 - i.val : Nat) : Int) := by decide +kernel
  have := key ⟨i, h1⟩ h0
  rw [this]; simp; omega
theorem back32 (i s : Nat) (h : s + i = 32) : IntKind.u64.wrap (32 - (s : Int)) = (i : Int) := by
  have e : (32 - (s : Int)) = (i : Int) := by omega
  rw [e]; unfold IntKind.wrap; simp [IntKind.bits, IntKind.signed]; omega
theorem rot_eq (x : BitVec 32) (i s : Nat) (h : s + i = 32) (h1 : i < 32) : (x <<< s) ||| (x >>> i) = x.rotateRight i := by
  have e : 32 - i = s := by omega
  rw [BitVec.rotateRight_def, Nat.mod_eq_of_lt h1, e, BitVec.or_comm]
/-- Turned right by i, j, k, exclusive-or. -/
def turn3 (x : BitVec 32) (i j k : Nat) : BitVec 32 := x.rotateRight i ^^^ x.rotateRight j ^^^ x.rotateRight k
/-- Turned right by i, j, exclusive-or, shifted right by k, exclusive-or. -/
def shift3 (x : BitVec 32) (i j k : Nat) : BitVec 32 := x.rotateRight i ^^^ x.rotateRight j ^^^ x >>> k
theorem wrap_neg (i : Nat) (h : i < 32) : IntKind.i64.wrap (-(i : Int)) = -(i : Int) := IntWalk.i64_in _ ⟨by omega, by omega⟩
theorem wrap_back (i s : Nat) (h : s + i = 32) : IntKind.i64.wrap (32 - (i : Int)) = (s : Int) := by
  rw [IntWalk.i64_in _ ⟨by omega, by omega⟩]; omega

end Go.Proofs.YtlnenkmcegadmaaDoor
namespace Go.Proofs.YtlnenkmcegadmaaDoor
open Go.RowKit
theorem quiet_eq {P : Program} {f : FuncId} {args : Array Value} {w : World} {n : Nat} {v : Value}
    (h : Calls P f args (w.drewN n) fun e w' => e = .returned v ∧ w.drewN n = w') : Calls P f args (w.drewN n) fun e w'' => e = .returned v ∧ ∃ m, w'' = w.drewN m :=
  h.mono fun _ _ ⟨he, hm⟩ => ⟨he, n, hm.symm⟩
theorem rot_any (x : BitVec 32) (i : Nat) (h0 : 0 < i) (h1 : i < 32) (w : World) : Calls Tryd.prog 85 #[.int .u32 (num x), .int .i64 (-(i : Int))] w fun e w' => e = .returned (.int .u32 (num (x.rotateRight i))) ∧ w = w' := by
  obtain ⟨s, hs⟩ : ∃ s, s + i = 32 := ⟨32 - i, by omega⟩
  have e1 := low31 i s hs h0 h1
  have e2 := back32 i s hs
  have e3 := shl_num x s (by omega) .u64
  have e4 := shr_num x i h1 .u64
  have e5 := bits_or (x <<< s) (x >>> i)
  rw [rot_eq x i s hs h1] at e5
  clear hs h0 h1
  go_enter Tryd.func85, Tryd.ntmps85
  go_wp2
  go_ret
  exact ⟨rfl, rfl⟩
theorem turned_any (x : BitVec 32) (i j k : Nat) (hi0 : 0 < i) (hi : i < 32) (hj0 : 0 < j) (hj : j < 32) (hk0 : 0 < k) (hk : k < 32) (w : World) : Calls Tryd.prog 70 #[.int .u32 (num x), .int .i64 (i : Int), .int .i64 (j : Int), .int .i64 (k : Int)] w fun e w' => e = .returned (.int .u32 (num (turn3 x i j k))) ∧ w = w' := by
  have ei := wrap_neg i hi
  have ej := wrap_neg j hj
  have ek := wrap_neg k hk
  have e1 := bits_xor (x.rotateRight i) (x.rotateRight j)
  have e2 := bits_xor (x.rotateRight i ^^^ x.rotateRight j) (x.rotateRight k)
  go_enter Tryd.func70, Tryd.ntmps70
  go_wp2_with (go_at_call 85; refine (rot_any _ _ (by assumption) (by assumption) _).mono ?_; rintro e w' ⟨rfl, rfl⟩)
  go_ret
  exact ⟨rfl, rfl⟩
theorem shifted_any (x : BitVec 32) (i j k : Nat) (hi0 : 0 < i) (hi : i < 32) (hj0 : 0 < j) (hj : j < 32) (hk : k < 32) (w : World) : Calls Tryd.prog 84 #[.int .u32 (num x), .int .i64 (i : Int), .int .i64 (j : Int), .int .i64 (k : Int)] w fun e w' => e = .returned (.int .u32 (num (shift3 x i j k))) ∧ ∃ n, w' = w.drewN n := by
  have ei := wrap_neg i hi
  have ej := wrap_neg j hj
  have es := shr_div x k
  have e1 := bits_xor (x.rotateRight i) (x.rotateRight j)
  have e2 := bits_xor (x.rotateRight i ^^^ x.rotateRight j) (x >>> k)
  go_enter Tryd.func84, Tryd.ntmps84
  go_wp2_with fail
  go_quiet ((go_at_call 85; exact quiet_eq (rot_any _ _ (by assumption) (by assumption) _)))
  go_wp2
  go_ret
  exact ⟨rfl, _, rfl⟩
end Go.Proofs.YtlnenkmcegadmaaDoor
namespace Go.Proofs.YtlnenkmcegadmaaDoor

/-- The constants of the rounds. -/
def ks : List (BitVec 32) := [
  1116352408, 1899447441, 3049323471, 3921009573, 961987163, 1508970993, 2453635748, 2870763221,
  3624381080, 310598401, 607225278, 1426881987, 1925078388, 2162078206, 2614888103, 3248222580,
  3835390401, 4022224774, 264347078, 604807628, 770255983, 1249150122, 1555081692, 1996064986,
  2554220882, 2821834349, 2952996808, 3210313671, 3336571891, 3584528711, 113926993, 338241895,
  666307205, 773529912, 1294757372, 1396182291, 1695183700, 1986661051, 2177026350, 2456956037,
  2730485921, 2820302411, 3259730800, 3345764771, 3516065817, 3600352804, 4094571909, 275423344,
  430227734, 506948616, 659060556, 883997877, 958139571, 1322822218, 1537002063, 1747873779,
  1955562222, 2024104815, 2227730452, 2361852424, 2428436474, 2756734187, 3204031479, 3329325298]
/-- The word at place i of bytes, the highest byte first. -/
def word (b : List UInt8) (i : Nat) : BitVec 32 := BitVec.ofNat 32 ((b.getD (4 * i) 0).toNat * 16777216 + (b.getD (4 * i + 1) 0).toNat * 65536 + (b.getD (4 * i + 2) 0).toNat * 256 + (b.getD (4 * i + 3) 0).toNat)
/-- The word behind n words. -/
def nextWord (b : List UInt8) (n : Nat) (l : List (BitVec 32)) : BitVec 32 :=
  if n < 16 then word b n else l.getD (n - 16) 0 + shift3 (l.getD (n - 15) 0) 7 18 3 + l.getD (n - 7) 0 + shift3 (l.getD (n - 2) 0) 17 19 10
def moreWords (b : List UInt8) (n : Nat) (l : List (BitVec 32)) : List (BitVec 32) := l ++ [nextWord b n l]
/-- The first n words of all rounds. -/
def sched (b : List UInt8) : Nat → List (BitVec 32)
  | 0 => []
  | n + 1 => moreWords b n (sched b n)
theorem sched_len (b : List UInt8) : ∀ n, (sched b n).length = n
  | 0 => rfl
  | n + 1 => by simp [sched, moreWords, sched_len b n]
theorem sched_take (b : List UInt8) (n : Nat) : ∀ m, n ≤ m → (sched b m).take n = sched b n
  | 0, h => by have : n = 0 := by omega
               subst this; rfl
  | m + 1, h => by
    by_cases e : n = m + 1
    · subst e
      rw [List.take_of_length_le (by rw [sched_len]; omega)]
    · have := sched_take b n m (by omega)
      show (sched b m ++ [nextWord b m (sched b m)]).take n = _
      rw [List.take_append_of_le_length (by rw [sched_len]; omega), this]
theorem sched_get (b : List UInt8) (n m i : Nat) (hi : i < n) (h : n ≤ m) : (sched b m).getD i 0 = (sched b n).getD i 0 := by
  rw [← sched_take b n m h]
  simp [List.getD, hi]

structure Eight where
  a : BitVec 32
  b : BitVec 32
  c : BitVec 32
  d : BitVec 32
  e : BitVec 32
  f : BitVec 32
  g : BitVec 32
  h : BitVec 32
def Eight.list (v : Eight) : List (BitVec 32) := [v.a, v.b, v.c, v.d, v.e, v.f, v.g, v.h]
def choice (e f g : BitVec 32) : BitVec 32 := (e &&& f) ^^^ (~~~e &&& g)
def major (a b c : BitVec 32) : BitVec 32 := (a &&& b) ^^^ (a &&& c) ^^^ (b &&& c)
def tee (v : Eight) (k w : BitVec 32) : BitVec 32 := v.h + turn3 v.e 6 11 25 + choice v.e v.f v.g + k + w
def you (v : Eight) : BitVec 32 := turn3 v.a 2 13 22 + major v.a v.b v.c
def round (v : Eight) (k w : BitVec 32) : Eight := ⟨tee v k w + you v, v.a, v.b, v.c, v.d + tee v k w, v.e, v.f, v.g⟩
def rounds (ws : List (BitVec 32)) (v : Eight) : Nat → Eight
  | 0 => v
  | n + 1 => round (rounds ws v n) (ks.getD n 0) (ws.getD n 0)
def Eight.add (x y : Eight) : Eight := ⟨x.a + y.a, x.b + y.b, x.c + y.c, x.d + y.d, x.e + y.e, x.f + y.f, x.g + y.g, x.h + y.h⟩
/-- What a block makes of eight words. -/
def compress (v : Eight) (b : List UInt8) : Eight := v.add (rounds (sched b 64) v 64)
def start : Eight := ⟨1779033703, 3144134277, 1013904242, 2773480762, 1359893119, 2600822924, 528734635, 1541459225⟩
/-- The eight words behind the first k blocks. -/
def run (l : List UInt8) : Nat → Eight
  | 0 => start
  | k + 1 => compress (run l k) ((l.drop (64 * k)).take 64)
/-- A word's four bytes. -/
def four (x : BitVec 32) : List UInt8 := [UInt8.ofNat (x.toNat / 16777216), UInt8.ofNat (x.toNat / 65536), UInt8.ofNat (x.toNat / 256), UInt8.ofNat x.toNat]
theorem four_len (x : BitVec 32) : (four x).length = 4 := rfl
/-- How many bits there were, in eight bytes. -/
def bitsOf (n : Nat) : List UInt8 := four (BitVec.ofNat 32 (8 * n / 4294967296)) ++ four (BitVec.ofNat 32 (8 * n))
def behind : List UInt8 := 128 :: List.replicate 63 0
def fill (n : Nat) : Nat := 64 - (n + 8) % 64
/-- The bytes with what stands behind them. -/
def pad (l : List UInt8) : List UInt8 := l ++ behind.take (fill l.length) ++ bitsOf l.length
def Eight.bytes (v : Eight) : List UInt8 := v.list.flatMap four
/-- THE SUM OF BYTES. -/
def sumOf (l : List UInt8) : List UInt8 := (run (pad l) ((pad l).length / 64)).bytes
theorem sumOf_len (l : List UInt8) : (sumOf l).length = 32 := rfl
theorem pad_len (l : List UInt8) : (pad l).length % 64 = 0 := by
  have : fill l.length ≤ 64 := by unfold fill; omega
  have h2 : (behind.take (fill l.length)).length = fill l.length := by
    rw [List.length_take, show behind.length = 64 from rfl]; omega
  have h3 : (bitsOf l.length).length = 8 := rfl
  unfold pad
  rw [List.length_append, List.length_append, h2, h3]
  unfold fill
  omega
theorem run_append (l m : List UInt8) : ∀ k, 64 * k ≤ l.length → run (l ++ m) k = run l k
  | 0, _ => rfl
  | k + 1, h => by
    show compress (run (l ++ m) k) (((l ++ m).drop (64 * k)).take 64) = compress (run l k) ((l.drop (64 * k)).take 64)
    rw [run_append l m k (by omega)]
    rw [List.drop_append_of_le_length (by omega), List.take_append_of_le_length (by simp; omega)]
theorem run_block (l c : List UInt8) (k : Nat) (h : l.length = 64 * k) (hc : c.length = 64) : run (l ++ c) (k + 1) = compress (run l k) c := by
  show compress (run (l ++ c) k) (((l ++ c).drop (64 * k)).take 64) = _
  rw [run_append l c k (by omega), List.drop_left' (by omega), List.take_of_length_le (by omega)]

/-- The parts behind a tag: of each how many bytes it has, and it. -/
def partOf (p : List UInt8) : List UInt8 := four (BitVec.ofNat 32 p.length) ++ p
def partsOf (tag : UInt8) (ps : List (List UInt8)) : List UInt8 := tag :: ps.flatMap partOf

set_option maxRecDepth 100000 in
theorem sum_abc : sumOf [97, 98, 99] = [186, 120, 22, 191, 143, 1, 207, 234, 65, 65, 64, 222, 93, 174, 34, 35, 176, 3, 97, 163, 150, 23, 122, 156, 180, 16, 255, 97, 242, 0, 21, 173] := by decide +kernel

end Go.Proofs.YtlnenkmcegadmaaDoor
namespace Go.Proofs.YtlnenkmcegadmaaDoor
open Go.RowKit

theorem ret_int {k : IntKind} {a b : Int} (h : a = b) : Ending.returned (.int k a) = .returned (.int k b) := by rw [h]
theorem byte_lt (l : List UInt8) (i : Nat) : ∃ x, x = (l.getD i 0).toNat ∧ x < 256 := ⟨_, rfl, UInt8.toNat_lt _⟩
theorem join32 (i : Nat) (x y : Int) (hx0 : 0 ≤ x) (hx : x % 2 ^ i = 0) (hx1 : x < 4294967296) (hy0 : 0 ≤ y) (hy : y < 2 ^ i) (hy1 : y < 4294967296) : bits .or .u32 x y = x + y :=
  bits_join .u32 32 (by decide) (fun n h0 h1 => by rw [IntKind.wrap_u32']; omega) i x y hx0 hx (by omega) hy0 hy (by omega)
theorem word_or (x0 x1 x2 x3 : Nat) (h0 : x0 < 256) (h1 : x1 < 256) (h2 : x2 < 256) (h3 : x3 < 256) :
    bits .or .u32 (bits .or .u32 (bits .or .u32 ((x0 : Int) * 16777216) ((x1 : Int) * 65536)) ((x2 : Int) * 256)) (x3 : Int) = num (BitVec.ofNat 32 (x0 * 16777216 + x1 * 65536 + x2 * 256 + x3)) := by
  have j1 := join32 24 ((x0 : Int) * 16777216) ((x1 : Int) * 65536) (by omega) (by omega) (by omega) (by omega) (by omega) (by omega)
  have j2 := join32 16 ((x0 : Int) * 16777216 + (x1 : Int) * 65536) ((x2 : Int) * 256) (by omega) (by omega) (by omega) (by omega) (by omega) (by omega)
  have j3 := join32 8 ((x0 : Int) * 16777216 + (x1 : Int) * 65536 + (x2 : Int) * 256) (x3 : Int) (by omega) (by omega) (by omega) (by omega) (by omega) (by omega)
  rw [j1, j2, j3, num_ofNat _ (by omega)]
  simp

theorem wordOf_any {w : World} {a : Option Addr} {n c : Nat} {l : List UInt8} (h : Row w a n c l) (hn : 4 ≤ n) : Calls Tryd.prog 83 #[.slice a n c] w fun e w' => e = .returned (.int .u32 (num (word l 0))) ∧ ∃ m, w' = w.drewN m := by
  obtain ⟨b, off, rfl, _, hc⟩ := h.2.2.2.2 (by omega)
  have c0 := hc 0 (by omega)
  have c1 := hc 1 (by omega)
  have c2 := hc 2 (by omega)
  have c3 := hc 3 (by omega)
  rw [Nat.add_zero] at c0
  have i0 : (0 : Int) < n := by omega
  have i1 : (1 : Int) < n := by omega
  have i2 : (2 : Int) < n := by omega
  have i3 : (3 : Int) < n := by omega
  obtain ⟨x0, hx0, g0⟩ := byte_lt l 0
  obtain ⟨x1, hx1, g1⟩ := byte_lt l 1
  obtain ⟨x2, hx2, g2⟩ := byte_lt l 2
  obtain ⟨x3, hx3, g3⟩ := byte_lt l 3
  have hw : word l 0 = BitVec.ofNat 32 (x0 * 16777216 + x1 * 65536 + x2 * 256 + x3) := by rw [hx0, hx1, hx2, hx3]; rfl
  rw [← hx0] at c0
  rw [← hx1] at c1
  rw [← hx2] at c2
  rw [← hx3] at c3
  rw [hw]
  clear h hc hn hx0 hx1 hx2 hx3 hw
  go_enter Tryd.func83, Tryd.ntmps83
  go_wp2_with fail
  go_quiet (fail)
  go_wp2
  go_ret
  exact ⟨ret_int (word_or x0 x1 x2 x3 g0 g1 g2 g3), _, rfl⟩
theorem four_cells (x : BitVec 32) : (cellsOf (four x)).toArray = #[.int .u8 (num x / 16777216 % 256), .int .u8 (num x / 65536 % 256), .int .u8 (num x / 256 % 256), .int .u8 (num x % 256)] := by
  simp [cellsOf, four, num]
theorem Tryd.size96 : (Tryd.prog.info? 96).map (·.size) = some 4 := by kernel_rfl
theorem bytesOf_any (x : BitVec 32) (w : World) : Calls Tryd.prog 41 #[.int .u32 (num x)] w fun e w' => e = .returned (.agg (cellsOf (four x)).toArray) ∧ Below w.heap.size w w' := by
  rw [four_cells]
  go_enter Tryd.func41, Tryd.ntmps41
  go_wp2
  exact bodyPost_ret (results_cell_row rfl _ _ w.heap.size 96 _ (0, 0) _ rfl (heap_alloc_new _ _) Tryd.underlying96 rfl Tryd.size96) rfl ⟨rfl, (Below.refl _ _).alloc (Nat.le_refl _) _⟩
end Go.Proofs.YtlnenkmcegadmaaDoor
namespace Go.Proofs.YtlnenkmcegadmaaDoor
open Go.RowKit

/-- Words as cells. -/
def wordsOf (l : List (BitVec 32)) : List Value := l.map fun x => .int .u32 (num x)
def zerosW (n : Nat) : List Value := List.replicate n (.int .u32 0)
theorem wordsOf_one (l : List (BitVec 32)) : ∀ v ∈ wordsOf l, v.oneCell' = true := by
  intro v hv
  obtain ⟨b, _, rfl⟩ := List.mem_map.1 hv
  rfl
theorem wordsOf_get {l : List (BitVec 32)} {j : Nat} (hj : j < l.length) : (wordsOf l)[j]? = some (.int .u32 (num (l.getD j 0))) := by
  simp [wordsOf, List.getD, hj]
/-- The array of which the first k words are known. -/
def schedRow (q : List UInt8) (k : Nat) : List Value := wordsOf (sched q k) ++ zerosW (64 - k)
theorem schedRow_len (q : List UInt8) (k : Nat) (h : k ≤ 64) : (schedRow q k).length = 64 := by
  unfold schedRow wordsOf zerosW
  rw [List.length_append, List.length_map, sched_len, List.length_replicate]; omega
theorem schedRow_get (q : List UInt8) (k j : Nat) (h : k ≤ 64) (hj : j < k) : (schedRow q k)[j]? = some (.int .u32 (num ((sched q 64).getD j 0))) := by
  unfold schedRow
  rw [List.getElem?_append_left (by simp [wordsOf, sched_len, hj]), wordsOf_get (by rw [sched_len]; exact hj), sched_get q k 64 j hj h]
theorem schedRow_zero (q : List UInt8) (k j : Nat) (hj : k ≤ j) (h : j < 64) : (schedRow q k)[j]? = some (.int .u32 0) := by
  unfold schedRow zerosW
  have e : (wordsOf (sched q k)).length = k := by simp [wordsOf, sched_len]
  rw [List.getElem?_append_right (by omega), e, List.getElem?_replicate, if_pos (by omega)]
theorem schedRow_full (q : List UInt8) : schedRow q 64 = wordsOf (sched q 64) := by simp [schedRow, zerosW]
theorem schedRow_set (q : List UInt8) (k : Nat) (h : k < 64) : (schedRow q k).set k (.int .u32 (num (nextWord q k (sched q k)))) = schedRow q (k + 1) := by
  unfold schedRow
  have e : (wordsOf (sched q k)).length = k := by simp [wordsOf, sched_len]
  rw [List.set_append_right _ _ (by omega), e]
  have e2 : zerosW (64 - k) = .int .u32 0 :: zerosW (64 - (k + 1)) := by
    unfold zerosW
    rw [show 64 - k = (64 - (k + 1)) + 1 by omega, List.replicate_succ]
  rw [e2, Nat.sub_self, List.set_cons_zero]
  show _ = wordsOf (sched q k ++ [nextWord q k (sched q k)]) ++ _
  simp [wordsOf]
theorem nextWord_low (q : List UInt8) (k : Nat) (h : k < 16) : nextWord q k (sched q k) = word q k := by
  unfold nextWord; rw [if_pos h]
theorem nextWord_high (q : List UInt8) (k : Nat) (h : k < 48) : nextWord q (k + 16) (sched q (k + 16)) = (sched q 64).getD k 0 + shift3 ((sched q 64).getD (k + 1) 0) 7 18 3 + (sched q 64).getD (k + 9) 0 + shift3 ((sched q 64).getD (k + 14) 0) 17 19 10 := by
  unfold nextWord
  rw [if_neg (by omega), show k + 16 - 16 = k by omega, show k + 16 - 15 = k + 1 by omega, show k + 16 - 7 = k + 9 by omega, show k + 16 - 2 = k + 14 by omega]
  rw [sched_get q (k + 16) 64 k (by omega) (by omega), sched_get q (k + 16) 64 (k + 1) (by omega) (by omega), sched_get q (k + 16) 64 (k + 9) (by omega) (by omega), sched_get q (k + 16) 64 (k + 14) (by omega) (by omega)]
theorem word_take (q : List UInt8) (k : Nat) : word ((q.drop (4 * k)).take 4) 0 = word q k := by
  simp [word, List.getD]
theorem zeros_row (q : List UInt8) : (schedRow q 0).toArray = (zerosW 64).toArray := rfl
theorem zerosW_is : (zerosW 64).toArray = #[.int .u32 0, .int .u32 0, .int .u32 0, .int .u32 0, .int .u32 0, .int .u32 0, .int .u32 0, .int .u32 0, .int .u32 0, .int .u32 0, .int .u32 0, .int .u32 0, .int .u32 0, .int .u32 0, .int .u32 0, .int .u32 0,
  .int .u32 0, .int .u32 0, .int .u32 0, .int .u32 0, .int .u32 0, .int .u32 0, .int .u32 0, .int .u32 0, .int .u32 0, .int .u32 0, .int .u32 0, .int .u32 0, .int .u32 0, .int .u32 0, .int .u32 0, .int .u32 0,
  .int .u32 0, .int .u32 0, .int .u32 0, .int .u32 0, .int .u32 0, .int .u32 0, .int .u32 0, .int .u32 0, .int .u32 0, .int .u32 0, .int .u32 0, .int .u32 0, .int .u32 0, .int .u32 0, .int .u32 0, .int .u32 0,
  .int .u32 0, .int .u32 0, .int .u32 0, .int .u32 0, .int .u32 0, .int .u32 0, .int .u32 0, .int .u32 0, .int .u32 0, .int .u32 0, .int .u32 0, .int .u32 0, .int .u32 0, .int .u32 0, .int .u32 0, .int .u32 0] := rfl
theorem Tryd.size124 : (Tryd.prog.info? 124).map (·.size) = some 64 := by kernel_rfl
/-- What holds in a round of spread: the first k words are known; all else is as it was. -/
def SpreadAt (w : World) (rb : Nat) (q : List UInt8) (k : Nat) (wr : World) : Prop :=
  wr.heap[rb + 1]? = some (.cells (schedRow q k).toArray 124 (0, 0)) ∧ wr.heap[rb]? = some (.cells (zerosW 64).toArray 124 (0, 0)) ∧ rb = w.heap.size ∧ Below w.heap.size w wr
theorem SpreadAt.drew {w wr : World} {rb k : Nat} {q : List UInt8} (h : SpreadAt w rb q k wr) (n : Nat) : SpreadAt w rb q k (wr.drewN n) :=
  ⟨h.1, h.2.1, h.2.2.1, below_drewN h.2.2.2 n⟩
theorem SpreadAt.same {w wr w2 : World} {rb k : Nat} {q : List UInt8} (h : SpreadAt w rb q k wr) (h1 : w2.heap = wr.heap) (h2 : w2.os = wr.os) (h3 : w2.tape = wr.tape) (h4 : w2.output = wr.output) : SpreadAt w rb q k w2 :=
  ⟨by rw [h1]; exact h.1, by rw [h1]; exact h.2.1, h.2.2.1, h.2.2.2.trans ⟨h2, h3, h4, by rw [h1]; exact Nat.le_refl _, fun k _ => by rw [h1]⟩⟩
theorem SpreadAt.set {w wr : World} {rb k : Nat} {q : List UInt8} (h : SpreadAt w rb q k wr) (hk : k < 64) {x : BitVec 32} (hx : x = nextWord q k (sched q k)) : SpreadAt w rb q (k + 1) (wr.setCell ⟨rb + 1, k, none⟩ (.int .u32 (num x))) := by
  subst hx
  refine ⟨?_, (Below.heap_setCell _ _ _ _ (by simp)).trans h.2.1, h.2.2.1, h.2.2.2.setCell (by show w.heap.size ≤ rb + 1; rw [h.2.2.1]; omega) _⟩
  rw [heap_setCell_same wr (rb + 1) k _ _ _ h.1, ← schedRow_set q k hk]
  simp
theorem SpreadAt.cell {w wr : World} {rb k j : Nat} {q : List UInt8} (h : SpreadAt w rb q k wr) (hk : k ≤ 64) (hj : j < k) : wr.cell? ⟨rb + 1, j, none⟩ = some (.int .u32 (num ((sched q 64).getD j 0))) := by
  rw [cell_of_row wr _ _ _ _ _ h.1]
  simpa using schedRow_get q k j hk hj
theorem SpreadAt.zero {w wr : World} {rb k : Nat} {q : List UInt8} (h : SpreadAt w rb q k wr) (hk : k < 64) : wr.cell? ⟨rb + 1, k, none⟩ = some (.int .u32 0) := by
  rw [cell_of_row wr _ _ _ _ _ h.1]
  simpa using schedRow_zero q k k (Nat.le_refl _) hk
theorem SpreadAt.free {w wr : World} {rb k : Nat} (j : Nat) {q : List UInt8} (h : SpreadAt w rb q k wr) : wr.frozen? ⟨rb + 1, j, none⟩ = false := frozen_of_row wr _ j _ _ h.1
theorem SpreadAt.drop {w wr : World} {rb k : Nat} {q : List UInt8} {a : Option Addr} {n c : Nat} (h : SpreadAt w rb q k wr) (hr : Row w a n c q) : Row wr a n c q := hr.below h.2.2.2
theorem shifted_int (x : BitVec 32) (i j k : Int) (h : 0 < i ∧ i < 32 ∧ 0 < j ∧ j < 32 ∧ 0 ≤ k ∧ k < 32) (w : World) : Calls Tryd.prog 84 #[.int .u32 (num x), .int .i64 i, .int .i64 j, .int .i64 k] w fun e w' => e = .returned (.int .u32 (num (shift3 x i.toNat j.toNat k.toNat))) ∧ ∃ n, w' = w.drewN n := by
  obtain ⟨a, rfl⟩ := Int.eq_ofNat_of_zero_le (show 0 ≤ i by omega)
  obtain ⟨b, rfl⟩ := Int.eq_ofNat_of_zero_le (show 0 ≤ j by omega)
  obtain ⟨c, rfl⟩ := Int.eq_ofNat_of_zero_le (show 0 ≤ k by omega)
  exact shifted_any x a b c (by omega) (by omega) (by omega) (by omega) (by omega) w

set_option maxRecDepth 100000 in
set_option maxHeartbeats 1600000 in
theorem spread_any {w : World} {a : Option Addr} {c : Nat} {q : List UInt8} (h : Row w a 64 c q) : Calls Tryd.prog 69 #[.slice a 64 c] w fun e w' => e = .returned (.agg (wordsOf (sched q 64)).toArray) ∧ Below w.heap.size w w' := by
  obtain ⟨b, off, rfl, hlt, hcell⟩ := h.2.2.2.2 (by omega)
  have hcap := h.2.1
  have hmax := h.2.2.1
  unfold maxLen at hmax
  have HROW := Lib.hid h
  clear hcell h
  go_enter Tryd.func69, Tryd.ntmps69
  go_wp2
  have hb1 : Below w.heap.size w ((w.alloc (.cells (zerosW 64).toArray 124)).alloc (.cells (zerosW 64).toArray 124)) := ((Below.refl _ _).alloc (Nat.le_refl _) _).alloc (by simp) _
  have hr1 : ((w.alloc (.cells (zerosW 64).toArray 124)).alloc (.cells (zerosW 64).toArray 124)).heap[w.heap.size]? = some (.cells (zerosW 64).toArray 124 (0, 0)) := heap_alloc2_old _ _ _
  have hs1 : ((w.alloc (.cells (zerosW 64).toArray 124)).alloc (.cells (zerosW 64).toArray 124)).heap[w.heap.size + 1]? = some (.cells (zerosW 64).toArray 124 (0, 0)) := heap_alloc2_new _ _ _
  rw [← zerosW_is]
  revert hb1 hr1 hs1
  generalize ((w.alloc (.cells (zerosW 64).toArray 124)).alloc (.cells (zerosW 64).toArray 124)) = w1
  obtain ⟨rb, hrb⟩ : ∃ rb, rb = w.heap.size := ⟨_, rfl⟩
  rw [← hrb]
  intro hb1 hr1 hs1
  have HB1 := Lib.hid hb1
  have HR1 := Lib.hid hr1
  have HS1 := Lib.hid hs1
  have HRB := Lib.hid hrb
  clear hb1 hr1 hs1 hrb
  have HA : Hid (SpreadAt w rb q 0 w1) := ⟨HS1.out, HR1.out, HRB.out, by rw [← HRB.out]; exact HB1.out⟩
  clear HB1 HR1 HS1
  go_loopw [6] (fun i wr => ∃ k : Nat, k ≤ 16 ∧ i = .int .i64 k ∧ SpreadAt w rb q k wr) (fun i _ => 16 - (intOf i).toNat)
  case atStart => exact ⟨0, Nat.zero_le _, rfl, HA.out⟩
  case round =>
    obtain ⟨k, hk, rfl, hat⟩ := hrel
    by_cases hlt16 : k < 16
    · have HAT := Lib.hid hat
      have hrow1 : Row wr (some ⟨b, off + 4 * k, none⟩) 4 (c - 4 * k) ((q.drop (4 * k)).take 4) := ((HROW.out.below HAT.out.2.2.2).drop (k := 4 * k) (a' := some ⟨b, off + 4 * k, none⟩) (by omega) (fun e => by cases e) (fun _ b' off' e => by cases e; rfl)).take (by omega)
      have HROW1 := Lib.hid hrow1
      have hz := hat.zero (by omega)
      have hf := hat.free k
      clear hat hrow1
      go_wp2_with fail
      refine (wordOf_any HROW1.out (by omega)).mono ?_
      rintro e w2 ⟨rfl, m, rfl⟩
      go_wp2_with fail
      have hx : word ((q.drop (4 * k)).take 4) 0 = nextWord q k (sched q k) := by rw [word_take, nextWord_low q k hlt16]
      go_roundw
      case rel => exact ⟨k + 1, by omega, by go_num, (HAT.out.drew m).set (by omega) hx⟩
      case measure => simp [intOf]; omega
    · have hk16 : k = 16 := by omega
      rw [hk16] at hat
      have HAT := Lib.hid hat
      clear hat hk16
      go_wp2_with fail
      go_loopw [20] (fun i wx => ∃ k : Nat, k ≤ 48 ∧ i = .int .i64 k ∧ SpreadAt w rb q (k + 16) wx) (fun i _ => 48 - (intOf i).toNat)
      case atStart => exact ⟨0, Nat.zero_le _, rfl, HAT.out⟩
      case round =>
        obtain ⟨k, hk, rfl, hat⟩ := hrel
        by_cases hlt48 : k < 48
        · have hn := nextWord_high q k hlt48
          have HN := Lib.hid hn
          obtain ⟨x0, hx0⟩ : ∃ x, x = (sched q 64).getD k 0 := ⟨_, rfl⟩
          obtain ⟨x1, hx1⟩ : ∃ x, x = (sched q 64).getD (k + 1) 0 := ⟨_, rfl⟩
          obtain ⟨x9, hx9⟩ : ∃ x, x = (sched q 64).getD (k + 9) 0 := ⟨_, rfl⟩
          obtain ⟨x14, hx14⟩ : ∃ x, x = (sched q 64).getD (k + 14) 0 := ⟨_, rfl⟩
          have c0 := hat.cell (j := k) (by omega) (by omega)
          have c1 := hat.cell (j := k + 1) (by omega) (by omega)
          have c9 := hat.cell (j := k + 9) (by omega) (by omega)
          have c14 := hat.cell (j := k + 14) (by omega) (by omega)
          rw [← hx0] at c0
          rw [← hx1] at c1
          rw [← hx9] at c9
          rw [← hx14] at c14
          have z16 := hat.zero (by omega)
          have f16 := hat.free (k + 16)
          have HAT2 := Lib.hid hat
          rw [← hx0, ← hx1, ← hx9, ← hx14] at hn
          have HX := Lib.hid hn
          have e1 : IntKind.i64.wrap ((k : Int) + 1) = (k : Int) + 1 := IntWalk.i64_in _ ⟨by omega, by omega⟩
          have e9 : IntKind.i64.wrap ((k : Int) + 9) = (k : Int) + 9 := IntWalk.i64_in _ ⟨by omega, by omega⟩
          have e14 : IntKind.i64.wrap ((k : Int) + 14) = (k : Int) + 14 := IntWalk.i64_in _ ⟨by omega, by omega⟩
          have e16 : IntKind.i64.wrap ((k : Int) + 16) = (k : Int) + 16 := IntWalk.i64_in _ ⟨by omega, by omega⟩
          have t1 : ((k : Int) + 1).toNat = k + 1 := by omega
          have t9 : ((k : Int) + 9).toNat = k + 9 := by omega
          have t14 : ((k : Int) + 14).toNat = k + 14 := by omega
          have t16 : ((k : Int) + 16).toNat = k + 16 := by omega
          have p0 : (k : Int) < 64 := by omega
          have q0 : 0 ≤ (k : Int) := by omega
          have p1 : 0 ≤ (k : Int) + 1 ∧ (k : Int) + 1 < 64 := by omega
          have p9 : 0 ≤ (k : Int) + 9 ∧ (k : Int) + 9 < 64 := by omega
          have p14 : 0 ≤ (k : Int) + 14 ∧ (k : Int) + 14 < 64 := by omega
          have p16 : 0 ≤ (k : Int) + 16 ∧ (k : Int) + 16 < 64 := by omega
          have a1 := wrap_add x0 (shift3 x1 7 18 3)
          have a2 := wrap_add (x0 + shift3 x1 7 18 3) x9
          have a3 := wrap_add (x0 + shift3 x1 7 18 3 + x9) (shift3 x14 17 19 10)
          have s0 : ∀ (W : World) v, (W.setCell ⟨rb + 1, k + 16, none⟩ v).cell? ⟨rb + 1, k, none⟩ = W.cell? ⟨rb + 1, k, none⟩ := fun W v => World.cell?_setCell_other W _ _ v (by simp)
          have s1 : ∀ (W : World) v, (W.setCell ⟨rb + 1, k + 16, none⟩ v).cell? ⟨rb + 1, k + 1, none⟩ = W.cell? ⟨rb + 1, k + 1, none⟩ := fun W v => World.cell?_setCell_other W _ _ v (by simp)
          have s9 : ∀ (W : World) v, (W.setCell ⟨rb + 1, k + 16, none⟩ v).cell? ⟨rb + 1, k + 9, none⟩ = W.cell? ⟨rb + 1, k + 9, none⟩ := fun W v => World.cell?_setCell_other W _ _ v (by simp)
          have s14 : ∀ (W : World) v, (W.setCell ⟨rb + 1, k + 16, none⟩ v).cell? ⟨rb + 1, k + 14, none⟩ = W.cell? ⟨rb + 1, k + 14, none⟩ := fun W v => World.cell?_setCell_other W _ _ v (by simp)
          clear hat hn hx0 hx1 hx9 hx14 HN
          go_wp2_with fail
          go_region_held3 (fun w' => w'.cell? ⟨rb + 1, k, none⟩ = some (.int .u32 (num x0)) ∧ w'.cell? ⟨rb + 1, k + 1, none⟩ = some (.int .u32 (num x1)) ∧ w'.cell? ⟨rb + 1, k + 9, none⟩ = some (.int .u32 (num x9)) ∧ w'.cell? ⟨rb + 1, k + 14, none⟩ = some (.int .u32 (num x14)) ∧ w'.frozen? ⟨rb + 1, k + 16, none⟩ = false)
            (first | exact ⟨c0, c1, c9, c14, f16⟩ | go_keep)
            ((go_at_call 84; refine (shifted_int _ _ _ _ (by decide) _).mono ?_; rintro e w2 ⟨rfl, m, rfl⟩))
          all_goals
            go_wp2_with fail
            go_roundw
            case rel => exact ⟨k + 1, by omega, by go_num, by rw [show k + 1 + 16 = k + 16 + 1 by omega]; exact (HAT2.out.drew _).set (by omega) HX.out.symm⟩
            case measure => simp [intOf]; omega
        · obtain rfl : k = 48 := by omega
          have hall : (schedRow q 64).toArray.all (·.oneCell') = true := by
            rw [List.all_toArray]
            exact List.all_eq_true.2 (fun v hv => by rw [schedRow_full] at hv; exact wordsOf_one _ v hv)
          have hlen : (schedRow q 64).toArray.size = 64 := by rw [List.size_toArray]; exact schedRow_len q 64 (by omega)
          have hsz : (Tryd.prog.info? 124).map (·.size) = some (schedRow q 64).toArray.size := by rw [hlen]; exact Tryd.size124
          have hzl : (zerosW 64).toArray.size = (schedRow q 64).toArray.size := by rw [hlen]; rfl
          have HALL := Lib.hid hall
          have HSZ := Lib.hid hsz
          have HZL := Lib.hid hzl
          have HAT2 := Lib.hid hat
          clear hall hlen hsz hzl hat
          go_wp2_with (first | (refine wpList_load_row rfl 124 _ rfl (rb + 1) rfl 124 (schedRow q 64).toArray (0, 0) _ HAT2.out.1 Tryd.underlying124 rfl HSZ.out ?_) | (refine wpList_store_row rfl 124 _ _ rfl rb (schedRow q 64).toArray rfl rfl 124 (zerosW 64).toArray HAT2.out.2.1 HSZ.out HZL.out HALL.out ?_))
          have hb4 : Below w.heap.size w (wr.setRow rb (schedRow q 64).toArray) := HAT2.out.2.2.2.trans (((but_setRow wr rb (schedRow q 64).toArray).mono HAT2.out.2.2.2.size).below (by have := HRB.out; omega))
          exact bodyPost_ret (results_cell_row rfl _ _ rb 124 (schedRow q 64).toArray (0, 0) _ rfl (setRow_heap wr rb _ _ 124 _ HAT2.out.2.1) Tryd.underlying124 rfl HSZ.out) rfl ⟨by rw [schedRow_full], hb4⟩
end Go.Proofs.YtlnenkmcegadmaaDoor
namespace Go.Proofs.YtlnenkmcegadmaaDoor
open Go.RowKit

def hashRow (ws : List (BitVec 32)) (bs : List UInt8) (m : Nat) : List Value := wordsOf ws ++ (cellsOf bs ++ [.int .i64 (m : Nat)])
theorem hashRow_word {ws : List (BitVec 32)} {bs : List UInt8} {m i : Nat} (h : i < ws.length) : (hashRow ws bs m)[i]? = some (.int .u32 (num (ws.getD i 0))) := by
  unfold hashRow
  rw [List.getElem?_append_left (by simpa [wordsOf] using h), wordsOf_get h]
theorem wordsOf_len (l : List (BitVec 32)) : (wordsOf l).length = l.length := by simp [wordsOf]
theorem hashRow_many {ws : List (BitVec 32)} {bs : List UInt8} {m : Nat} (h : ws.length = 8) (hb : bs.length = 64) : (hashRow ws bs m)[72]? = some (.int .i64 (m : Nat)) := by
  unfold hashRow
  rw [List.getElem?_append_right (by rw [wordsOf_len]; omega), List.getElem?_append_right (by rw [wordsOf_len, cellsOf_len]; omega), wordsOf_len, cellsOf_len, h, hb]
  rfl
theorem hashRow_byte {ws : List (BitVec 32)} {bs : List UInt8} {m j : Nat} (h : ws.length = 8) (hj : j < bs.length) : (hashRow ws bs m)[8 + j]? = some (.int .u8 (((bs.getD j 0).toNat : Nat) : Int)) := by
  unfold hashRow
  rw [List.getElem?_append_right (by rw [wordsOf_len]; omega), wordsOf_len, h, show 8 + j - 8 = j by omega, List.getElem?_append_left (by rw [cellsOf_len]; exact hj), cellsOf_get hj]
theorem hashRow_set {ws : List (BitVec 32)} {bs : List UInt8} {m i : Nat} (x : BitVec 32) (h : i < ws.length) : (hashRow ws bs m).set i (.int .u32 (num x)) = hashRow (ws.set i x) bs m := by
  unfold hashRow
  rw [List.set_append_left _ _ (by simpa [wordsOf] using h)]
  simp [wordsOf]
theorem hashRow_setMany {ws : List (BitVec 32)} {bs : List UInt8} {m : Nat} (m' : Nat) (h : ws.length = 8) (hb : bs.length = 64) : (hashRow ws bs m).set 72 (.int .i64 (m' : Nat)) = hashRow ws bs m' := by
  unfold hashRow
  rw [List.set_append_right _ _ (by rw [wordsOf_len]; omega), List.set_append_right _ _ (by rw [wordsOf_len, cellsOf_len]; omega), wordsOf_len, cellsOf_len, h, hb]
  rfl
theorem hashRow_splice {ws : List (BitVec 32)} {bs q : List UInt8} {m off : Nat} (h : ws.length = 8) (hq : off + q.length ≤ bs.length) : splice (hashRow ws bs m) (8 + off) (cellsOf q) = hashRow ws (splice bs off q) m := by
  unfold hashRow splice
  have e1 : (8 + off) - (wordsOf ws).length = off := by rw [wordsOf_len, h]; omega
  have e2 : (8 + off + (cellsOf q).length) - (wordsOf ws).length = off + q.length := by rw [wordsOf_len, cellsOf_len, h]; omega
  rw [List.take_append, List.drop_append, e1, e2, List.take_of_length_le (l := wordsOf ws) (by rw [wordsOf_len]; omega), List.drop_of_length_le (l := wordsOf ws) (by rw [wordsOf_len]; omega)]
  rw [List.take_append_of_le_length (by rw [cellsOf_len]; omega), List.drop_append_of_le_length (by rw [cellsOf_len]; omega)]
  simp [cellsOf]
theorem hashRow_len {ws : List (BitVec 32)} {bs : List UInt8} {m : Nat} (h : ws.length = 8) (hb : bs.length = 64) : (hashRow ws bs m).length = 73 := by
  simp [hashRow, wordsOf, cellsOf, h, hb]
theorem hashRow_one (ws : List (BitVec 32)) (bs : List UInt8) (m : Nat) : ∀ v ∈ hashRow ws bs m, v.oneCell' = true := by
  intro v hv
  unfold hashRow at hv
  simp only [List.mem_append, List.mem_singleton] at hv
  rcases hv with hv | hv | rfl
  · exact wordsOf_one _ v hv
  · exact cellsOf_one _ v hv
  · rfl

/-- A sum under way at block hb. -/
def HashAt (w : World) (hb : Nat) (ws : List (BitVec 32)) (bs : List UInt8) (m : Nat) : Prop :=
  w.heap[hb]? = some (.cells (hashRow ws bs m).toArray 93 (0, 0)) ∧ ws.length = 8 ∧ bs.length = 64
theorem HashAt.word {w : World} {hb m i : Nat} {ws : List (BitVec 32)} {bs : List UInt8} (h : HashAt w hb ws bs m) (hi : i < 8) : w.cell? ⟨hb, i, none⟩ = some (.int .u32 (num (ws.getD i 0))) := by
  rw [cell_of_row w hb i _ _ _ h.1]; simpa using hashRow_word (by rw [h.2.1]; exact hi)
theorem HashAt.many {w : World} {hb m : Nat} {ws : List (BitVec 32)} {bs : List UInt8} (h : HashAt w hb ws bs m) : w.cell? ⟨hb, 72, none⟩ = some (.int .i64 (m : Nat)) := by
  rw [cell_of_row w hb 72 _ _ _ h.1]; simpa using hashRow_many h.2.1 h.2.2
theorem HashAt.free {w : World} {hb m : Nat} {ws : List (BitVec 32)} {bs : List UInt8} (h : HashAt w hb ws bs m) (i : Nat) : w.frozen? ⟨hb, i, none⟩ = false := frozen_of_row w hb i _ _ h.1
theorem HashAt.lt {w : World} {hb m : Nat} {ws : List (BitVec 32)} {bs : List UInt8} (h : HashAt w hb ws bs m) : hb < w.heap.size := lt_of_block h.1
theorem HashAt.below {w w' : World} {hb m : Nat} {ws : List (BitVec 32)} {bs : List UInt8} (h : HashAt w hb ws bs m) (hb' : Below w.heap.size w w') : HashAt w' hb ws bs m := ⟨(hb'.block _ h.lt).trans h.1, h.2⟩
theorem HashAt.but {w w' : World} {hb p m : Nat} {ws : List (BitVec 32)} {bs : List UInt8} (h : HashAt w hb ws bs m) (hb' : But w.heap.size p w w') (hp : hb ≠ p) : HashAt w' hb ws bs m := ⟨hb'.heap h.1 h.lt hp, h.2⟩
theorem HashAt.setWord {w : World} {hb m i : Nat} {ws : List (BitVec 32)} {bs : List UInt8} (h : HashAt w hb ws bs m) (hi : i < 8) (x : BitVec 32) : HashAt (w.setCell ⟨hb, i, none⟩ (.int .u32 (num x))) hb (ws.set i x) bs m := by
  refine ⟨?_, by rw [List.length_set]; exact h.2.1, h.2.2⟩
  rw [heap_setCell_same w hb i _ _ _ h.1, ← hashRow_set x (by rw [h.2.1]; exact hi)]
  simp
theorem HashAt.setMany {w : World} {hb m : Nat} {ws : List (BitVec 32)} {bs : List UInt8} (h : HashAt w hb ws bs m) (m' : Nat) : HashAt (w.setCell ⟨hb, 72, none⟩ (.int .i64 (m' : Nat))) hb ws bs m' := by
  refine ⟨?_, h.2⟩
  rw [heap_setCell_same w hb 72 _ _ _ h.1, ← hashRow_setMany (m := m) m' h.2.1 h.2.2]
  simp
/-- The block's bytes, as a slice of it. -/
theorem HashAt.row {w : World} {hb m : Nat} {ws : List (BitVec 32)} {bs : List UInt8} (h : HashAt w hb ws bs m) : Row w (some ⟨hb, 8, none⟩) 64 64 bs :=
  ⟨h.2.2, by omega, by unfold maxLen; omega, (fun e => by cases e), fun _ => ⟨hb, 8, rfl, h.lt, fun j hj => by
    rw [cell_of_row w hb _ _ _ _ h.1]; simpa using hashRow_byte h.2.1 (by rw [h.2.2]; exact hj)⟩⟩

/-- The constants lie where they were laid. -/
def KsAt (w : World) : Prop := ∀ i, i < 64 → w.cell? ⟨0, i, none⟩ = some (.int .u32 (num (ks.getD i 0)))
theorem KsAt.block {w w' : World} (h : KsAt w) (hb : w'.heap[0]? = w.heap[0]?) : KsAt w' := fun i hi => by
  rw [World.cell?_of_block (a := ⟨0, i, none⟩) (w := w) hb]; exact h i hi
theorem KsAt.lt {w : World} (h : KsAt w) : 0 < w.heap.size := World.block_lt_of_cell? w ⟨0, 0, none⟩ (h 0 (by decide))
theorem KsAt.below {w w' : World} (h : KsAt w) (hb : Below w.heap.size w w') : KsAt w' := h.block (hb.block 0 h.lt)
theorem KsAt.but {w w' : World} {p : Nat} (h : KsAt w) (hb : But w.heap.size p w w') (hp : p ≠ 0) : KsAt w' := h.block (hb.block 0 h.lt (Ne.symm hp))

/-- The first k words, each with its fellow of r added. -/
def addUp (l r : List (BitVec 32)) (k : Nat) : List (BitVec 32) := (List.zipWith (· + ·) l r).take k ++ l.drop k
theorem addUp_set (l r : List (BitVec 32)) (k : Nat) (hl : l.length = 8) (hr : r.length = 8) (hk : k < 8) : (addUp l r k).set k (l.getD k 0 + r.getD k 0) = addUp l r (k + 1) := by
  have hz : (List.zipWith (· + ·) l r).length = 8 := by simp [hl, hr]
  unfold addUp
  rw [List.set_append_right _ _ (by simp [hl]; omega)]
  have e : ((List.zipWith (· + ·) l r).take k).length = k := by rw [List.length_take, hz]; omega
  rw [e, Nat.sub_self, List.take_succ_eq_append_getElem (by omega : k < (List.zipWith (· + ·) l r).length), List.append_assoc, List.drop_eq_getElem_cons (by omega : k < l.length), List.set_cons_zero]
  simp [List.getD, hl, hr, hk]
theorem addUp_get (l r : List (BitVec 32)) (k : Nat) (hl : l.length = 8) (hr : r.length = 8) (hk : k < 8) : (addUp l r k).getD k 0 = l.getD k 0 := by
  have e : ((List.zipWith (· + ·) l r).take k).length = k := by rw [List.length_take, List.length_zipWith, hl, hr]; omega
  unfold addUp List.getD
  rw [List.getElem?_append_right (by omega), e, List.getElem?_drop, Nat.sub_self, Nat.add_zero]
theorem addUp_none (l r : List (BitVec 32)) : addUp l r 0 = l := by simp [addUp]
theorem addUp_all (v V : Eight) : addUp v.list V.list 8 = (v.add V).list := rfl
end Go.Proofs.YtlnenkmcegadmaaDoor
namespace Go.Proofs.YtlnenkmcegadmaaDoor
open Go.RowKit

/-- A sum under way that took the bytes l. -/
def SumAt (w : World) (hb : Nat) (l : List UInt8) : Prop := ∃ bs, HashAt w hb (run l (l.length / 64)).list bs l.length ∧ bs.take (l.length % 64) = l.drop (64 * (l.length / 64))

theorem run_more (l q : List UInt8) (k : Nat) (h : (l.length + k) % 64 = 0) (hq : k + 64 ≤ q.length) :
    run (l ++ q.take (k + 64)) ((l.length + (k + 64)) / 64) = compress (run (l ++ q.take k) ((l.length + k) / 64)) ((q.drop k).take 64) := by
  have e : q.take (k + 64) = q.take k ++ (q.drop k).take 64 := List.take_add
  have d : (l.length + (k + 64)) / 64 = (l.length + k) / 64 + 1 := by omega
  rw [e, d, ← List.append_assoc]
  refine run_block _ _ _ ?_ ?_
  · rw [List.length_append, List.length_take]; omega
  · rw [List.length_take, List.length_drop]; omega
theorem splice_full (bs q : List UInt8) (r n : Nat) (hb : bs.length = 64) (hr : r + n = 64) (hq : n ≤ q.length) : splice bs r (q.take n) = bs.take r ++ q.take n := by
  unfold splice
  have e : (q.take n).length = n := by rw [List.length_take]; omega
  rw [e, List.drop_of_length_le (by omega), List.append_nil]
theorem run_fill (l q bs : List UInt8) (n : Nat) (hb : bs.length = 64) (ht : bs.take (l.length % 64) = l.drop (64 * (l.length / 64))) (hn : l.length % 64 + n = 64) (hq : n ≤ q.length) :
    run (l ++ q.take n) ((l.length + n) / 64) = compress (run l (l.length / 64)) (splice bs (l.length % 64) (q.take n)) := by
  rw [splice_full bs q _ n hb hn hq, ht]
  have d : (l.length + n) / 64 = l.length / 64 + 1 := by omega
  have e : l ++ q.take n = l.take (64 * (l.length / 64)) ++ (l.drop (64 * (l.length / 64)) ++ q.take n) := by
    rw [← List.append_assoc, List.take_append_drop]
  have e2 : run l (l.length / 64) = run (l.take (64 * (l.length / 64))) (l.length / 64) := by
    have h := run_append (l.take (64 * (l.length / 64))) (l.drop (64 * (l.length / 64))) (l.length / 64) (by rw [List.length_take]; omega)
    rw [List.take_append_drop] at h
    exact h
  rw [d, e, e2]
  refine run_block _ _ _ ?_ ?_
  · rw [List.length_take]; omega
  · rw [List.length_append, List.length_drop, List.length_take]; omega
theorem splice_len (bs q : List UInt8) (r : Nat) (h : r + q.length ≤ bs.length) : (splice bs r q).length = bs.length := by
  unfold splice
  rw [List.length_append, List.length_append, List.length_take, List.length_drop]; omega
/-- All of them go into the block that is begun. -/
theorem sum_short {w : World} {hb : Nat} (l q bs : List UInt8) (m : Nat) (hm : m = (l ++ q).length) (ht : bs.take (l.length % 64) = l.drop (64 * (l.length / 64))) (hn : l.length % 64 + q.length < 64)
    (hb64 : bs.length = 64) (h : HashAt w hb (run l (l.length / 64)).list (splice bs (l.length % 64) q) m) : SumAt w hb (l ++ q) := by
  subst hm
  have hl : (l ++ q).length = l.length + q.length := List.length_append
  have d : (l ++ q).length / 64 = l.length / 64 := by omega
  have r : (l ++ q).length % 64 = l.length % 64 + q.length := by omega
  refine ⟨_, by rw [d, run_append l q _ (by omega)]; exact h, ?_⟩
  rw [d, r, List.drop_append_of_le_length (by omega), ← ht]
  unfold splice
  have e : (bs.take (l.length % 64)).length = l.length % 64 := by rw [List.length_take]; omega
  rw [← List.append_assoc, List.take_append_of_le_length (by rw [List.length_append, e]; exact Nat.le_refl _), List.take_of_length_le (by rw [List.length_append, e]; exact Nat.le_refl _)]
/-- What is left goes to the block's head. -/
theorem sum_rest {w : World} {hb : Nat} (l q bs : List UInt8) (k m : Nat) (hm : m = (l ++ q).length) (h0 : (l.length + k) % 64 = 0) (hk : k ≤ q.length) (hn : q.length - k < 64)
    (h : HashAt w hb (run (l ++ q.take k) ((l.length + k) / 64)).list (splice bs 0 (q.drop k)) m) : SumAt w hb (l ++ q) := by
  subst hm
  have hl : (l ++ q).length = l.length + q.length := List.length_append
  have d : (l ++ q).length / 64 = (l.length + k) / 64 := by omega
  have r : (l ++ q).length % 64 = q.length - k := by omega
  have e : l ++ q = (l ++ q.take k) ++ q.drop k := by rw [List.append_assoc, List.take_append_drop]
  have ek : (l ++ q.take k).length = l.length + k := by rw [List.length_append, List.length_take]; omega
  have e2 : run (l ++ q) ((l ++ q).length / 64) = run (l ++ q.take k) ((l.length + k) / 64) := by
    rw [d]
    have h := run_append (l ++ q.take k) (q.drop k) ((l.length + k) / 64) (by omega)
    rw [← e] at h
    exact h
  refine ⟨_, by rw [e2]; exact h, ?_⟩
  rw [r, d, show 64 * ((l.length + k) / 64) = l.length + k by omega]
  have e3 : (l ++ q).drop (l.length + k) = q.drop k := by
    rw [e, List.drop_left' ek]
  rw [e3]
  unfold splice
  rw [List.take_zero, List.nil_append, List.take_append_of_le_length (by rw [List.length_drop]; exact Nat.le_refl _), List.take_of_length_le (by rw [List.length_drop]; exact Nat.le_refl _)]

theorem HashAt.copied {w w' : World} {hb m off : Nat} {ws : List (BitVec 32)} {bs q : List UInt8} (h : HashAt w hb ws bs m) (hq : off + q.length ≤ 64) (hh : w'.heap[hb]? = some (.cells (splice (hashRow ws bs m) (8 + off) (cellsOf q)).toArray 93 (0, 0))) : HashAt w' hb ws (splice bs off q) m := by
  refine ⟨?_, h.2.1, by rw [splice_len _ _ _ (by rw [h.2.2]; exact hq)]; exact h.2.2⟩
  rw [hh, hashRow_splice h.2.1 (by rw [h.2.2]; exact hq)]

/-- 'copy' into a row, all other blocks stay. -/
theorem wpList_copy_but {P : Program} {w : World} {ops : Array Oper} {rest : List Oper} {o : Oper} {a : Act} {Q : Exit → Act → World → Prop} (hgd : o.guard = none) (d s : Operand) (dT sT : TypeId)
    (ho : o.op = .call { callee := .builtin .copy, args := #[d, s], argTypes := #[dT, sT] }) (elem : TypeId) (hu : P.underlying dT = some (.slice elem)) (hsz : (P.info? elem).map (·.size) = some 1)
    (dp sp : Option Addr) (dLen dCap sLen sCap : Nat) (hd : a.eval d = .slice dp dLen dCap) (hs : a.eval s = .slice sp sLen sCap)
    (g off : Nat) (cur : List Value) (t : TypeId) (hg : w.heap[g]? = some (.cells cur.toArray t (0, 0))) (cs : List Value) (hn : cs.length = Nat.min sLen dLen)
    (hpos : 0 < cs.length → dp = some ⟨g, off, none⟩ ∧ ∃ ad, sp = some ad ∧ ∀ j v, cs[j]? = some v → w.cell? (ad.add j) = some v)
    (hfit : off + cs.length ≤ cur.length) (h1 : ∀ v ∈ cs, v.oneCell' = true)
    (h : ∀ w', Hid (w'.heap[g]? = some (.cells (splice cur off cs).toArray t (0, 0))) → But w.heap.size g w w' → wpList P ops Q rest (a.put o.dst (goInt cs.length)) w') :
    wpList P ops Q (o :: rest) a w := by
  by_cases h0 : cs.length = 0
  · obtain rfl : cs = [] := List.eq_nil_of_length_eq_zero h0
    refine wpList_copy_nothing hgd d s dT sT ho elem hu hsz dp sp dLen dCap sLen sCap hd hs (by simpa using hn.symm) ?_
    exact h w (show _ = _ by simpa [splice] using hg) (But.refl _ _ _)
  · obtain ⟨rfl, ad, rfl, hsrc⟩ := hpos (by omega)
    refine wpList_copy_own hgd d s dT sT ho elem hu hsz g off dLen dCap ad sLen sCap hd hs cur.toArray t hg cs hn hsrc (by simpa using hfit) h1 ?_
    exact h _ (show _ = _ by simpa [splice] using setRow_heap w g _ _ t _ hg) (but_setRow w g _)
end Go.Proofs.YtlnenkmcegadmaaDoor
namespace Go.Proofs.YtlnenkmcegadmaaDoor
open Go.RowKit

theorem num_not (x : BitVec 32) : bits .xor .u32 4294967295 (num x) = num (~~~x) := by
  have e : (4294967295 : Int) = num 4294967295 := rfl
  rw [e, bits_xor]
  congr 1
theorem turned_int (x : BitVec 32) (i j k : Int) (h : 0 < i ∧ i < 32 ∧ 0 < j ∧ j < 32 ∧ 0 < k ∧ k < 32) (w : World) : Calls Tryd.prog 70 #[.int .u32 (num x), .int .i64 i, .int .i64 j, .int .i64 k] w fun e w' => e = .returned (.int .u32 (num (turn3 x i.toNat j.toNat k.toNat))) ∧ w = w' := by
  obtain ⟨a, rfl⟩ := Int.eq_ofNat_of_zero_le (show 0 ≤ i by omega)
  obtain ⟨b, rfl⟩ := Int.eq_ofNat_of_zero_le (show 0 ≤ j by omega)
  obtain ⟨c, rfl⟩ := Int.eq_ofNat_of_zero_le (show 0 ≤ k by omega)
  exact turned_any x a b c (by omega) (by omega) (by omega) (by omega) (by omega) (by omega) w
/-- The heap as it is, but for the blocks that the call made: what holds before the rounds. -/
def MixAt (w : World) (hb wb : Nat) (ws ss : List (BitVec 32)) (bs : List UInt8) (m : Nat) (W : World) : Prop :=
  HashAt W hb ws bs m ∧ W.heap[wb]? = some (.cells (wordsOf ss).toArray 124 (0, 0)) ∧ wb ≠ hb ∧ KsAt W ∧ But w.heap.size hb w W
theorem MixAt.drew {w W : World} {hb wb m : Nat} {ws ss : List (BitVec 32)} {bs : List UInt8} (h : MixAt w hb wb ws ss bs m W) (n : Nat) : MixAt w hb wb ws ss bs m (W.drewN n) :=
  ⟨h.1, h.2.1, h.2.2.1, h.2.2.2.1, h.2.2.2.2.trans (But.of (below_drewN (Below.refl _ _) n))⟩

set_option maxRecDepth 100000 in
set_option maxHeartbeats 1600000 in
theorem mix_any {w : World} {hb c m : Nat} {a : Option Addr} {v : Eight} {bs q : List UInt8} (h : HashAt w hb v.list bs m) (hq : Row w a 64 c q) (hk : KsAt w) :
    Calls Tryd.prog 57 #[.pointer (some ⟨hb, 0, none⟩), .slice a 64 c] w fun e w' => e = .returned (.tuple #[]) ∧ HashAt w' hb (compress v q).list bs m ∧ But w.heap.size hb w w' := by
  have H := Lib.hid h
  have HQ := Lib.hid hq
  have HK := Lib.hid hk
  clear h hq hk
  go_enter Tryd.func57, Tryd.ntmps57
  go_wp2_with fail
  refine (spread_any HQ.out).mono ?_
  rintro e w1 ⟨rfl, hb1⟩
  have HB1 := Lib.hid hb1
  clear hb1
  have hall : (wordsOf (sched q 64)).toArray.all (·.oneCell') = true := by
    rw [List.all_toArray]
    exact List.all_eq_true.2 (wordsOf_one _)
  have hlen : (wordsOf (sched q 64)).toArray.size = 64 := by rw [List.size_toArray, wordsOf_len, sched_len]
  have hsz : (Tryd.prog.info? 124).map (·.size) = some (wordsOf (sched q 64)).toArray.size := by rw [hlen]; exact Tryd.size124
  have hzl : (zerosW 64).toArray.size = (wordsOf (sched q 64)).toArray.size := by rw [hlen]; rfl
  have HALL := Lib.hid hall
  have HSZ := Lib.hid hsz
  have HZL := Lib.hid hzl
  clear hall hlen hsz hzl
  go_wp2_with (refine wpList_store_row rfl 124 _ _ rfl w1.heap.size (wordsOf (sched q 64)).toArray rfl rfl 124 (zerosW 64).toArray (heap_alloc_new _ _) HSZ.out HZL.out HALL.out ?_)
  rw [← zerosW_is]
  have hw : MixAt w hb w1.heap.size v.list (sched q 64) bs m ((w1.alloc (.cells (zerosW 64).toArray 124)).setRow w1.heap.size (wordsOf (sched q 64)).toArray) := by
    have b1 : Below w1.heap.size w1 (w1.alloc (.cells (zerosW 64).toArray 124)) := (Below.refl _ _).alloc (Nat.le_refl _) _
    have b2 : Below w1.heap.size w1 ((w1.alloc (.cells (zerosW 64).toArray 124)).setRow w1.heap.size (wordsOf (sched q 64)).toArray) := b1.trans (((but_setRow _ w1.heap.size _).mono b1.size).below (Nat.le_refl _))
    have h1 := H.out.below HB1.out
    exact ⟨h1.below b2, setRow_heap _ _ _ _ _ _ (heap_alloc_new _ _), by have := h1.lt; omega, (HK.out.below HB1.out).below b2, (But.of HB1.out).trans (But.of (b2.mono HB1.out.size))⟩
  have hsz1 := HB1.out.size
  have hlt := H.out.lt
  revert hw
  generalize ((w1.alloc (.cells (zerosW 64).toArray 124)).setRow w1.heap.size (wordsOf (sched q 64)).toArray) = W
  obtain ⟨wb, hwb⟩ : ∃ wb, wb = w1.heap.size := ⟨_, rfl⟩
  rw [← hwb]
  intro hw
  have HW := Lib.hid hw
  have HH := Lib.hid hw.1
  have c0 := hw.1.word (i := 0) (by decide)
  have c1 := hw.1.word (i := 1) (by decide)
  have c2 := hw.1.word (i := 2) (by decide)
  have c3 := hw.1.word (i := 3) (by decide)
  have c4 := hw.1.word (i := 4) (by decide)
  have c5 := hw.1.word (i := 5) (by decide)
  have c6 := hw.1.word (i := 6) (by decide)
  have c7 := hw.1.word (i := 7) (by decide)
  obtain ⟨v0, v1, v2, v3, v4, v5, v6, v7⟩ := v
  simp only [Eight.list, List.getD_cons_zero, List.getD_cons_succ] at c0 c1 c2 c3 c4 c5 c6 c7
  clear hw hwb HALL HSZ HZL HB1 H HK HQ hsz1 hlt
  simp only [Act.put]
  go_quiet (fail)
  clear c0 c1 c2 c3
  go_wp2_with fail
  go_quiet (fail)
  clear c4 c5 c6 c7
  go_wp2_with fail
  obtain ⟨vv, hvv⟩ : ∃ vv : Eight, vv = ⟨v0, v1, v2, v3, v4, v5, v6, v7⟩ := ⟨_, rfl⟩
  have HV := Lib.hid hvv
  clear hvv
  go_loopw [5, 6, 7, 8, 9, 10, 11, 12, 62] (fun s5 s6 s7 s8 s9 s10 s11 s12 i wr => ∃ (k : Nat) (r : Eight), k ≤ 64 ∧ i = .int .i64 k ∧ Hid (r = rounds (sched q 64) vv k) ∧ s5 = .int .u32 (num r.a) ∧ s6 = .int .u32 (num r.b) ∧ s7 = .int .u32 (num r.c) ∧ s8 = .int .u32 (num r.d) ∧ s9 = .int .u32 (num r.e) ∧ s10 = .int .u32 (num r.f) ∧ s11 = .int .u32 (num r.g) ∧ s12 = .int .u32 (num r.h) ∧ MixAt w hb wb vv.list (sched q 64) bs m wr)
    (fun _ _ _ _ _ _ _ _ i _ => 64 - (intOf i).toNat)
  case atStart => exact ⟨0, _, Nat.zero_le _, rfl, Lib.hid HV.out.symm, rfl, rfl, rfl, rfl, rfl, rfl, rfl, rfl, by rw [HV.out]; exact (HW.out.drew _).drew _⟩
  case round =>
    obtain ⟨k, ⟨a, b, c', d, e, f, g, h⟩, hk, rfl, HR, rfl, rfl, rfl, rfl, rfl, rfl, rfl, rfl, hat⟩ := hrel
    have HAT := Lib.hid hat
    by_cases hlt : k < 64
    · have ck := hat.2.2.2.1 k hlt
      have cw : wr.cell? ⟨wb, k, none⟩ = some (.int .u32 (num ((sched q 64).getD k 0))) := by
        rw [cell_of_row wr wb k _ _ _ hat.2.1]
        simpa using wordsOf_get (l := sched q 64) (j := k) (by rw [sched_len]; exact hlt)
      obtain ⟨x, hx⟩ : ∃ x, x = ks.getD k 0 := ⟨_, rfl⟩
      obtain ⟨y, hy⟩ : ∃ y, y = (sched q 64).getD k 0 := ⟨_, rfl⟩
      rw [← hx] at ck
      rw [← hy] at cw
      have HX := Lib.hid hx
      have HY := Lib.hid hy
      have p0 : (k : Int) < 64 := by omega
      have q0 : 0 ≤ (k : Int) := by omega
      have b1 := bits_and e f
      have b2 := num_not e
      have b3 := bits_and (~~~e) g
      have b2' : bits .xor .u32 IntKind.u32.max (num e) = num (~~~e) := num_not e
      obtain ⟨ch, hch⟩ : ∃ ch, ch = choice e f g := ⟨_, rfl⟩
      have b4 : bits .xor .u32 (num (e &&& f)) (num (~~~e &&& g)) = num ch := by rw [bits_xor, hch]; rfl
      have m1 := bits_and a b
      have m2 := bits_and a c'
      have m3 := bits_and b c'
      have m4 := bits_xor (a &&& b) (a &&& c')
      obtain ⟨mj, hmj⟩ : ∃ mj, mj = major a b c' := ⟨_, rfl⟩
      have m5 : bits .xor .u32 (num ((a &&& b) ^^^ (a &&& c'))) (num (b &&& c')) = num mj := by rw [bits_xor, hmj]; rfl
      obtain ⟨T, hT⟩ : ∃ T, T = tee ⟨a, b, c', d, e, f, g, h⟩ x y := ⟨_, rfl⟩
      obtain ⟨U, hU⟩ : ∃ U, U = you ⟨a, b, c', d, e, f, g, h⟩ := ⟨_, rfl⟩
      have a1 := wrap_add h (turn3 e 6 11 25)
      have a2 := wrap_add (h + turn3 e 6 11 25) ch
      have a3 := wrap_add (h + turn3 e 6 11 25 + ch) x
      have a4 : IntKind.u32.wrap (num (h + turn3 e 6 11 25 + ch + x) + num y) = num T := by rw [wrap_add, hT, hch]; rfl
      have a5 : IntKind.u32.wrap (num (turn3 a 2 13 22) + num mj) = num U := by rw [wrap_add, hU, hmj]; rfl
      have a5' : (num (turn3 a 2 13 22) + num mj) % 4294967296 = num U := by rw [mod_add, hU, hmj]; rfl
      have a6 := wrap_add T U
      have a6' := mod_add T U
      have a7 := wrap_add d T
      have a7' := mod_add d T
      have hnext : round ⟨a, b, c', d, e, f, g, h⟩ x y = ⟨T + U, a, b, c', d + T, e, f, g⟩ := by rw [hT, hU]; rfl
      have HN := Lib.hid hnext
      clear hx hy hat hch hmj hT hU hnext
      go_wp2_with fail
      go_quiet ((go_at_call 70; exact quiet_eq (turned_int _ _ _ _ (by decide) _)))
      go_wp2_with (go_at_call 70; refine (turned_int _ _ _ _ (by decide) _).mono ?_; rintro e w' ⟨rfl, rfl⟩)
      go_roundw
      case rel => exact ⟨k + 1, ⟨T + U, a, b, c', d + T, e, f, g⟩, by omega, by go_num, Lib.hid (by rw [← HN.out, HX.out, HY.out]; show _ = round (rounds _ _ k) _ _; rw [← HR.out]), rfl, rfl, rfl, rfl, rfl, rfl, rfl, rfl, HAT.out.drew _⟩
      case measure => simp [intOf]; omega
    · have hk64 : k = 64 := by omega
      have hr := HR.out
      rw [hk64] at hr
      obtain ⟨V, hV⟩ : ∃ V : Eight, V = ⟨a, b, c', d, e, f, g, h⟩ := ⟨_, rfl⟩
      rw [← hV] at hr
      have HR64 := Lib.hid hr
      have hix : ∀ j : Nat, j < 8 → ∀ W' : World, (Instr.index 90 (.agg #[.int .u32 (num a), .int .u32 (num b), .int .u32 (num c'), .int .u32 (num d), .int .u32 (num e), .int .u32 (num f), .int .u32 (num g), .int .u32 (num h)]) (.int .i64 (j : Int))).run Tryd.prog W' = .ok (.int .u32 (num (V.list.getD j 0))) W' := fun j hj W' => by
        rw [hV]
        rcases (show j = 0 ∨ j = 1 ∨ j = 2 ∨ j = 3 ∨ j = 4 ∨ j = 5 ∨ j = 6 ∨ j = 7 by omega) with rfl | rfl | rfl | rfl | rfl | rfl | rfl | rfl <;> rfl
      have HIX := Lib.hid hix
      clear hat hk64 hr hV hix
      go_wp2_with fail
      go_loopw [124] (fun i wx => ∃ j : Nat, j ≤ 8 ∧ i = .int .i64 j ∧ HashAt wx hb (addUp vv.list V.list j) bs m ∧ But w.heap.size hb w wx) (fun i _ => 8 - (intOf i).toNat)
      case atStart => exact ⟨0, Nat.zero_le _, rfl, by rw [addUp_none]; exact HAT.out.1, HAT.out.2.2.2.2⟩
      case round =>
        obtain ⟨j, hj, rfl, hh, hbut⟩ := hrel
        have HH2 := Lib.hid hh
        have HB2 := Lib.hid hbut
        by_cases hlt8 : j < 8
        · have cj := hh.word hlt8
          rw [addUp_get _ _ _ rfl rfl hlt8] at cj
          have fj := hh.free j
          have hset := addUp_set vv.list V.list j rfl rfl hlt8
          have hij := HIX.out j hlt8
          obtain ⟨x, hx⟩ : ∃ x, x = vv.list.getD j 0 := ⟨_, rfl⟩
          obtain ⟨y, hy⟩ : ∃ y, y = V.list.getD j 0 := ⟨_, rfl⟩
          rw [← hx] at cj hset
          rw [← hy] at hij hset
          have HSET := Lib.hid hset
          have p0 : (j : Int) < 8 := by omega
          have q0 : 0 ≤ (j : Int) := by omega
          have a1 := wrap_add x y
          have a1' := mod_add x y
          clear hh hbut hset hx hy
          go_wp2_with fail
          go_region
          all_goals
            go_wp2_with fail
            go_roundw
            case rel =>
              refine ⟨j + 1, by omega, by go_num, ?_, ?_⟩
              · rw [← HSET.out]
                exact HashAt.setWord (w := wr.drewN _) HH2.out hlt8 _
              · exact (HB2.out.trans (But.of (below_drewN (Below.refl _ _) 1))).setCell _ (.inl rfl) _
            case measure => simp [intOf]; omega
        · have hj8 : j = 8 := by omega
          have hfin := HH2.out
          rw [hj8, addUp_all, HR64.out, HV.out] at hfin
          have HF := Lib.hid hfin
          clear hh hbut hfin hj8
          go_wp2_with fail
          go_end0
          exact ⟨rfl, HF.out, HB2.out⟩
end Go.Proofs.YtlnenkmcegadmaaDoor
namespace Go.Proofs.YtlnenkmcegadmaaDoor
open Go.RowKit

/-- What holds at the head of put's loop: k bytes are mixed in, the others are left. -/
def PutAt (w : World) (hb : Nat) (l q : List UInt8) (n : Nat) (v : Value) (wr : World) : Prop :=
  ∃ (k : Nat) (a' : Option Addr) (c' : Nat), v = .slice a' (n - k) c' ∧ k ≤ n ∧ (l.length + k) % 64 = 0 ∧ Row wr a' (n - k) c' (q.drop k) ∧ Off hb a' (n - k) ∧ (∃ bs, HashAt wr hb (run (l ++ q.take k) ((l.length + k) / 64)).list bs (l.length + n)) ∧ KsAt wr ∧ But w.heap.size hb w wr

theorem PutAt.fill {w w3 : World} {hb n n1 r M c' : Nat} {l q bs : List UInt8} {a' : Option Addr} (hM : M = l.length) (hr : r = M % 64) (hT : bs.take (l.length % 64) = l.drop (64 * (l.length / 64))) (hb64 : bs.length = 64) (hn1 : r + n1 = 64) (hq : q.length = n) (hn : n1 ≤ n)
    (h : HashAt w3 hb (compress (run l (l.length / 64)) (splice bs r (q.take n1))).list (splice bs r (q.take n1)) (M + n)) (hrow : Row w3 a' (n - n1) c' (q.drop n1)) (ho : Off hb a' (n - n1)) (hk : KsAt w3) (hbut : But w.heap.size hb w w3) : PutAt w hb l q n (.slice a' (n - n1) c') w3 := by
  subst hM
  subst hr
  exact ⟨n1, a', c', rfl, hn, by omega, hrow, ho, ⟨_, by rw [run_fill l q bs n1 hb64 hT hn1 (by omega)]; exact h⟩, hk, hbut⟩
theorem PutAt.more {w wr w3 : World} {hb n k N c'' : Nat} {l q bs : List UInt8} {a'' : Option Addr} (hm : (l.length + k) % 64 = 0) (hN : N = n - k) (hq : q.length = n) (hge : 64 ≤ N)
    (h : HashAt w3 hb (compress (run (l ++ q.take k) ((l.length + k) / 64)) ((q.drop k).take 64)).list bs (l.length + n)) (hrow : Row w3 a'' (N - 64) c'' ((q.drop k).drop 64)) (ho : Off hb a'' (N - 64)) (hk : KsAt w3) (hbut : But w.heap.size hb w wr) (hbut3 : But wr.heap.size hb wr w3) : PutAt w hb l q n (.slice a'' (N - 64) c'') w3 := by
  have e : N - 64 = n - (k + 64) := by omega
  rw [e] at hrow ho ⊢
  rw [List.drop_drop] at hrow
  exact ⟨k + 64, a'', c'', rfl, by omega, by omega, hrow, ho, ⟨_, by rw [run_more l q k hm (by omega)]; exact h⟩, hk, hbut.trans (hbut3.mono hbut.size)⟩
theorem PutAt.done {wr w3 : World} {hb n k N : Nat} {l q bs : List UInt8} (hm : (l.length + k) % 64 = 0) (hk : k ≤ n) (hN : N = n - k) (hq : q.length = n) (hlt : N < 64) (h : HashAt wr hb (run (l ++ q.take k) ((l.length + k) / 64)).list bs (l.length + n))
    (hh : w3.heap[hb]? = some (.cells (splice (hashRow (run (l ++ q.take k) ((l.length + k) / 64)).list bs (l.length + n)) 8 (cellsOf (q.drop k))).toArray 93 (0, 0))) : SumAt w3 hb (l ++ q) := by
  refine sum_rest l q bs k (l.length + n) (by rw [List.length_append, hq]) hm (by omega) (by omega) ?_
  exact h.copied (off := 0) (by rw [List.length_drop]; omega) hh
def lenOf : Value → Nat
  | .slice _ n _ => n
  | _ => 0

set_option maxRecDepth 100000 in
set_option maxHeartbeats 1600000 in
theorem put_any {w : World} {hb n c : Nat} {a : Option Addr} {l q : List UInt8} (h : SumAt w hb l) (hq : Row w a n c q) (ho : Off hb a n) (hk : KsAt w) (h0 : hb ≠ 0) (hn : l.length + n ≤ 1152921504606846976) :
    Calls Tryd.prog 40 #[.pointer (some ⟨hb, 0, none⟩), .slice a n c] w fun e w' => e = .returned (.tuple #[]) ∧ SumAt w' hb (l ++ q) ∧ But w.heap.size hb w w' := by
  obtain ⟨bs, hh, ht⟩ := h
  have cm := hh.many
  have fm := hh.free 72
  obtain ⟨M, hM⟩ : ∃ M, M = l.length := ⟨_, rfl⟩
  rw [← hM] at cm hn
  obtain ⟨r, hr⟩ : ∃ r, r = M % 64 := ⟨_, rfl⟩
  have e : (M : Int) % 64 = (r : Int) := by omega
  have hr64 : r < 64 := by omega
  have hrI : (r : Int) < 64 := by omega
  have hrJ : (r : Int) ≤ 64 := by omega
  have hcap := hq.2.1
  have hmax : c ≤ 9223372036854775807 := by have := hq.2.2.1; unfold maxLen at this; omega
  have HM := Lib.hid hM
  have HR := Lib.hid hr
  have HH := Lib.hid hh
  have HQ := Lib.hid hq
  have HT := Lib.hid ht
  have HO := Lib.hid ho
  have HK := Lib.hid hk
  clear hM hr hh hq ht ho hk
  go_enter Tryd.func40, Tryd.ntmps40
  go_upto_if 21 with (fail)
  have hb1 : But w.heap.size hb w (w.setCell ⟨hb, 72, none⟩ (.int .i64 ((M : Int) + n))) := (But.refl _ hb _).setCell ⟨hb, 72, none⟩ (.inl rfl) _
  have hh1 : HashAt (w.setCell ⟨hb, 72, none⟩ (.int .i64 ((M : Int) + n))) hb (run l (l.length / 64)).list bs (M + n) := HH.out.setMany (M + n)
  have hq1 : Row (w.setCell ⟨hb, 72, none⟩ (.int .i64 ((M : Int) + n))) a n c q := HQ.out.but hb1 HO.out
  have hk1 : KsAt (w.setCell ⟨hb, 72, none⟩ (.int .i64 ((M : Int) + n))) := HK.out.but hb1 h0
  revert hb1 hh1 hq1 hk1
  generalize (w.setCell ⟨hb, 72, none⟩ (.int .i64 ((M : Int) + n))) = w1
  intro hb1 hh1 hq1 hk1
  have HB1 := Lib.hid hb1
  have HH1 := Lib.hid hh1
  have HQ1 := Lib.hid hq1
  have HK1 := Lib.hid hk1
  clear hb1 hh1 hq1 hk1 cm fm HH HQ HK
  go_cut [1] from 4 to 41 (fun v w' => PutAt w hb l q n v w')
  case first =>
    by_cases hr0 : 0 < r
    · by_cases hsh : r + n < 64
      · obtain ⟨cs, hcs⟩ : ∃ cs, cs = cellsOf q := ⟨_, rfl⟩
        have hcl : cs.length = n := by rw [hcs, cellsOf_len]; exact HQ1.out.1
        have HCL := Lib.hid hcl
        have HCS := Lib.hid hcs
        have HN : Hid (cs.length = Nat.min n (64 - r)) := by show _ = min n (64 - r); rw [hcl]; omega
        have HF : Hid (8 + r + cs.length ≤ (hashRow (run l (l.length / 64)).list bs (M + n)).length) := by show _ ≤ _; rw [hcl, hashRow_len HH1.out.2.1 HH1.out.2.2]; omega
        have HO1 : Hid (∀ v ∈ cs, v.oneCell' = true) := by rw [hcs]; exact cellsOf_one _
        have HP : Hid (0 < cs.length → ∃ ad, a = some ad ∧ ∀ j v, cs[j]? = some v → w1.cell? (ad.add j) = some v) := by rw [hcs]; exact fun h0 => row_copy HQ1.out h0
        clear hcl hcs
        go_wp2_with (refine wpList_copy_but rfl (.tmp 26) (.tmp 27) 45 45 rfl 5 Tryd.underlying45 Tryd.size5 _ _ (64 - r) (64 - r) n c rfl rfl hb (8 + r) (hashRow (run l (l.length / 64)).list bs (M + n)) 93 HH1.out.1 cs HN.out (fun h0 => ⟨rfl, HP.out h0⟩) HF.out HO1.out ?_; rw [HCL.out]; intro w2 hh2 hb2; have HB2 := Lib.hid hb2; clear hb2)
        refine bodyPost_ret (results_none rfl _ _ _) rfl ⟨rfl, ?_, HB1.out.trans (HB2.out.mono HB1.out.size)⟩
        have hql : q.length = n := HQ1.out.1
        refine sum_short l q bs (M + n) (by rw [List.length_append, hql, HM.out]) HT.out (by rw [← HM.out, ← HR.out, hql]; exact hsh) HH1.out.2.2 ?_
        rw [← HM.out, ← HR.out]
        have h1 := HH1.out
        rw [← HM.out] at h1
        refine h1.copied (by rw [hql]; omega) ?_
        have h2 := hh2.out
        rw [HCS.out, ← HM.out] at h2
        exact h2
      · have hge : 64 ≤ r + n := by omega
        obtain ⟨b, off, rfl, _⟩ := HQ1.out.2.2.2.2 (by omega)
        obtain ⟨n1, hn1⟩ : ∃ n1, r + n1 = 64 := ⟨64 - r, by omega⟩
        have hn1n : n1 ≤ n := by omega
        obtain ⟨cs, hcs⟩ : ∃ cs, cs = cellsOf (q.take n1) := ⟨_, rfl⟩
        have hql : q.length = n := HQ1.out.1
        have hcl : cs.length = n1 := by rw [hcs, cellsOf_len, List.length_take]; omega
        have HQL := Lib.hid hql
        have HCL := Lib.hid hcl
        have HCS := Lib.hid hcs
        have HN1 := Lib.hid hn1
        have HN : Hid (cs.length = Nat.min n (64 - r)) := by show _ = min n (64 - r); rw [hcl]; omega
        have HF : Hid (8 + r + cs.length ≤ (hashRow (run l (l.length / 64)).list bs (M + n)).length) := by show _ ≤ _; rw [hcl, hashRow_len HH1.out.2.1 HH1.out.2.2]; omega
        have HO1 : Hid (∀ v ∈ cs, v.oneCell' = true) := by rw [hcs]; exact cellsOf_one _
        have HP : Hid (0 < cs.length → ∃ ad, (some ⟨b, off, none⟩ : Option Addr) = some ad ∧ ∀ j v, cs[j]? = some v → w1.cell? (ad.add j) = some v) := by rw [hcs]; exact fun h0 => row_copy (HQ1.out.take hn1n) h0
        have hsum : (r : Int) + n1 = 64 := by omega
        clear hcl hcs hql hn1
        go_upto_if 32 with ((refine wpList_copy_but rfl (.tmp 26) (.tmp 27) 45 45 rfl 5 Tryd.underlying45 Tryd.size5 _ _ (64 - r) (64 - r) n c rfl rfl hb (8 + r) (hashRow (run l (l.length / 64)).list bs (M + n)) 93 HH1.out.1 cs HN.out (fun h0 => ⟨rfl, HP.out h0⟩) HF.out HO1.out ?_; rw [HCL.out]; intro w2 hh2 hb2; have HH2' := Lib.hid hh2; have HB2' := Lib.hid hb2; clear hh2 hb2))
        have h2 : HashAt w2 hb (run l (l.length / 64)).list (splice bs r (q.take n1)) (M + n) := by
          refine HH1.out.copied (by rw [List.length_take, HQL.out]; have := HN1.out; omega) ?_
          have h2 := HH2'.out.out
          rw [HCS.out] at h2
          exact h2
        have hq2 : Row w2 (some ⟨b, off, none⟩) n c q := HQ1.out.but HB2'.out HO.out
        have hk2 : KsAt w2 := HK1.out.but HB2'.out h0
        have hb02 := HB1.out.trans (HB2'.out.mono HB1.out.size)
        have HH2 := Lib.hid h2
        have HQ2 := Lib.hid hq2
        have HK2 := Lib.hid hk2
        have HB2 := Lib.hid hb02
        clear h2 hq2 hk2 hb02
        go_wp2_with (go_at_call 57; refine (mix_any HH2.out HH2.out.row HK2.out).mono ?_; rintro e w3 ⟨rfl, hh3, hb3⟩; have HH3 := Lib.hid hh3; have HB3 := Lib.hid hb3; clear hh3 hb3)
        · obtain rfl : c = n1 := by omega
          have hq3 : Row w3 (some ⟨b, off, none⟩) (n - c) (c - c) (q.drop c) := (HQ2.out.but HB3.out HO.out).drop hn1n (fun e => by cases e) (fun h => by omega)
          rw [Nat.sub_self] at hq3
          go_meet
          exact PutAt.fill HM.out HR.out HT.out HH1.out.2.2 HN1.out HQL.out hn1n HH3.out hq3 (fun h => by omega) (HK2.out.but HB3.out h0) (HB2.out.trans (HB3.out.mono HB2.out.size))
        · have hq3 : Row w3 (some ⟨b, off + n1, none⟩) (n - n1) (c - n1) (q.drop n1) := (HQ2.out.but HB3.out HO.out).drop hn1n (fun e => by cases e) (fun _ b' off' e => by cases e; rfl)
          go_meet
          exact PutAt.fill HM.out HR.out HT.out HH1.out.2.2 HN1.out HQL.out hn1n HH3.out hq3 (fun _ b' off' e => by cases e; exact HO.out (by omega) b off rfl) (HK2.out.but HB3.out h0) (HB2.out.trans (HB3.out.mono HB2.out.size))
    · go_wp2_with fail
      go_meet
      exact ⟨0, a, c, by simp, Nat.zero_le _, by have := HM.out; have := HR.out; omega, HQ1.out, HO.out, ⟨bs, by rw [List.take_zero, List.append_nil, Nat.add_zero, ← HM.out]; rw [← HM.out] at HH1; exact HH1.out⟩, HK1.out, HB1.out⟩
  case rest =>
    have HCUT := Lib.hid hcut
    clear hcut
    go_wp2_with fail
    go_loopw [1] (fun v wr => PutAt w hb l q n v wr) (fun v _ => lenOf v)
    case atStart => exact HCUT.out
    case round =>
      obtain ⟨k, a', c', rfl, hk, hm, hrow, hoff, ⟨bs', hh⟩, hks, hbut⟩ := hrel
      obtain ⟨N, hN⟩ : ∃ N, N = n - k := ⟨_, rfl⟩
      rw [← hN] at hrow hoff ⊢
      have hql : q.length = n := HQ1.out.1
      have hNc : N ≤ c' := hrow.2.1
      have hcm' : c' ≤ 9223372036854775807 := by have := hrow.2.2.1; unfold maxLen at this; omega
      have HH3 := Lib.hid hh
      have HROW := Lib.hid hrow
      have HOFF := Lib.hid hoff
      have HKS := Lib.hid hks
      have HBUT := Lib.hid hbut
      have HMO := Lib.hid hm
      have HNN := Lib.hid hN
      have HQL := Lib.hid hql
      clear hh hoff hks hbut hm hN hql
      by_cases hge : 64 ≤ N
      · obtain ⟨b', off', rfl, _⟩ := hrow.2.2.2.2 (by omega)
        have hge' : (64 : Int) ≤ N := by omega
        have hrow1 := hrow.take hge
        have HROW1 := Lib.hid hrow1
        clear hrow hrow1
        go_wp2_with (go_at_call 57; refine (mix_any HH3.out HROW1.out HKS.out).mono ?_; rintro e w3 ⟨rfl, hh3, hb3⟩; have HH4 := Lib.hid hh3; have HB4 := Lib.hid hb3; clear hh3 hb3)
        go_roundw
        case rel =>
          have hr3 : Row w3 (some ⟨b', off', none⟩) N c' (q.drop k) := HROW.out.but HB4.out HOFF.out
          have ho3 := HOFF.out (by omega) b' off' rfl
          exact PutAt.more HMO.out HNN.out HQL.out hge HH4.out (hr3.drop hge (fun e => by split at e <;> cases e) (fun h b2 off2 e => by cases e; rw [if_neg (by omega)])) (fun _ b2 off2 e => by split at e <;> (cases e; exact ho3)) (HKS.out.but HB4.out h0) HBUT.out HB4.out
        case measure => simp [lenOf]; omega
      · obtain ⟨cs, hcs⟩ : ∃ cs, cs = cellsOf (q.drop k) := ⟨_, rfl⟩
        have hcl : cs.length = N := by rw [hcs, cellsOf_len]; exact hrow.1
        have HCL := Lib.hid hcl
        have HCS := Lib.hid hcs
        have HMN : Hid (cs.length = Nat.min N 64) := by show _ = min N 64; rw [hcl]; omega
        have HF : Hid (8 + cs.length ≤ (hashRow (run (l ++ q.take k) ((l.length + k) / 64)).list bs' (l.length + n)).length) := by show _ ≤ _; rw [hcl, hashRow_len HH3.out.2.1 HH3.out.2.2]; omega
        have HO1 : Hid (∀ v ∈ cs, v.oneCell' = true) := by rw [hcs]; exact cellsOf_one _
        have HP : Hid (0 < cs.length → ∃ ad, a' = some ad ∧ ∀ j v, cs[j]? = some v → wr.cell? (ad.add j) = some v) := by rw [hcs]; exact fun h0 => row_copy HROW.out h0
        clear hcl hcs hrow
        go_wp2_with (refine wpList_copy_but rfl (.tmp 54) (.tmp 55) 45 45 rfl 5 Tryd.underlying45 Tryd.size5 _ _ 64 64 N c' rfl rfl hb 8 (hashRow (run (l ++ q.take k) ((l.length + k) / 64)).list bs' (l.length + n)) 93 HH3.out.1 cs HMN.out (fun h0 => ⟨rfl, HP.out h0⟩) HF.out HO1.out ?_; rw [HCL.out]; intro w2 hh2 hb2; have HB4 := Lib.hid hb2; clear hb2)
        go_end0
        have h2 := hh2.out
        rw [HCS.out] at h2
        exact ⟨rfl, PutAt.done HMO.out hk HNN.out HQL.out (by omega) HH3.out h2, HBUT.out.trans (HB4.out.mono HBUT.out.size)⟩
end Go.Proofs.YtlnenkmcegadmaaDoor
namespace Go.Proofs.YtlnenkmcegadmaaDoor
open Go.RowKit

theorem Tryd.size93 : (Tryd.prog.info? 93).map (·.size) = some 73 := by kernel_rfl
/-- A sum under way whose words and bytes are all 0. -/
def zeroHash : Array Value := (hashRow (List.replicate 8 0) (List.replicate 64 0) 0).toArray
theorem zeroHash_size : zeroHash.size = 73 := rfl
theorem zero_row (w : World) : (zeroValue 93).run Tryd.prog w = .ok (.agg zeroHash) w := by kernel_rfl
set_option maxRecDepth 100000 in
theorem begin_any (w : World) : Calls Tryd.prog 39 #[] w fun e w' => e = .returned (.agg (hashRow start.list (List.replicate 64 0) 0).toArray) ∧ Below w.heap.size w w' := by
  have hz := zero_row
  have hs := zeroHash_size
  go_enter Tryd.func39, Tryd.ntmps39
  go_wp2_with (refine wpList_store_row rfl 93 _ _ rfl w.heap.size _ rfl rfl 93 zeroHash (heap_alloc_new _ _) (by kernel_rfl) (by kernel_rfl) (by kernel_rfl) ?_)
  have b2 : Below w.heap.size w (w.alloc (.cells zeroHash 93)) := (Below.refl _ _).alloc (Nat.le_refl _) _
  refine bodyPost_ret (results_cell_row rfl _ _ w.heap.size 93 _ (0, 0) _ rfl (setRow_heap _ _ _ _ _ _ (heap_alloc_new _ _)) Tryd.underlying93 rfl (by kernel_rfl)) rfl ⟨?_, b2.trans (((but_setRow _ w.heap.size _).mono b2.size).below (Nat.le_refl _))⟩
  exact congrArg (fun x => Ending.returned (.agg x)) (by kernel_rfl)
end Go.Proofs.YtlnenkmcegadmaaDoor
namespace Go.Proofs.YtlnenkmcegadmaaDoor
open Go.RowKit

theorem SumAt.below {w w' : World} {hb : Nat} {l : List UInt8} (h : SumAt w hb l) (hb' : Below w.heap.size w w') : SumAt w' hb l := by
  obtain ⟨bs, h1, h2⟩ := h
  exact ⟨bs, h1.below hb', h2⟩
theorem SumAt.lt {w : World} {hb : Nat} {l : List UInt8} (h : SumAt w hb l) : hb < w.heap.size := by
  obtain ⟨bs, h1, h2⟩ := h
  exact h1.lt
theorem SumAt.many {w : World} {hb : Nat} {l : List UInt8} (h : SumAt w hb l) : w.cell? ⟨hb, 72, none⟩ = some (.int .i64 (l.length : Nat)) := by
  obtain ⟨bs, h1, h2⟩ := h
  exact h1.many
/-- 64 bytes 0. -/
def zero64 : Array Value := (cellsOf (List.replicate 64 0)).toArray
theorem zero64_size : zero64.size = 64 := rfl
theorem zero64_row (w : World) : (zeroValue 91).run Tryd.prog w = .ok (.agg zero64) w := by kernel_rfl
theorem behind_row : zero64.setIfInBounds 0 (.int .u8 128) = (cellsOf behind).toArray := by kernel_rfl
/-- What end has laid beside the sum under way. -/
def EndAt (rb : Nat) (w2 : World) (p : Nat) (XH XL : BitVec 32) (W : World) : Prop :=
  (rb < w2.heap.size ∧ W.heap[rb]? = some (.cells (cellsOf zero32).toArray 23 (0, 0))) ∧ p = w2.heap.size ∧ W.heap[p]? = some (.cells (cellsOf (four XH)).toArray 96 (0, 0)) ∧ W.heap[p + 1]? = some (.cells (cellsOf (four XL)).toArray 96 (0, 0)) ∧ W.heap[p + 1 + 1]? = some (.cells (cellsOf behind).toArray 91 (0, 0))
theorem EndAt.but {w2 W W' : World} {rb p hb : Nat} {XH XL : BitVec 32} (h : EndAt rb w2 p XH XL W) (hlt : hb < w2.heap.size) (hne : rb ≠ hb) (hbut : But W.heap.size hb W W') : EndAt rb w2 p XH XL W' := by
  obtain ⟨⟨h0, h0'⟩, h1, h2, h3, h4⟩ := h
  exact ⟨⟨h0, hbut.heap h0' (lt_of_block h0') hne⟩, h1, hbut.heap h2 (lt_of_block h2) (by omega), hbut.heap h3 (lt_of_block h3) (by omega), hbut.heap h4 (lt_of_block h4) (by omega)⟩
/-- The sum of which the first j words are told. -/
def sumRow (V : Eight) (j : Nat) : List UInt8 := (V.list.take j).flatMap four ++ List.replicate (32 - 4 * j) 0
theorem sumRow_splice (V : Eight) (j : Nat) (h : j < 8) : splice (sumRow V j) (4 * j) (four (V.list.getD j 0)) = sumRow V (j + 1) := by
  rcases (show j = 0 ∨ j = 1 ∨ j = 2 ∨ j = 3 ∨ j = 4 ∨ j = 5 ∨ j = 6 ∨ j = 7 by omega) with rfl | rfl | rfl | rfl | rfl | rfl | rfl | rfl <;> rfl
theorem sumRow_len (V : Eight) (j : Nat) (h : j ≤ 8) : (sumRow V j).length = 32 := by
  rcases (show j = 0 ∨ j = 1 ∨ j = 2 ∨ j = 3 ∨ j = 4 ∨ j = 5 ∨ j = 6 ∨ j = 7 ∨ j = 8 by omega) with rfl | rfl | rfl | rfl | rfl | rfl | rfl | rfl | rfl <;> rfl
theorem sumRow_all (V : Eight) : sumRow V 8 = V.bytes := rfl
theorem splice_cells (a b : List UInt8) (off : Nat) : splice (cellsOf a) off (cellsOf b) = cellsOf (splice a off b) := by
  simp [splice, cellsOf]
/-- What holds in a round of end. -/
def TellAt (w : World) (hb sb : Nat) (V : Eight) (j : Nat) (wr : World) : Prop :=
  wr.heap[sb]? = some (.cells (cellsOf (sumRow V j)).toArray 23 (0, 0)) ∧ wr.heap[w.heap.size]? = some (.cells (cellsOf zero32).toArray 23 (0, 0)) ∧ w.heap.size < sb ∧ hb < w.heap.size ∧ But w.heap.size hb w wr
theorem TellAt.below {w wr w2 : World} {hb sb j : Nat} {V : Eight} (h : TellAt w hb sb V j wr) (hb2 : Below wr.heap.size wr w2) : TellAt w hb sb V j w2 :=
  ⟨(hb2.block _ (lt_of_block h.1)).trans h.1, (hb2.block _ (lt_of_block h.2.1)).trans h.2.1, h.2.2.1, h.2.2.2.1, h.2.2.2.2.trans ((But.of hb2).mono h.2.2.2.2.size)⟩
theorem TellAt.tell {w wr w2 : World} {hb sb j : Nat} {V : Eight} (h : TellAt w hb sb V j wr) (hb2 : But wr.heap.size sb wr w2) (hh : w2.heap[sb]? = some (.cells (cellsOf (sumRow V (j + 1))).toArray 23 (0, 0))) : TellAt w hb sb V (j + 1) w2 :=
  ⟨hh, hb2.heap h.2.1 (lt_of_block h.2.1) (by have := h.2.2.1; omega), h.2.2.1, h.2.2.2.1, h.2.2.2.2.trans (But.of ((hb2.mono h.2.2.2.2.size).below (by have := h.2.2.1; omega)))⟩
theorem bytesOf_four (x : BitVec 32) (w : World) : Calls Tryd.prog 41 #[.int .u32 (num x)] w fun e w' => e = .returned (.agg #[.int .u8 (num x / 16777216 % 256), .int .u8 (num x / 65536 % 256), .int .u8 (num x / 256 % 256), .int .u8 (num x % 256)]) ∧ Below w.heap.size w w' := by
  rw [← four_cells]
  exact bytesOf_any x w

set_option maxRecDepth 100000 in
set_option maxHeartbeats 1600000 in
theorem end_any {w : World} {hb : Nat} {l : List UInt8} (h : SumAt w hb l) (hk : KsAt w) (h0 : hb ≠ 0) (hn : l.length ≤ 1125899906842624) :
    Calls Tryd.prog 42 #[.pointer (some ⟨hb, 0, none⟩)] w fun e w' => e = .returned (.agg (cellsOf (sumOf l)).toArray) ∧ But w.heap.size hb w w' := by
  have cm := h.many
  have hlt := h.lt
  have H := Lib.hid h
  have HK := Lib.hid hk
  obtain ⟨M, hM⟩ : ∃ M, M = l.length := ⟨_, rfl⟩
  rw [← hM] at cm hn
  have HM := Lib.hid hM
  have eh : (M : Int) * 8 / 4294967296 = num (BitVec.ofNat 32 (8 * M / 4294967296)) := by rw [num_ofNat _ (by omega)]; omega
  have el : (M : Int) * 8 % 4294967296 = num (BitVec.ofNat 32 (8 * M)) := by unfold num; rw [BitVec.toNat_ofNat]; omega
  obtain ⟨XH, hXH⟩ : ∃ x, x = BitVec.ofNat 32 (8 * M / 4294967296) := ⟨_, rfl⟩
  obtain ⟨XL, hXL⟩ : ∃ x, x = BitVec.ofNat 32 (8 * M) := ⟨_, rfl⟩
  rw [← hXH] at eh
  rw [← hXL] at el
  have HXH := Lib.hid hXH
  have HXL := Lib.hid hXL
  clear h hk hM hXH hXL
  go_enter Tryd.func42, Tryd.ntmps42
  go_wp2_with fail
  refine (bytesOf_four _ _).mono ?_
  rintro e w1 ⟨rfl, hb1⟩
  have HB1 := Lib.hid hb1
  clear hb1
  go_wp2_with fail
  refine (bytesOf_four _ _).mono ?_
  rintro e w2 ⟨rfl, hb2⟩
  have hw : Below w.heap.size w w2 := by
    have h1 := HB1.out
    have h2 := hb2.mono h1.size
    exact ((Below.refl _ _).alloc (Nat.le_refl _) _).trans ((h1.mono (by simp)).trans (h2.mono (by simp)))
  have hr2 : w2.heap[w.heap.size]? = some (.cells (cellsOf zero32).toArray 23 (0, 0)) := by
    have h1 := HB1.out
    rw [hb2.block w.heap.size (Nat.lt_of_lt_of_le (by simp) h1.size), h1.block w.heap.size (by simp), heap_alloc_new]
    rfl
  have HR2 := Lib.hid hr2
  have H2 := Lib.hid (H.out.below hw)
  have HW := Lib.hid hw
  have cm2 := H2.out.many
  have hlt2 := H2.out.lt
  rw [← HM.out] at cm2
  have HLT0 := Lib.hid hlt
  clear hb2 hw cm hlt HB1 hr2
  have hz := zero64_row
  have hs := zero64_size
  go_upto_region 4 with (refine wpList_store_row rfl 91 _ _ rfl (w2.heap.size + 1 + 1) _ rfl rfl 91 zero64 (heap_alloc_at _ _ _ (by simp)) (by kernel_rfl) (by kernel_rfl) (by kernel_rfl) ?_)
  rw [← four_cells, ← four_cells, behind_row]
  have hw5 : Below w2.heap.size w2 ((((w2.alloc (.cells (cellsOf (four XH)).toArray 96)).alloc (.cells (cellsOf (four XL)).toArray 96)).alloc (.cells zero64 91)).setRow (w2.heap.size + 1 + 1) (cellsOf behind).toArray) := by
    have b1 : Below w2.heap.size w2 (((w2.alloc (.cells (cellsOf (four XH)).toArray 96)).alloc (.cells (cellsOf (four XL)).toArray 96)).alloc (.cells zero64 91)) := (((Below.refl _ _).alloc (Nat.le_refl _) _).alloc (by simp) _).alloc (by simp; omega) _
    exact b1.trans (((but_setRow _ (w2.heap.size + 1 + 1) _).mono b1.size).below (by omega))
  have he5 : EndAt w.heap.size w2 w2.heap.size XH XL ((((w2.alloc (.cells (cellsOf (four XH)).toArray 96)).alloc (.cells (cellsOf (four XL)).toArray 96)).alloc (.cells zero64 91)).setRow (w2.heap.size + 1 + 1) (cellsOf behind).toArray) := by
    have hrl := lt_of_block HR2.out
    refine ⟨⟨hrl, ?_⟩, rfl, ?_, ?_, ?_⟩
    · rw [setRow_other _ _ _ _ (by omega), heap_alloc_old _ _ (by simp; omega), heap_alloc_old _ _ (by simp; omega), heap_alloc_old _ _ hrl]
      exact HR2.out
    · rw [setRow_other _ _ _ _ (by omega), heap_alloc_old _ _ (by simp; omega), heap_alloc_old _ _ (by simp), heap_alloc_new]
    · rw [setRow_other _ _ _ _ (by omega), heap_alloc_old _ _ (by simp)]
      exact heap_alloc_at _ _ _ (by simp)
    · exact setRow_heap _ _ _ _ _ _ (heap_alloc_at _ _ _ (by simp))
  revert hw5 he5
  generalize ((((w2.alloc (.cells (cellsOf (four XH)).toArray 96)).alloc (.cells (cellsOf (four XL)).toArray 96)).alloc (.cells zero64 91)).setRow (w2.heap.size + 1 + 1) (cellsOf behind).toArray) = w5
  obtain ⟨p, hp⟩ : ∃ p, p = w2.heap.size := ⟨_, rfl⟩
  rw [← hp]
  intro hw5 he5
  rw [hp] at hw5
  have HP := Lib.hid hp
  have H5 := Lib.hid (H2.out.below hw5)
  have HE5 := Lib.hid he5
  have HW5 := Lib.hid (HW.out.trans (hw5.mono HW.out.size))
  have HK5 := Lib.hid (HK.out.below HW5.out)
  have cm5 := H5.out.many
  rw [← HM.out] at cm5
  obtain ⟨G, hG⟩ : ∃ G, G = (M + 8) % 64 := ⟨_, rfl⟩
  obtain ⟨F, hF⟩ : ∃ F, F = fill M := ⟨_, rfl⟩
  have e1 : ((M : Int) + 8) % 64 = (G : Int) := by omega
  have e2 : (64 : Int) - (G : Int) = (F : Int) := by rw [hF]; unfold fill; omega
  have hGF : G < 64 ∧ 0 < F ∧ F ≤ 64 := by rw [hF]; unfold fill; omega
  have g1 : (G : Int) < 64 := by omega
  have g2 : (F : Int) ≤ 64 := by omega
  have g3 : 0 < (F : Int) := by omega
  have HF := Lib.hid hF
  have hlt5 := hlt2
  have HLT := Lib.hid hlt2
  clear hw5 he5 hp cm2 hlt2 hlt5 hz hs hG hF hGF
  simp only [Act.put]
  have hne : w.heap.size ≠ hb := by have := HLT0.out; omega
  have hF64 : F ≤ 64 := by omega
  have hphb : p ≠ hb ∧ p + 1 ≠ hb ∧ p + 1 + 1 ≠ hb := by have := HP.out; have := HLT.out; omega
  go_wp2_with fail
  refine (put_any H5.out ((row_all HE5.out.2.2.2.2 64 rfl (by omega)).take hF64) (fun _ b off e => by cases e; exact hphb.2.2) HK5.out h0 (by have := HM.out; omega)).mono ?_
  rintro e w6 ⟨rfl, hs6, hb6⟩
  have HE6 := Lib.hid (HE5.out.but HLT.out hne hb6)
  have HK6 := Lib.hid (HK5.out.but hb6 h0)
  have HW6 := Lib.hid ((But.of (p := hb) HW5.out).trans (hb6.mono HW5.out.size))
  have HS6 := Lib.hid hs6
  have hl6 : (l ++ behind.take F).length ≤ 1125899906842624 + 64 := by rw [List.length_append, List.length_take, ← HM.out]; omega
  have HL6 := Lib.hid hl6
  clear hs6 hb6 cm5 hl6
  go_wp2_with fail
  refine (put_any HS6.out (row_all HE6.out.2.2.1 4 rfl (by omega)) (fun _ b off e => by cases e; exact hphb.1) HK6.out h0 (by have := HL6.out; omega)).mono ?_
  rintro e w7 ⟨rfl, hs7, hb7⟩
  have HE7 := Lib.hid (HE6.out.but HLT.out hne hb7)
  have HK7 := Lib.hid (HK6.out.but hb7 h0)
  have HW7 := Lib.hid (HW6.out.trans (hb7.mono HW6.out.size))
  have HS7 := Lib.hid hs7
  have hl7 : ((l ++ behind.take F) ++ four XH).length ≤ 1125899906842624 + 68 := by rw [List.length_append, four_len]; have := HL6.out; omega
  have HL7 := Lib.hid hl7
  clear hs7 hb7 hl7
  go_wp2_with fail
  refine (put_any HS7.out (row_all HE7.out.2.2.2.1 4 rfl (by omega)) (fun _ b off e => by cases e; exact hphb.2.1) HK7.out h0 (by have := HL7.out; omega)).mono ?_
  rintro e w8 ⟨rfl, hs8, hb8⟩
  have hpad : ((l ++ behind.take F) ++ four XH) ++ four XL = pad l := by
    rw [HXH.out, HXL.out, HF.out, HM.out]
    unfold pad bitsOf
    simp only [List.append_assoc]
  rw [hpad] at hs8
  have HE8 := Lib.hid (HE7.out.but HLT.out hne hb8)
  have HW8 := Lib.hid (HW7.out.trans (hb8.mono HW7.out.size))
  have hlt8 := hs8.lt
  obtain ⟨bs, hh, _⟩ := hs8
  obtain ⟨V, hV⟩ : ∃ V, V = run (pad l) ((pad l).length / 64) := ⟨_, rfl⟩
  rw [← hV] at hh
  have hsum : sumOf l = V.bytes := by rw [hV]; rfl
  have HSUM := Lib.hid hsum
  have c0 := hh.word (i := 0) (by decide)
  have c1 := hh.word (i := 1) (by decide)
  have c2 := hh.word (i := 2) (by decide)
  have c3 := hh.word (i := 3) (by decide)
  have c4 := hh.word (i := 4) (by decide)
  have c5 := hh.word (i := 5) (by decide)
  have c6 := hh.word (i := 6) (by decide)
  have c7 := hh.word (i := 7) (by decide)
  obtain ⟨v0, v1, v2, v3, v4, v5, v6, v7⟩ := V
  simp only [Eight.list, List.getD_cons_zero, List.getD_cons_succ] at c0 c1 c2 c3 c4 c5 c6 c7
  clear hh hV hsum hb8 hpad HS6 HS7 HE5 HE6 HE7 HL6 HL7 HW5 HW6 HW7 HK5 HK6 HK7 H5 H2 HW H eh el e1 e2 g1 g2 g3 HXH HXL HF hF64
  go_wp2_with fail
  clear c0 c1 c2 c3 c4 c5 c6 c7
  have hz9 : Below w8.heap.size w8 (w8.alloc (.cells (cellsOf zero32).toArray 23)) := (Below.refl _ _).alloc (Nat.le_refl _) _
  have ht9 : TellAt w hb w8.heap.size ⟨v0, v1, v2, v3, v4, v5, v6, v7⟩ 0 (w8.alloc (.cells (cellsOf zero32).toArray 23)) := by
    have hr8 := HE8.out.1.2
    exact ⟨heap_alloc_new _ _, (hz9.block _ (lt_of_block hr8)).trans hr8, lt_of_block hr8, HLT0.out, HW8.out.trans ((But.of hz9).mono HW8.out.size)⟩
  rw [show (#[.int .u8 0, .int .u8 0, .int .u8 0, .int .u8 0, .int .u8 0, .int .u8 0, .int .u8 0, .int .u8 0, .int .u8 0, .int .u8 0, .int .u8 0, .int .u8 0, .int .u8 0, .int .u8 0, .int .u8 0, .int .u8 0, .int .u8 0, .int .u8 0, .int .u8 0, .int .u8 0, .int .u8 0, .int .u8 0, .int .u8 0, .int .u8 0, .int .u8 0, .int .u8 0, .int .u8 0, .int .u8 0, .int .u8 0, .int .u8 0, .int .u8 0, .int .u8 0] : Array Value) = (cellsOf zero32).toArray from rfl]
  revert ht9
  generalize (w8.alloc (.cells (cellsOf zero32).toArray 23)) = w9
  obtain ⟨sb, hsb⟩ : ∃ sb, sb = w8.heap.size := ⟨_, rfl⟩
  rw [← hsb]
  intro ht9
  have HT9 := Lib.hid ht9
  obtain ⟨V, hV⟩ : ∃ V : Eight, V = ⟨v0, v1, v2, v3, v4, v5, v6, v7⟩ := ⟨_, rfl⟩
  have hix : ∀ j : Nat, j < 8 → ∀ W' : World, (Instr.index 90 (.agg #[.int .u32 (num v0), .int .u32 (num v1), .int .u32 (num v2), .int .u32 (num v3), .int .u32 (num v4), .int .u32 (num v5), .int .u32 (num v6), .int .u32 (num v7)]) (.int .i64 (j : Int))).run Tryd.prog W' = .ok (.int .u32 (num (V.list.getD j 0))) W' := fun j hj W' => by
    rw [hV]
    rcases (show j = 0 ∨ j = 1 ∨ j = 2 ∨ j = 3 ∨ j = 4 ∨ j = 5 ∨ j = 6 ∨ j = 7 by omega) with rfl | rfl | rfl | rfl | rfl | rfl | rfl | rfl <;> rfl
  have HIX := Lib.hid hix
  have HV := Lib.hid hV
  obtain ⟨rb, hrb⟩ : ∃ rb, rb = w.heap.size := ⟨_, rfl⟩
  have HRB := Lib.hid hrb
  rw [← hrb]
  clear ht9 hsb hix hV hz9 hrb HE8 HW8 hlt8 hphb hne HR2 HP
  go_loopw [47] (fun i wr => ∃ j : Nat, j ≤ 8 ∧ i = .int .i64 j ∧ TellAt w hb sb V j wr) (fun i _ => 8 - (intOf i).toNat)
  case atStart => exact ⟨0, Nat.zero_le _, rfl, by rw [HV.out]; exact HT9.out⟩
  case round =>
    obtain ⟨j, hj, rfl, hat⟩ := hrel
    have HAT := Lib.hid hat
    by_cases hj8 : j < 8
    · have hij := HIX.out j hj8
      obtain ⟨x, hx⟩ : ∃ x, x = V.list.getD j 0 := ⟨_, rfl⟩
      rw [← hx] at hij
      have HX := Lib.hid hx
      obtain ⟨J, hJ⟩ : ∃ J, J = 4 * j := ⟨_, rfl⟩
      have e4 : IntKind.i64.wrap (J : Int) = (J : Int) := IntWalk.i64_in _ ⟨by omega, by omega⟩
      have e4' : 4 * (j : Int) = (J : Int) := by omega
      have hJ32 : (J : Int) < 32 := by omega
      have hJn : J < 32 := by omega
      have hJe : ¬ 32 = J := by omega
      have hJ33 : (J : Int) ≤ 32 := by omega
      have p0 : (j : Int) < 8 := by omega
      have q0 : 0 ≤ (j : Int) := by omega
      have HJ := Lib.hid hJ
      clear hat hx hJ
      go_wp2_with fail
      refine (bytesOf_four _ _).mono ?_
      rintro e w10 ⟨rfl, hb10⟩
      have H10 := Lib.hid (HAT.out.below hb10)
      clear hb10
      go_wp2_with fail
      rw [← four_cells]
      have hbA : Below w10.heap.size w10 (w10.alloc (.cells (cellsOf (four x)).toArray 96)) := (Below.refl _ _).alloc (Nat.le_refl _) _
      have hrA : (w10.alloc (.cells (cellsOf (four x)).toArray 96)).heap[w10.heap.size]? = some (.cells (cellsOf (four x)).toArray 96 (0, 0)) := heap_alloc_new _ _
      have hatA := H10.out.below hbA
      revert hrA hatA
      generalize (w10.alloc (.cells (cellsOf (four x)).toArray 96)) = wA
      obtain ⟨g, hg⟩ : ∃ g, g = w10.heap.size := ⟨_, rfl⟩
      rw [← hg]
      intro hrA hatA
      have HR : Hid (Row wA.drew (some ⟨g, 0, none⟩) 4 4 (four x)) := Lib.hid (row_all (w := wA.drew) hrA 4 rfl (by omega))
      have HA := Lib.hid hatA
      have HSB : Hid (wA.drew.heap[sb]? = some (.cells (cellsOf (sumRow V j)).toArray 23 (0, 0))) := Lib.hid hatA.1
      have HN : Hid ((cellsOf (four x)).length = Nat.min 4 (32 - J)) := by show 4 = min 4 (32 - J); have := HJ.out; omega
      have HF : Hid (J + (cellsOf (four x)).length ≤ (cellsOf (sumRow V j)).length) := by show J + 4 ≤ _; rw [cellsOf_len, sumRow_len V j (by omega)]; have := HJ.out; omega
      clear hbA hg hrA hatA
      go_region_held_law (fun _ => True) (trivial)
        ((refine step_copy_but (by rfl) (.tmp 55) (.tmp 56) 45 45 (by rfl) 5 Tryd.underlying45 Tryd.size5 _ _ (32 - J) (32 - J) 4 4 (by rfl) (by rfl) sb J (cellsOf (sumRow V j)) 23 HSB.out (cellsOf (four x)) HN.out (fun h0 => ⟨rfl, row_copy HR.out h0⟩) HF.out (cellsOf_one _) ?_; intro w3 hh3 hb3))
      have hh4 := hh3.out
      rw [splice_cells, HX.out, HJ.out, sumRow_splice V j hj8] at hh4
      have HH4 := Lib.hid hh4
      have HB3 := Lib.hid hb3
      clear hh3 hh4 hb3
      go_wp2_with fail
      go_roundw
      case rel => exact ⟨j + 1, by omega, by go_num, HA.out.tell (wr := wA) (show But wA.heap.size sb wA w3 from ⟨HB3.out.os, HB3.out.tape, HB3.out.output, HB3.out.size, HB3.out.block⟩) HH4.out⟩
      case measure => simp [intOf]; omega
    · have hj8' : j = 8 := by omega
      rw [hj8'] at hat
      have HAT8 := Lib.hid hat
      have hrow : (cellsOf (sumRow V 8)).toArray = (cellsOf (sumOf l)).toArray := by rw [sumRow_all, HSUM.out, HV.out]
      have hlen : (cellsOf (sumRow V 8)).toArray.size = 32 := by rw [List.size_toArray, cellsOf_len]; exact sumRow_len V 8 (by omega)
      have hall : (cellsOf (sumRow V 8)).toArray.all (·.oneCell') = true := by
        rw [List.all_toArray]
        exact List.all_eq_true.2 (cellsOf_one _)
      have hsz : (Tryd.prog.info? 23).map (·.size) = some (cellsOf (sumRow V 8)).toArray.size := by rw [hlen]; exact Tryd.size23
      have hzl : (cellsOf zero32).toArray.size = (cellsOf (sumRow V 8)).toArray.size := by rw [hlen]; rfl
      have HALL := Lib.hid hall
      have HSZ := Lib.hid hsz
      have HZL := Lib.hid hzl
      have HROW := Lib.hid hrow
      have hr : wr.heap[rb]? = some (.cells (cellsOf zero32).toArray 23 (0, 0)) := by rw [HRB.out]; exact HAT8.out.2.1
      have HR := Lib.hid hr
      clear hat hj8' hrow hlen hall hsz hzl hr
      go_wp2_with (first | (refine wpList_load_row rfl 23 _ rfl sb rfl 23 (cellsOf (sumRow V 8)).toArray (0, 0) _ HAT8.out.1 Tryd.underlying23 rfl HSZ.out ?_) | (refine wpList_store_row rfl 23 _ _ rfl rb (cellsOf (sumRow V 8)).toArray rfl rfl 23 (cellsOf zero32).toArray HR.out HSZ.out HZL.out HALL.out ?_))
      have hb4 : But w.heap.size hb wr (wr.setRow rb (cellsOf (sumRow V 8)).toArray) := But.of (((but_setRow wr rb _).mono HAT8.out.2.2.2.2.size).below (by rw [HRB.out]; exact Nat.le_refl _))
      exact bodyPost_ret (results_cell_row rfl _ _ rb 23 (cellsOf (sumRow V 8)).toArray (0, 0) _ rfl (setRow_heap wr rb _ _ 23 _ HR.out) Tryd.underlying23 rfl HSZ.out) rfl ⟨by rw [HROW.out], HAT8.out.2.2.2.2.trans hb4⟩
end Go.Proofs.YtlnenkmcegadmaaDoor
namespace Go.Proofs.YtlnenkmcegadmaaDoor
open Go.RowKit

theorem sumAt_start {w : World} {hb : Nat} (h : w.heap[hb]? = some (.cells (hashRow start.list (List.replicate 64 0) 0).toArray 93 (0, 0))) : SumAt w hb [] :=
  ⟨List.replicate 64 0, ⟨h, rfl, by simp⟩, rfl⟩
theorem hash_size : (hashRow start.list (List.replicate 64 0) 0).toArray.size = 73 := rfl
theorem start_all : (hashRow start.list (List.replicate 64 0) 0).toArray.all (·.oneCell') = true := by
  rw [List.all_toArray]
  exact List.all_eq_true.2 (hashRow_one _ _ _)
theorem sum_all (l : List UInt8) : (cellsOf (sumOf l)).toArray.all (·.oneCell') = true := by
  rw [List.all_toArray]
  exact List.all_eq_true.2 (cellsOf_one _)
theorem sum_size (l : List UInt8) : (cellsOf (sumOf l)).toArray.size = 32 := by rw [List.size_toArray, cellsOf_len]; exact sumOf_len l
theorem sum_size' (l : List UInt8) : (Tryd.prog.info? 23).map (·.size) = some (cellsOf (sumOf l)).toArray.size := by rw [sum_size]; exact Tryd.size23

/-- A call that sums: its result's block rb, its sum under way at hb. -/
def StartAt (w : World) (rb hb : Nat) (l : List UInt8) (W : World) : Prop :=
  SumAt W hb l ∧ W.heap[rb]? = some (.cells (cellsOf zero32).toArray 23 (0, 0)) ∧ rb = w.heap.size ∧ rb < hb ∧ KsAt W ∧ Below w.heap.size w W
theorem StartAt.begun {w w1 : World} (hk : KsAt w) (hb1 : Below (w.alloc (.cells (cellsOf zero32).toArray 23)).heap.size (w.alloc (.cells (cellsOf zero32).toArray 23)) w1) :
    StartAt w w.heap.size w1.heap.size [] ((w1.alloc (.cells zeroHash 93)).setRow w1.heap.size (hashRow start.list (List.replicate 64 0) 0).toArray) := by
  have b1 : Below w.heap.size w w1 := ((Below.refl _ _).alloc (Nat.le_refl _) _).trans (hb1.mono (by simp))
  have b2 : Below w1.heap.size w1 (w1.alloc (.cells zeroHash 93)) := (Below.refl _ _).alloc (Nat.le_refl _) _
  have b3 : Below w1.heap.size w1 ((w1.alloc (.cells zeroHash 93)).setRow w1.heap.size (hashRow start.list (List.replicate 64 0) 0).toArray) := b2.trans (((but_setRow _ w1.heap.size _).mono b2.size).below (Nat.le_refl _))
  have hlt : w.heap.size < w1.heap.size := Nat.lt_of_lt_of_le (by simp) hb1.size
  have b4 : Below w.heap.size w ((w1.alloc (.cells zeroHash 93)).setRow w1.heap.size (hashRow start.list (List.replicate 64 0) 0).toArray) := b1.trans (b3.mono b1.size)
  refine ⟨sumAt_start (setRow_heap _ _ _ _ _ _ (heap_alloc_new _ _)), ?_, rfl, hlt, hk.below b4, b4⟩
  rw [b3.block _ hlt, hb1.block _ (by simp), heap_alloc_new]
theorem StartAt.step {w W W' : World} {rb hb : Nat} {l m : List UInt8} (h : StartAt w rb hb l W) (hs : SumAt W' hb m) (hb' : But W.heap.size hb W W') : StartAt w rb hb m W' := by
  obtain ⟨h1, h2, h3, h4, h5, h6⟩ := h
  exact ⟨hs, hb'.heap h2 (lt_of_block h2) (by omega), h3, h4, h5.but hb' (by omega), h6.trans ((hb'.mono h6.size).below (by omega))⟩
theorem StartAt.below {w W W' : World} {rb hb : Nat} {l : List UInt8} (h : StartAt w rb hb l W) (hb' : Below W.heap.size W W') : StartAt w rb hb l W' := by
  obtain ⟨h1, h2, h3, h4, h5, h6⟩ := h
  exact ⟨h1.below hb', (hb'.block _ (lt_of_block h2)).trans h2, h3, h4, h5.below hb', h6.trans (hb'.mono h6.size)⟩
/-- The sum is told. -/
theorem StartAt.told {w W W' : World} {rb hb : Nat} {l : List UInt8} (h : StartAt w rb hb l W) (hb' : But W.heap.size hb W W') : W'.heap[rb]? = some (.cells (cellsOf zero32).toArray 23 (0, 0)) ∧ Below w.heap.size w (W'.setRow rb (cellsOf (sumOf l)).toArray) := by
  obtain ⟨h1, h2, h3, h4, h5, h6⟩ := h
  have b1 : Below w.heap.size w W' := h6.trans ((hb'.mono h6.size).below (by omega))
  exact ⟨hb'.heap h2 (lt_of_block h2) (by omega), b1.trans (((but_setRow _ rb _).mono b1.size).below (by omega))⟩
end Go.Proofs.YtlnenkmcegadmaaDoor
namespace Go.Proofs.YtlnenkmcegadmaaDoor
open Go.RowKit

/-- A slice of slices of bytes that reads as 'ps'. -/
def Rows2 (w : World) (a : Option Addr) (n c : Nat) (ps : List (List UInt8)) : Prop :=
  ps.length = n ∧ n ≤ c ∧ c ≤ maxLen ∧ (a = none → c = 0) ∧
  (0 < n → ∃ b off, a = some ⟨b, off, none⟩ ∧ b < w.heap.size ∧ ∀ j, j < n → ∃ aj nj cj, w.cell? ⟨b, off + j, none⟩ = some (.slice aj nj cj) ∧ Row w aj nj cj (ps.getD j []))
theorem Rows2.below {w w' : World} {n c : Nat} {a : Option Addr} {ps : List (List UInt8)} (h : Rows2 w a n c ps) (hb : Below w.heap.size w w') : Rows2 w' a n c ps := by
  obtain ⟨h1, h2, h3, h4, h5⟩ := h
  refine ⟨h1, h2, h3, h4, fun h0 => ?_⟩
  obtain ⟨b, off, rfl, hlt, hc⟩ := h5 h0
  refine ⟨b, off, rfl, Nat.lt_of_lt_of_le hlt hb.size, fun j hj => ?_⟩
  obtain ⟨aj, nj, cj, h6, h7⟩ := hc j hj
  exact ⟨aj, nj, cj, (hb.cell (p := ⟨b, off + j, none⟩) hlt).trans h6, h7.below hb⟩
theorem Rows2.nil (w : World) : Rows2 w none 0 0 [] := ⟨rfl, Nat.le_refl _, Nat.zero_le _, fun _ => rfl, fun h => by omega⟩

theorem partsOf_succ (tag : UInt8) (ps : List (List UInt8)) (j : Nat) (h : j < ps.length) : partsOf tag (ps.take (j + 1)) = (partsOf tag (ps.take j) ++ four (BitVec.ofNat 32 (ps.getD j []).length)) ++ ps.getD j [] := by
  unfold partsOf
  rw [List.take_succ_eq_append_getElem h, List.flatMap_append]
  simp [partOf, List.getD, h]
theorem partsOf_le (tag : UInt8) (ps : List (List UInt8)) (j : Nat) : (partsOf tag (ps.take j)).length ≤ (partsOf tag ps).length := by
  have h : ps.flatMap partOf = (ps.take j).flatMap partOf ++ (ps.drop j).flatMap partOf := by rw [← List.flatMap_append, List.take_append_drop]
  unfold partsOf
  rw [List.length_cons, List.length_cons, h, List.length_append]
  omega

set_option maxRecDepth 100000 in
set_option maxHeartbeats 1600000 in
theorem join_any {w : World} {a : Option Addr} {n c : Nat} {ps : List (List UInt8)} (tag : UInt8) (T : Nat) (hT : tag.toNat = T) (h : Rows2 w a n c ps) (hk : KsAt w) (hn : (partsOf tag ps).length ≤ 1125899906842624) :
    Calls Tryd.prog 26 #[.int .u8 (T : Int), .slice a n c] w fun e w' => e = .returned (.agg (cellsOf (sumOf (partsOf tag ps))).toArray) ∧ Below w.heap.size w w' := by
  have hz := zero_row
  have HZS := Lib.hid zeroHash_size
  have hn63 : n ≤ 9223372036854775807 := by have := h.2.1; have := h.2.2.1; unfold maxLen at this; omega
  have H := Lib.hid h
  have HK := Lib.hid hk
  have HTT := Lib.hid hT
  clear h hk hT
  go_enter Tryd.func26, Tryd.ntmps26
  go_wp2_with fail
  refine (begin_any _).mono ?_
  rintro e w1 ⟨rfl, hb1⟩
  have HB1 := Lib.hid hb1
  clear hb1
  go_upto_region 2 with (refine wpList_store_row rfl 93 _ _ rfl w1.heap.size (hashRow start.list (List.replicate 64 0) 0).toArray rfl rfl 93 zeroHash (heap_alloc_new _ _) (by rw [hash_size]; exact Tryd.size93) (by rw [hash_size]; exact HZS.out) start_all ?_)
  have hw5 := StartAt.begun HK.out HB1.out
  revert hw5
  generalize ((w1.alloc (.cells zeroHash 93)).setRow w1.heap.size (hashRow start.list (List.replicate 64 0) 0).toArray) = w5
  obtain ⟨hb, hhb⟩ : ∃ hb, hb = w1.heap.size := ⟨_, rfl⟩
  rw [← hhb]
  intro hw5
  have H5 := Lib.hid hw5
  clear hw5 hhb hz
  simp only [Act.put]
  go_wp2_with fail
  have b6 : Below w5.heap.size w5 (w5.alloc (.cells #[.int .u8 (T : Int)] 5)) := (Below.refl _ _).alloc (Nat.le_refl _) _
  have h6 := H5.out.below b6
  have r6 : Row (w5.alloc (.cells #[.int .u8 (T : Int)] 5)) (some ⟨w5.heap.size, 0, none⟩) 1 1 [tag] := by
    refine row_all (t := 5) (fr := (0, 0)) ?_ 1 rfl (by omega)
    rw [heap_alloc_new, ← HTT.out]
    rfl
  have o6 : Off hb (some ⟨w5.heap.size, 0, none⟩) 1 := fun _ b off e => by cases e; have := H5.out.1.lt; omega
  have hb0 : hb ≠ 0 := by have := H5.out.2.2.2.1; omega
  refine (put_any h6.1 r6 o6 h6.2.2.2.2.1 hb0 (by simp)).mono ?_
  rintro e w6 ⟨rfl, hs6, hb6⟩
  have H6 : Hid (StartAt w w.heap.size hb (partsOf tag (ps.take 0)) w6) := h6.step hs6 hb6
  clear b6 h6 r6 o6 hs6 hb6 H5
  go_wp2_with fail
  go_loopw [15] (fun i wr => ∃ j : Nat, j ≤ n ∧ i = .int .i64 j ∧ StartAt w w.heap.size hb (partsOf tag (ps.take j)) wr) (fun i _ => n - (intOf i).toNat)
  case atStart => exact ⟨0, Nat.zero_le _, rfl, H6.out⟩
  case round =>
    obtain ⟨j, hj, rfl, hat⟩ := hrel
    have HAT := Lib.hid hat
    by_cases hjn : j < n
    · obtain ⟨b, off, rfl, hlt, hcells⟩ := H.out.2.2.2.2 (by omega)
      obtain ⟨aj, nj, cj, hcj, hrj⟩ := hcells j hjn
      have hcj1 : wr.cell? ⟨b, off + j, none⟩ = some (.slice aj nj cj) := (hat.2.2.2.2.2.cell (p := ⟨b, off + j, none⟩) hlt).trans hcj
      have hpl : ps.length = n := H.out.1
      have hle := partsOf_le tag ps (j + 1)
      have hsucc := partsOf_succ tag ps j (by omega)
      have hlen : (partsOf tag (ps.take (j + 1))).length = (partsOf tag (ps.take j)).length + 4 + (ps.getD j []).length := by rw [hsucc, List.length_append, List.length_append, four_len]
      have hnj : (ps.getD j []).length = nj := hrj.1
      have hnjb : nj ≤ 1125899906842624 := by omega
      obtain ⟨X, hX⟩ : ∃ X, X = BitVec.ofNat 32 (ps.getD j []).length := ⟨_, rfl⟩
      have en : (nj : Int) % 4294967296 = num X := by rw [hX, hnj]; unfold num; rw [BitVec.toNat_ofNat]; omega
      have hb1 : (partsOf tag (ps.take j)).length ≤ 1125899906842624 := by omega
      have hb2 : (partsOf tag (ps.take j)).length + 4 + nj ≤ 1125899906842624 := by omega
      obtain ⟨q, hq⟩ : ∃ q, q = ps.getD j [] := ⟨_, rfl⟩
      rw [← hX, ← hq] at hsucc
      rw [← hq] at hrj
      have hrow := hrj.below hat.2.2.2.2.2
      have hoff : Off hb aj nj := Off.of_lt hrj (by have := hat.2.2.2.1; omega)
      have HB1 := Lib.hid hb1
      have HB2 := Lib.hid hb2
      have HS := Lib.hid hsucc
      have HRJ := Lib.hid hrj
      have HOFF := Lib.hid hoff
      clear hat hcells hcj hle hsucc hlen hnj hX hq hrj hrow hb1 hb2 hpl hoff
      go_wp2_with fail
      refine (bytesOf_four _ _).mono ?_
      rintro e w7 ⟨rfl, hb7⟩
      have h7 := HAT.out.below hb7
      have H7 := Lib.hid h7
      clear hb7 h7
      go_wp2_with fail
      rw [← four_cells]
      have b8 : Below w7.heap.size w7 (w7.alloc (.cells (cellsOf (four X)).toArray 96)) := (Below.refl _ _).alloc (Nat.le_refl _) _
      have h8 := H7.out.below b8
      have r8 : Row (w7.alloc (.cells (cellsOf (four X)).toArray 96)) (some ⟨w7.heap.size, 0, none⟩) 4 4 (four X) := row_all (heap_alloc_new _ _) 4 rfl (by omega)
      have o8 : Off hb (some ⟨w7.heap.size, 0, none⟩) 4 := fun _ b off e => by cases e; have := H7.out.1.lt; omega
      refine (put_any h8.1 r8 o8 h8.2.2.2.2.1 hb0 (by have := HB1.out; omega)).mono ?_
      rintro e w9 ⟨rfl, hs9, hb9⟩
      have h9 := h8.step hs9 hb9
      have H9 := Lib.hid h9
      clear b8 h8 r8 o8 hs9 hb9 h9
      go_wp2_with fail
      refine (put_any H9.out.1 (HRJ.out.below H9.out.2.2.2.2.2) HOFF.out H9.out.2.2.2.2.1 hb0 (by rw [List.length_append, four_len]; have := HB2.out; omega)).mono ?_
      rintro e w10 ⟨rfl, hs10, hb10⟩
      have h10 := H9.out.step hs10 hb10
      rw [← HS.out] at h10
      have H10 := Lib.hid h10
      clear hs10 hb10 h10
      go_wp2_with fail
      go_roundw
      case rel => exact ⟨j + 1, by omega, by go_num, H10.out⟩
      case measure => simp [intOf]; omega
    · have hjn' : j = n := by omega
      rw [hjn', List.take_of_length_le (by rw [H.out.1]; exact Nat.le_refl _)] at hat
      have HF := Lib.hid hat
      clear hat hjn'
      go_wp2_with fail
      refine (end_any HF.out.1 HF.out.2.2.2.2.1 hb0 hn).mono ?_
      rintro e w7 ⟨rfl, hb7⟩
      have ht := HF.out.told hb7
      have HT1 := Lib.hid ht.1
      have HT2 := Lib.hid ht.2
      clear hb7 ht
      go_wp2_with (refine wpList_store_row rfl 23 _ _ rfl w.heap.size (cellsOf (sumOf (partsOf tag ps))).toArray rfl rfl 23 (cellsOf zero32).toArray HT1.out (sum_size' _) (by rw [sum_size]; rfl) (sum_all _) ?_)
      exact bodyPost_ret (results_cell_row rfl _ _ w.heap.size 23 (cellsOf (sumOf (partsOf tag ps))).toArray (0, 0) _ rfl (setRow_heap w7 w.heap.size _ _ 23 _ HT1.out) Tryd.underlying23 rfl (sum_size' _)) rfl ⟨rfl, HT2.out⟩
end Go.Proofs.YtlnenkmcegadmaaDoor
namespace Go.Proofs.YtlnenkmcegadmaaDoor
open Go.RowKit

theorem rows2_at {w : World} {g : Nat} {a1 a2 : Option Addr} {n1 c1 n2 c2 : Nat} {l1 l2 : List UInt8} {t : TypeId} {fr : Nat × Nat} (hg : w.heap[g]? = some (.cells #[.slice a1 n1 c1, .slice a2 n2 c2] t fr)) (h1 : Row w a1 n1 c1 l1) (h2 : Row w a2 n2 c2 l2) : Rows2 w (some ⟨g, 0, none⟩) 2 2 [l1, l2] := by
  refine ⟨rfl, Nat.le_refl _, by unfold maxLen; omega, (fun e => by cases e), fun _ => ⟨g, 0, rfl, lt_of_block hg, fun j hj => ?_⟩⟩
  rcases (show j = 0 ∨ j = 1 by omega) with rfl | rfl
  · exact ⟨a1, n1, c1, by rw [cell_of_row _ _ _ _ _ _ hg]; rfl, h1⟩
  · exact ⟨a2, n2, c2, by rw [cell_of_row _ _ _ _ _ _ hg]; rfl, h2⟩
/-- A sum that a leaf is made of, as the one part of it. -/
theorem rows2_one {w : World} {g : Nat} {a1 : Option Addr} {n1 c1 : Nat} {l1 : List UInt8} {t : TypeId} {fr : Nat × Nat} (hg : w.heap[g]? = some (.cells #[.slice a1 n1 c1] t fr)) (h1 : Row w a1 n1 c1 l1) : Rows2 w (some ⟨g, 0, none⟩) 1 1 [l1] := by
  refine ⟨rfl, Nat.le_refl _, by unfold maxLen; omega, (fun e => by cases e), fun _ => ⟨g, 0, rfl, lt_of_block hg, fun j hj => ?_⟩⟩
  obtain rfl : j = 0 := by omega
  exact ⟨a1, n1, c1, by rw [cell_of_row _ _ _ _ _ _ hg]; rfl, h1⟩
end Go.Proofs.YtlnenkmcegadmaaDoor
namespace Go.Proofs.YtlnenkmcegadmaaDoor
open Go.RowKit

theorem run_eql_sums (s t : List UInt8) (hs : s.length = 32) (ht : t.length = 32) (W : World) : (binOp .eql 23 (.agg (cellsOf s).toArray) (.agg (cellsOf t).toArray)).run Tryd.prog W = .ok (.bool (decide (s = t))) W := by
  rw [run_eql_struct, run_eqSums s t hs ht]
  rfl
theorem run_neq_sums (s t : List UInt8) (hs : s.length = 32) (ht : t.length = 32) (W : World) : (binOp .neq 23 (.agg (cellsOf s).toArray) (.agg (cellsOf t).toArray)).run Tryd.prog W = .ok (.bool (!decide (s = t))) W := by
  rw [run_neq_struct, run_eqSums s t hs ht]
  rfl
theorem no_guard : Tryd.prog.eqGuardType Tryd.prog.depth 23 = false := by kernel_rfl
theorem run_guard_sums (b : BinOp) (x y : Operand) (s t : Array Value) (W : World) : (eqGuard b 23 x y (.agg s) (.agg t)).run Tryd.prog W = .ok () W := run_eqGuard_agg W b 23 x y s t no_guard
section
variable {ops : Array Oper} {S : World → Prop} {op : Oper} {a : Act}
theorem yields_eql {x y : Operand} {rt : TypeId} {s t : List UInt8} (hw : Region.wanted op (yielded ops a.tmps) = true) (ho : op.op = .binOp .eql 23 x y rt) (hx : a.eval x = .agg (cellsOf s).toArray) (hy : a.eval y = .agg (cellsOf t).toArray) (hs : s.length = 32) (ht : t.length = 32) (b : Bool) (hb : decide (s = t) = b) :
    YieldsIf Tryd.prog ops S op (.bool b) a :=
  .inl ⟨hw, fun w _ => by
    have h := run_eql_sums s t hs ht w
    rw [hb] at h
    unfold execOp
    simp only [ho, hx, hy, run_guard_sums, Sem.run_bind, Sem.run_pure, Result.andThen_ok, h]⟩
theorem yields_neq {x y : Operand} {rt : TypeId} {s t : List UInt8} (hw : Region.wanted op (yielded ops a.tmps) = true) (ho : op.op = .binOp .neq 23 x y rt) (hx : a.eval x = .agg (cellsOf s).toArray) (hy : a.eval y = .agg (cellsOf t).toArray) (hs : s.length = 32) (ht : t.length = 32) (b : Bool) (hb : (!decide (s = t)) = b) :
    YieldsIf Tryd.prog ops S op (.bool b) a :=
  .inl ⟨hw, fun w _ => by
    have h := run_neq_sums s t hs ht w
    rw [hb] at h
    unfold execOp
    simp only [ho, hx, hy, run_guard_sums, Sem.run_bind, Sem.run_pure, Result.andThen_ok, h]⟩
end
/-- A load of a whole row, guarded, in a plain region. -/
theorem wpList_load_wanted {P : Program} {ops : Array Oper} {rest : List Oper} {o : Oper} {a : Act} {w : World} {Q : Exit → Act → World → Prop} (hw : Region.wanted o (yielded ops a.tmps) = true) (ty : TypeId) (x : Operand) (ho : o.op = .load ty x)
    (g : Nat) (hx : a.eval x = .pointer (some ⟨g, 0, none⟩)) (t : TypeId) (cs : Array Value) (fr : Nat × Nat) (d : TypeDesc) (hg : w.heap[g]? = some (.cells cs t fr))
    (hu : P.underlying ty = some d) (hd : (match d with | .struct _ | .array _ _ => true | _ => false) = true) (hi : (P.info? ty).map (·.size) = some cs.size)
    (h : wpList P ops Q rest (a.put o.dst (.agg cs)) w) : wpList P ops Q (o :: rest) a w :=
  wpList_step fun K hK => by
    simp only [hw, if_true]
    exact wp_load_row ty x ho g hx t cs fr d hg hu hd hi (hK _ _ h)
end Go.Proofs.YtlnenkmcegadmaaDoor
namespace Go.Proofs.YtlnenkmcegadmaaDoor
open Go.RowKit


set_option maxRecDepth 100000 in
set_option maxHeartbeats 1600000 in
theorem pair_any {w : World} {sa sb : List UInt8} (tag : UInt8) (T : Nat) (hT : tag.toNat = T) (ha : sa.length = 32) (hb : sb.length = 32) (hk : KsAt w) :
    Calls Tryd.prog 46 #[.int .u8 (T : Int), .agg (cellsOf sa).toArray, .agg (cellsOf sb).toArray] w fun e w' => e = .returned (.agg (cellsOf (sumOf (partsOf tag [sa, sb]))).toArray) ∧ Below w.heap.size w w' := by
  have HK := Lib.hid hk
  have HT := Lib.hid hT
  have HA := Lib.hid ha
  have HB := Lib.hid hb
  have hu := Tryd.underlying23
  clear hk hT ha hb
  go_enter Tryd.func46, Tryd.ntmps46
  go_wp2_with fail
  rw [← zero32_is]
  have b1 : Below w.heap.size w (((w.alloc (.cells (cellsOf sa).toArray 23)).alloc (.cells (cellsOf sb).toArray 23)).alloc (.cells (cellsOf zero32).toArray 23)) := (((Below.refl _ _).alloc (Nat.le_refl _) _).alloc (by simp) _).alloc (by simp; omega) _
  have h1 : (((w.alloc (.cells (cellsOf sa).toArray 23)).alloc (.cells (cellsOf sb).toArray 23)).alloc (.cells (cellsOf zero32).toArray 23)).heap[w.heap.size]? = some (.cells (cellsOf sa).toArray 23 (0, 0)) := by
    rw [heap_alloc_old _ _ (by simp; omega), heap_alloc_old _ _ (by simp), heap_alloc_new]
  have h2 : (((w.alloc (.cells (cellsOf sa).toArray 23)).alloc (.cells (cellsOf sb).toArray 23)).alloc (.cells (cellsOf zero32).toArray 23)).heap[w.heap.size + 1]? = some (.cells (cellsOf sb).toArray 23 (0, 0)) := by
    rw [heap_alloc_old _ _ (by simp)]
    exact heap_alloc_at _ _ _ (by simp)
  have h3 : (((w.alloc (.cells (cellsOf sa).toArray 23)).alloc (.cells (cellsOf sb).toArray 23)).alloc (.cells (cellsOf zero32).toArray 23)).heap[w.heap.size + 1 + 1]? = some (.cells (cellsOf zero32).toArray 23 (0, 0)) := heap_alloc_at _ _ _ (by simp)
  revert b1 h1 h2 h3
  generalize (((w.alloc (.cells (cellsOf sa).toArray 23)).alloc (.cells (cellsOf sb).toArray 23)).alloc (.cells (cellsOf zero32).toArray 23)) = w3
  obtain ⟨g, hg⟩ : ∃ g, g = w.heap.size := ⟨_, rfl⟩
  rw [← hg]
  intro b1 h1 h2 h3
  rw [hg] at b1
  have HG := Lib.hid hg
  have HB1 := Lib.hid b1
  have H1 := Lib.hid h1
  have H2 := Lib.hid h2
  have H3 := Lib.hid h3
  obtain ⟨cs, hcs⟩ : ∃ cs, cs = cellsOf (sumOf (partsOf tag [sa, sb])) := ⟨_, rfl⟩
  have hcl : cs.length = 32 := by rw [hcs, cellsOf_len]; exact sumOf_len _
  have hone : ∀ v ∈ cs, v.oneCell' = true := by rw [hcs]; exact cellsOf_one _
  have hsz : (Tryd.prog.info? 23).map (·.size) = some cs.length := by rw [hcl]; exact Tryd.size23
  have HCS := Lib.hid hcs
  have HSZ := Lib.hid hsz
  have HJ : Hid (∀ (W : World) (gg : Nat), Below w3.heap.size w3 W → W.heap[gg]? = some (.cells #[.slice (some ⟨g, 0, none⟩) 32 32, .slice (some ⟨g + 1, 0, none⟩) 32 32] 45 (0, 0)) → Calls Tryd.prog 26 #[.int .u8 (T : Int), .slice (some ⟨gg, 0, none⟩) 2 2] W fun e w' => e = .returned (.agg cs.toArray) ∧ Below w3.heap.size w3 w') := Lib.hid (fun W gg hb hgg => by
    have r1 : Row W (some ⟨g, 0, none⟩) 32 32 sa := row_all ((hb.block _ (lt_of_block H1.out)).trans H1.out) 32 HA.out.symm (by omega)
    have r2 : Row W (some ⟨g + 1, 0, none⟩) 32 32 sb := row_all ((hb.block _ (lt_of_block H2.out)).trans H2.out) 32 HB.out.symm (by omega)
    have hlen : (partsOf tag [sa, sb]).length ≤ 1125899906842624 := by
      unfold partsOf partOf
      simp only [List.flatMap_cons, List.flatMap_nil, List.length_cons, List.length_append, four_len, List.length_nil, HA.out, HB.out]
      omega
    refine (join_any tag T HT.out (rows2_at hgg r1 r2) ((HK.out.below HB1.out).below hb) hlen).mono fun e w' ⟨e1, e2⟩ => ⟨by rw [e1, hcs], hb.trans (e2.mono hb.size)⟩)
  have ht3 : w3.drew.there (g + 1 + 1) 0 32 := there_of (w := w3.drew) h3 rfl
  have ht4 : ∀ w' : World, Below w3.heap.size w3 w' → w'.there (g + 1 + 1) 0 32 := fun w' hb => there_of ((hb.block _ (lt_of_block h3)).trans h3) rfl
  have HT4 := Lib.hid ht4
  clear b1 h1 h2 h3 hg hcs ht4 hsz
  have hsz := HSZ.out
  go_region_held (fun w' => w'.there (g + 1 + 1) 0 32)
    (first | exact ht3 | exact ht5 | go_keep_ranges)
    ((go_at_call 26; (with_reducible refine (HJ.out _ _ ?_ ?_).mono ?_); (exact below_drew ((Below.refl _ _).alloc (Nat.le_refl _) _)); (exact heap_alloc_new _ _); rintro e w5 ⟨rfl, hb5⟩; have ht5 := HT4.out w5 hb5; have HB5 := Lib.hid hb5; clear hb5))
  all_goals
    go_wp2_with fail
    have hbe : Below w.heap.size w (w5.setCells (g + 1 + 1) 0 cs) := below_setCells (by rw [HG.out]; omega) cs 0 w5 (HB1.out.trans (HB5.out.mono HB1.out.size))
    refine bodyPost_ret (results_cell_range rfl _ _ (g + 1 + 1) cs _ rfl ?_ Tryd.underlying23 rfl HSZ.out) rfl ⟨by rw [HCS.out], hbe⟩
    exact World.rangeAt_setCells_same w5 (g + 1 + 1) 0 cs (by rw [hcl]; exact ht5)
end Go.Proofs.YtlnenkmcegadmaaDoor
