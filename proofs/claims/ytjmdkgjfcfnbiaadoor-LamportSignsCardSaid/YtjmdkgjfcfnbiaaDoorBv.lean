/- Words of 32 bits as the walk spells them: sums, bits and shifts of naturals below 2 to the 32nd are those of BitVec 32. No program is named. -/
import Derived.WalkKit
import Derived.Lib.Hide
import Derived.Laws.BitsAllLaws
import Derived.IntWalk
namespace Go.Proofs.YtjmdkgjfcfnbiaaDoor
open Go.RowKit

/-- A word's number, as an integer. -/
def num (x : BitVec 32) : Int := ((x.toNat : Nat) : Int)
theorem num_lt (x : BitVec 32) : num x < 4294967296 := by
  have := x.isLt; unfold num; omega
theorem num_nonneg (x : BitVec 32) : 0 ≤ num x := by unfold num; omega
theorem num_ofNat (n : Nat) (h : n < 4294967296) : num (BitVec.ofNat 32 n) = (n : Int) := by
  unfold num; rw [BitVec.toNat_ofNat, Nat.mod_eq_of_lt (by simpa using h)]
theorem ofInt_num (x : BitVec 32) : BitVec.ofInt 32 (num x) = x := by
  unfold num; rw [BitVec.ofInt_natCast]; simp
theorem wrap_num (x : BitVec 32) : IntKind.u32.wrap ((x.toNat : Nat) : Int) = num x := by
  rw [IntKind.wrap_u32']; have := x.isLt; unfold num; omega
theorem bits_and (x y : BitVec 32) : bits .and .u32 (num x) (num y) = num (x &&& y) := by
  show IntKind.u32.wrap ((BitVec.ofInt 32 (num x) &&& BitVec.ofInt 32 (num y)).toNat : Int) = _
  rw [ofInt_num, ofInt_num, wrap_num]
theorem bits_or (x y : BitVec 32) : bits .or .u32 (num x) (num y) = num (x ||| y) := by
  show IntKind.u32.wrap ((BitVec.ofInt 32 (num x) ||| BitVec.ofInt 32 (num y)).toNat : Int) = _
  rw [ofInt_num, ofInt_num, wrap_num]
theorem bits_xor (x y : BitVec 32) : bits .xor .u32 (num x) (num y) = num (x ^^^ y) := by
  show IntKind.u32.wrap ((BitVec.ofInt 32 (num x) ^^^ BitVec.ofInt 32 (num y)).toNat : Int) = _
  rw [ofInt_num, ofInt_num, wrap_num]
theorem wrap_add (x y : BitVec 32) : IntKind.u32.wrap (num x + num y) = num (x + y) := by
  rw [IntKind.wrap_u32']; unfold num; rw [BitVec.toNat_add]; omega
theorem mod_add (x y : BitVec 32) : (num x + num y) % 4294967296 = num (x + y) := by
  rw [← wrap_add, IntKind.wrap_u32']

theorem shl_num (x : BitVec 32) (s : Nat) (h : s < 32) (k : IntKind) : Op.shift .shl .u32 (num x) k (s : Int) = pure (.int .u32 (num (x <<< s))) := by
  have e : min (s : Int).toNat IntKind.u32.bits = s := by simp [IntKind.bits]; omega
  have n : ¬ ((s : Int) < 0) := by omega
  unfold Op.shift
  rw [if_neg n, e]
  show pure (Value.int IntKind.u32 (IntKind.u32.wrap (num x * 2 ^ s))) = _
  rw [IntKind.wrap_u32']
  have : num x * 2 ^ s % 4294967296 = num (x <<< s) := by
    unfold num
    rw [BitVec.toNat_shiftLeft, Nat.shiftLeft_eq]
    simp
  rw [this]
theorem shr_num (x : BitVec 32) (s : Nat) (h : s < 32) (k : IntKind) : Op.shift .shr .u32 (num x) k (s : Int) = pure (.int .u32 (num (x >>> s))) := by
  have e : min (s : Int).toNat IntKind.u32.bits = s := by simp [IntKind.bits]; omega
  have n : ¬ ((s : Int) < 0) := by omega
  unfold Op.shift
  rw [if_neg n, e]
  show pure (Value.int IntKind.u32 ((num x).fdiv (2 ^ s))) = _
  have : (num x).fdiv (2 ^ s) = num (x >>> s) := by
    unfold num
    rw [BitVec.toNat_ushiftRight, Nat.shiftRight_eq_div_pow, Int.fdiv_eq_ediv_of_nonneg _ (Int.le_of_lt (Int.pow_pos (by decide)))]
    simp
  rw [this]
theorem shr_div (x : BitVec 32) (s : Nat) : num x / 2 ^ s = num (x >>> s) := by
  unfold num
  rw [BitVec.toNat_ushiftRight, Nat.shiftRight_eq_div_pow]
  simp
theorem low31 (i s : Nat) (h : s + i = 32) (h0 : 0 < i) (h1 : i < 32) : bits .and .u64 (IntKind.u64.wrap (-(i : Int))) 31 = (s : Int) := by
  have key : ∀ i : Fin 32, 0 < i.val → bits .and .u64 (IntKind.u64.wrap (-(i.val : Int))) 31 = ((32 - i.val : Nat) : Int) := by decide +kernel
  have := key ⟨i, h1⟩ h0
  rw [this]; simp; omega
theorem back32 (i s : Nat) (h : s + i = 32) : IntKind.u64.wrap (32 - (s : Int)) = (i : Int) := by
  have e : (32 - (s : Int)) = (i : Int) := by omega
  rw [e]; unfold IntKind.wrap; simp [IntKind.bits, IntKind.signed]; omega
theorem rot_eq (x : BitVec 32) (i s : Nat) (h : s + i = 32) (h1 : i < 32) : (x <<< s) ||| (x >>> i) = x.rotateRight i := by
  have e : 32 - i = s := by omega
  rw [BitVec.rotateRight_def, Nat.mod_eq_of_lt h1, e, BitVec.or_comm]
/-- Turned right by i, j, k, exclusive-or. -/
def turn3 (x : BitVec 32) (i j k : Nat) : BitVec 32 := x.rotateRight i ^^^ x.rotateRight j ^^^ x.rotateRight k
/-- Turned right by i, j, exclusive-or, shifted right by k, exclusive-or. -/
def shift3 (x : BitVec 32) (i j k : Nat) : BitVec 32 := x.rotateRight i ^^^ x.rotateRight j ^^^ x >>> k
theorem wrap_neg (i : Nat) (h : i < 32) : IntKind.i64.wrap (-(i : Int)) = -(i : Int) := IntWalk.i64_in _ ⟨by omega, by omega⟩
theorem wrap_back (i s : Nat) (h : s + i = 32) : IntKind.i64.wrap (32 - (i : Int)) = (s : Int) := by
  rw [IntWalk.i64_in _ ⟨by omega, by omega⟩]; omega

end Go.Proofs.YtjmdkgjfcfnbiaaDoor
