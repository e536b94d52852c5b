/- What the functions of words come to, one contract each: RotateLeft32, turned, shifted. -/
import Derived.Test.YtjmdkgjfcfnbiaaDoorBv
import Derived.Test.YtjmdkgjfcfnbiaaDoorProg
import Derived.Deep.QuietTactic
import Derived.BigQuiet
namespace Go.Proofs.YtjmdkgjfcfnbiaaDoor
open Go.RowKit
theorem quiet_eq {P : Program} {f : FuncId} {args : Array Value} {w : World} {n : Nat} {v : Value}
    (h : Calls P f args (w.drewN n) fun e w' => e = .returned v ∧ w.drewN n = w') : Calls P f args (w.drewN n) fun e w'' => e = .returned v ∧ ∃ m, w'' = w.drewN m :=
  h.mono fun _ _ ⟨he, hm⟩ => ⟨he, n, hm.symm⟩
theorem rot_any (x : BitVec 32) (i : Nat) (h0 : 0 < i) (h1 : i < 32) (w : World) : Calls Tryd.prog 30 #[.int .u32 (num x), .int .i64 (-(i : Int))] w fun e w' => e = .returned (.int .u32 (num (x.rotateRight i))) ∧ w = w' := by
  obtain ⟨s, hs⟩ : ∃ s, s + i = 32 := ⟨32 - i, by omega⟩
  have e1 := low31 i s hs h0 h1
  have e2 := back32 i s hs
  have e3 := shl_num x s (by omega) .u64
  have e4 := shr_num x i h1 .u64
  have e5 := bits_or (x <<< s) (x >>> i)
  rw [rot_eq x i s hs h1] at e5
  clear hs h0 h1
  go_enter Tryd.func30, Tryd.ntmps30
  go_wp2
  go_ret
  exact ⟨rfl, rfl⟩
theorem turned_any (x : BitVec 32) (i j k : Nat) (hi0 : 0 < i) (hi : i < 32) (hj0 : 0 < j) (hj : j < 32) (hk0 : 0 < k) (hk : k < 32) (w : World) : Calls Tryd.prog 27 #[.int .u32 (num x), .int .i64 (i : Int), .int .i64 (j : Int), .int .i64 (k : Int)] w fun e w' => e = .returned (.int .u32 (num (turn3 x i j k))) ∧ w = w' := by
  have ei := wrap_neg i hi
  have ej := wrap_neg j hj
  have ek := wrap_neg k hk
  have e1 := bits_xor (x.rotateRight i) (x.rotateRight j)
  have e2 := bits_xor (x.rotateRight i ^^^ x.rotateRight j) (x.rotateRight k)
  go_enter Tryd.func27, Tryd.ntmps27
  go_wp2_with (go_at_call 30; refine (rot_any _ _ (by assumption) (by assumption) _).mono ?_; rintro e w' ⟨rfl, rfl⟩)
  go_ret
  exact ⟨rfl, rfl⟩
theorem shifted_any (x : BitVec 32) (i j k : Nat) (hi0 : 0 < i) (hi : i < 32) (hj0 : 0 < j) (hj : j < 32) (hk : k < 32) (w : World) : Calls Tryd.prog 29 #[.int .u32 (num x), .int .i64 (i : Int), .int .i64 (j : Int), .int .i64 (k : Int)] w fun e w' => e = .returned (.int .u32 (num (shift3 x i j k))) ∧ ∃ n, w' = w.drewN n := by
  have ei := wrap_neg i hi
  have ej := wrap_neg j hj
  have es := shr_div x k
  have e1 := bits_xor (x.rotateRight i) (x.rotateRight j)
  have e2 := bits_xor (x.rotateRight i ^^^ x.rotateRight j) (x >>> k)
  go_enter Tryd.func29, Tryd.ntmps29
  go_wp2_with fail
  go_quiet ((go_at_call 30; exact quiet_eq (rot_any _ _ (by assumption) (by assumption) _)))
  go_wp2
  go_ret
  exact ⟨rfl, _, rfl⟩
end Go.Proofs.YtjmdkgjfcfnbiaaDoor
