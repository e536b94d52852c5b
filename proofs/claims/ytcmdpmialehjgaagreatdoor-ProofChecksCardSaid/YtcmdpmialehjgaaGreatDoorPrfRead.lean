/- What bytes are read as, as a proof, plainly. No function of the program is named. -/
import Derived.Test.YtcmdpmialehjgaaGreatDoorPrfMem
import Derived.Test.YtcmdpmialehjgaaGreatDoorTxGets
import Derived.Test.YtcmdpmialehjgaaGreatDoorWire
namespace Go.Proofs.YtcmdpmialehjgaaGreatDoor
open Go.RowKit

def prfT (b : List UInt8) : List UInt8 × (List UInt8 × Int) := textR (b, 0) 65536
def prfS (b : List UInt8) : List UInt8 × (List UInt8 × Int) := textR (prfT b).2 65536
def prfL (b : List UInt8) : List UInt8 × (List UInt8 × Int) := textR (prfS b).2 65536
def prfC (b : List UInt8) : List UInt8 × (List UInt8 × Int) := sumR (prfL b).2
def prfD (b : List UInt8) : Int := doneE (prfC b).2
/-- The error that is told of bytes. -/
def prfE (b : List UInt8) : Int := if 65536 < b.length then 3 else if prfD b = 0 then readE (prfT b).1 else prfD b
/-- The proof that bytes are, its rows at some places. -/
def prfX (b : List UInt8) (sa : Option Addr) (sn sc : Nat) (ba : Option Addr) (bn bc : Nat) : PPrf := if prfE b = 0 then ⟨readX (prfT b).1, sa, sn, sc, (prfS b).1, ba, bn, bc, (prfL b).1, (prfC b).1⟩ else noPrf
theorem prfX_ok {b : List UInt8} {sa : Option Addr} {sn sc : Nat} {ba : Option Addr} {bn bc : Nat} (h : prfE b = 0) : prfX b sa sn sc ba bn bc = ⟨readX (prfT b).1, sa, sn, sc, (prfS b).1, ba, bn, bc, (prfL b).1, (prfC b).1⟩ := if_pos h
theorem prfX_no {b : List UInt8} {sa : Option Addr} {sn sc : Nat} {ba : Option Addr} {bn bc : Nat} (h : prfE b ≠ 0) : prfX b sa sn sc ba bn bc = noPrf := if_neg h
theorem prf_les (b : List UInt8) : (prfT b).2.1.length ≤ b.length ∧ (prfS b).2.1.length ≤ b.length ∧ (prfL b).2.1.length ≤ b.length ∧ (prfC b).2.1.length ≤ b.length := by
  have l1 : (prfT b).2.1.length ≤ b.length := textR_le (s := (b, 0))
  have l2 : (prfS b).2.1.length ≤ (prfT b).2.1.length := textR_le (s := (prfT b).2)
  have l3 : (prfL b).2.1.length ≤ (prfS b).2.1.length := textR_le (s := (prfS b).2)
  have l4 : (prfC b).2.1.length ≤ (prfL b).2.1.length := sumR_le (prfL b).2
  omega
theorem prf_lens (b : List UInt8) : (prfT b).1.length ≤ 65536 ∧ (prfS b).1.length ≤ 65536 ∧ (prfL b).1.length ≤ 65536 ∧ (prfC b).1.length = 32 := by
  have l1 : ((prfT b).1.length : Int) ≤ 65536 := textR_len (by omega)
  have l2 : ((prfS b).1.length : Int) ≤ 65536 := textR_len (by omega)
  have l3 : ((prfL b).1.length : Int) ≤ 65536 := textR_len (by omega)
  exact ⟨by omega, by omega, by omega, sumR_len _⟩
theorem prf_back {x : PPrf} (hr : RecIn x.r) (hc : x.commit.length = 32) (hk : recOk x.r = true) (h1 : x.sig.length ≤ 65536) (h2 : x.blob.length ≤ 65536) (hl : (prfB x).length ≤ 65536) :
    prfE (prfB x) = 0 ∧ readX (prfT (prfB x)).1 = x.r ∧ (prfS (prfB x)).1 = x.sig ∧ (prfL (prfB x)).1 = x.blob ∧ (prfC (prfB x)).1 = x.commit := by
  have ht := textB_len hr
  have e1 : prfT (prfB x) = (textB x.r, (numB (x.sig.length : Nat) ++ (x.sig ++ (numB (x.blob.length : Nat) ++ (x.blob ++ x.commit))), 0)) := textR_put (q := textB x.r) (m := 65536) _ (by omega) (by omega)
  have e2 : prfS (prfB x) = (x.sig, (numB (x.blob.length : Nat) ++ (x.blob ++ x.commit), 0)) := by
    unfold prfS
    rw [e1]
    exact textR_put (q := x.sig) (m := 65536) _ (by omega) (by omega)
  have e3 : prfL (prfB x) = (x.blob, (x.commit, 0)) := by
    unfold prfL
    rw [e2]
    exact textR_put (q := x.blob) (m := 65536) _ (by omega) (by omega)
  have e4 : prfC (prfB x) = (x.commit, ([], 0)) := by
    unfold prfC
    rw [e3]
    have h9 := sumR_put (h := x.commit) [] hc
    rwa [List.append_nil] at h9
  obtain ⟨k1, k2⟩ := read_back hr hk
  refine ⟨?_, by rw [e1]; exact k2, by rw [e2], by rw [e3], by rw [e4]⟩
  unfold prfE
  rw [if_neg (by omega), if_pos (by unfold prfD; rw [e4]; rfl), e1]
  exact k1
end Go.Proofs.YtcmdpmialehjgaaGreatDoor
