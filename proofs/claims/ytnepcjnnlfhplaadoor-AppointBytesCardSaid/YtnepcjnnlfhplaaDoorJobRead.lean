/- What bytes are read as, as a job, plainly. No function of the program is named. -/
import Derived.Test.YtnepcjnnlfhplaaDoorJobMem
namespace Go.Proofs.YtnepcjnnlfhplaaDoor
open Go.RowKit

def jobC (b : List UInt8) : Int × (List UInt8 × Int) := upR (b, 0) 1048576
def jobS (b : List UInt8) : Int × (List UInt8 × Int) := upR (jobC b).2 1048576
def jobH (b : List UInt8) : List UInt8 × (List UInt8 × Int) := sumR (jobS b).2
def jobT (b : List UInt8) : List UInt8 × (List UInt8 × Int) := textR (jobH b).2 65536
/-- The error that is told of bytes. -/
def jobE (b : List UInt8) : Int := doneE (jobT b).2
/-- The job that bytes are, its blob at some place. -/
def jobX (b : List UInt8) (a : Option Addr) (n c : Nat) : PJob := if jobE b = 0 then ⟨(jobC b).1, (jobS b).1, (jobH b).1, a, n, c, (jobT b).1⟩ else noJob
theorem jobX_ok {b : List UInt8} {a : Option Addr} {n c : Nat} (h : jobE b = 0) : jobX b a n c = ⟨(jobC b).1, (jobS b).1, (jobH b).1, a, n, c, (jobT b).1⟩ := if_pos h
theorem jobX_no {b : List UInt8} {a : Option Addr} {n c : Nat} (h : jobE b ≠ 0) : jobX b a n c = noJob := if_neg h
theorem job_ranges (b : List UInt8) : (0 ≤ (jobC b).1 ∧ (jobC b).1 ≤ 1048576) ∧ (0 ≤ (jobS b).1 ∧ (jobS b).1 ≤ 1048576) ∧ (jobH b).1.length = 32 ∧ ((jobT b).1.length : Int) ≤ 65536 :=
  ⟨upR_range (b, 0) (by omega), upR_range (jobC b).2 (by omega), sumR_len _, textR_len (by omega)⟩
theorem job_bytes {b : List UInt8} (h : jobE b = 0) : b = numB (jobC b).1 ++ (numB (jobS b).1 ++ ((jobH b).1 ++ (numB ((jobT b).1.length : Nat) ++ (jobT b).1))) := by
  have h1 := doneE_zero h
  obtain ⟨g4, k4⟩ := textR_ok (s := (jobH b).2) (m := 65536) (by omega) (show (jobT b).2.2 = 0 by rw [h1])
  obtain ⟨g3, k3⟩ := sumR_ok (s := (jobS b).2) g4
  obtain ⟨g2, k2⟩ := upR_ok (s := (jobC b).2) (m := 1048576) g3
  obtain ⟨_, k1⟩ := upR_ok (s := (b, 0)) (m := 1048576) g2
  have h2 : (jobT b).2.1 = [] := by rw [h1]
  have k4' : (jobH b).2.1 = numB ((jobT b).1.length : Nat) ++ ((jobT b).1 ++ (jobT b).2.1) := k4
  have k3' : (jobS b).2.1 = (jobH b).1 ++ (jobH b).2.1 := k3
  have k2' : (jobC b).2.1 = numB (jobS b).1 ++ (jobS b).2.1 := k2
  have k1' : b = numB (jobC b).1 ++ (jobC b).2.1 := k1
  rw [h2, List.append_nil] at k4'
  rw [k4'] at k3'
  rw [k3'] at k2'
  rw [k2'] at k1'
  exact k1'
theorem job_back {x : PJob} (hx : x.hint.length = 32) (hk : jobOk x = true) (hl : x.blob.length ≤ 65536) : jobE (jobB x) = 0 ∧ (jobC (jobB x)).1 = x.channel ∧ (jobS (jobB x)).1 = x.state ∧ (jobH (jobB x)).1 = x.hint ∧ (jobT (jobB x)).1 = x.blob := by
  obtain ⟨⟨h1, h2⟩, h3, h4⟩ := jobOk_iff.1 hk
  have e1 : jobC (jobB x) = (x.channel, (numB x.state ++ (x.hint ++ (numB (x.blob.length : Nat) ++ x.blob)), 0)) := upR_put _ h1 h2 (by omega)
  have e2 : jobS (jobB x) = (x.state, (x.hint ++ (numB (x.blob.length : Nat) ++ x.blob), 0)) := by
    unfold jobS
    rw [e1]
    exact upR_put _ h3 h4 (by omega)
  have e3 : jobH (jobB x) = (x.hint, (numB (x.blob.length : Nat) ++ x.blob, 0)) := by
    unfold jobH
    rw [e2]
    exact sumR_put _ hx
  have e4 : jobT (jobB x) = (x.blob, ([], 0)) := by
    unfold jobT
    rw [e3]
    have h9 := textR_put (q := x.blob) (m := 65536) [] (by omega) (by omega)
    rw [List.append_nil] at h9
    exact h9
  refine ⟨?_, by rw [e1], by rw [e2], by rw [e3], by rw [e4]⟩
  unfold jobE
  rw [e4]
  rfl
/-- What was read has the bytes that it was read of. -/
theorem job_again {b : List UInt8} {a : Option Addr} {n c : Nat} (h : jobE b = 0) : jobB (jobX b a n c) = b := by
  rw [jobX_ok h]
  exact (job_bytes h).symm
end Go.Proofs.YtnepcjnnlfhplaaDoor
