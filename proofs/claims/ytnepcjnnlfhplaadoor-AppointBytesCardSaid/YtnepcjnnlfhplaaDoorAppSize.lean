/- A transaction that may be and has little data has fewer bytes than a blob may have. No function of package appoint is named. -/
import Derived.Test.YtnepcjnnlfhplaaDoorTx
namespace Go.Proofs.YtnepcjnnlfhplaaDoor
open Go.RowKit

/-- What a transaction that may be and has at most 6000 bytes of data comes to. -/
theorem txB_small {w : World} {x : PTx} (h : TxIn w x) (hok : txOk x = true) (hd : x.op.n ≤ 6000) : (txB x).length ≤ 62000 := by
  obtain ⟨h1, h2, h3, _, h5, h6, h7, _⟩ := txOk_parts hok
  have hpre : ∀ y ∈ x.ins, y.tx.length = 32 ∧ y.pre.length ≤ 64 := fun y hy => by
    have h9 : InIn w y := h.ins.2.2.2.2.1 y hy
    have h8 := insOk_each h6 y hy
    unfold inOk at h8
    simp only [Bool.and_eq_true, decide_eq_true_eq] at h8
    exact ⟨h9.tx, by rw [h9.pre.1]; exact h8.2.2⟩
  have hout : ∀ y ∈ x.outs, y.ws.length ≤ 16 ∧ ∀ z ∈ y.ws, z.h.length = 32 ∧ z.ks.length ≤ 16 := fun y hy => by
    have h9 : OutIn w y := h.outs.2.2.2.2.1 y hy
    unfold outsOk at h7
    have h8 := List.all_eq_true.1 h7 y hy
    unfold outOk at h8
    simp only [Bool.and_eq_true, decide_eq_true_eq, List.all_eq_true] at h8
    refine ⟨h8.2.1.2, fun z hz => ⟨(h9.ws.2.2.2.2.1 z hz).sum, ?_⟩⟩
    have h10 := h8.2.2 z hz
    unfold wayOk at h10
    simp only [Bool.and_eq_true, decide_eq_true_eq] at h10
    exact h10.1
  have hdl : x.op.data.length ≤ 6000 := by rw [h.op.data.1]; exact hd
  have n1 := insB_size true hpre
  have n2 := outsB_size hout
  have n3 := opB_size h.op.root
  have n4 := numB_le (x.ins.length : Nat)
  have n5 := numB_le (x.outs.length : Nat)
  have n6 := numB_le (x.signs.length : Nat)
  have n7 := signsB_size (xs := x.signs) (fun y hy => (show SignIn y from h.signs.2.2.2.2.1 y hy).sum)
  have l1 := h.ins.1
  have l2 := h.outs.1
  have l3 := h.signs.1
  have m1 : x.ins.length * (59 + 64) ≤ 16 * (59 + 64) := Nat.mul_le_mul_right _ (by omega)
  have m2 : x.outs.length * (18 + 16 * (59 + 9 * 16)) ≤ 16 * (18 + 16 * (59 + 9 * 16)) := Nat.mul_le_mul_right _ (by omega)
  have m3 : x.signs.length * 41 ≤ 16 * 41 := Nat.mul_le_mul_right _ (by omega)
  simp only [txB, frontB, List.length_append]
  omega
end Go.Proofs.YtnepcjnnlfhplaaDoor
