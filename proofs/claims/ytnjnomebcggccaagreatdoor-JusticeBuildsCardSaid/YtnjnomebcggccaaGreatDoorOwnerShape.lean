/- What a transaction that is a commitment of a channel looks like, plainly. No function of the program is named. -/
import Derived.Test.YtnjnomebcggccaaGreatDoorOwner
namespace Go.Proofs.YtnjnomebcggccaaGreatDoor
open Go.RowKit

theorem alikeW_parts {x y : PWay} (h : alikeW x y = true) : x.ks = y.ks ∧ x.h = y.h ∧ x.after = y.after ∧ x.wait = y.wait := by
  simpa [alikeW, Bool.and_eq_true] using h
/-- The outs of a commitment of one that owns it, and the other one. -/
structure CommitLike (c : PChan) (me other : Int) (x0 x1 : POut) (u0 u1 v : PWay) : Prop where
  w0 : x0.ws = [u0, u1]
  w1 : x1.ws = [v]
  k0 : u0.ks = [me]
  h0 : u0.h = zero32
  a0 : u0.after = 0
  t0 : u0.wait = c.wait
  k1 : u1.ks = [other]
  h1 : u1.h ≠ zero32
  a1 : u1.after = 0
  t1 : u1.wait = 0
  kv : v.ks = [other]
  hv : v.h = zero32
  av : v.after = 0
  tv : v.wait = 0
def meP (c : PChan) (k : Nat) : Int := if k = 0 then c.client else c.peer
def otherP (c : PChan) (k : Nat) : Int := if k = 0 then c.peer else c.client
theorem wantP_is (c : PChan) {k : Nat} (hk : k = 0 ∨ k = 1) (m0 m1 : Int) (h : List UInt8) : wantP c k m0 m1 h = [ownP c none none none (meP c k) (otherP c k) m0 h, herP none none (otherP c k) m1] := by
  rcases hk with rfl | rfl <;> rfl
theorem hasP_shape {c : PChan} {k : Nat} {xs : List POut} (hk : k = 0 ∨ k = 1) (h : hasP c k xs = true) : ∃ x0 x1 u0 u1 v, xs = [x0, x1] ∧ CommitLike c (meP c k) (otherP c k) x0 x1 u0 u1 v := by
  have hl : xs.length = 2 := by
    by_cases e : xs.length = 2
    · exact e
    · rw [hasP_len e] at h
      cases h
  obtain ⟨x0, x1, rfl⟩ := two_list hl
  have hw : x0.ws.length = 2 := by
    by_cases e : x0.ws.length = 2
    · exact e
    · rw [hasP_ways e] at h
      cases h
  obtain ⟨m0, wa, wn, wc, ws⟩ := x0
  obtain ⟨u0, u1, rfl⟩ := two_list hw
  obtain ⟨m1, va, vn, vc, vs⟩ := x1
  have h9 : (!decide (u1.h = zero32) && alikeOs [⟨m0, wa, wn, wc, [u0, u1]⟩, ⟨m1, va, vn, vc, vs⟩] (wantP c k m0 m1 u1.h)) = true := h
  rw [wantP_is c hk] at h9
  have h8 : (!decide (u1.h = zero32) && (((decide (m0 = m0) && (alikeW u0 ⟨none, 1, 1, [meP c k], zero32, 0, c.wait⟩ && (alikeW u1 ⟨none, 1, 1, [otherP c k], u1.h, 0, 0⟩ && true))) && ((decide (m1 = m1) && alikeWs vs [⟨none, 1, 1, [otherP c k], zero32, 0, 0⟩]) && true)))) = true := h9
  simp only [Bool.and_eq_true, Bool.not_eq_true', decide_eq_false_iff_not] at h8
  obtain ⟨hz, ⟨⟨_, q0, q1, _⟩, ⟨_, qv⟩, _⟩⟩ := h8
  have hv1 : vs.length = 1 := by
    by_cases e : vs.length = 1
    · exact e
    · rw [alikeWs_len (by simpa using e)] at qv
      cases qv
  obtain ⟨v, rfl⟩ : ∃ v, vs = [v] := by
    match vs, hv1 with
    | [v], _ => exact ⟨v, rfl⟩
  have h7 : (alikeW v ⟨none, 1, 1, [otherP c k], zero32, 0, 0⟩ && true) = true := qv
  rw [Bool.and_true] at h7
  obtain ⟨a1, a2, a3, a4⟩ := alikeW_parts q0
  obtain ⟨b1, _, b3, b4⟩ := alikeW_parts q1
  obtain ⟨d1, d2, d3, d4⟩ := alikeW_parts h7
  exact ⟨_, _, u0, u1, v, rfl, ⟨rfl, rfl, a1, a2, a3, a4, b1, hz, b3, b4, d1, d2, d3, d4⟩⟩
/-- Whose commitment it is, and what that says. -/
theorem ownerP_cases (c : PChan) (t : PTx) : ownerP c t = -1 ∨ ∃ k : Nat, (k = 0 ∨ k = 1) ∧ ownerP c t = (k : Int) ∧ keysOk c = true ∧ t.op.kind = 0 ∧ fundsP c t = true ∧ ∃ x0 x1 u0 u1 v, t.outs = [x0, x1] ∧ CommitLike c (meP c k) (otherP c k) x0 x1 u0 u1 v := by
  cases hk : keysOk c
  · exact .inl (ownerP_keys hk)
  · by_cases h1 : t.op.kind = 0
    · cases hf : fundsP c t
      · exact .inl (ownerP_funds hf)
      · have e : ownerP c t = if hasP c 0 t.outs then 0 else if hasP c 1 t.outs then 1 else -1 := by unfold ownerP; rw [hk, hf, decide_eq_true h1]; rfl
        cases h5 : hasP c 0 t.outs
        · cases h6 : hasP c 1 t.outs
          · exact .inl (by rw [e, h5, h6]; rfl)
          · exact .inr ⟨1, .inr rfl, by rw [e, h5, h6]; rfl, rfl, h1, rfl, hasP_shape (.inr rfl) h6⟩
        · exact .inr ⟨0, .inl rfl, by rw [e, h5]; rfl, rfl, h1, rfl, hasP_shape (.inl rfl) h5⟩
    · exact .inl (ownerP_kind h1)
end Go.Proofs.YtnjnomebcggccaaGreatDoor
