/- The part of a commitment's owner, where it lies; what Check tells of a transaction that would take it, plainly. No function of the program is named. -/
import Derived.Test.YtnjnomebcggccaaGreatDoorOwnerShape
import Derived.Test.YtnjnomebcggccaaGreatDoorLockOpens
import Derived.Test.YtnjnomebcggccaaGreatDoorTxKeys
namespace Go.Proofs.YtnjnomebcggccaaGreatDoor
open Go.RowKit

/-- The amounts of outs. -/
def sumsOf (xs : List POut) : List Int := xs.map POut.m
theorem sumsOf_take {xs : List POut} {k : Nat} (h : k < xs.length) : sumsOf (xs.take (k + 1)) = sumsOf (xs.take k) ++ [(xs.getD k noOut).m] := by
  unfold sumsOf
  rw [take_getD (d := noOut) h, List.map_append]
  rfl
theorem sumsOf_len (xs : List POut) : (sumsOf xs).length = xs.length := by simp [sumsOf]
/-- The part of a commitment's owner, as it lies in memory. -/
structure PartAt (w : World) (t : PTx) (m z : Int) (b o b2 o2 wc : Nat) (u0 u1 : PWay) (x1 : POut) : Prop where
  outs : t.outs = [twoO m (some ⟨b2, o2, none⟩) wc u0 u1, x1]
  oa : t.oa = some ⟨b, o, none⟩
  on : t.on = 2
  fit : Fits m
  way : WayIn w u1
  ks : u1.ks = [z]
  kn : u1.n = 1
  z0 : 0 ≤ z
  z1 : z ≤ 255
  after : u1.after = 0
  wait : u1.wait = 0
  lb : b < w.heap.size
  lb2 : b2 < w.heap.size
  out : w.rangeAt b o (POut.cells (twoO m (some ⟨b2, o2, none⟩) wc u0 u1))
  at2 : w.rangeAt b2 (o2 + 35) u1.cells
theorem PartAt.below {w w' : World} {t : PTx} {m z : Int} {b o b2 o2 wc : Nat} {u0 u1 : PWay} {x1 : POut} (h : PartAt w t m z b o b2 o2 wc u0 u1 x1) (hb : Below w.heap.size w w') : PartAt w' t m z b o b2 o2 wc u0 u1 x1 :=
  ⟨h.outs, h.oa, h.on, h.fit, h.way.below hb, h.ks, h.kn, h.z0, h.z1, h.after, h.wait, Nat.lt_of_lt_of_le h.lb hb.size, Nat.lt_of_lt_of_le h.lb2 hb.size, rangeAt_below h.out h.lb hb, rangeAt_below h.at2 h.lb2 hb⟩
/-- A commitment has one. -/
theorem part_at {w : World} {c : PChan} {t : PTx} (ht : TxIn w t) (h : ownerP c t ≠ -1) : ∃ m z b o b2 o2 wc u0 u1 x1, PartAt w t m z b o b2 o2 wc u0 u1 x1 := by
  rcases ownerP_cases c t with e | ⟨k, hk, _, hko, _, _, x0, x1, u0, u1, v, e, cl⟩
  · exact absurd e h
  · have ho := ht.outs
    rw [e] at ho
    have hon : t.on = 2 := ho.1.symm
    have i0 : OutIn w x0 := ho.2.2.2.2.1 _ (by simp)
    obtain ⟨b, o, eb, hlt, hcells⟩ := ho.2.2.2.2.2 (by omega)
    have r0 : w.rangeAt b o x0.cells := by have h9 := hcells 0 (by omega); rw [Nat.zero_mul] at h9; exact h9
    obtain ⟨m, wa, wn, wc, ws⟩ := x0
    have hw0 : ws = [u0, u1] := cl.w0
    subst hw0
    have hwn : wn = 2 := i0.ws.1.symm
    subst hwn
    obtain ⟨b2, o2, ew, hlt2, hcells2⟩ := i0.ws.2.2.2.2.2 (by show 0 < 2; omega)
    replace ew : wa = some ⟨b2, o2, none⟩ := ew
    subst ew
    have r2 : w.rangeAt b2 (o2 + 35) u1.cells := by have h9 := hcells2 1 (by show 1 < 2; omega); exact h9
    have hwi : WayIn w u1 := i0.ws.2.2.2.2.1 _ (by simp)
    have hz : 0 ≤ otherP c k ∧ otherP c k ≤ 255 := by
      have h9 := of_decide_eq_true hko
      rcases hk with rfl | rfl
      · exact ⟨h9.2.2.1, h9.2.2.2⟩
      · exact ⟨h9.1, h9.2.1⟩
    have hkn : u1.n = 1 := by have h9 := hwi.keys.1; rw [cl.k1] at h9; exact h9.symm
    exact ⟨m, otherP c k, b, o, b2, o2, wc, u0, u1, x1, ⟨e, eb, hon, i0.m, hwi, cl.k1, hkn, hz.1, hz.2, cl.a1, cl.t1, hlt, hlt2, r0, r2⟩⟩
/-- What Check tells behind its ins. -/
def passR (m : Int) (u : PWay) (ks : List Int) (pre : List UInt8) (outs : List POut) : Int :=
  if opensW u ks pre 0 0 then (if (addFrom 0 (sumsOf outs)).2 = 0 then (if m < (addFrom 0 (sumsOf outs)).1 then 14 else 0) else (addFrom 0 (sumsOf outs)).2) else 12
/-- What Check tells of a transaction, where the first one is a commitment: m is its owner's part, u what it is taken by, T its sum. -/
def checkR (m : Int) (u : PWay) (T : List UInt8) (j : PTx) : Int :=
  if txOk j && (decide (j.inn = 1) && decide (j.op.kind = 0)) then
    (match j.ins with
    | [x] => if (decide (x.tx = T) && decide (x.place = 0)) && decide (x.way = 1) then passR m u (keysBy (txSum j) j.signs) x.pre j.outs else 13
    | _ => 1)
  else 1
theorem checkR_right {m : Int} {u : PWay} {T : List UInt8} {j : PTx} (h : txOk j = false) : checkR m u T j = 1 := by unfold checkR; rw [h]; rfl
theorem checkR_len {m : Int} {u : PWay} {T : List UInt8} {j : PTx} (h : j.inn ≠ 1) : checkR m u T j = 1 := by unfold checkR; rw [decide_eq_false h]; simp
theorem checkR_kind {m : Int} {u : PWay} {T : List UInt8} {j : PTx} (h : j.op.kind ≠ 0) : checkR m u T j = 1 := by unfold checkR; rw [decide_eq_false h]; simp
theorem checkR_one {m : Int} {u : PWay} {T : List UInt8} {j : PTx} {x : PIn} (h1 : txOk j = true) (h2 : j.inn = 1) (h3 : j.op.kind = 0) (h4 : j.ins = [x]) :
    checkR m u T j = if (decide (x.tx = T) && decide (x.place = 0)) && decide (x.way = 1) then passR m u (keysBy (txSum j) j.signs) x.pre j.outs else 13 := by
  unfold checkR
  rw [h1, decide_eq_true h2, decide_eq_true h3, h4]
  rfl
theorem one_in15 {w : World} {j : PTx} (hj : TxIn w j) (h : j.inn = 1) : ∃ x b o, j.ins = [x] ∧ j.ia = some ⟨b, o, none⟩ ∧ InIn w x ∧ b < w.heap.size ∧ w.rangeAt b o x.cells := by
  have hi := hj.ins
  rw [h] at hi
  obtain ⟨x, e⟩ : ∃ x, j.ins = [x] := by
    have h9 := hi.1
    match j.ins, h9 with
    | [x], _ => exact ⟨x, rfl⟩
  rw [e] at hi
  obtain ⟨b, o, eb, hlt, hc⟩ := hi.2.2.2.2.2 (by omega)
  have r0 : w.rangeAt b o x.cells := by have h9 := hc 0 (by omega); rw [Nat.zero_mul] at h9; exact h9
  exact ⟨x, b, o, e, eb, hi.2.2.2.2.1 x (by simp), hlt, r0⟩
end Go.Proofs.YtnjnomebcggccaaGreatDoor
