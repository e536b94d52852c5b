/- What is built passes Check, plainly: facts on the transaction that takes a part. No function of the program is named. -/
import Derived.Test.YtnjnomebcggccaaGreatDoorTaken15
namespace Go.Proofs.YtnjnomebcggccaaGreatDoor
open Go.RowKit

theorem sumsOf_strip (xs : List POut) : sumsOf (xs.map POut.strip) = sumsOf xs := by
  unfold sumsOf
  rw [List.map_map]
  rfl
theorem outsOk_shared {k z m R f : Int} (hk0 : 0 ≤ k) (hk1 : k ≤ 255) (hz0 : -1 ≤ z) (hz1 : z ≤ 15) (hb : 0 ≤ m - feeP m f - rewP m R f ∧ m - feeP m f - rewP m R f ≤ 1125899906842624 ∧ 0 ≤ rewP m R f ∧ rewP m R f ≤ 1125899906842624) : outsOk (sharedP k z m R f) = true ∧ (sharedP k z m R f).length ≤ 2 := by
  have one : ∀ (key V : Int), 0 ≤ key → key ≤ 255 → 0 ≤ V → V ≤ 1125899906842624 → outOk V [⟨none, 1, 1, [key], zero32, 0, 0⟩] = true := by
    intro key V h1 h2 h3 h4
    have r : rises 0 [key] = true := by rw [rises_more (by omega) (by omega)]; rfl
    show (decide (0 ≤ V ∧ V ≤ 1125899906842624) && (true && (((true && (rises 0 [key] && (true && true)))) && true))) = true
    rw [r, decide_eq_true ⟨h3, h4⟩]
    rfl
  unfold sharedP
  by_cases e : z = -1
  · rw [if_pos e]
    refine ⟨?_, by simp⟩
    show (outOk _ _ && true) = true
    rw [show outOk (herP none none k (m - feeP m f - rewP m R f)).m (herP none none k (m - feeP m f - rewP m R f)).ws = true from one k _ hk0 hk1 hb.1 hb.2.1]
    rfl
  · rw [if_neg e]
    refine ⟨?_, by simp⟩
    show (outOk _ _ && (outOk _ _ && true)) = true
    rw [show outOk (herP none none k (m - feeP m f - rewP m R f)).m (herP none none k (m - feeP m f - rewP m R f)).ws = true from one k _ hk0 hk1 hb.1 hb.2.1, show outOk (herP none none (100 + z) (rewP m R f)).m (herP none none (100 + z) (rewP m R f)).ws = true from one (100 + z) _ (by omega) (by omega) hb.2.2.1 hb.2.2.2]
    rfl
theorem taken_ok15 {T pre S : List UInt8} {k : Int} {xs : List POut} (hp : pre.length = 32) (hk0 : 0 ≤ k) (hk1 : k ≤ 255) (ho : outsOk xs = true) (hl : xs.length ≤ 2) : txOk (signedP (takeS T pre xs) k S).strip = true := by
  have r : rises 0 [k] = true := by rw [rises_more (by omega) (by omega)]; rfl
  have e : txOk (signedP (takeS T pre xs) k S).strip = (decide (1 ≤ 16 ∧ xs.length ≤ 16 ∧ 1 ≤ 16) && (decide (1 ≠ 0 ∨ (0 : Int) ≠ 0) && (opOk noOp.strip && (insOk [] [PIn.mk T 0 1 none pre.length 0 pre] && (outsOk (xs.map POut.strip) && rises 0 [k]))))) := rfl
  rw [e, outsOk_strip, ho, r, hp, decide_eq_true (show 1 ≤ 16 ∧ xs.length ≤ 16 ∧ 1 ≤ 16 by omega)]
  rfl
/-- All that is asked of it. -/
theorem taken_facts15 {w : World} {y : PTx} {T pre : List UInt8} {k m z R f : Int} {u : PWay} (hy : TxIn w y)
    (hs : y.strip = (signedP (takeS T pre (sharedP k z m R f)) k (txSum (takeS T pre (sharedP k z m R f)))).strip) (hp : pre.length = 32) (hk0 : 0 ≤ k) (hk1 : k ≤ 255) (hz0 : -1 ≤ z) (hz1 : z ≤ 15) (hsh : sharesOk m R f = true)
    (huk : u.ks = [k]) (hua : u.after = 0) (huw : u.wait = 0) (huh : shownSum pre = u.h) : txOk y = true ∧ checkR m u T y = 0 := by
  have hq := of_decide_eq_true hsh
  have hb := share_bounds (n := m) (r := R) (f := f) (by omega)
  obtain ⟨ho, hl⟩ := outsOk_shared (z := z) (m := m) (R := R) (f := f) hk0 hk1 hz0 hz1 ⟨by omega, by omega, by omega, by omega⟩
  have hok : txOk y = true := by
    rw [← txOk_strip hy.lens, hs]
    exact taken_ok15 hp hk0 hk1 ho hl
  refine ⟨hok, ?_⟩
  have e1 : y.ins.map PIn.strip = [PIn.mk T 0 1 none pre.length 0 pre] := congrArg PTx.ins hs
  obtain ⟨x, hx, ex⟩ : ∃ x, y.ins = [x] ∧ x.strip = PIn.mk T 0 1 none pre.length 0 pre := by
    have hlen : y.ins.length = 1 := by have h9 := congrArg List.length e1; simpa using h9
    match hyi : y.ins, hlen with
    | [x], _ => exact ⟨x, rfl, by rw [hyi] at e1; simpa using e1⟩
  have x1 : x.tx = T := congrArg PIn.tx ex
  have x2 : x.place = 0 := congrArg PIn.place ex
  have x3 : x.way = 1 := congrArg PIn.way ex
  have x4 : x.pre = pre := congrArg PIn.pre ex
  have hinn : y.inn = 1 := by have h9 := hy.ins.1; rw [hx] at h9; exact h9.symm
  have hkind : y.op.kind = 0 := congrArg (fun p : PTx => p.op.kind) hs
  have hsig : y.signs = [⟨k, txSum (takeS T pre (sharedP k z m R f))⟩] := congrArg PTx.signs hs
  have hfr : ∀ S, frontB false (signedP (takeS T pre (sharedP k z m R f)) k S) = frontB false (takeS T pre (sharedP k z m R f)) := fun _ => rfl
  have hsum : txSum y = txSum (takeS T pre (sharedP k z m R f)) := by
    rw [txSum_alike15 hs]
    unfold txSum
    rw [hfr]
  have houts : sumsOf y.outs = sumsOf (sharedP k z m R f) := by
    rw [← sumsOf_strip, ← sumsOf_strip (sharedP k z m R f)]
    exact congrArg sumsOf (congrArg PTx.outs hs)
  rw [checkR_one hok hinn hkind hx, x1, x2, x3, x4, hsum, hsig, decide_eq_true rfl, decide_eq_true rfl, decide_eq_true rfl]
  have hkeys : keysBy (txSum (takeS T pre (sharedP k z m R f))) [⟨k, txSum (takeS T pre (sharedP k z m R f))⟩] = [k] := by
    rw [keysBy, if_pos rfl]
    rfl
  rw [hkeys]
  show passR m u [k] pre y.outs = 0
  have hop : opensW u [k] pre 0 0 = true := by
    unfold opensW
    rw [hua, huw, huk, ← huh, decide_eq_true (Int.le_refl 0), decide_eq_true rfl]
    simp
  have hadd : (addFrom 0 (sumsOf (sharedP k z m R f))).2 = 0 ∧ ¬ m < (addFrom 0 (sumsOf (sharedP k z m R f))).1 := by
    unfold sharedP
    by_cases e : z = -1
    · rw [if_pos e]
      show (addFrom 0 [m - feeP m f - rewP m R f]).2 = 0 ∧ ¬ m < (addFrom 0 [m - feeP m f - rewP m R f]).1
      rw [addFrom_more (by omega) (by omega) (by omega)]
      exact ⟨rfl, by show ¬ m < 0 + (m - feeP m f - rewP m R f); omega⟩
    · rw [if_neg e]
      show (addFrom 0 [m - feeP m f - rewP m R f, rewP m R f]).2 = 0 ∧ ¬ m < (addFrom 0 [m - feeP m f - rewP m R f, rewP m R f]).1
      rw [addFrom_more (by omega) (by omega) (by omega), addFrom_more (by omega) (by omega) (by omega)]
      exact ⟨rfl, by show ¬ m < 0 + (m - feeP m f - rewP m R f) + rewP m R f; omega⟩
  unfold passR
  rw [hop, houts, if_pos rfl, if_pos hadd.1, if_neg hadd.2]
/-- Two that say the same are the same. -/
theorem same_taken15 {x y : PTx} (h : x.strip = y.strip) : txB x = txB y := by rw [← txB_strip x, ← txB_strip y, h]
end Go.Proofs.YtnjnomebcggccaaGreatDoor
