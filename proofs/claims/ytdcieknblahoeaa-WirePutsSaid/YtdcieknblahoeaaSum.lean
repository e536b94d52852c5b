/- Eye.Sum (function 16): 32 bytes are told; and copies into a row of the call's own. -/
import Derived.Test.YtdcieknblahoeaaMore
import Derived.Deep.RegionHeldLaw
import Derived.Laws.Tables
namespace Go.Proofs.Ytdcieknblahoeaa
open Go.RowKit

theorem Try.size25 : (Try.prog.info? 25).map (·.size) = some 32 := by kernel_rfl

/-- 32 bytes 0, as cells. -/
def zero32 : List Value := cellsOf (List.replicate 32 0)
theorem zero32_is : zero32.toArray = #[.int .u8 0, .int .u8 0, .int .u8 0, .int .u8 0, .int .u8 0, .int .u8 0, .int .u8 0, .int .u8 0, .int .u8 0, .int .u8 0, .int .u8 0, .int .u8 0, .int .u8 0, .int .u8 0, .int .u8 0, .int .u8 0, .int .u8 0, .int .u8 0, .int .u8 0, .int .u8 0, .int .u8 0, .int .u8 0, .int .u8 0, .int .u8 0, .int .u8 0, .int .u8 0, .int .u8 0, .int .u8 0, .int .u8 0, .int .u8 0, .int .u8 0, .int .u8 0] := rfl
theorem zero32_len : zero32.length = 32 := rfl

/-- What Sum tells, where l1 is read: these 32 bytes; or 32 bytes 0. -/
def sumCells (l1 : List UInt8) : List Value := if l1.length = 32 then cellsOf l1 else zero32
theorem sumCells_len (l1 : List UInt8) : (sumCells l1).length = 32 := by
  unfold sumCells
  split
  · simpa [cellsOf] using ‹_›
  · rfl
theorem sumCells_one (l1 : List UInt8) : ∀ v ∈ sumCells l1, v.oneCell' = true := by
  unfold sumCells
  split <;> exact cellsOf_one _

theorem eye_row_ne {w : World} {yb : Nat} {l : List UInt8} {e : Int} (h : EyeAt w yb l e) {b : Nat} (hb : w.heap.size ≤ b) : yb ≠ b := by have := h.lt; omega

theorem but_setRow (w : World) (g : Nat) (cs : Array Value) : But w.heap.size g w (w.setRow g cs) := ⟨rfl, rfl, rfl, by simp [World.setRow], fun k _ hk => setRow_other w g k cs (by omega)⟩

/-- 'copy' into a row of the call's own, as one step of a region; all other blocks stay. -/
theorem step_copy_but {P : Program} {ops : Array Oper} {o : Oper} {a : Act} {w : World} {K : Act → World → Prop} {Q : Exit → Act → World → Prop} {E : Prop} (hgd : o.guard = none) (d s : Operand) (dT sT : TypeId)
    (ho : o.op = .call { callee := .builtin .copy, args := #[d, s], argTypes := #[dT, sT] }) (elem : TypeId) (hu : P.underlying dT = some (.slice elem)) (hsz : (P.info? elem).map (·.size) = some 1)
    (dp sp : Option Addr) (dLen dCap sLen sCap : Nat) (hd : a.eval d = .slice dp dLen dCap) (hs : a.eval s = .slice sp sLen sCap)
    (g off : Nat) (cur : List Value) (t : TypeId) (hg : w.heap[g]? = some (.cells cur.toArray t (0, 0))) (cs : List Value) (hn : cs.length = Nat.min sLen dLen)
    (hpos : 0 < cs.length → dp = some ⟨g, off, none⟩ ∧ ∃ ad, sp = some ad ∧ ∀ j v, cs[j]? = some v → w.cell? (ad.add j) = some v)
    (hfit : off + cs.length ≤ cur.length) (h1 : ∀ v ∈ cs, v.oneCell' = true)
    (h : ∀ w', Hid (w'.heap[g]? = some (.cells (splice cur off cs).toArray t (0, 0))) → But w.heap.size g w w' → K (a.put o.dst (goInt cs.length)) w') :
    if Region.wanted o (yielded ops a.tmps) = true then Oper.wp P o a w K Q else E := by
  have hw : Region.wanted o (yielded ops a.tmps) = true := by simp [Region.wanted, hgd]
  rw [if_pos hw]
  by_cases h0 : cs.length = 0
  · obtain rfl : cs = [] := List.eq_nil_of_length_eq_zero h0
    have hrun := run_copy_none (P := P) w dT sT o.type elem dp sp dLen dCap sLen sCap hu hsz (by simpa using hn.symm)
    unfold Oper.wp
    simp [execOp, ho, resolve, invoke, builtin, hd, hs, hrun, Result.andThen]
    exact h w (show _ = _ by simpa [splice] using hg) (But.refl _ _ _)
  · obtain ⟨rfl, ad, rfl, hsrc⟩ := hpos (by omega)
    have hrun := run_copy_row (P := P) w dT sT o.type elem g off dLen dCap ad sLen sCap cur.toArray t cs hu hsz hg hn hsrc (by simpa using hfit) h1
    unfold Oper.wp
    simp [execOp, ho, resolve, invoke, builtin, hd, hs, hrun, Result.andThen]
    exact h _ (show _ = _ by simpa [splice] using setRow_heap w g _ _ t _ hg) (but_setRow w g _)

theorem row_copy {w : World} {a : Option Addr} {n c : Nat} {l : List UInt8} (h : Row w a n c l) (h0 : 0 < (cellsOf l).length) : ∃ ad, a = some ad ∧ ∀ j v, (cellsOf l)[j]? = some v → w.cell? (ad.add j) = some v := by
  have hl := h.1
  rw [cellsOf, List.length_map] at h0
  obtain ⟨b, off, rfl, _, hc⟩ := h.2.2.2.2 (by omega)
  refine ⟨_, rfl, fun j v hj => ?_⟩
  have hjl : j < l.length := by
    have := (List.getElem?_eq_some_iff.1 hj).1
    simpa [cellsOf] using this
  rw [cellsOf_get hjl] at hj
  have e1 : (⟨b, off, none⟩ : Addr).add j = ⟨b, off + j, none⟩ := by simp [Addr.add]
  rw [e1, hc j (by omega), ← hj]
theorem sum_splice {l1 : List UInt8} (hl : l1.length = 0 ∨ l1.length = 32) : splice zero32 0 (cellsOf l1) = sumCells l1 := by
  unfold sumCells
  rcases hl with h | h
  · rw [if_neg (by omega)]
    obtain rfl : l1 = [] := List.eq_nil_of_length_eq_zero h
    rfl
  · rw [if_pos h]
    have e : (cellsOf l1).length = 32 := by simpa [cellsOf] using h
    simp [splice, e, zero32_len]

set_option maxRecDepth 100000 in
set_option maxHeartbeats 1600000 in
theorem sum_any {yb : Nat} {l l1 l2 : List UInt8} {e e2 : Int} (w : World) (h : EyeAt w yb l e) (hraw : ∀ W, EyeAt W yb l e → Calls Try.prog 21 #[.pointer (some ⟨yb, 0, none⟩), .int .i64 32] W (Tells yb l1 l2 e2 W)) (hl : l1.length = 0 ∨ l1.length = 32) :
    Calls Try.prog 16 #[.pointer (some ⟨yb, 0, none⟩)] w fun r w' => r = .returned (.agg (sumCells l1).toArray) ∧ EyeAt w' yb l2 e2 ∧ But w.heap.size yb w w' := by
  have hlt := h.lt
  have H := Lib.hid h
  have HRAW := Lib.hid hraw
  clear h hraw
  go_enter Try.func16, Try.ntmps16
  go_wp2_with fail
  have hb1 : Below w.heap.size w ((w.alloc (.cells zero32.toArray 25)).alloc (.cells zero32.toArray 25)) := ((Below.refl _ _).alloc (Nat.le_refl _) _).alloc (by simp) _
  have hr1 : ((w.alloc (.cells zero32.toArray 25)).alloc (.cells zero32.toArray 25)).heap[w.heap.size]? = some (.cells zero32.toArray 25 (0, 0)) := heap_alloc2_old _ _ _
  have hs1 : ((w.alloc (.cells zero32.toArray 25)).alloc (.cells zero32.toArray 25)).heap[w.heap.size + 1]? = some (.cells zero32.toArray 25 (0, 0)) := heap_alloc2_new _ _ _
  have hz1 : w.heap.size + 1 < ((w.alloc (.cells zero32.toArray 25)).alloc (.cells zero32.toArray 25)).heap.size := by simp
  rw [← zero32_is]
  revert hb1 hr1 hs1 hz1
  generalize ((w.alloc (.cells zero32.toArray 25)).alloc (.cells zero32.toArray 25)) = w1
  obtain ⟨rb, hrb⟩ : ∃ rb, rb = w.heap.size := ⟨_, rfl⟩
  rw [← hrb]
  intro hb1 hr1 hs1 hz1
  have hb1' : Below w.heap.size w w1 := by rw [← hrb]; exact hb1
  have hw1 : EyeAt w1.drew yb l e := (H.out.below hb1' : EyeAt w1 yb l e)
  have HY1 := Lib.hid hw1
  have HR1 := Lib.hid hr1
  have HS1 := Lib.hid hs1
  have HB1 := Lib.hid hb1'
  have HRB := Lib.hid hrb
  have hyr : yb ≠ rb := by omega
  have HF : Hid (0 + (cellsOf l1).length ≤ zero32.length) := by show _ ≤ _; rw [cellsOf, List.length_map, zero32_len]; omega
  have hys : yb ≠ rb + 1 := by omega
  clear hb1 hb1' hw1 hr1 hs1 hrb
  go_region_held_law (fun _ => True) (trivial)
    ((first
      | (go_at_call 21; refine (HRAW.out _ HY1.out).mono ?_; rintro r w2 ⟨ra, rn, rc, rfl, hrow2, hfr2, hy2, hb2⟩; have HROW2 := Lib.hid hrow2; have HY2 := Lib.hid hy2; have hr2 : w2.heap[rb]? = some (.cells zero32.toArray 25 (0, 0)) := hb2.heap HR1.out (show rb < w1.heap.size by omega) (Ne.symm hyr); have hs2 : w2.heap[rb + 1]? = some (.cells zero32.toArray 25 (0, 0)) := hb2.heap HS1.out (show rb + 1 < w1.heap.size by omega) (Ne.symm hys); have HR2 := Lib.hid hr2; have HS2 := Lib.hid hs2; have HB2 := Lib.hid hb2; have hn2 : (cellsOf l1).length = Nat.min rn 32 := (by rw [cellsOf, List.length_map, HROW2.out.1]; have := HROW2.out.1; show rn = min rn 32; omega); have HN2 := Lib.hid hn2; clear hrow2 hfr2 hy2 hb2 hr2 hs2 hn2)
      | (refine step_copy_but (by rfl) (.tmp 4) (.tmp 6) 23 23 (by rfl) 5 Try.underlying23 Try.size5 _ _ 32 32 rn rc (by rfl) (by rfl) (rb + 1) 0 zero32 25 HS2.out (cellsOf l1) HN2.out (fun h0 => ⟨rfl, row_copy HROW2.out h0⟩) HF.out (cellsOf_one _) ?_; intro w3 hh3 hb3)))
  have hr3 : w3.heap[rb]? = some (.cells zero32.toArray 25 (0, 0)) := hb3.heap HR2.out (lt_of_block HR2.out) (by omega)
  have hs3 : w3.heap[rb + 1]? = some (.cells (sumCells l1).toArray 25 (0, 0)) := by rw [← sum_splice hl]; exact hh3.out
  have hy3 : EyeAt w3 yb l2 e2 := HY2.out.typed hb3 HS2.out (by decide) hys
  have HY3 := Lib.hid hy3
  have HR3 := Lib.hid hr3
  have HS3 := Lib.hid hs3
  have HB3 := Lib.hid hb3
  have hlen : (sumCells l1).toArray.size = 32 := by rw [List.size_toArray]; exact sumCells_len l1
  have HLEN := Lib.hid hlen
  have hall : (sumCells l1).toArray.all (·.oneCell') = true := by
    rw [List.all_toArray]
    exact List.all_eq_true.2 (sumCells_one l1)
  have HALL := Lib.hid hall
  have hsz : (Try.prog.info? 25).map (·.size) = some (sumCells l1).toArray.size := by rw [hlen]; exact Try.size25
  have HSZ := Lib.hid hsz
  have hzl : zero32.toArray.size = (sumCells l1).toArray.size := by rw [hlen]; rfl
  have HZL := Lib.hid hzl
  obtain ⟨V, hV⟩ : ∃ V, V = (sumCells l1).toArray := ⟨_, rfl⟩
  rw [← hV] at hs3
  have HV := Lib.hid hV
  clear hr3 hs3 hy3 hb3 hlen hall hsz hzl hh3 hV
  go_wp2_with (first | (refine wpList_load_row rfl 25 _ rfl (rb + 1) rfl 25 (sumCells l1).toArray (0, 0) _ HS3.out Try.underlying25 rfl HSZ.out ?_) | (refine wpList_store_row rfl 25 _ _ rfl rb (sumCells l1).toArray rfl rfl 25 zero32.toArray HR3.out HSZ.out HZL.out HALL.out ?_))
  have hb1 : But w.heap.size yb w w1 := But.of HB1.out
  have hb2 : But w.heap.size yb w1 w2 := ⟨HB2.out.os, HB2.out.tape, HB2.out.output, HB2.out.size, fun k hk hp => HB2.out.block k (Nat.lt_of_lt_of_le hk HB1.out.size) hp⟩
  have hz2 : w.heap.size ≤ w2.heap.size := Nat.le_trans HB1.out.size HB2.out.size
  have hb3 : But w.heap.size yb w2 w3 := But.of ((HB3.out.mono hz2).below (by have := HRB.out; omega))
  have hz3 : w.heap.size ≤ w3.heap.size := Nat.le_trans hz2 HB3.out.size
  have hb4 : But w.heap.size yb w3 (w3.setRow rb (sumCells l1).toArray) := But.of (((but_setRow w3 rb (sumCells l1).toArray).mono hz3).below (by have := HRB.out; omega))
  have hy4 : EyeAt (w3.setRow rb (sumCells l1).toArray) yb l2 e2 := HY3.out.typed (but_setRow w3 rb _) HR3.out (by decide) hyr
  exact bodyPost_ret (results_cell_row rfl _ _ rb 25 (sumCells l1).toArray (0, 0) _ rfl (setRow_heap w3 rb _ _ 25 _ HR3.out) Try.underlying25 rfl HSZ.out) rfl ⟨rfl, hy4, ((hb1.trans hb2).trans hb3).trans hb4⟩
end Go.Proofs.Ytdcieknblahoeaa
