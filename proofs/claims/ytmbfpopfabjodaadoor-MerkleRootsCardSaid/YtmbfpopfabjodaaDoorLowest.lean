/- What 'lowest' comes to: the row of all leaves. -/
import Derived.Test.YtmbfpopfabjodaaDoorSeqJoined
namespace Go.Proofs.YtmbfpopfabjodaaDoor
open Go.RowKit

theorem row_step {α : Type} (xs : List α) (z d : α) (n j : Nat) (hn : xs.length = n) (hj : j < n) : (xs.take j ++ List.replicate (n - j) z).set j (xs.getD j d) = xs.take (j + 1) ++ List.replicate (n - (j + 1)) z := by
  have hl : (xs.take j).length = j := by rw [List.length_take]; omega
  rw [List.set_append_right _ _ (by omega), hl, Nat.sub_self, show n - j = (n - (j + 1)) + 1 by omega, List.replicate_succ, List.set_cons_zero]
  have e : xs.getD j d = xs[j] := by simp [List.getD, show j < xs.length by omega]
  rw [e, List.take_succ_eq_append_getElem (by omega), List.append_assoc, List.singleton_append]
theorem row_end {α : Type} (xs : List α) (z : α) (n : Nat) (hn : xs.length = n) : xs.take n ++ List.replicate (n - n) z = xs := by
  rw [Nat.sub_self, List.take_of_length_le (by omega)]; simp
/-- A row under way: j of n are there. -/
structure Filled (w0 : World) (g n j : Nat) (xs : List (List UInt8)) (w : World) : Prop where
  own : OwnS w w0.heap.size (.slice (some ⟨g, 0, none⟩) n n) (xs.take j ++ List.replicate (n - j) zero32)
  below : Below w0.heap.size w0 w
theorem Filled.more {w0 w w' : World} {g n j : Nat} {xs : List (List UInt8)} (h : Filled w0 g n j xs w) (hb : Below w.heap.size w w') : Filled w0 g n j xs w' :=
  ⟨h.own.below hb, h.below.trans (hb.mono h.below.size)⟩
theorem Filled.lt {w0 w : World} {g n j : Nat} {xs : List (List UInt8)} (h : Filled w0 g n j xs w) : w0.heap.size ≤ g ∧ g < w.heap.size := h.own.lt g rfl
theorem Filled.step {w0 w : World} {g n j : Nat} {xs : List (List UInt8)} {s : List UInt8} (h : Filled w0 g n j xs w) (hn : xs.length = n) (hj : j < n) (he : xs.getD j [] = s) (hs : s.length = 32) : Filled w0 g n (j + 1) xs (w.setCells g (j * 32) (cellsOf s)) := by
  obtain ⟨h1, h2⟩ := h.own.store hj hs
  refine ⟨?_, h.below.trans ((h2.mono h.below.size).below h.lt.1)⟩
  rw [← he] at h1 ⊢
  rw [row_step xs zero32 [] n j hn hj] at h1
  exact h1
theorem info32 : ∃ ie, Tryd.prog.info? 24 = some ie ∧ ie.zero = some (.agg (cellsOf zero32).toArray) ∧ ie.size = 32 ∧ ie.bytes = 32 := info_parts sum_zero
set_option maxRecDepth 100000 in
set_option maxHeartbeats 1600000 in
theorem lowest_any {w : World} {a : Option Addr} {n c : Nat} {ls : List (List UInt8)} (h : Sums w a n c ls) (hk : KsAt w) (hn : n ≤ 100000) :
    Calls Tryd.prog 18 #[.slice a n c] w fun e w' => e = .returned (.slice (some ⟨w.heap.size, 0, none⟩) n n) ∧ Sums w' (some ⟨w.heap.size, 0, none⟩) n n (ls.map leafSum) ∧ Below w.heap.size w w' := by
  obtain ⟨ie, i1, i2, i3, i4⟩ := info32
  have H := Lib.hid h
  have HK := Lib.hid hk
  have I1 := Lib.hid i1
  have I2 := Lib.hid i2
  have I3 := Lib.hid i3
  have I4 := Lib.hid i4
  clear h hk i1 i2 i3 i4
  go_enter Tryd.func18, Tryd.ntmps18
  go_wp2_with (at_make; refine wpList_make_full _ rfl _ _ 22 rfl w.heap.size 24 ie _ 32 Tryd.underlying22 I1.out I2.out I3.out _ _ _ _ n rfl rfl rfl rfl (by rw [I4.out]; omega) (by unfold maxLen; omega) (Nat.le_refl _) ?_; intro w1 hown hgrow)
  have hf0 : Filled w w.heap.size n 0 (ls.map leafSum) w1 := ⟨by rw [List.take_zero, List.nil_append, Nat.sub_zero]; exact made_own hown, ⟨hgrow.os, hgrow.tape, hgrow.output, hgrow.size, fun k hk => hgrow.block k hk (by simp)⟩⟩
  have HF0 := Lib.hid hf0
  clear hown hgrow hf0
  obtain ⟨g, hg⟩ : ∃ g, g = w.heap.size := ⟨_, rfl⟩
  rw [← hg] at HF0 ⊢
  have HG := Lib.hid hg
  clear hg
  have hn63 : n ≤ 9223372036854775807 := by omega
  go_loopw [11] (fun i wr => ∃ j : Nat, j ≤ n ∧ i = .int .i64 j ∧ Filled w g n j (ls.map leafSum) wr) (fun i _ => n - (intOf i).toNat)
  case atStart => exact ⟨0, Nat.zero_le _, rfl, HF0.out⟩
  case round =>
    obtain ⟨j, hj, rfl, hat⟩ := hrel
    have HAT := Lib.hid hat
    clear hat HF0
    by_cases hjn : j < n
    · obtain ⟨b, off, rfl, hlt, hcells⟩ := H.out.2.2.2.2.2 (by omega)
      have hr := rangeAt_below (hcells j hjn) hlt HAT.out.below
      have hs := H.out.each hjn
      have he : (ls.map leafSum).getD j [] = leafSum (ls.getD j []) := by
        have : j < ls.length := by rw [H.out.len]; exact hjn
        simp [List.getD, this]
      obtain ⟨s, hes⟩ : ∃ s, s = ls.getD j [] := ⟨_, rfl⟩
      rw [← hes] at hr hs he
      obtain ⟨r, hr', hrl, hlf⟩ : ∃ r, leafSum s = r ∧ r.length = 32 ∧ ∀ W : World, KsAt W → Calls Tryd.prog 10 #[.agg (cellsOf s).toArray] W fun e w' => e = .returned (.agg (cellsOf r).toArray) ∧ Below W.heap.size W w' := ⟨_, rfl, leafSum_len s, fun W hW => leaf_of hs hW⟩
      rw [hr'] at he
      have HL := Lib.hid hrl
      have HLF := Lib.hid hlf
      have szr : (Tryd.prog.info? 24).map (·.size) = some (cellsOf r).toArray.size := by rw [List.size_toArray, cellsOf_len, hrl]; exact Tryd.size24
      have SZR := Lib.hid szr
      clear hr' hrl hlf szr
      have szs : (Tryd.prog.info? 24).map (·.size) = some (cellsOf s).length := by rw [cellsOf_len, hs]; exact Tryd.size24
      have hz : (cellsOf zero32).toArray.size = (cellsOf s).toArray.size := by rw [List.size_toArray, List.size_toArray, cellsOf_len, cellsOf_len, hs]; rfl
      have HR := Lib.hid hr
      have HS := Lib.hid hs
      have HE := Lib.hid he
      have SZ := Lib.hid szs
      have HZ := Lib.hid hz
      clear hcells hr hs he szs hes hz
      go_wp2_with (first | (refine wpList_load_mid rfl 24 _ rfl b (off + j * 32) rfl (cellsOf s) _ HR.out Tryd.underlying24 rfl SZ.out ?_) | (refine wpList_store_row rfl 24 _ _ rfl wr.heap.size (cellsOf s).toArray rfl rfl 24 (cellsOf zero32).toArray (heap_alloc_new _ _) SZ.out HZ.out (all_oneCell_toArray (cellsOf_one s)) ?_) | (refine wpList_load_row rfl 24 _ rfl wr.heap.size rfl 24 (cellsOf s).toArray (0, 0) _ (setRow_heap _ _ _ _ _ _ (heap_alloc_new _ _)) Tryd.underlying24 rfl SZ.out ?_) | fail)
      rw [← zero32_is]
      have b2 : Below wr.heap.size wr ((wr.alloc (.cells (cellsOf zero32).toArray 24)).setRow wr.heap.size (cellsOf s).toArray) := by
        have b1 : Below wr.heap.size wr (wr.alloc (.cells (cellsOf zero32).toArray 24)) := (Below.refl _ _).alloc (Nat.le_refl _) _
        exact b1.trans (((but_setRow _ wr.heap.size _).mono b1.size).below (Nat.le_refl _))
      revert b2
      generalize ((wr.alloc (.cells (cellsOf zero32).toArray 24)).setRow wr.heap.size (cellsOf s).toArray) = w4
      intro b2
      have f4 := HAT.out.more b2
      have k4 := (HK.out.below HAT.out.below).below b2
      have F4 := Lib.hid f4
      have K4 := Lib.hid k4
      clear b2 f4 k4
      refine (HLF.out _ K4.out).mono ?_
      rintro e w5 ⟨rfl, hb5⟩
      have f5 := F4.out.more hb5
      have F5 := Lib.hid f5
      have th : w5.there g (j * 32) (cellsOf r).toArray.size := by rw [List.size_toArray, cellsOf_len, HL.out]; exact f5.own.there hjn
      have TH := Lib.hid th
      clear hb5 f5 th
      go_wp2_with (refine wpList_store_mid rfl 24 _ _ rfl g (j * 32) (cellsOf r).toArray rfl rfl TH.out SZR.out (all_oneCell_toArray (cellsOf_one r)) ?_)
      have f6 := F5.out.step (by rw [List.length_map]; exact H.out.len) hjn HE.out HL.out
      have F6 := Lib.hid f6
      clear f6
      go_roundw
      case rel => exact ⟨j + 1, by omega, by go_num, F6.out⟩
      case measure => simp [intOf]; omega
    · have hjn' : j = n := by omega
      subst hjn'
      go_wp2_with fail
      go_ret
      have e := row_end (ls.map leafSum) zero32 j (by rw [List.length_map]; exact H.out.len)
      have ho := HAT.out.own
      rw [e] at ho
      exact ⟨by rw [← HG.out]; rfl, by rw [← HG.out]; exact ho.sums, HAT.out.below⟩
end Go.Proofs.YtmbfpopfabjodaaDoor
