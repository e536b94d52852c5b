/- What the code's together comes to. -/
import Derived.Test.YtnjnomebcggccaaGreatDoorOwnZ
import Derived.Test.YtnjnomebcggccaaGreatDoorTake15
import Derived.Test.YtnjnomebcggccaaGreatDoorOwner
import Derived.Test.YtnjnomebcggccaaGreatDoorCommit
import Derived.Test.YtnjnomebcggccaaGreatDoorTx
import Derived.Test.YtnjnomebcggccaaGreatDoorSteps
namespace Go.Proofs.YtnjnomebcggccaaGreatDoor
open Go.RowKit

set_option linter.unusedSimpArgs false in
set_option maxRecDepth 100000 in
set_option maxHeartbeats 6400000 in
theorem together_any {w : World} {a : Option Addr} {n c : Nat} {xs : List POut} (h : SliceOf outK w a n c xs) (hn : n ≤ 1000) :
    Calls Tryz.prog 41 #[.slice a n c] w fun e w' => e = .returned (.tuple #[.int .i64 (addFrom 0 (sumsOf xs)).1, .int .i64 (addFrom 0 (sumsOf xs)).2]) ∧ Below w.heap.size w w' := by
  have n63 := h.len63
  have HS := Lib.hid h
  obtain ⟨A1, A2, hA⟩ : ∃ A1 A2, addFrom 0 (sumsOf xs) = (A1, A2) := ⟨_, _, rfl⟩
  rw [hA]
  have HA := Lib.hid hA
  clear h hA
  go_enter Tryz.func41, Tryz.ntmps41
  go_upto_region 3 with (fail)
  go_loopw [4, 9] (fun v i wr => ∃ (k : Nat) (ks : List Int), k ≤ n ∧ i = .int .i64 k ∧ ks = sumsOf (xs.take k) ∧ OwnZ wr 2 w.heap.size v ks ∧ Below w.heap.size w wr) (fun _ i _ => n - (intOf i).toNat)
  case atStart => exact ⟨0, [], Nat.zero_le _, rfl, rfl, OwnZ.nil _ _ _, Below.refl _ _⟩
  case round =>
    obtain ⟨k, ks, hk, rfl, hks, hown, hbr⟩ := hrel
    have HKS := Lib.hid hks
    have HOWN := Lib.hid hown
    have HBR := Lib.hid hbr
    obtain ⟨va, vc, rfl, _⟩ := hown.shape
    have hkl1000 : ks.length ≤ 1000 := by
      rw [hks, sumsOf_len, List.length_take]
      omega
    clear hks hown hbr
    by_cases hkn : k < n
    · have f1 : (k : Int) < (n : Int) := by omega
      have f0 : (0 : Int) ≤ (k : Int) := by omega
      have ft : ((k : Int)).toNat = k := by omega
      have hsg := HS.out.below HBR.out
      have hkl : k < xs.length := by rw [hsg.1]; exact hkn
      obtain ⟨b1, o1, e1, hltb, hc1⟩ := hsg.2.2.2.2.2 (by omega)
      have hrx : wr.rangeAt b1 (o1 + k * 2) (xs.getD k noOut).cells := hc1 k hkn
      have hy1 : OutIn wr (xs.getD k noOut) := hsg.get hkn
      have hnx := sumsOf_take hkl
      rw [← HKS.out] at hnx
      revert hrx hy1 hnx
      generalize xs.getD k noOut = y
      intro hrx hy1 hnx
      have RY := Lib.hid hrx
      have SY : Hid ((Tryz.prog.info? 46).map (·.size) = some y.cells.length) := Lib.hid Tryz.sizeOut
      have HFK := Lib.hid hy1.m
      have HNX := Lib.hid hnx
      subst e1
      clear hc1 hrx hy1 hnx hkl hsg
      go_upto_region 5 with (first | (refine wpList_load_mid rfl 46 _ rfl b1 (o1 + k * 2) rfl y.cells _ RY.out Tryz.underlying46 rfl SY.out ?_) | (refine wpList_var rfl rfl 46 rfl _ _ rfl noOut.cells.toArray Tryz.zeroOut14 rfl y.cells (fun _ => rfl) (fun _ => rfl) rfl (POut.one _) ?_; intro g5 w5 hq hh hb; go_frame; have HH5 := Lib.hid hh; have HB5 := Lib.hid (bthen HBR.out hb); have HO5 := Lib.hid (HOWN.out.below hb); clear hq hh hb) | fail)
      have c0 : w5.cell? ⟨g5, 0, none⟩ = some (.int .i64 y.m) := (range_cons (range_of HH5.out)).1
      clear HH5 RY HBR HOWN
      have b6 : Below w5.heap.size w5 (w5.alloc (.cells #[.int .i64 y.m] 2)) := (Below.refl _ _).alloc (Nat.le_refl _) _
      have HO6 := Lib.hid (HO5.out.below b6)
      have HB6 := Lib.hid (bthen HB5.out b6)
      have HN1 := Lib.hid (numbers_one (heap_alloc_new w5 (.cells #[.int .i64 y.m] 2)) HFK.out)
      obtain ⟨ie, i1, hz0, hz1, hz2⟩ := info_parts (show (Tryz.prog.info? 2).map (fun i => (i.zero, i.size, i.bytes)) = some (some (.int .i64 0), 1, 8) by kernel_rfl)
      have HI := Lib.hid i1
      clear b6 i1
      go_wp2_with (at_builtin; refine wpList_append_numbers _ rfl _ _ 139 2 rfl w.heap.size ie Tryz.underlying139 HI.out hz0 hz1 hz2 (.slice va ks.length vc) ks ks.length rfl rfl HO6.out _ 1 1 [y.m] rfl HN1.out (by omega) HB6.out.size ?_; intro a8 c8 w8 ho8 hg8; have HO8 := Lib.hid ho8; have HB8 := Lib.hid (HB6.out.trans (HO6.out.grows hg8 HB6.out.size)); clear ho8 hg8)
      go_roundw
      case rel => exact ⟨k + 1, ks ++ [y.m], by omega, by go_num, HNX.out.symm, HO8.out, HB8.out⟩
      case measure => simp [intOf]; omega
    · obtain rfl : k = n := by omega
      have f1 : ¬ ((k : Int) < (k : Int)) := by omega
      have htk : xs.take k = xs := List.take_of_length_le (by rw [HS.out.1]; exact Nat.le_refl _)
      have hk2 : ks = sumsOf xs := by rw [HKS.out, htk]
      have hadd := add_any HOWN.out.numbers
      rw [hk2] at hadd
      rw [HA.out] at hadd
      have HADD := Lib.hid (show Calls Tryz.prog 73 #[.slice va (sumsOf xs).length vc] wr fun e w' => e = .returned (.tuple #[.int .i64 A1, .int .i64 A2]) ∧ Below wr.heap.size wr w' from hadd)
      subst hk2
      clear htk HKS hadd
      go_wp2_with (first | (go_at_call 73; (with_reducible refine (HADD.out).mono ?_); rintro e w9 ⟨rfl, hb⟩; have HB9 := Lib.hid (bthen HBR.out hb); clear hb) | fail)
      go_ret2
      exact ⟨rfl, HB9.out⟩
end Go.Proofs.YtnjnomebcggccaaGreatDoor
