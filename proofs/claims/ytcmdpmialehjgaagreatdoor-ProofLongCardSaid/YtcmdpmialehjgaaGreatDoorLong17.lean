/- ProofLong, walked over the contracts of what it calls. -/
import Derived.Test.YtcmdpmialehjgaaGreatDoorPrfPut
import Derived.Test.YtcmdpmialehjgaaGreatDoorMemory
namespace Go.Proofs.YtcmdpmialehjgaaGreatDoor
open Go.RowKit

theorem made_zeros17 {w0 W : World} {n : Nat} (h : W.ownsRow w0.heap.size 5 1 (.slice (some ⟨w0.heap.size, 0, none⟩) n n) n (madeCells (Value.int .u8 0).cells (n * 1)).toList) (hg : w0.grownBy W none) : W.heap[w0.heap.size]? = some (.cells (cellsOf (List.replicate n 0)).toArray 5 (0, 0)) ∧ Below w0.heap.size w0 W := by
  rcases h.2 with ⟨hv, _⟩ | ⟨g, cap, cur, hv, hB, hh, h1, h2, h3, h4⟩
  · cases hv
  · cases hv
    refine ⟨?_, ⟨hg.os, hg.tape, hg.output, hg.size, fun k hk => hg.block k hk (by simp)⟩⟩
    rw [hh]
    congr 2
    apply Array.toList_inj.1
    rw [List.take_of_length_le (by rw [Array.length_toList, h3]; exact Nat.le_refl _)] at h4
    rw [h4, Nat.mul_one, show (Value.int IntKind.u8 0).cells = #[.int .u8 0] from rfl, toList_madeCells_one]
    simp [cellsOf]
theorem zeros_row17 {w : World} {g n : Nat} {t : TypeId} {fr : Nat × Nat} (hg : w.heap[g]? = some (.cells (cellsOf (List.replicate n 0)).toArray t fr)) (hm : n ≤ 1000000) : Row w (some ⟨g, 0, none⟩) n n (List.replicate n 0) :=
  row_new (by simp) (Nat.le_refl _) (by unfold maxLen; omega) _ t hg (fun j hj => cellsOf_get (by simpa using hj))
/-- The proof that has nothing but so many zeros as its Sig. -/
def longPrf (g n : Nat) : PPrf := ⟨noRec, some ⟨g, 0, none⟩, n, n, List.replicate n 0, none, 0, 0, [], zero32⟩
theorem build_long17 (g n : Nat) (w : World) : (Instr.build 28 ([(1, (.slice (some ⟨g, 0, none⟩) n n : Value))] : List (Nat × Value)).toArray).run Tryz.prog w = .ok (.agg (longPrf g n).cells.toArray) w := by kernel_rfl
theorem numB_three {n : Nat} (h1 : 65400 ≤ n) (h2 : n ≤ 65560) : (numB ((n : Nat) : Int)).length = 3 := by
  unfold numB
  rw [Int.toNat_natCast]
  have a1 : ¬ n < 128 := by omega
  have a2 : ¬ n / 128 < 128 := by omega
  have a3 : n / 128 / 128 < 128 := by omega
  rw [nb, if_neg a1, nb, if_neg a2, nb, if_pos a3]
  rfl
theorem numB_one {k : Nat} (h : k < 128) : (numB ((k : Nat) : Int)).length = 1 := by
  unfold numB
  rw [Int.toNat_natCast, nb, if_pos h]
  rfl
theorem longB_len {g n : Nat} (h1 : 65400 ≤ n) (h2 : n ≤ 65560) {k : Nat} (hk : (textB noRec).length = k) (hk2 : k < 128) : (prfB (longPrf g n)).length = 1 + k + 3 + n + 1 + 32 := by
  have e0 : (numB (((textB noRec).length : Nat) : Int)).length = 1 := by rw [hk]; exact numB_one hk2
  have e1 := numB_three h1 h2
  have e2 : (numB (((0 : Nat)) : Int)).length = 1 := rfl
  simp only [prfB, longPrf, List.length_append, List.length_replicate, List.length_nil, hk, e1]
  rw [hk] at e0
  rw [e0]
  have e3 : (zero32 : List UInt8).length = 32 := rfl
  omega
set_option linter.unusedSimpArgs false in
set_option maxRecDepth 100000 in
set_option maxHeartbeats 12800000 in
theorem long17_out {w : World} (z : Int) (h : z < 65400 ∨ 65560 < z)
    (haw : ∀ W : World, Below w.heap.size w W → Calls Tryz.prog 6 #[] W fun e w' => e = .returned (.bool true) ∧ Below W.heap.size W w') :
    Calls Tryz.prog 4 #[.int .i64 z] w fun e w' => e = .returned (.bool true) ∧ Below w.heap.size w w' := by
  have HAW := Lib.hid haw
  have HB0 := Lib.hid (Below.refl w.heap.size w)
  have hh : z < 65400 ∨ (¬ z < 65400 ∧ 65560 < z) := by omega
  clear haw h
  rcases hh with f1 | ⟨f1, f2⟩
  all_goals
    go_enter Tryz.func4, Tryz.ntmps4
    go_wp2_with (first | (go_at_call 6; (with_reducible refine (HAW.out _ HB0.out).mono ?_); rintro e wz ⟨rfl, hb⟩; have HBZ := Lib.hid (bthen HB0.out hb); clear hb) | fail)
    go_ret
    exact ⟨rfl, HBZ.out⟩
set_option linter.unusedSimpArgs false in
set_option maxRecDepth 100000 in
set_option maxHeartbeats 12800000 in
theorem long17_in {w : World} (n : Nat) (h1 : 65400 ≤ n) (h2 : n ≤ 65560)
    (haw : ∀ W : World, Below w.heap.size w W → Calls Tryz.prog 6 #[] W fun e w' => e = .returned (.bool true) ∧ Below W.heap.size W w')
    (hput : ∀ (W : World) (x : PPrf), PrfIn W x → Calls Tryz.prog 7 #[.agg x.cells.toArray] W (PutOut W x)) :
    Calls Tryz.prog 4 #[.int .i64 (n : Int)] w fun e w' => e = .returned (.bool true) ∧ Below w.heap.size w w' := by
  obtain ⟨i0, hi, hz0, hz1, hz2⟩ := info_parts Tryz.info5
  obtain ⟨k, hk⟩ : ∃ k, (textB noRec).length = k := ⟨_, rfl⟩
  have hk2 : k ≤ 91 := by rw [← hk]; exact textB_len noRec_in
  have hBL := fun g => longB_len (g := g) h1 h2 hk (by omega)
  obtain ⟨TB, hTB⟩ : ∃ b, textB noRec = b := ⟨_, rfl⟩
  have HTX : Hid (∀ W : World, Calls Tryz.prog 10 #[.agg noRec.cells.toArray] W fun e w' => ∃ (a : Option Addr) (c : Nat), e = .returned (.slice a k c) ∧ Below W.heap.size W w') := Lib.hid fun W => (text_any noRec_in).mono fun e w' ⟨a, n, c, e1, e2, _, e4⟩ => by
    have h9 := e2.1
    rw [hk] at h9
    subst h9
    exact ⟨a, c, e1, e4⟩
  have HPU : Hid (∀ (W : World) (g : Nat), W.heap[g]? = some (.cells (cellsOf (List.replicate n 0)).toArray 5 (0, 0)) → Calls Tryz.prog 7 #[.agg (longPrf g n).cells.toArray] W fun e w' => ∃ (a : Option Addr) (m c : Nat) (E : Int), e = .returned (.tuple #[.slice a m c, .int .i64 E]) ∧ (65536 < n → m = 0 ∧ E = 1) ∧ (n ≤ 65536 → 65536 < 1 + k + 3 + n + 1 + 32 → m = 0 ∧ E = 3) ∧ (n ≤ 65536 → 1 + k + 3 + n + 1 + 32 ≤ 65536 → m = 1 + k + 3 + n + 1 + 32 ∧ E = 0) ∧ Below W.heap.size W w') := Lib.hid fun W g hg => by
    refine (hput W (longPrf g n) ⟨noRec_in, zeros_row17 hg (show n ≤ 1000000 by omega), Row.nil _, rfl⟩).mono fun e w' h9 => ?_
    obtain ⟨a, m, c, e1, e2, e3⟩ := h9
    have hok : recOk (longPrf g n).r = true := noRec_ok
    refine ⟨a, m, c, _, e1, fun q => ?_, fun q1 q2 => ?_, fun q1 q2 => ?_, e3⟩
    · have hE : putE (longPrf g n) = 1 := by unfold putE; rw [decide_eq_false (show ¬ (longPrf g n).sn ≤ 65536 from by show ¬ n ≤ 65536; omega)]; simp
      rw [hE, if_neg (by decide)] at e2
      exact ⟨by have h8 := e2.1; simpa using h8.symm, hE⟩
    · have hE : putE (longPrf g n) = 3 := by unfold putE; rw [hok, decide_eq_true (show (longPrf g n).sn ≤ 65536 from q1), decide_eq_true (show (longPrf g n).bn ≤ 65536 from Nat.zero_le _), if_neg (show ¬ (prfB (longPrf g n)).length ≤ 65536 by rw [hBL g]; omega)]; rfl
      rw [hE, if_neg (by decide)] at e2
      exact ⟨by have h8 := e2.1; simpa using h8.symm, hE⟩
    · have hE : putE (longPrf g n) = 0 := by unfold putE; rw [hok, decide_eq_true (show (longPrf g n).sn ≤ 65536 from q1), decide_eq_true (show (longPrf g n).bn ≤ 65536 from Nat.zero_le _), if_pos (show (prfB (longPrf g n)).length ≤ 65536 by rw [hBL g]; omega)]; rfl
      rw [hE, if_pos rfl] at e2
      exact ⟨by have h8 := e2.1; rw [hBL g] at h8; exact h8.symm, hE⟩
  have f1 : ¬ (n : Int) < 65400 := by omega
  have f2 : ¬ 65560 < (n : Int) := by omega
  have HI := Lib.hid hi
  have HAW := Lib.hid haw
  clear hi haw hput hBL hTB hk
  go_enter Tryz.func4, Tryz.ntmps4
  go_upto_region 4 with (first | (at_make; refine wpList_make_full _ rfl _ _ 26 rfl w.heap.size 5 i0 _ 1 Tryz.underlying26 HI.out hz0 hz1 _ _ _ _ n rfl rfl rfl rfl (by rw [hz2]; omega) (by unfold maxLen; omega) (Nat.le_refl _) ?_; intro w2 hown hgrow; have HM := Lib.hid (made_zeros17 hown hgrow); clear hown hgrow) | (refine wpList_build10 rfl rfl (vs := [(1, .slice (some ⟨w.heap.size, 0, none⟩) n n)]) rfl (build_long17 w.heap.size n) ?_; go_frame) | (go_at_call 7; (with_reducible refine (HPU.out _ _ HM.out.1).mono ?_); rintro e w3 ⟨a3, m3, c3, E3, rfl, t1, t2, t3, hb⟩; have HB3 := Lib.hid (bthen HM.out.2 hb); have T1 := Lib.hid t1; have T2 := Lib.hid t2; have T3 := Lib.hid t3; clear t1 t2 t3 hb) | fail)
  go_upto_region 5 with (first | (refine wpList_build10 rfl rfl (vs := []) (by rfl) build_rec0 ?_; go_frame) | (go_at_call 10; (with_reducible refine (HTX.out _).mono ?_); rintro e w4 ⟨a4, c4, rfl, hb⟩; have HB4 := Lib.hid (bthen HB3.out hb); clear hb) | fail)
  have k63 : (k : Int) ≤ 91 := by omega
  by_cases d1 : 65536 < (n : Int)
  · obtain ⟨rfl, rfl⟩ := T1.out (by omega)
    clear T1 T2 T3
    go_wp2_with (first | (go_at_call 6; (with_reducible refine (HAW.out _ HB4.out).mono ?_); rintro e wz ⟨rfl, hb⟩; have HBZ := Lib.hid (bthen HB4.out hb); clear hb) | fail)
    go_ret
    exact ⟨rfl, HBZ.out⟩
  by_cases d2 : 65536 < 1 + (k : Int) + 3 + (n : Int) + 1 + 32
  · obtain ⟨rfl, rfl⟩ := T2.out (by omega) (by omega)
    clear T1 T2 T3
    go_wp2_with (first | (go_at_call 6; (with_reducible refine (HAW.out _ HB4.out).mono ?_); rintro e wz ⟨rfl, hb⟩; have HBZ := Lib.hid (bthen HB4.out hb); clear hb) | fail)
    go_ret
    exact ⟨rfl, HBZ.out⟩
  · obtain ⟨rfl, rfl⟩ := T3.out (by omega) (by omega)
    clear T1 T2 T3
    go_wp2_with (first | (go_at_call 6; (with_reducible refine (HAW.out _ HB4.out).mono ?_); rintro e wz ⟨rfl, hb⟩; have HBZ := Lib.hid (bthen HB4.out hb); clear hb) | fail)
    go_ret
    exact ⟨rfl, HBZ.out⟩
theorem long17_walk {w : World} (z : Int)
    (haw : ∀ W : World, Below w.heap.size w W → Calls Tryz.prog 6 #[] W fun e w' => e = .returned (.bool true) ∧ Below W.heap.size W w')
    (hput : ∀ (W : World) (x : PPrf), PrfIn W x → Calls Tryz.prog 7 #[.agg x.cells.toArray] W (PutOut W x)) :
    Calls Tryz.prog 4 #[.int .i64 z] w fun e w' => e = .returned (.bool true) ∧ Below w.heap.size w w' := by
  by_cases h : z < 65400 ∨ 65560 < z
  · exact long17_out z h haw
  · have hz : ((z.toNat : Nat) : Int) = z := by omega
    have h9 := long17_in (w := w) z.toNat (by omega) (by omega) haw hput
    rwa [hz] at h9
end Go.Proofs.YtcmdpmialehjgaaGreatDoor
