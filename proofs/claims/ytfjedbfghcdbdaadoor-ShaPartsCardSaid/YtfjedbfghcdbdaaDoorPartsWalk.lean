/- The walk of ShaParts. -/
import Derived.Test.YtfjedbfghcdbdaaDoorEqSum
import Derived.Deep.RegionWith
import Derived.Outline
namespace Go.Proofs.YtfjedbfghcdbdaaDoor
open Go.RowKit

/-- A slice of bytes that was made just now. -/
theorem own_new {w : World} {B g n : Nat} {l : List UInt8} (hg : w.heap[g]? = some (.cells (cellsOf l).toArray 5 (0, 0))) (hB : B ≤ g) (hn : n = l.length) (hm : n ≤ 1000) : Own w B (.slice (some ⟨g, 0, none⟩) n n) l := by
  subst hn
  exact ⟨by rw [cellsOf_len, Nat.mul_one], .inr ⟨g, l.length, _, rfl, hB, hg, Nat.le_refl _, by unfold maxLen; omega, by rw [List.size_toArray, cellsOf_len, Nat.mul_one], by rw [Nat.mul_one]; exact List.take_of_length_le (by rw [List.toList_toArray, cellsOf_len]; exact Nat.le_refl _)⟩⟩
theorem below_drew {B : Nat} {w w' : World} (h : Below B w w') : Below B w w'.drew := ⟨h.os, h.tape, h.output, h.size, h.block⟩
theorem rows2_at {w : World} {g : Nat} {a1 a2 : Option Addr} {n1 c1 n2 c2 : Nat} {l1 l2 : List UInt8} {t : TypeId} {fr : Nat × Nat} (hg : w.heap[g]? = some (.cells #[.slice a1 n1 c1, .slice a2 n2 c2] t fr)) (h1 : Row w a1 n1 c1 l1) (h2 : Row w a2 n2 c2 l2) : Rows2 w (some ⟨g, 0, none⟩) 2 2 [l1, l2] := by
  refine ⟨rfl, Nat.le_refl _, by unfold maxLen; omega, (fun e => by cases e), fun _ => ⟨g, 0, rfl, lt_of_block hg, fun j hj => ?_⟩⟩
  rcases (show j = 0 ∨ j = 1 by omega) with rfl | rfl
  · exact ⟨a1, n1, c1, by rw [cell_of_row _ _ _ _ _ _ hg]; rfl, h1⟩
  · exact ⟨a2, n2, c2, by rw [cell_of_row _ _ _ _ _ _ hg]; rfl, h2⟩
theorem awake_law {w : World} (hk : KsAt w) : Calls Tryd.prog 10 #[] w fun e w' => e = .returned (.bool true) ∧ Below w.heap.size w w' := awake_any hk

set_option maxRecDepth 100000 in
set_option maxHeartbeats 1600000 in
theorem parts_out {w : World} {a : Option Addr} {n c : Nat} {l : List UInt8} (T : Nat) (at_ : Int) (h : Row w a n c l) (hk : KsAt w) (hout : at_ < 0 ∨ ((min n 200 : Nat) : Int) < at_) :
    Calls Tryd.prog 5 #[.int .u8 (T : Int), .slice a n c, .int .i64 at_] w fun e w' => e = .returned (.bool true) ∧ Below w.heap.size w w' := by
  have HK := Lib.hid hk
  have H := Lib.hid h
  obtain ⟨N, hN⟩ : ∃ N, N = min n 200 := ⟨_, rfl⟩
  rw [← hN] at hout
  have HN := Lib.hid hN
  clear h hk hN
  by_cases h0 : at_ < 0
  · go_enter Tryd.func5, Tryd.ntmps5
    go_wp2_with fail
    refine (cut_any H.out).mono ?_
    rintro e w1 ⟨rfl, hr, rfl⟩
    rw [← HN.out]
    clear hr
    go_wp2_with (go_at_call 10; refine (awake_law HK.out).mono ?_; rintro e w2 ⟨rfl, hb2⟩; have HB := Lib.hid hb2; clear hb2)
    go_ret
    exact ⟨rfl, HB.out⟩
  · have h1 : (N : Int) < at_ := by omega
    go_enter Tryd.func5, Tryd.ntmps5
    go_wp2_with fail
    refine (cut_any H.out).mono ?_
    rintro e w1 ⟨rfl, hr, rfl⟩
    rw [← HN.out]
    clear hr
    go_wp2_with (go_at_call 10; refine (awake_law HK.out).mono ?_; rintro e w2 ⟨rfl, hb2⟩; have HB := Lib.hid hb2; clear hb2)
    go_ret
    exact ⟨rfl, HB.out⟩
/-- 'b[A:]', whatever b is. -/
theorem run_from {a : Option Addr} {n c A : Nat} (hA : A ≤ n) (W : World) : (Instr.sliceAt 22 (.slice a n c) (some (.int .i64 (A : Int))) none none).run Tryd.prog W = .ok (.slice (if c = A then a else a.map (·.add A)) (n - A) (c - A)) W := by
  have hu : Tryd.prog.underlying 22 = some (.slice (Tryd.prog.elem 22)) := by kernel_rfl
  have hs : (sizeOf (Tryd.prog.elem 22)).run Tryd.prog W = .ok 1 W := by kernel_rfl
  rw [run_sliceAt_slice W _ _ _ _ _ hu, run_slice_l W _ a n c hu .i64 (A : Int) (by omega) (by omega), hs]
  simp [Result.andThen, sliced]
theorem row_from {w : World} {a : Option Addr} {n c A : Nat} {l : List UInt8} (h : Row w a n c l) (hA : A ≤ n) : Row w (if c = A then a else a.map (·.add A)) (n - A) (c - A) (l.drop A) := by
  have hnc := h.2.1
  refine h.drop hA (fun e => ?_) (fun hlt b off e => ?_)
  · split at e
    · assumption
    · have : a = none := by cases a with
        | none => rfl
        | some x => cases e
      have := h.2.2.2.1 this
      omega
  · rw [if_neg (by omega), e]
    simp [Addr.add]
theorem parts_list (tag : UInt8) (q : List UInt8) (A : Nat) (hA : A ≤ q.length) (hq : q.length ≤ 200) : (([tag, 0, 0, 0, UInt8.ofNat A] ++ q.take A) ++ [0, 0, 0, UInt8.ofNat (q.length - A)]) ++ q.drop A = partsOf tag [q.take A, q.drop A] := by
  have e : ∀ n : Nat, n ≤ 200 → four (BitVec.ofNat 32 n) = [0, 0, 0, UInt8.ofNat n] := by
    intro n hn
    have h : ∀ k : Fin 201, four (BitVec.ofNat 32 k.val) = [0, 0, 0, UInt8.ofNat k.val] := by decide +kernel
    exact h ⟨n, by omega⟩
  have l1 : (q.take A).length = A := by rw [List.length_take]; omega
  unfold partsOf partOf
  simp [l1, e A (by omega), e (q.length - A) (by omega)]
theorem tag_cells (tag : UInt8) (T A : Nat) (hT : tag.toNat = T) (hA : A < 256) : (#[.int .u8 (T : Int), .int .u8 0, .int .u8 0, .int .u8 0, .int .u8 (A : Int)] : Array Value) = (cellsOf [tag, 0, 0, 0, UInt8.ofNat A]).toArray := by
  have e : (UInt8.ofNat A).toNat = A := by rw [UInt8.toNat_ofNat']; omega
  simp [cellsOf, hT, e]
theorem len_cells (A : Nat) (hA : A < 256) : (#[.int .u8 0, .int .u8 0, .int .u8 0, .int .u8 (A : Int)] : Array Value) = (cellsOf [0, 0, 0, UInt8.ofNat A]).toArray := by
  have e : (UInt8.ofNat A).toNat = A := by rw [UInt8.toNat_ofNat']; omega
  simp [cellsOf, e]

set_option maxRecDepth 100000 in
set_option maxHeartbeats 1600000 in
theorem parts_in {w : World} {a : Option Addr} {n c : Nat} {l : List UInt8} (tag : UInt8) (T A : Nat) (hT : tag.toNat = T) (h : Row w a n c l) (hk : KsAt w) (hA : A ≤ min n 200) :
    Calls Tryd.prog 5 #[.int .u8 (T : Int), .slice a n c, .int .i64 (A : Int)] w fun e w' => e = .returned (.bool true) ∧ Below w.heap.size w w' := by
  have HK := Lib.hid hk
  have H := Lib.hid h
  have hnc := h.2.1
  have hcm : c ≤ 9223372036854775807 := by have := h.2.2.1; unfold maxLen at this; omega
  obtain ⟨N, hN⟩ : ∃ N, N = min n 200 := ⟨_, rfl⟩
  rw [← hN] at hA
  have hNc : N ≤ c := by omega
  have hN200 : N ≤ 200 := by omega
  have HN := Lib.hid hN
  have HT := Lib.hid hT
  have a0 : ¬ ((A : Int) < 0) := by omega
  have a1 : ¬ ((N : Int) < (A : Int)) := by omega
  clear h hk hN hT
  go_enter Tryd.func5, Tryd.ntmps5
  go_wp2_with fail
  refine (cut_any H.out).mono ?_
  rintro e w1 ⟨rfl, hr, rfl⟩
  rw [← HN.out] at hr ⊢
  obtain ⟨q, hq⟩ : ∃ q, q = l.take 200 := ⟨_, rfl⟩
  rw [← hq] at hr
  have HR := Lib.hid hr
  clear hr hq H
  go_upto_region 5 with (fail)
  obtain ⟨i0, hi, hz0, hz1, hz2⟩ := info_parts Tryd.info5
  have HI := Lib.hid hi
  have HAN := Lib.hid hA
  rw [tag_cells tag T A HT.out (by omega)]
  have b2 : Below w.heap.size w (w.alloc (.cells (cellsOf [tag, 0, 0, 0, UInt8.ofNat A]).toArray 5)) := (Below.refl _ _).alloc (Nat.le_refl _) _
  have o2 : Own (w.alloc (.cells (cellsOf [tag, 0, 0, 0, UInt8.ofNat A]).toArray 5)) w.heap.size (.slice (some ⟨w.heap.size, 0, none⟩) 5 5) [tag, 0, 0, 0, UInt8.ofNat A] := own_new (heap_alloc_new _ _) (Nat.le_refl _) rfl (by omega)
  revert b2 o2
  generalize (w.alloc (.cells (cellsOf [tag, 0, 0, 0, UInt8.ofNat A]).toArray 5)) = w2
  intro b2 o2
  have HB2 := Lib.hid b2
  have HO2 := Lib.hid o2
  obtain ⟨L2, hL2⟩ : ∃ L2, L2 = [tag, 0, 0, 0, UInt8.ofNat A] := ⟨_, rfl⟩
  rw [← hL2] at HO2
  have hl2 : L2.length = 5 := by rw [hL2]; rfl
  have HL2 := Lib.hid hL2
  have HLL2 := Lib.hid hl2
  have HRA := Lib.hid ((HR.out.below HB2.out).take HAN.out)
  clear b2 o2 hL2 hl2 hi
  go_upto_region 6 with (refine wpList_append_row _ rfl (.tmp 23) (.tmp 26) 22 rfl w.heap.size i0 Tryd.underlying22 HI.out hz0 hz1 hz2 (.slice (some ⟨w.heap.size, 0, none⟩) 5 5) L2 5 HLL2.out rfl HO2.out a A c (q.take A) rfl HRA.out (by omega) HB2.out.size ?_; intro a3 c3 w3 hown3 hgrow3; have HO3 := Lib.hid hown3; have HG3 := Lib.hid hgrow3; clear hown3 hgrow3)
  have b3 : Below w.heap.size w w3 := Below.grown HB2.out HG3.out HB2.out.size HO2.out.lt
  have HB3 := Lib.hid b3
  clear b3
  obtain ⟨D, hD⟩ : ∃ D, D = N - A := ⟨_, rfl⟩
  have eD : (N : Int) - (A : Int) = (D : Int) := by omega
  have hD200 : D ≤ 200 := by omega
  have HD := Lib.hid hD
  have r4 : Row (w3.alloc (.cells #[.int .u8 0, .int .u8 0, .int .u8 0, .int .u8 (D : Int)] 5)) (some ⟨w3.heap.size, 0, none⟩) 4 4 [0, 0, 0, UInt8.ofNat D] := by
    rw [len_cells D (by omega)]
    exact row_all (heap_alloc_new _ _) 4 rfl (by omega)
  have b4 : Below w3.heap.size w3 (w3.alloc (.cells #[.int .u8 0, .int .u8 0, .int .u8 0, .int .u8 (D : Int)] 5)) := (Below.refl _ _).alloc (Nat.le_refl _) _
  have HO4 := Lib.hid (HO3.out.below b4)
  have HR4 := Lib.hid r4
  have HB4 := Lib.hid (HB3.out.trans (b4.mono HB3.out.size))
  have hl3 : (L2 ++ q.take A).length = 5 + A := by rw [List.length_append, HLL2.out, HRA.out.1]
  have HL3 := Lib.hid hl3
  clear r4 b4 hD hl3
  go_upto_region 7 with (refine wpList_append_row _ rfl (.tmp 28) (.tmp 34) 22 rfl w.heap.size i0 Tryd.underlying22 HI.out hz0 hz1 hz2 (.slice a3 (5 + A) c3) (L2 ++ q.take A) (5 + A) HL3.out rfl HO4.out _ 4 4 [0, 0, 0, UInt8.ofNat D] rfl HR4.out (by omega) HB4.out.size ?_; intro a5 c5 w5 hown5 hgrow5; have HO5 := Lib.hid hown5; have HG5 := Lib.hid hgrow5; clear hown5 hgrow5)
  have b5 : Below w.heap.size w w5 := Below.grown HB4.out HG5.out HB4.out.size HO4.out.lt
  have HB5 := Lib.hid b5
  clear b5
  obtain ⟨af, haf⟩ : ∃ af, af = (if c = A then a else a.map (·.add A)) := ⟨_, rfl⟩
  have hsl : ∀ W : World, (Instr.sliceAt 22 (.slice a N c) (some (.int .i64 (A : Int))) none none).run Tryd.prog W = .ok (.slice af D (c - A)) W := fun W => by
    rw [haf, HD.out]; exact run_from HAN.out W
  have hrf : Row w af D (c - A) (q.drop A) := by rw [haf, HD.out]; exact row_from HR.out HAN.out
  have HRF := Lib.hid hrf
  have HSL := Lib.hid hsl
  have HRF5 := Lib.hid (hrf.below HB5.out)
  have hl5 : ((L2 ++ q.take A) ++ [0, 0, 0, UInt8.ofNat D]).length = 5 + A + 4 := by rw [List.length_append, HL3.out]; rfl
  have HL5 := Lib.hid hl5
  clear haf hrf hl5
  go_upto_region 8 with (refine wpList_append_row _ rfl (.tmp 36) (.tmp 39) 22 rfl w.heap.size i0 Tryd.underlying22 HI.out hz0 hz1 hz2 (.slice a5 (5 + A + 4) c5) ((L2 ++ q.take A) ++ [0, 0, 0, UInt8.ofNat D]) (5 + A + 4) HL5.out rfl HO5.out af D (c - A) (q.drop A) rfl HRF5.out (by omega) HB5.out.size ?_; intro a6 c6 w6 hown6 hgrow6; have HO6 := Lib.hid hown6; have HG6 := Lib.hid hgrow6; clear hown6 hgrow6)
  have b6 : Below w.heap.size w w6 := Below.grown HB5.out HG6.out HB5.out.size HO5.out.lt
  have hql : q.length = N := HR.out.1
  have hall : ((L2 ++ q.take A) ++ [0, 0, 0, UInt8.ofNat D]) ++ q.drop A = partsOf tag [q.take A, q.drop A] := by
    rw [HL2.out, HD.out, ← hql]
    exact parts_list tag q A (by omega) (by omega)
  have h6 := HO6.out
  rw [hall] at h6
  obtain ⟨M, hM⟩ : ∃ M, M = 5 + A + 4 + D := ⟨_, rfl⟩
  rw [← hM] at h6 ⊢
  have hMb : M ≤ 1125899906842624 := by omega
  have hrow6 := h6.row
  have HB6 := Lib.hid b6
  have HROW6 := Lib.hid hrow6
  have HPL : Hid ((partsOf tag [q.take A, q.drop A]).length ≤ 1125899906842624) := by rw [← hall, List.length_append, List.length_append, List.length_append, List.length_take, List.length_drop, HLL2.out]; show _ ≤ _; simp; omega
  have HRA0 := Lib.hid (HR.out.take HAN.out)
  clear b6 hql hall h6 hM hrow6 HO6 HG6 HO5 HG5 HL5 HRF5 HB5 HL3 HO4 HR4 HB4 HO3 HG3 HB3 HRA HLL2 HL2 HO2 HB2 hz0 hz1 hz2 HI HN
  clear hsl
  obtain ⟨C1, hC1⟩ : ∃ C, C = (cellsOf (sumOf (partsOf tag [q.take A, q.drop A]))).toArray := ⟨_, rfl⟩
  obtain ⟨C2, hC2⟩ : ∃ C, C = (cellsOf (sumOf (partsOf tag []))).toArray := ⟨_, rfl⟩
  have q1 : ∀ W : World, (Op.equalIn 10000 26 (.agg C1) (.agg C1)).run Tryd.prog W = .ok true W := fun W => by rw [hC1, run_eqSums _ _ (sumOf_len _) (sumOf_len _) W]; simp
  have q2 : ∀ W : World, (Op.equalIn 10000 26 (.agg C2) (.agg C2)).run Tryd.prog W = .ok true W := fun W => by rw [hC2, run_eqSums _ _ (sumOf_len _) (sumOf_len _) W]; simp
  have HJ : Hid (∀ (W : World) (g : Nat), Below w6.heap.size w6 W → W.heap[g]? = some (.cells #[.slice a A c, .slice af D (c - A)] 22 (0, 0)) → Calls Tryd.prog 11 #[.int .u8 (T : Int), .slice (some ⟨g, 0, none⟩) 2 2] W fun e w' => e = .returned (.agg C1) ∧ Below w6.heap.size w6 w') := Lib.hid (fun W g hb hg => by
    have b0 := HB6.out.trans (hb.mono HB6.out.size)
    refine (join_any tag T HT.out (rows2_at hg (HRA0.out.below b0) (HRF.out.below b0)) ((HK.out.below HB6.out).below hb) HPL.out).mono fun e w' ⟨h1, h2⟩ => ⟨by rw [h1, hC1], hb.trans (h2.mono hb.size)⟩)
  have HOF : Hid (∀ W : World, Below w6.heap.size w6 W → Calls Tryd.prog 8 #[.slice a6 M c6] W fun e w' => e = .returned (.agg C1) ∧ Below w6.heap.size w6 w') := Lib.hid (fun W hb => by
    refine (of_any (HROW6.out.below hb) ((HK.out.below HB6.out).below hb) hMb).mono fun e w' ⟨h1, h2⟩ => ⟨by rw [h1, hC1], hb.trans (h2.mono hb.size)⟩)
  have HJN : Hid (∀ W : World, Below w6.heap.size w6 W → Calls Tryd.prog 11 #[.int .u8 (T : Int), .slice none 0 0] W fun e w' => e = .returned (.agg C2) ∧ Below w6.heap.size w6 w' ∧ Below W.heap.size W w') := Lib.hid (fun W hb => by
    refine (join_any tag T HT.out (Rows2.nil W) ((HK.out.below HB6.out).below hb) (by simp [partsOf])).mono fun e w' ⟨h1, h2⟩ => ⟨by rw [h1, hC2], hb.trans (h2.mono hb.size), h2⟩)
  have HOT : Hid (∀ (W : World) (g : Nat), Below w6.heap.size w6 W → W.heap[g]? = some (.cells #[.int .u8 (T : Int)] 5 (0, 0)) → Calls Tryd.prog 8 #[.slice (some ⟨g, 0, none⟩) 1 1] W fun e w' => e = .returned (.agg C2) ∧ Below w6.heap.size w6 w') := Lib.hid (fun W g hb hg => by
    have hr : Row W (some ⟨g, 0, none⟩) 1 1 [tag] := row_all (t := 5) (fr := (0, 0)) (by rw [hg, ← HT.out]; rfl) 1 rfl (by omega)
    refine (of_any hr ((HK.out.below HB6.out).below hb) (by omega)).mono fun e w' ⟨h1, h2⟩ => ⟨by rw [h1, hC2]; rfl, hb.trans (h2.mono hb.size)⟩)
  have HAW : Hid (∀ W : World, Below w6.heap.size w6 W → Calls Tryd.prog 10 #[] W fun e w' => e = .returned (.bool true) ∧ Below w6.heap.size w6 w') := Lib.hid (fun W hb => by
    refine (awake_law ((HK.out.below HB6.out).below hb)).mono fun e w' ⟨h1, h2⟩ => ⟨h1, hb.trans (h2.mono hb.size)⟩)
  have hsl : ∀ W : World, (Instr.sliceAt 22 (.slice a N c) (some (.int .i64 (A : Int))) none none).run Tryd.prog W = .ok (.slice af D (c - A)) W := HSL.out
  have HC := Lib.hid (Below.refl w6.heap.size w6)
  clear hC1 hC2 HRA0 HRF HROW6 HPL HK HT HD HR
  go_region_with (first
    | (go_at_call 11; (with_reducible refine (HJ.out _ _ ?_ ?_).mono ?_); (first | exact HC.out | exact below_drew HC.out | exact HC.out.alloc HC.out.size _ | exact below_drew (HC.out.alloc HC.out.size _)); (exact heap_alloc_new _ _); rintro e w7 ⟨rfl, hb7⟩; have HC := Lib.hid hb7; clear hb7)
    | (go_at_call 8; (with_reducible refine (HOF.out _ ?_).mono ?_); (first | exact HC.out | exact below_drew HC.out | exact HC.out.alloc HC.out.size _ | exact below_drew (HC.out.alloc HC.out.size _)); rintro e w8 ⟨rfl, hb8⟩; have HC := Lib.hid hb8; clear hb8)
    | (go_at_call 11; (with_reducible refine (HJN.out _ ?_).mono ?_); (first | exact HC.out | exact below_drew HC.out | exact HC.out.alloc HC.out.size _ | exact below_drew (HC.out.alloc HC.out.size _)); rintro e w9 ⟨rfl, hb9, hd9⟩; have HC := Lib.hid hb9; have HD9 := Lib.hid hd9; clear hb9 hd9)
    | (go_at_call 8; (with_reducible refine (HOT.out _ _ ?_ ?_).mono ?_); (first | exact HC.out | exact below_drew HC.out | exact HC.out.alloc HC.out.size _ | exact below_drew (HC.out.alloc HC.out.size _)); (first | exact heap_alloc_new _ _ | exact (HD9.out.block _ (by simp)).trans (heap_alloc_new _ _)); rintro e w10 ⟨rfl, hb10⟩; have HC := Lib.hid hb10; clear hb10)
    | (go_at_call 10; (with_reducible refine (HAW.out _ ?_).mono ?_); (first | exact HC.out | exact below_drew HC.out | exact HC.out.alloc HC.out.size _ | exact below_drew (HC.out.alloc HC.out.size _)); rintro e w11 ⟨rfl, hb11⟩; have HC := Lib.hid hb11; clear hb11))
  all_goals
    go_wp2_with fail
    go_ret
    exact ⟨rfl, HB6.out.trans (HC.out.mono HB6.out.size)⟩
theorem parts_walk {w : World} {a : Option Addr} {n c : Nat} {l : List UInt8} (tag : UInt8) (T : Nat) (z : Int) (hT : tag.toNat = T) (h : Row w a n c l) (hk : KsAt w) :
    Calls Tryd.prog 5 #[.int .u8 (T : Int), .slice a n c, .int .i64 z] w fun e w' => e = .returned (.bool true) ∧ Below w.heap.size w w' := by
  by_cases h0 : z < 0 ∨ ((min n 200 : Nat) : Int) < z
  · exact parts_out T z h hk h0
  · obtain ⟨A, rfl⟩ := Int.eq_ofNat_of_zero_le (show 0 ≤ z by omega)
    exact parts_in tag T A hT h hk (by omega)
end Go.Proofs.YtfjedbfghcdbdaaDoor
