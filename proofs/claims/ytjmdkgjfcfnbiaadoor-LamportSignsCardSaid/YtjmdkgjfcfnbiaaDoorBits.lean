/- What the bits of a digest come to: bitOf, the document's own bit; a half of a signature; cut. -/
import Derived.Test.YtjmdkgjfcfnbiaaDoorAt
import Derived.Test.YtjmdkgjfcfnbiaaDoorLamp
import Derived.Test.YtjmdkgjfcfnbiaaDoorSecret
import Derived.Test.YtjmdkgjfcfnbiaaDoorLay
namespace Go.Proofs.YtjmdkgjfcfnbiaaDoor
open Go.RowKit

set_option maxRecDepth 100000 in
set_option maxHeartbeats 1600000 in
theorem bitOf_any {w : World} {d : List UInt8} (i : Nat) (hi : i < 64) (hd : d.length = 32) :
    Calls Tryd.prog 23 #[.agg (cellsOf d).toArray, .int .i64 (i : Int)] w fun e w' => e = .returned (.int .i64 ((bitAt d i : Nat) : Int)) ∧ Below w.heap.size w w' := by
  obtain ⟨q, hq⟩ : ∃ q, q = i / 8 := ⟨_, rfl⟩
  obtain ⟨r, hr⟩ : ∃ r, r = i % 8 := ⟨_, rfl⟩
  have eb : bitAt d i = (d.getD q 0).toNat / 2 ^ (7 - r) % 2 := by
    unfold bitAt
    rw [← hq, ← hr]
  rw [eb]
  have hq8 : q < 8 := by omega
  have hr8 : r < 8 := by omega
  obtain ⟨x, hx⟩ : ∃ x, x = d.getD q 0 := ⟨_, rfl⟩
  rw [← hx]
  have hc : (w.alloc (.cells (cellsOf d).toArray 23)).cell? ⟨w.heap.size, q, none⟩ = some (.int .u8 ((x.toNat : Nat) : Int)) := by
    rw [hx, cell_of_row _ _ _ _ _ _ (heap_alloc_new _ _)]
    simpa using cellsOf_get (l := d) (j := q) (by omega)
  have d1 : (i : Int) / (8 : Int) = (q : Int) := by omega
  have d2 : (i : Int) % (8 : Int) = (r : Int) := by omega
  have hx256 : x.toNat < 256 := x.toNat_lt
  obtain ⟨V, hV⟩ : ∃ V, V = x.toNat / 2 ^ (7 - r) % 2 := ⟨_, rfl⟩
  rw [← hV]
  have hN : x.toNat / 2 ^ (7 - r) < 256 := Nat.lt_of_le_of_lt (Nat.div_le_self _ _) hx256
  have ec : ((x.toNat : Nat) : Int) / (2 : Int) ^ (7 - r) = ((x.toNat / 2 ^ (7 - r) : Nat) : Int) := by rw [Int.natCast_ediv, Int.natCast_pow]; rfl
  have ev : bits .and .i64 (wrap64 (((x.toNat : Nat) : Int) / (2 : Int) ^ (7 - r))) 1 = ((V : Nat) : Int) := by
    rw [ec, hV]
    generalize x.toNat / 2 ^ (7 - r) = N at *
    rw [show wrap64 ((N : Nat) : Int) = (N : Int) by unfold wrap64; omega, bits_and_one]
    omega
  clear eb hx hd hi hq hr hN ec hV
  go_enter Tryd.func23, Tryd.ntmps23
  go_wp2_with fail
  go_ret
  exact ⟨rfl, (Below.refl _ _).alloc (Nat.le_refl _) _⟩
/-- A byte that is halved, place by place. -/
def Halving (X r : Nat) (u k : Value) : Prop := ∃ j : Nat, r + j ≤ 7 ∧ u = .int .i64 ((X / 2 ^ j : Nat) : Int) ∧ k = .int .i64 ((r + j : Nat) : Int)
theorem Halving.more {X r j : Nat} (h : r + j < 7) : Halving X r (.int .i64 (((X / 2 ^ j : Nat) : Int) / 2)) (.int .i64 (((r + j : Nat) : Int) + 1)) := by
  refine ⟨j + 1, by omega, ?_, by simp; omega⟩
  rw [Nat.pow_succ, ← Nat.div_div_eq_div_mul]
  simp
set_option maxRecDepth 100000 in
set_option maxHeartbeats 1600000 in
theorem bit_law {w : World} {a : Option Addr} {n c : Nat} {l : List UInt8} (i : Nat) (hi : i < 64) (h : Row w a n c l) (hn : n ≤ 1000000) (hk : KsAt w) :
    Calls Tryd.prog 7 #[.slice a n c, .int .i64 (i : Int)] w fun e w' => e = .returned (.int .i64 ((bitAt (digestOf l) i : Nat) : Int)) ∧ Below w.heap.size w w' := by
  obtain ⟨d, hd, hdl, hj⟩ : ∃ d, digestOf l = d ∧ d.length = 32 ∧ ∀ (W : World) (gg : Nat), Below w.heap.size w W → W.heap[gg]? = some (.cells #[.slice a n c] 24 (0, 0)) → Calls Tryd.prog 10 #[.int .u8 14, .slice (some ⟨gg, 0, none⟩) 1 1] W fun e w' => e = .returned (.agg (cellsOf d).toArray) ∧ Below W.heap.size W w' := by
    refine ⟨_, rfl, digestOf_len l, fun W gg hb hgg => join_any 14 14 rfl (rows2_one hgg (h.below hb)) (hk.below hb) ?_⟩
    have e := h.1
    unfold partsOf partOf
    simp only [List.flatMap_cons, List.flatMap_nil, List.length_cons, List.length_append, four_len, List.length_nil, e]
    omega
  rw [hd]
  obtain ⟨q, hq⟩ : ∃ q, q = i / 8 := ⟨_, rfl⟩
  obtain ⟨r, hr⟩ : ∃ r, r = i % 8 := ⟨_, rfl⟩
  have eb : bitAt d i = (d.getD q 0).toNat / 2 ^ (7 - r) % 2 := by
    unfold bitAt
    rw [← hq, ← hr]
  rw [eb]
  have hq8 : q < 8 := by omega
  have hr8 : r < 8 := by omega
  obtain ⟨x, hx⟩ : ∃ x, x = d.getD q 0 := ⟨_, rfl⟩
  rw [← hx]
  have hc : ∀ W : World, (laySum W d).cell? ⟨W.heap.size, q, none⟩ = some (.int .u8 ((x.toNat : Nat) : Int)) := fun W => by
    rw [hx, cell_of_row _ _ _ _ _ _ (laySum_heap W d)]
    simpa using cellsOf_get (l := d) (j := q) (by omega)
  have d1 : (i : Int) / (8 : Int) = (q : Int) := by omega
  have d2 : (i : Int) % (8 : Int) = (r : Int) := by omega
  have hx256 : x.toNat < 256 := x.toNat_lt
  obtain ⟨V, hV⟩ : ∃ V, V = x.toNat / 2 ^ (7 - r) % 2 := ⟨_, rfl⟩
  rw [← hV]
  have HV := Lib.hid hV
  have SZD := Lib.hid (size_of hdl)
  have HZ := Lib.hid (zero_of hdl)
  have HJ := Lib.hid hj
  have HC := Lib.hid hc
  have D1 := Lib.hid d1
  have D2 := Lib.hid d2
  clear eb hV hx hi hq hr hd hdl hj hc d1 d2 h hk hn
  go_enter Tryd.func7, Tryd.ntmps7
  go_wp2_with fail
  have b1 : Below w.heap.size w (w.alloc (.cells #[.slice a n c] 24)) := (Below.refl _ _).alloc (Nat.le_refl _) _
  refine (HJ.out _ _ b1 (heap_alloc_new _ _)).mono ?_
  rintro e w1 ⟨rfl, hb1⟩
  have HB1 := Lib.hid (b1.trans (hb1.mono b1.size))
  clear b1 hb1
  go_upto_region 2 with (refine wpList_store_row rfl 23 _ _ rfl w1.heap.size (cellsOf d).toArray rfl rfl 23 (cellsOf zero32).toArray (heap_alloc_new _ _) SZD.out HZ.out (all_oneCell_toArray (cellsOf_one d)) ?_)
  rw [← zero32_is, laySum_is]
  have hcell := HC.out w1
  have hb2 := laySum_below d HB1.out
  revert hcell hb2
  generalize laySum w1 d = w2
  generalize w1.heap.size = g
  intro hcell hb2
  have HB2 := Lib.hid hb2
  have d1 := D1.out
  have d2 := D2.out
  simp only [Act.put]
  clear hb2
  go_wp2
  have hst : Halving x.toNat r (.int .i64 ((x.toNat : Nat) : Int)) (.int .i64 ((i : Int) % 8)) := ⟨0, by omega, by simp, by rw [d2]; simp⟩
  have HST := Lib.hid hst
  clear hst
  go_loop [6, 7] (fun u k => Halving x.toNat r u k) (fun _ k => 7 - (intOf k).toNat)
  case atStart => exact HST.out
  case round =>
    obtain ⟨j, hj7, rfl, rfl⟩ := hrel
    have hmore : r + j < 7 → Halving x.toNat r (.int .i64 (((x.toNat / 2 ^ j : Nat) : Int) / 2)) (.int .i64 (((r + j : Nat) : Int) + 1)) := Halving.more
    have hlast : ¬ r + j < 7 → ((x.toNat / 2 ^ j : Nat) : Int) % 2 = (V : Int) := fun h => by rw [HV.out, show 7 - r = j by omega]; rfl
    have hN : x.toNat / 2 ^ j < 256 := Nat.lt_of_le_of_lt (Nat.div_le_self _ _) hx256
    generalize x.toNat / 2 ^ j = N at *
    obtain ⟨k, hk⟩ : ∃ k, k = r + j := ⟨_, rfl⟩
    rw [← hk] at hj7 hmore hlast ⊢
    by_cases hk7 : k < 7
    · have f1 : (k : Int) < 7 := by omega
      have HM := Lib.hid (hmore hk7)
      clear hmore hlast hk HST hcell
      go_wp2_with fail
      go_round
      case rel => exact HM.out
      case measure => simp [intOf]; omega
    · have f1 : ¬ ((k : Int) < 7) := by omega
      have HLA := Lib.hid (hlast hk7)
      clear hmore hlast hk HST hcell
      go_wp2_with fail
      go_ret
      exact ⟨by rw [← HLA.out]; rfl, HB2.out⟩
end Go.Proofs.YtjmdkgjfcfnbiaaDoor
