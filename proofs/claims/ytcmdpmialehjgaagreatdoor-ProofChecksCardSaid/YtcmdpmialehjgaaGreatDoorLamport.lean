/- Keys, signatures and what a signature leads to, plainly (chapter 4). No program is named. What the functions that tell a secret come to: Secret, and the document's own secret. What the functions that sum one part come to: Shown, Digest, and the document's own shown. What the bits of a digest come to: bitOf, the document's own bit; a half of a signature; cut. What a half of a signature, and the statements' cut, come to. Secrets that are shown, joined one behind the other. No function of the program is named. What Public comes to: the key's sum. What Sign comes to: the signature. An array of two sums: a literal of it, its rows; a sum's literal without parts; an alloc in a region. No function of the program is named. What Back comes to: the key's sum that a signature leads to, or an error. Two rows of bytes of the call's own that grow side by side; two variables made, and stored into, in a region that draws its order. No function of the program is named. -/
import Derived.Test.YtcmdpmialehjgaaGreatDoorSha
import Derived.Test.YtcmdpmialehjgaaGreatDoorMemory
import Derived.Great.FillDense
import Derived.Maps.AppendAt
namespace Go.Proofs.YtcmdpmialehjgaaGreatDoor

def shownOf (s : List UInt8) : List UInt8 := sumOf (partsOf 12 [s])
theorem shownOf_len (s : List UInt8) : (shownOf s).length = 32 := sumOf_len _
def digestOf (text : List UInt8) : List UInt8 := sumOf (partsOf 14 [text])
theorem digestOf_len (text : List UInt8) : (digestOf text).length = 32 := sumOf_len _
/-- A bit of a digest, the highest of each byte first. -/
def bitAt (d : List UInt8) (i : Nat) : Nat := (d.getD (i / 8) 0).toNat / 2 ^ (7 - i % 8) % 2
theorem bitAt_lt (d : List UInt8) (i : Nat) : bitAt d i < 2 := Nat.mod_lt _ (by omega)
/-- The n-th 32 bytes. -/
def piece (sig : List UInt8) (n : Nat) : List UInt8 := (sig.drop (n * 32)).take 32
theorem piece_len {sig : List UInt8} {n : Nat} (h : n * 32 + 32 ≤ sig.length) : (piece sig n).length = 32 := by
  unfold piece
  rw [List.length_take, List.length_drop]
  omega
def backAt (text sig : List UInt8) (i : Nat) : List UInt8 :=
  if bitAt (digestOf text) i = 0 then shownOf (piece sig (2 * i)) ++ piece sig (2 * i + 1) else piece sig (2 * i + 1) ++ shownOf (piece sig (2 * i))
def backTo (text sig : List UInt8) (n : Nat) : List UInt8 := (List.range n).flatMap (backAt text sig)
def backOf (text sig : List UInt8) : List UInt8 := sumOf (partsOf 13 [backTo text sig 64])
theorem backOf_len (text sig : List UInt8) : (backOf text sig).length = 32 := sumOf_len _
theorem flat_succ {α : Type} (f : Nat → List α) (n : Nat) : (List.range (n + 1)).flatMap f = (List.range n).flatMap f ++ f n := by
  rw [List.range_succ, List.flatMap_append]
  simp
theorem flat_len {α : Type} (f : Nat → List α) (n : Nat) (h : ∀ i, i < n → (f i).length = 64) : ((List.range n).flatMap f).length = n * 64 := by
  induction n with
  | zero => rfl
  | succ n ih =>
    rw [flat_succ, List.length_append, ih (fun i hi => h i (by omega)), h n (by omega)]
    omega
theorem backAt_len {text sig : List UInt8} {i : Nat} (h : i * 64 + 64 ≤ sig.length) : (backAt text sig i).length = 64 := by
  have h2 : (piece sig (2 * i + 1)).length = 32 := piece_len (by omega)
  have h1 : (shownOf (piece sig (2 * i))).length = 32 := shownOf_len _
  unfold backAt
  generalize shownOf (piece sig (2 * i)) = s at *
  generalize piece sig (2 * i + 1) = t at *
  split
  · rw [List.length_append, h1, h2]
  · rw [List.length_append, h1, h2]
theorem backTo_succ0 (text sig : List UInt8) (n : Nat) (h : bitAt (digestOf text) n = 0) : backTo text sig (n + 1) = (backTo text sig n ++ shownOf (piece sig (2 * n))) ++ piece sig (2 * n + 1) := by
  unfold backTo
  rw [flat_succ, List.append_assoc]
  unfold backAt
  rw [if_pos h]
theorem backTo_succ1 (text sig : List UInt8) (n : Nat) (h : ¬ bitAt (digestOf text) n = 0) : backTo text sig (n + 1) = (backTo text sig n ++ piece sig (2 * n + 1)) ++ shownOf (piece sig (2 * n)) := by
  unfold backTo
  rw [flat_succ, List.append_assoc]
  unfold backAt
  rw [if_neg h]
theorem backTo_len {text sig : List UInt8} {n : Nat} (h : n * 64 ≤ sig.length) : (backTo text sig n).length = n * 64 := flat_len _ n fun i hi => backAt_len (by omega)
theorem piece_even (sig x y : List UInt8) (i : Nat) (hx : x.length = 32) (h : (sig.drop (i * 64)).take 64 = x ++ y) : piece sig (2 * i) = x := by
  have h := congrArg (List.take 32) h
  rw [List.take_take, show min 32 64 = 32 from rfl, List.take_append_of_le_length (by omega), List.take_of_length_le (l := x) (by omega)] at h
  unfold piece
  rw [show 2 * i * 32 = i * 64 by omega]
  exact h
theorem piece_odd (sig x y : List UInt8) (i : Nat) (hx : x.length = 32) (h : (sig.drop (i * 64)).take 64 = x ++ y) : piece sig (2 * i + 1) = y := by
  have h := congrArg (List.drop 32) h
  rw [List.drop_take, List.drop_drop, List.drop_append_of_le_length (by omega), List.drop_of_length_le (l := x) (by omega), List.nil_append] at h
  unfold piece
  rw [show (2 * i + 1) * 32 = i * 64 + 32 by omega]
  exact h
end Go.Proofs.YtcmdpmialehjgaaGreatDoor
namespace Go.Proofs.YtcmdpmialehjgaaGreatDoor
open Go.RowKit

theorem bits_and_one (z : Int) : bits .and .i64 z 1 = z % 2 := by
  have e0 : (((BitVec.ofInt 64 z &&& BitVec.ofInt 64 1).toNat : Nat) : Int) = z % 2 := by
    rw [BitVec.toNat_and, show (BitVec.ofInt 64 1).toNat = 1 from rfl, Nat.and_one_is_mod, BitVec.toNat_ofInt]
    omega
  show IntKind.i64.wrap ((BitVec.ofInt 64 z &&& BitVec.ofInt 64 1).toNat : Int) = _
  rw [e0, IntKind.wrap_i64]
  omega
end Go.Proofs.YtcmdpmialehjgaaGreatDoor
namespace Go.Proofs.YtcmdpmialehjgaaGreatDoor
open Go.RowKit

set_option maxRecDepth 100000 in
set_option maxHeartbeats 1600000 in
theorem shown_any {w : World} {s : List UInt8} (hs : s.length = 32) (hk : KsAt w) : Calls Tryz.prog 83 #[.agg (cellsOf s).toArray] w fun e w' => e = .returned (.agg (cellsOf (shownOf s)).toArray) ∧ Below w.heap.size w w' := by
  have HK := Lib.hid hk
  have HS := Lib.hid hs
  clear hk hs
  go_enter Tryz.func83, Tryz.ntmps83
  go_wp2_with fail
  rw [← zero32_is]
  have b1 : Below w.heap.size w ((w.alloc (.cells (cellsOf s).toArray 23)).alloc (.cells (cellsOf zero32).toArray 23)) := ((Below.refl _ _).alloc (Nat.le_refl _) _).alloc (by simp) _
  have h1 : ((w.alloc (.cells (cellsOf s).toArray 23)).alloc (.cells (cellsOf zero32).toArray 23)).heap[w.heap.size]? = some (.cells (cellsOf s).toArray 23 (0, 0)) := by
    rw [heap_alloc_old _ _ (by simp), heap_alloc_new]
  have h2 : ((w.alloc (.cells (cellsOf s).toArray 23)).alloc (.cells (cellsOf zero32).toArray 23)).heap[w.heap.size + 1]? = some (.cells (cellsOf zero32).toArray 23 (0, 0)) := heap_alloc_at _ _ _ (by simp)
  have h3 : ((w.alloc (.cells (cellsOf s).toArray 23)).alloc (.cells (cellsOf zero32).toArray 23)).heap.size = w.heap.size + 1 + 1 := by simp
  revert b1 h1 h2 h3
  generalize ((w.alloc (.cells (cellsOf s).toArray 23)).alloc (.cells (cellsOf zero32).toArray 23)) = w3
  obtain ⟨g, hg⟩ : ∃ g, g = w.heap.size := ⟨_, rfl⟩
  rw [← hg]
  intro b1 h1 h2 h3
  rw [hg] at b1
  have HG := Lib.hid hg
  have HB1 := Lib.hid b1
  have H1 := Lib.hid h1
  have H2 := Lib.hid h2
  have H3 := Lib.hid h3
  clear b1 h1 h2 h3 hg
  have b4 : Below w3.heap.size w3 (w3.alloc (.cells #[.slice (some ⟨g, 0, none⟩) 32 32] 26)) := (Below.refl _ _).alloc (Nat.le_refl _) _
  have r1 : Row (w3.alloc (.cells #[.slice (some ⟨g, 0, none⟩) 32 32] 26)) (some ⟨g, 0, none⟩) 32 32 s := row_all ((b4.block _ (lt_of_block H1.out)).trans H1.out) 32 HS.out.symm (by omega)
  have hlen : (partsOf 12 [s]).length ≤ 1125899906842624 := by
    unfold partsOf partOf
    simp only [List.flatMap_cons, List.flatMap_nil, List.length_cons, List.length_append, four_len, List.length_nil, HS.out]
    omega
  refine (join_any 12 12 rfl (rows2_one (heap_alloc_at _ _ _ H3.out) r1) ((HK.out.below HB1.out).below b4) hlen).mono ?_
  rintro e w5 ⟨rfl, hb5⟩
  have hb6 := b4.trans (hb5.mono b4.size)
  have HB6 := Lib.hid hb6
  have HT1 := Lib.hid ((hb6.block _ (lt_of_block H2.out)).trans H2.out)
  clear b4 r1 hlen hb5 hb6
  go_wp2_with (refine wpList_store_row rfl 23 _ _ rfl (g + 1) (cellsOf (sumOf (partsOf 12 [s]))).toArray rfl rfl 23 (cellsOf zero32).toArray HT1.out (sum_size' _) (by rw [sum_size]; rfl) (sum_all _) ?_)
  refine bodyPost_ret (results_cell_row rfl _ _ (g + 1) 23 (cellsOf (sumOf (partsOf 12 [s]))).toArray (0, 0) _ rfl (setRow_heap w5 (g + 1) _ _ 23 _ HT1.out) Tryz.underlying23 rfl (sum_size' _)) rfl ⟨rfl, ?_⟩
  have b7 : Below w.heap.size w w5 := HB1.out.trans (HB6.out.mono HB1.out.size)
  exact b7.trans (((but_setRow _ (g + 1) _).mono b7.size).below (by rw [HG.out]; omega))
set_option maxRecDepth 100000 in
set_option maxHeartbeats 1600000 in
theorem digest_any {w : World} {a : Option Addr} {n c : Nat} {l : List UInt8} (h : Row w a n c l) (hn : n ≤ 1000000) (hk : KsAt w) : Calls Tryz.prog 81 #[.slice a n c] w fun e w' => e = .returned (.agg (cellsOf (digestOf l)).toArray) ∧ Below w.heap.size w w' := by
  have HK := Lib.hid hk
  have H := Lib.hid h
  have HN := Lib.hid hn
  clear hk h hn
  go_enter Tryz.func81, Tryz.ntmps81
  go_wp2_with fail
  rw [← zero32_is]
  have b1 : Below w.heap.size w (w.alloc (.cells (cellsOf zero32).toArray 23)) := (Below.refl _ _).alloc (Nat.le_refl _) _
  have h2 : (w.alloc (.cells (cellsOf zero32).toArray 23)).heap[w.heap.size]? = some (.cells (cellsOf zero32).toArray 23 (0, 0)) := heap_alloc_new _ _
  have h3 : (w.alloc (.cells (cellsOf zero32).toArray 23)).heap.size = w.heap.size + 1 := by simp
  revert b1 h2 h3
  generalize (w.alloc (.cells (cellsOf zero32).toArray 23)) = w3
  obtain ⟨g, hg⟩ : ∃ g, g = w.heap.size := ⟨_, rfl⟩
  rw [← hg]
  intro b1 h2 h3
  rw [hg] at b1
  have HG := Lib.hid hg
  have HB1 := Lib.hid b1
  have H2 := Lib.hid h2
  have H3 := Lib.hid h3
  clear b1 h2 h3 hg
  have b4 : Below w3.heap.size w3 (w3.alloc (.cells #[.slice a n c] 26)) := (Below.refl _ _).alloc (Nat.le_refl _) _
  have r1 : Row (w3.alloc (.cells #[.slice a n c] 26)) a n c l := (H.out.below HB1.out).below b4
  have hlen : (partsOf 14 [l]).length ≤ 1125899906842624 := by
    have e := H.out.1
    have e2 := HN.out
    unfold partsOf partOf
    simp only [List.flatMap_cons, List.flatMap_nil, List.length_cons, List.length_append, four_len, List.length_nil, e]
    omega
  refine (join_any 14 14 rfl (rows2_one (heap_alloc_at _ _ _ H3.out) r1) ((HK.out.below HB1.out).below b4) hlen).mono ?_
  rintro e w5 ⟨rfl, hb5⟩
  have hb6 := b4.trans (hb5.mono b4.size)
  have HB6 := Lib.hid hb6
  have HT1 := Lib.hid ((hb6.block _ (lt_of_block H2.out)).trans H2.out)
  clear b4 r1 hlen hb5 hb6
  go_wp2_with (refine wpList_store_row rfl 23 _ _ rfl g (cellsOf (sumOf (partsOf 14 [l]))).toArray rfl rfl 23 (cellsOf zero32).toArray HT1.out (sum_size' _) (by rw [sum_size]; rfl) (sum_all _) ?_)
  refine bodyPost_ret (results_cell_row rfl _ _ g 23 (cellsOf (sumOf (partsOf 14 [l]))).toArray (0, 0) _ rfl (setRow_heap w5 g _ _ 23 _ HT1.out) Tryz.underlying23 rfl (sum_size' _)) rfl ⟨rfl, ?_⟩
  have b7 : Below w.heap.size w w5 := HB1.out.trans (HB6.out.mono HB1.out.size)
  exact b7.trans (((but_setRow _ g _).mono b7.size).below (by rw [HG.out]; omega))
end Go.Proofs.YtcmdpmialehjgaaGreatDoor
namespace Go.Proofs.YtcmdpmialehjgaaGreatDoor
open Go.RowKit

set_option maxRecDepth 100000 in
set_option maxHeartbeats 1600000 in
theorem bitOf_any {w : World} {d : List UInt8} (i : Nat) (hi : i < 64) (hd : d.length = 32) :
    Calls Tryz.prog 84 #[.agg (cellsOf d).toArray, .int .i64 (i : Int)] w fun e w' => e = .returned (.int .i64 ((bitAt d i : Nat) : Int)) ∧ Below w.heap.size w w' := by
  obtain ⟨q, hq⟩ : ∃ q, q = i / 8 := ⟨_, rfl⟩
  obtain ⟨r, hr⟩ : ∃ r, r = i % 8 := ⟨_, rfl⟩
  have eb : bitAt d i = (d.getD q 0).toNat / 2 ^ (7 - r) % 2 := by
    unfold bitAt
    rw [← hq, ← hr]
  rw [eb]
  have hq8 : q < 8 := by omega
  have hr8 : r < 8 := by omega
  obtain ⟨x, hx⟩ : ∃ x, x = d.getD q 0 := ⟨_, rfl⟩
  rw [← hx]
  have hc : (w.alloc (.cells (cellsOf d).toArray 23)).cell? ⟨w.heap.size, q, none⟩ = some (.int .u8 ((x.toNat : Nat) : Int)) := by
    rw [hx, cell_of_row _ _ _ _ _ _ (heap_alloc_new _ _)]
    simpa using cellsOf_get (l := d) (j := q) (by omega)
  have d1 : (i : Int) / (8 : Int) = (q : Int) := by omega
  have d2 : (i : Int) % (8 : Int) = (r : Int) := by omega
  have hx256 : x.toNat < 256 := x.toNat_lt
  obtain ⟨V, hV⟩ : ∃ V, V = x.toNat / 2 ^ (7 - r) % 2 := ⟨_, rfl⟩
  rw [← hV]
  have hN : x.toNat / 2 ^ (7 - r) < 256 := Nat.lt_of_le_of_lt (Nat.div_le_self _ _) hx256
  have ec : ((x.toNat : Nat) : Int) / (2 : Int) ^ (7 - r) = ((x.toNat / 2 ^ (7 - r) : Nat) : Int) := by rw [Int.natCast_ediv, Int.natCast_pow]; rfl
  have ev : bits .and .i64 (wrap64 (((x.toNat : Nat) : Int) / (2 : Int) ^ (7 - r))) 1 = ((V : Nat) : Int) := by
    rw [ec, hV]
    generalize x.toNat / 2 ^ (7 - r) = N at *
    rw [show wrap64 ((N : Nat) : Int) = (N : Int) by unfold wrap64; omega, bits_and_one]
    omega
  clear eb hx hd hi hq hr hN ec hV
  go_enter Tryz.func84, Tryz.ntmps84
  go_wp2_with fail
  go_ret
  exact ⟨rfl, (Below.refl _ _).alloc (Nat.le_refl _) _⟩
end Go.Proofs.YtcmdpmialehjgaaGreatDoor
namespace Go.Proofs.YtcmdpmialehjgaaGreatDoor
open Go.RowKit
set_option maxRecDepth 100000 in
set_option maxHeartbeats 1600000 in
theorem half_any {w : World} {a : Option Addr} {m c : Nat} {l : List UInt8} (n : Nat) (hn : n * 32 + 32 ≤ m) (hm : m ≤ 1000000) (h : Row w a m c l) :
    Calls Tryz.prog 82 #[.slice a m c, .int .i64 (n : Int)] w fun e w' => e = .returned (.agg (cellsOf (piece l n)).toArray) ∧ Below w.heap.size w w' := by
  obtain ⟨b, off, rfl, hlt, hc⟩ := h.2.2.2.2 (by omega)
  have hl := h.1
  have hmc := h.2.1
  obtain ⟨s, hs, hsl, hsr⟩ : ∃ s, piece l n = s ∧ s.length = 32 ∧ w.rangeAt b (off + n * 32) (cellsOf s) := by
    refine ⟨_, rfl, piece_len (by omega), fun j v hj => ?_⟩
    have hlen : (piece l n).length = 32 := piece_len (by omega)
    have hj32 : j < 32 := by
      have := (List.getElem?_eq_some_iff.1 hj).1
      rw [cellsOf_len, hlen] at this
      exact this
    rw [Nat.add_assoc, hc (n * 32 + j) (by omega), ← hj, cellsOf_get (by omega)]
    unfold piece
    simp [List.getD, hj32]
  rw [hs]
  have h1 : (n : Int) * 32 ≤ (m : Int) := by omega
  have h2 : ((n : Int) + 1) * 32 ≤ (m : Int) := by omega
  have SZ := Lib.hid (size_of hsl)
  have HZ := Lib.hid (zero_of hsl)
  have HR := Lib.hid hsr
  have q : ∀ W : World, (Instr.arrayAt 23 (.slice (some ⟨b, off + n * 32, none⟩) ((n + 1) * 32 - n * 32) (c - n * 32))).run Tryz.prog W = .ok (.pointer (some ⟨b, off + n * 32, none⟩)) W := fun W => by
    have e : (n + 1) * 32 - n * 32 = 32 := by rw [Nat.add_mul]; omega
    simp [Instr.arrayAt, run_underlying Tryz.underlying23, e]
  clear hs hsl hsr hc h hl
  go_enter Tryz.func82, Tryz.ntmps82
  go_wp2_with (first | (refine wpList_load_mid rfl 23 _ rfl b (off + n * 32) rfl (cellsOf s) _ (rangeAt_below HR.out hlt ((Below.refl _ _).alloc (Nat.le_refl _) _)) Tryz.underlying23 rfl (by simpa using SZ.out) ?_) | (refine wpList_store_row rfl 23 _ _ rfl w.heap.size (cellsOf s).toArray rfl rfl 23 (cellsOf zero32).toArray (heap_alloc_new _ _) SZ.out HZ.out (all_oneCell_toArray (cellsOf_one s)) ?_) | fail)
  rw [← zero32_is, laySum_is]
  have h5 := laySum_heap w s
  have b5 := laySum_self w s
  revert h5 b5
  generalize laySum w s = w2
  intro h5 b5
  exact bodyPost_ret (results_cell_row rfl _ _ w.heap.size 23 (cellsOf s).toArray (0, 0) _ rfl h5 Tryz.underlying23 rfl SZ.out) rfl ⟨rfl, b5⟩
end Go.Proofs.YtcmdpmialehjgaaGreatDoor
namespace Go.Proofs.YtcmdpmialehjgaaGreatDoor
open Go.RowKit

end Go.Proofs.YtcmdpmialehjgaaGreatDoor
namespace Go.Proofs.YtcmdpmialehjgaaGreatDoor
open Go.RowKit

end Go.Proofs.YtcmdpmialehjgaaGreatDoor
namespace Go.Proofs.YtcmdpmialehjgaaGreatDoor
open Go.RowKit

end Go.Proofs.YtcmdpmialehjgaaGreatDoor
namespace Go.Proofs.YtcmdpmialehjgaaGreatDoor
open Go.RowKit

def zeros2 : List UInt8 := List.replicate 64 0
theorem Tryz.zeroSum : (Tryz.prog.info? 23).map (fun i => (i.zero, i.size, i.bytes)) = some (some (.agg (cellsOf zero32).toArray), 32, 32) := by kernel_rfl
theorem Tryz.zeroTwo : (Tryz.prog.info? 156).map (fun i => (i.zero, i.size, i.bytes)) = some (some (.agg (cellsOf zeros2).toArray), 64, 64) := by kernel_rfl
theorem Tryz.sizeTwo : (Tryz.prog.info? 156).map (·.size) = some 64 := by kernel_rfl
set_option maxRecDepth 100000 in
theorem run_two (s t : List UInt8) (hs : s.length = 32) (ht : t.length = 32) (w : World) : (Instr.build 156 #[(0, .agg (cellsOf s).toArray), (1, .agg (cellsOf t).toArray)]).run Tryz.prog w = .ok (.agg (cellsOf (s ++ t)).toArray) w := by
  obtain ⟨ie, h1, h2, h3, _⟩ := info_parts Tryz.zeroTwo
  obtain ⟨je, k1, k2, k3, _⟩ := info_parts Tryz.zeroSum
  have hf : Instr.fill (fun i => some (i * 32, 32)) (cellsOf zeros2).toArray [(0, .agg (cellsOf s).toArray), (1, .agg (cellsOf t).toArray)] = some (cellsOf (s ++ t)).toArray := by
    obtain ⟨r, h1, h2, h3⟩ := Great.fill_dense (s := 32) (by omega) [Value.agg (cellsOf s).toArray, Value.agg (cellsOf t).toArray] 0 (cellsOf zeros2).toArray (fun v hv => by
      rcases List.mem_cons.1 hv with rfl | hv
      · show (cellsOf s).toArray.size = 32
        rw [List.size_toArray, cellsOf_len, hs]
      · rcases List.mem_cons.1 hv with rfl | hv
        · show (cellsOf t).toArray.size = 32
          rw [List.size_toArray, cellsOf_len, ht]
        · cases hv) (by rw [List.size_toArray, cellsOf_len, show zeros2.length = 64 from rfl]; exact Nat.le_refl 64)
    refine Eq.trans h1 ?_
    congr 1
    apply Array.ext_getElem?
    intro k
    have hz : (cellsOf zeros2).toArray.size = 64 := by rw [List.size_toArray, cellsOf_len]; rfl
    rw [h3 k, cellsOf_append, show (cellsOf s ++ cellsOf t).toArray[k]? = (cellsOf s ++ cellsOf t)[k]? by simp]
    have ls : (cellsOf s).length = 32 := by rw [cellsOf_len, hs]
    have lt : (cellsOf t).length = 32 := by rw [cellsOf_len, ht]
    by_cases hk : k < 32
    · rw [if_pos (by simp; omega), List.getElem?_append_left (by omega)]
      rw [show k / 32 = 0 by omega, show k % 32 = k by omega]
      simp [Value.cells]
    · by_cases hk2 : k < 64
      · rw [if_pos (by simp; omega), List.getElem?_append_right (by omega), ls]
        rw [show k / 32 = 1 by omega, show k % 32 = k - 32 by omega]
        simp [Value.cells]
      · rw [if_neg (by simp; omega), Array.getElem?_eq_none (by omega), List.getElem?_eq_none (by rw [List.length_append]; omega)]
  simp [Instr.build, run_underlying Tryz.underlying156, sizeOf, typeInfo, zeroValue, h1, h2, k1, k3, Value.cells, hf]
/-- The literal, taken first. -/
theorem yields_two {ops : Array Oper} {S : World → Prop} {op : Oper} {a : Act} {x y : Operand} {s t : List UInt8} (hw : Region.wanted op (yielded ops a.tmps) = true) (ho : op.op = .build 156 #[(0, x), (1, y)]) (hx : a.eval x = .agg (cellsOf s).toArray) (hy : a.eval y = .agg (cellsOf t).toArray) (hs : s.length = 32) (ht : t.length = 32) :
    YieldsIf Tryz.prog ops S op (.agg (cellsOf (s ++ t)).toArray) a :=
  .inl ⟨hw, fun w _ => by
    have h := run_two s t hs ht w
    unfold execOp
    simp only [ho, List.map_toArray, List.map_cons, List.map_nil, hx, hy, Sem.run_bind, h, Result.andThen_ok, Sem.run_pure]⟩
/-- A new variable, in a region. -/
theorem step_alloc_at {ops : Array Oper} {o : Oper} {tmps : Array Value} {ds : List Deferred} {w : World} {K : Act → World → Prop} {Q : Exit → Act → World → Prop} {E : Prop} {d : Nat} (hd : o.dst = some d) (hw : Region.wanted o (yielded ops tmps) = true) (ty : TypeId) (ho : o.op = .alloc ty) (l : List UInt8)
    {sz by' : Nat} (hi : (Tryz.prog.info? ty).map (fun i => (i.zero, i.size, i.bytes)) = some (some (.agg (cellsOf l).toArray), sz, by'))
    (h : K { tmps := tmps.setIfInBounds d (.pointer (some ⟨w.heap.size, 0, none⟩)), defers := ds } (w.alloc (.cells (cellsOf l).toArray ty))) :
    if Region.wanted o (yielded ops tmps) = true then Oper.wp Tryz.prog o { tmps := tmps, defers := ds } w K Q else E := by
  rw [if_pos hw]
  obtain ⟨ie, h1, h2, h3, _⟩ := info_parts hi
  have hrun : (Instr.alloc ty true (.tuple #[])).run Tryz.prog w = .ok (.pointer (some ⟨w.heap.size, 0, none⟩)) (w.alloc (.cells (cellsOf l).toArray ty)) := by
    simp [Instr.alloc, zeroValue, typeInfo, h1, h2, newVar, newRow, Value.cells]
  unfold Oper.wp execOp
  simp only [ho, Sem.run_bind, hrun, Sem.run_pure, Result.andThen_ok]
  show K (Act.put _ o.dst _) _
  rw [hd]
  exact h
/-- A world with two sums more, both variables made ahead of both stores. -/
def layTwo (w : World) (d e : List UInt8) : World := (((w.alloc (.cells (cellsOf zero32).toArray 23)).alloc (.cells (cellsOf zero32).toArray 23)).setRow w.heap.size (cellsOf d).toArray).setRow (w.heap.size + 1) (cellsOf e).toArray
theorem layTwo_is (w : World) (d e : List UInt8) : (((w.alloc (.cells (cellsOf zero32).toArray 23)).alloc (.cells (cellsOf zero32).toArray 23)).setRow w.heap.size (cellsOf d).toArray).setRow (w.heap.size + 1) (cellsOf e).toArray = layTwo w d e := rfl
theorem two_first (w : World) : ((w.alloc (.cells (cellsOf zero32).toArray 23)).alloc (.cells (cellsOf zero32).toArray 23)).heap[w.heap.size]? = some (.cells (cellsOf zero32).toArray 23 (0, 0)) := by
  rw [heap_alloc_old _ _ (by simp), heap_alloc_new]
theorem two_next (w : World) (d : List UInt8) : (((w.alloc (.cells (cellsOf zero32).toArray 23)).alloc (.cells (cellsOf zero32).toArray 23)).setRow w.heap.size (cellsOf d).toArray).heap[w.heap.size + 1]? = some (.cells (cellsOf zero32).toArray 23 (0, 0)) := by
  rw [setRow_other _ _ _ _ (by omega)]
  exact heap_alloc_at _ _ _ (by simp)
theorem layTwo_first (w : World) (d e : List UInt8) : (layTwo w d e).heap[w.heap.size]? = some (.cells (cellsOf d).toArray 23 (0, 0)) := by
  unfold layTwo
  rw [setRow_other _ _ _ _ (by omega)]
  exact setRow_heap _ _ _ _ _ _ (two_first w)
theorem layTwo_next (w : World) (d e : List UInt8) : (layTwo w d e).heap[w.heap.size + 1]? = some (.cells (cellsOf e).toArray 23 (0, 0)) := setRow_heap _ _ _ _ _ _ (two_next w d)
theorem layTwo_self (w : World) (d e : List UInt8) : Below w.heap.size w (layTwo w d e) := by
  have b1 : Below w.heap.size w ((w.alloc (.cells (cellsOf zero32).toArray 23)).alloc (.cells (cellsOf zero32).toArray 23)) := ((Below.refl _ _).alloc (Nat.le_refl _) _).alloc (by simp) _
  have b2 := b1.trans (((but_setRow _ w.heap.size (cellsOf d).toArray).mono b1.size).below (Nat.le_refl _))
  exact b2.trans (((but_setRow _ (w.heap.size + 1) (cellsOf e).toArray).mono b2.size).below (by omega))
/-- One of two sums. -/
theorem two_row {w : World} {p b n : Nat} {s t : List UInt8} {ty : TypeId} {fr : Nat × Nat} (h : w.heap[p]? = some (.cells (cellsOf (s ++ t)).toArray ty fr)) (hs : s.length = 32) (ht : t.length = 32) (hb : b < 2) (hn : n = 32) : Row w (some ⟨p, b * 32, none⟩) n n (piece (s ++ t) b) := by
  subst hn
  have hl : (s ++ t).length = 64 := by rw [List.length_append, hs, ht]
  have hp : (piece (s ++ t) b).length = 32 := piece_len (by omega)
  refine ⟨hp, Nat.le_refl _, by unfold maxLen; omega, (fun e => by cases e), fun _ => ⟨p, b * 32, rfl, lt_of_block h, fun j hj => ?_⟩⟩
  rw [cell_of_row _ _ _ _ _ _ h]
  have e := cellsOf_get (l := s ++ t) (j := b * 32 + j) (by omega)
  simp only [List.getElem?_toArray]
  rw [e]
  unfold piece
  simp [List.getD, hj]
end Go.Proofs.YtcmdpmialehjgaaGreatDoor
namespace Go.Proofs.YtcmdpmialehjgaaGreatDoor
open Go.RowKit

set_option linter.unusedSimpArgs false in
set_option maxRecDepth 100000 in
set_option maxHeartbeats 3200000 in
theorem back_out {w : World} {a b : Option Addr} {n c m k : Nat} (hm : m ≠ 4096) :
    Calls Tryz.prog 56 #[.slice a n c, .slice b m k] w fun e w' => e = .returned (.tuple #[.agg (cellsOf zero32).toArray, .int .i64 11]) ∧ Below w.heap.size w w' := by
  have f1 : ¬ ((m : Int) = 4096) := by omega
  have SZ := Lib.hid (size_of (d := zero32) rfl)
  have HZ := Lib.hid (zero_of (d := zero32) rfl)
  clear hm
  go_enter Tryz.func56, Tryz.ntmps56
  go_upto_region 2 with (fail)
  rw [← zero32_is]
  have b1 : Below w.heap.size w (w.alloc (.cells (cellsOf zero32).toArray 23)) := (Below.refl _ _).alloc (Nat.le_refl _) _
  have h1 : (w.alloc (.cells (cellsOf zero32).toArray 23)).heap[w.heap.size]? = some (.cells (cellsOf zero32).toArray 23 (0, 0)) := heap_alloc_new _ _
  revert b1 h1
  generalize (w.alloc (.cells (cellsOf zero32).toArray 23)) = w1
  obtain ⟨g, hg⟩ : ∃ g, g = w.heap.size := ⟨_, rfl⟩
  rw [← hg]
  intro b1 h1
  rw [hg] at b1
  have HB1 := Lib.hid b1
  have H1 := Lib.hid h1
  have HG := Lib.hid hg
  clear b1 h1 hg
  go_wp2_with (refine wpList_store_row rfl 23 _ _ rfl g (cellsOf zero32).toArray rfl rfl 23 (cellsOf zero32).toArray H1.out SZ.out HZ.out (all_oneCell_toArray (cellsOf_one zero32)) ?_)
  refine bodyPost_ret (results_cell_then rfl _ _ g 23 (cellsOf zero32).toArray (0, 0) _ (.int .i64 11) rfl rfl (setRow_heap w1 g _ _ 23 _ H1.out) Tryz.underlying23 rfl SZ.out) rfl ⟨rfl, ?_⟩
  exact HB1.out.trans (((but_setRow _ g _).mono HB1.out.size).below (by rw [HG.out]; omega))

set_option linter.unusedSimpArgs false in
set_option maxRecDepth 100000 in
set_option maxHeartbeats 6400000 in
theorem back_in {w : World} {a b : Option Addr} {n c k : Nat} {l sig : List UInt8} (h : Row w a n c l) (hn : n ≤ 1000000) (hsig : Row w b 4096 k sig) (hk : KsAt w) :
    Calls Tryz.prog 56 #[.slice a n c, .slice b 4096 k] w fun e w' => e = .returned (.tuple #[.agg (cellsOf (backOf l sig)).toArray, .int .i64 0]) ∧ Below w.heap.size w w' := by
  obtain ⟨i0, hi, hz0, hz1, hz2⟩ := info_parts Tryz.bytes3
  have HI := Lib.hid hi
  have hsl : sig.length = 4096 := hsig.1
  obtain ⟨d, hd, hdl, hdig⟩ : ∃ d, digestOf l = d ∧ d.length = 32 ∧ ∀ W : World, Row W a n c l → KsAt W → Calls Tryz.prog 81 #[.slice a n c] W fun e w' => e = .returned (.agg (cellsOf d).toArray) ∧ Below W.heap.size W w' :=
    ⟨_, rfl, digestOf_len l, fun W hr hW => digest_any hr hn hW⟩
  have hstep : ∀ j : Nat, j < 64 → ∃ (t t' : Nat) (z o s u v : List UInt8), (1 : Int) - (t : Int) = (t' : Int) ∧ t < 2 ∧ t' < 2 ∧ z.length = 32 ∧ o.length = 32 ∧ s.length = 32 ∧ piece (s ++ o) t = u ∧ piece (s ++ o) t' = v ∧ backTo l sig (j + 1) = (backTo l sig j ++ u) ++ v ∧
      (∀ W : World, Row W b 4096 k sig → Calls Tryz.prog 82 #[.slice b 4096 k, .int .i64 (2 * (j : Int))] W fun e w' => e = .returned (.agg (cellsOf z).toArray) ∧ Below W.heap.size W w') ∧
      (∀ W : World, Row W b 4096 k sig → Calls Tryz.prog 82 #[.slice b 4096 k, .int .i64 (2 * (j : Int) + 1)] W fun e w' => e = .returned (.agg (cellsOf o).toArray) ∧ Below W.heap.size W w') ∧
      (∀ W : World, KsAt W → Calls Tryz.prog 83 #[.agg (cellsOf z).toArray] W fun e w' => e = .returned (.agg (cellsOf s).toArray) ∧ Below W.heap.size W w') ∧
      (∀ W : World, Calls Tryz.prog 84 #[.agg (cellsOf d).toArray, .int .i64 (j : Int)] W fun e w' => e = .returned (.int .i64 (t : Int)) ∧ Below W.heap.size W w') := fun j hj => by
    have ho : (piece sig (2 * j + 1)).length = 32 := piece_len (by omega)
    have hz : (piece sig (2 * j)).length = 32 := piece_len (by omega)
    have h0 : ∀ s o : List UInt8, s.length = 32 → o.length = 32 → piece (s ++ o) 0 = s := fun s o hs ho => piece_even (s ++ o) s o 0 hs (by rw [Nat.zero_mul, List.drop_zero]; exact List.take_of_length_le (by rw [List.length_append]; omega))
    have h1 : ∀ s o : List UInt8, s.length = 32 → o.length = 32 → piece (s ++ o) 1 = o := fun s o hs ho => piece_odd (s ++ o) s o 0 hs (by rw [Nat.zero_mul, List.drop_zero]; exact List.take_of_length_le (by rw [List.length_append]; omega))
    have c1 : ∀ W : World, Row W b 4096 k sig → Calls Tryz.prog 82 #[.slice b 4096 k, .int .i64 (2 * (j : Int))] W fun e w' => e = .returned (.agg (cellsOf (piece sig (2 * j))).toArray) ∧ Below W.heap.size W w' := fun W hW => by
      have h := half_any (2 * j) (by omega) (by omega) hW
      rw [show ((2 * j : Nat) : Int) = 2 * (j : Int) by omega] at h
      exact h
    have c2 : ∀ W : World, Row W b 4096 k sig → Calls Tryz.prog 82 #[.slice b 4096 k, .int .i64 (2 * (j : Int) + 1)] W fun e w' => e = .returned (.agg (cellsOf (piece sig (2 * j + 1))).toArray) ∧ Below W.heap.size W w' := fun W hW => by
      have h := half_any (2 * j + 1) (by omega) (by omega) hW
      rw [show ((2 * j + 1 : Nat) : Int) = 2 * (j : Int) + 1 by omega] at h
      exact h
    have hb := bitAt_lt (digestOf l) j
    have cb : ∀ W : World, Calls Tryz.prog 84 #[.agg (cellsOf d).toArray, .int .i64 (j : Int)] W fun e w' => e = .returned (.int .i64 ((bitAt (digestOf l) j : Nat) : Int)) ∧ Below W.heap.size W w' := fun W => by rw [hd]; exact bitOf_any j hj hdl
    have s0 := backTo_succ0 l sig j
    have s1 := backTo_succ1 l sig j
    generalize bitAt (digestOf l) j = t at *
    rcases (show t = 0 ∨ t = 1 by omega) with rfl | rfl
    · exact ⟨0, 1, _, _, shownOf (piece sig (2 * j)), _, _, rfl, by omega, by omega, hz, ho, shownOf_len _, h0 _ _ (shownOf_len _) ho, h1 _ _ (shownOf_len _) ho, s0 rfl, c1, c2, fun W hW => shown_any hz hW, cb⟩
    · exact ⟨1, 0, _, _, shownOf (piece sig (2 * j)), _, _, rfl, by omega, by omega, hz, ho, shownOf_len _, h1 _ _ (shownOf_len _) ho, h0 _ _ (shownOf_len _) ho, s1 (by omega), c1, c2, fun W hW => shown_any hz hW, cb⟩
  have hlen : ∀ j : Nat, j ≤ 64 → (backTo l sig j).length = j * 64 := fun j hj => backTo_len (by omega)
  obtain ⟨key, hkey, hkl, hjoin⟩ : ∃ key, backOf l sig = key ∧ key.length = 32 ∧ ∀ (W : World) (a : Option Addr) (c gg : Nat), Row W a 4096 c (backTo l sig 64) → KsAt W → W.heap[gg]? = some (.cells #[.slice a 4096 c] 26 (0, 0)) → Calls Tryz.prog 43 #[.int .u8 13, .slice (some ⟨gg, 0, none⟩) 1 1] W fun e w' => e = .returned (.agg (cellsOf key).toArray) ∧ Below W.heap.size W w' := by
    refine ⟨_, rfl, backOf_len l sig, fun W a c gg hr hW hg => join_any 13 13 rfl (rows2_one hg hr) hW ?_⟩
    have e : (backTo l sig 64).length = 4096 := hlen 64 (by omega)
    unfold partsOf partOf
    simp only [List.flatMap_cons, List.flatMap_nil, List.length_cons, List.length_append, four_len, List.length_nil, e]
    omega
  rw [hkey]
  have SZD := Lib.hid (size_of hdl)
  have HZD := Lib.hid (zero_of hdl)
  have SZK := Lib.hid (size_of hkl)
  have HZK := Lib.hid (zero_of hkl)
  have HK := Lib.hid hk
  have HR := Lib.hid h
  have HS := Lib.hid hsig
  have HST := Lib.hid hstep
  have HLEN := Lib.hid hlen
  have HDG := Lib.hid hdig
  have HJ := Lib.hid hjoin
  clear hi hk h hn hsig hsl hstep hlen hd hdl hdig hkey hkl hjoin
  go_enter Tryz.func56, Tryz.ntmps56
  go_upto_region 3 with (fail)
  rw [← zero32_is]
  have b1 : Below w.heap.size w (w.alloc (.cells (cellsOf zero32).toArray 23)) := (Below.refl _ _).alloc (Nat.le_refl _) _
  have h1 : (w.alloc (.cells (cellsOf zero32).toArray 23)).heap[w.heap.size]? = some (.cells (cellsOf zero32).toArray 23 (0, 0)) := heap_alloc_new _ _
  revert b1 h1
  generalize (w.alloc (.cells (cellsOf zero32).toArray 23)) = w1
  obtain ⟨g, hg⟩ : ∃ g, g = w.heap.size := ⟨_, rfl⟩
  rw [← hg]
  intro b1 h1
  rw [hg] at b1
  have HB1 := Lib.hid b1
  have H1 := Lib.hid h1
  have HG := Lib.hid hg
  clear b1 h1 hg
  go_wp2_with fail
  refine (HDG.out _ (HR.out.below HB1.out) (HK.out.below HB1.out)).mono ?_
  rintro e w2 ⟨rfl, hb2⟩
  have HB2 := Lib.hid (HB1.out.trans (hb2.mono HB1.out.size))
  have H2 := Lib.hid ((hb2.block _ (lt_of_block H1.out)).trans H1.out)
  clear hb2
  go_upto_region 4 with (refine wpList_store_row rfl 23 _ _ rfl w2.heap.size (cellsOf d).toArray rfl rfl 23 (cellsOf zero32).toArray (heap_alloc_new _ _) SZD.out HZD.out (all_oneCell_toArray (cellsOf_one d)) ?_)
  rw [← zero32_is, laySum_is]
  have h3 := laySum_heap w2 d
  have b3 := laySum_below d HB2.out
  have h4 := ((laySum_self w2 d).block _ (lt_of_block H2.out)).trans H2.out
  revert h3 b3 h4
  generalize laySum w2 d = w3
  generalize w2.heap.size = q
  intro h3 b3 h4
  have HB3 := Lib.hid b3
  have H3 := Lib.hid h3
  have H4 := Lib.hid h4
  have HKW := Lib.hid (HK.out.below b3)
  have HSW := Lib.hid (HS.out.below b3)
  clear h3 b3 h4
  try simp only [Act.put]
  go_upto_region 5 with (at_make; refine wpList_make_own _ rfl _ _ 26 rfl w3.heap.size 5 i0 _ 1 Tryz.underlying26 HI.out hz0 hz1 _ _ _ 4096 rfl rfl rfl (by rw [hz2]; omega) (by unfold maxLen; omega) (Nat.le_refl _) ?_; intro w4 hown hgrow)
  have HU := Lib.hid (Under.begun hown hgrow)
  clear hown hgrow
  go_wp2_with fail
  go_loopw [7, 20] (fun u i wr => ∃ j : Nat, j ≤ 64 ∧ i = .int .i64 j ∧ Under w3 u (backTo l sig j) wr) (fun _ i _ => 64 - (intOf i).toNat)
  case atStart => exact ⟨0, Nat.zero_le _, rfl, HU.out⟩
  case round =>
    obtain ⟨j, hj, rfl, hat⟩ := hrel
    by_cases hj64 : j < 64
    · have f1 : (j : Int) < 64 := by omega
      obtain ⟨t, t', z, o, s, u, v, et, ht, ht', hzl, hol, hsl, hu, hv, hnext, hh1, hh2, hsh, hbit⟩ := HST.out j hj64
      obtain ⟨X, hX⟩ : ∃ X, X = backTo l sig j := ⟨_, rfl⟩
      have hlen : X.length = j * 64 := by rw [hX]; exact HLEN.out j hj
      rw [← hX] at hat hnext
      obtain ⟨F, hF⟩ : ∃ F, F = X.length := ⟨_, rfl⟩
      have hF4 : F ≤ 4096 := by omega
      obtain ⟨a', c', rfl⟩ := hat.shape hF.symm
      have SZZ := Lib.hid (size_of hzl)
      have HZZ := Lib.hid (zero_of hzl)
      have SZO := Lib.hid (size_of hol)
      have HZO := Lib.hid (zero_of hol)
      have HZL := Lib.hid hzl
      have HOL := Lib.hid hol
      have HSL := Lib.hid hsl
      have HUU := Lib.hid hu
      have HVV := Lib.hid hv
      have HULEN : Hid (u.length = 32) := Lib.hid (by rw [← hu]; exact piece_len (by rw [List.length_append]; omega))
      have HN := Lib.hid hnext
      have HH1 := Lib.hid hh1
      have HH2 := Lib.hid hh2
      have HSH := Lib.hid hsh
      have HBIT := Lib.hid hbit
      have HLF := Lib.hid hF.symm
      have HAT := Lib.hid hat
      have HTT := Lib.hid ht
      have HTT' := Lib.hid ht'
      have t0 : (0 : Int) ≤ (t : Int) := by omega
      have t1 : (t : Int) < 2 := by omega
      have t2 : (0 : Int) ≤ (t' : Int) := by omega
      have t3 : (t' : Int) < 2 := by omega
      clear hzl hol hsl hu hv hnext hh1 hh2 hsh hbit hX hlen hF hat HU
      go_wp2_with fail
      refine (HH1.out _ (HSW.out.below HAT.out.below)).mono ?_
      rintro e w5 ⟨rfl, hb5⟩
      have HA5 := Lib.hid (HAT.out.more hb5)
      clear hb5
      go_wp2_with fail
      refine (HH2.out _ (HSW.out.below HA5.out.below)).mono ?_
      rintro e w6 ⟨rfl, hb6⟩
      have HA6 := Lib.hid (HA5.out.more hb6)
      clear hb6
      go_upto_region 9 with (first | (refine wpList_store_row rfl 23 _ _ rfl w6.heap.size (cellsOf z).toArray rfl rfl 23 (cellsOf zero32).toArray (two_first w6) SZZ.out HZZ.out (all_oneCell_toArray (cellsOf_one z)) ?_) | (refine wpList_store_row rfl 23 _ _ rfl (w6.heap.size + 1) (cellsOf o).toArray rfl rfl 23 (cellsOf zero32).toArray (two_next w6 z) SZO.out HZO.out (all_oneCell_toArray (cellsOf_one o)) ?_) | fail)
      rw [← zero32_is, layTwo_is]
      have hp1 := layTwo_first w6 z o
      have hp2 := layTwo_next w6 z o
      have ha7 := HA6.out.more (layTwo_self w6 z o)
      revert hp1 hp2 ha7
      generalize layTwo w6 z o = w7
      generalize w6.heap.size = p
      intro hp1 hp2 ha7
      have HP1 := Lib.hid (range_of hp1)
      have HP2 := Lib.hid (range_of hp2)
      have hlt1 := lt_of_block hp1
      have hlt2 := lt_of_block hp2
      have HA7 := Lib.hid ha7
      have HK7 := Lib.hid (HKW.out.below ha7.below)
      clear hp1 hp2 ha7
      try simp only [Act.put]
      refine wp_region_held_drew (S := fun w' => Below w7.heap.size w7 w') (by kernel_rfl) (below_drew (Below.refl _ _)) (fun hHeld => ?_)
      refine tkA 0 rfl rfl (yieldsIf_load_mid (by rfl) _ _ rfl p 0 rfl (cellsOf z) _ (fun w0 hSw => rangeAt_below HP1.out hlt1 hSw) Tryz.underlying23 rfl SZZ.out) ?_
      refine tkA 2 rfl rfl (yieldsIf_load_mid (by rfl) _ _ rfl (p + 1) 0 rfl (cellsOf o) _ (fun w0 hSw => rangeAt_below HP2.out hlt2 hSw) Tryz.underlying23 rfl SZO.out) ?_
      refine wpAnyH_ready (rs := [1, 4]) (by kernel_rfl) (by simp) ?_
      refine AllReadyH.cons rfl (fun K hK => ?_) ?_
      · go_simp
        go_wp2_with ((go_at_call 83; (with_reducible refine (HSH.out _ (HK7.out.below hHeld)).mono ?_); rintro e x1 ⟨rfl, hb1⟩; have HC1 := Lib.hid hb1; clear hb1))
        refine hK.out _ _ (by (try dsimp only); exact Below.trans hHeld (HC1.out.mono (Below.size hHeld))) (fun hHeld => ?_)
        clear hK K
        refine tkA 3 rfl rfl (yields_two (by rfl) rfl rfl rfl HSL.out HOL.out) ?_
        refine tkR 4 rfl (fun K hK => ?_)
        refine step_alloc_at (d := 11) rfl (by rfl) 156 rfl zeros2 Tryz.zeroTwo ?_
        refine hK.out _ _ (by (try dsimp only); exact Below.alloc hHeld (Below.size hHeld) _) (fun hHeld => ?_)
        clear hK K
        refine tkR 5 rfl (fun K hK => ?_)
        have hz5 : (x1.alloc (.cells (cellsOf zeros2).toArray 156)).heap[x1.heap.size]? = some (.cells (cellsOf zeros2).toArray 156 (0, 0)) := heap_alloc_new _ _
        have hge : w7.heap.size ≤ x1.heap.size := Below.size (show Below w7.heap.size w7 x1 from Below.trans (below_drew (Below.refl _ _)) (HC1.out.mono (by simp)))
        have bb : Below w7.heap.size w7 (x1.alloc (.cells (cellsOf zeros2).toArray 156)) := hHeld
        have b8 : Below w7.heap.size w7 ((x1.alloc (.cells (cellsOf zeros2).toArray 156)).setRow x1.heap.size (cellsOf (s ++ o)).toArray) := bb.trans (((but_setRow _ (x1.heap.size) _).mono bb.size).below hge)
        have hh8 : ((x1.alloc (.cells (cellsOf zeros2).toArray 156)).setRow x1.heap.size (cellsOf (s ++ o)).toArray).heap[x1.heap.size]? = some (.cells (cellsOf (s ++ o)).toArray 156 (0, 0)) := setRow_heap _ _ _ _ _ _ hz5
        have SZ5 : (Tryz.prog.info? 156).map (·.size) = some (cellsOf (s ++ o)).toArray.size := by rw [List.size_toArray, cellsOf_len, List.length_append, HSL.out, HOL.out]; exact Tryz.sizeTwo
        have HZ5 : (cellsOf zeros2).toArray.size = (cellsOf (s ++ o)).toArray.size := by rw [List.size_toArray, List.size_toArray, cellsOf_len, cellsOf_len, List.length_append, HSL.out, HOL.out]; rfl
        have HB8 := Lib.hid b8
        have HH8 := Lib.hid hh8
        have HGE := Lib.hid hge
        clear b8 hh8 hge bb
        rw [if_pos (by rfl)]
        refine wp_store_row 156 _ _ rfl (x1.heap.size) (cellsOf (s ++ o)).toArray rfl rfl 156 (cellsOf zeros2).toArray hz5 SZ5 HZ5 (all_oneCell_toArray (cellsOf_one (s ++ o))) ?_
        clear hz5 SZ5 HZ5
        refine hK.out _ _ (by (try dsimp only); exact HB8.out) (fun hHeld => ?_)
        clear hK K
        refine wpAnyH_done (by kernel_rfl) ?_ _
        clear hHeld
        revert HB8 HH8 HGE
        generalize ((x1.alloc (.cells (cellsOf zeros2).toArray 156)).setRow x1.heap.size (cellsOf (s ++ o)).toArray) = w8
        intro HB8 HH8 HGE
        revert HH8 HGE
        generalize x1.heap.size = r
        intro HH8 HGE
        have HA8 := Lib.hid (HA7.out.more HB8.out)
        have HRU : Hid (Row w8 (some ⟨r, t * 32, none⟩) 32 32 u) := Lib.hid (by rw [← HUU.out]; exact two_row HH8.out HSL.out HOL.out HTT.out rfl)
        have HRV : Hid (Row w8 (some ⟨r, t' * 32, none⟩) 32 32 v) := Lib.hid (by rw [← HVV.out]; exact two_row HH8.out HSL.out HOL.out HTT'.out rfl)
        have HNE : Hid (∀ k, Value.ownBlock (.slice a' F c') = some k → k < r) := Lib.hid (fun k e => Nat.lt_of_lt_of_le (HA7.out.old k e) HGE.out)
        have HD8 := Lib.hid ((HA8.out.below.block _ (lt_of_block H3.out)).trans H3.out)
        clear HH8 HGE HB8
        try simp only [Act.put]
        go_wp2_with (refine wpList_load_row rfl 23 _ rfl q rfl 23 (cellsOf d).toArray (0, 0) _ HD8.out Tryz.underlying23 rfl SZD.out ?_)
        refine (HBIT.out _).mono ?_
        rintro e w9 ⟨rfl, hb9⟩
        have HA9 := Lib.hid (HA8.out.more hb9)
        have HRU9 := Lib.hid (HRU.out.below hb9)
        have HRV9 := Lib.hid (HRV.out.below hb9)
        clear hb9
        go_upto_region 12 with (at_builtin; refine wpList_append_row _ rfl _ _ 26 rfl w3.heap.size i0 Tryz.underlying26 HI.out hz0 hz1 hz2 (.slice a' F c') X F HLF.out rfl HA9.out.own _ 32 32 u rfl HRU9.out (by omega) HA9.out.below.size ?_; intro a11 c11 w11 ho11 hg11)
        have HA11 := Lib.hid (HA9.out.grown ho11 hg11)
        have HRV11 := Lib.hid (HRV9.out.grown hg11 HNE.out)
        have HLF11 : Hid ((X ++ u).length = F + 32) := Lib.hid (by rw [List.length_append, HLF.out, HULEN.out])
        clear ho11 hg11
        go_wp2_with (at_builtin; refine wpList_append_row _ rfl _ _ 26 rfl w3.heap.size i0 Tryz.underlying26 HI.out hz0 hz1 hz2 (.slice a11 (F + 32) c11) (X ++ u) (F + 32) HLF11.out rfl HA11.out.own _ 32 32 v rfl HRV11.out (by omega) HA11.out.below.size ?_; intro a12 c12 w12 ho12 hg12; have HA12 := Lib.hid (HA11.out.grown ho12 hg12); clear ho12 hg12)
        go_roundw
        case rel => exact ⟨j + 1, by omega, by go_num, by rw [HN.out]; exact HA12.out⟩
        case measure => simp [intOf]; omega
      refine AllReadyH.cons rfl (fun K hK => ?_) ?_
      · refine step_alloc_at (d := 11) rfl (by rfl) 156 rfl zeros2 Tryz.zeroTwo ?_
        refine hK.out _ _ (by (try dsimp only); exact Below.alloc hHeld (Below.size hHeld) _) (fun hHeld => ?_)
        clear hK K
        refine tkR 1 rfl (fun K hK => ?_)
        have hal : Below w7.heap.size w7 (w7.alloc (.cells (cellsOf zeros2).toArray 156)).drew := hHeld
        go_simp
        go_wp2_with ((go_at_call 83; (with_reducible refine (HSH.out _ (HK7.out.below hal)).mono ?_); rintro e x1 ⟨rfl, hb1⟩; have HC1 := Lib.hid hb1; clear hb1))
        refine hK.out _ _ (by (try dsimp only); exact Below.trans hal (HC1.out.mono (Below.size hal))) (fun hHeld => ?_)
        clear hK K
        refine tkA 3 rfl rfl (yields_two (by rfl) rfl rfl rfl HSL.out HOL.out) ?_
        refine tkR 5 rfl (fun K hK => ?_)
        have hz5 : x1.heap[w7.heap.size]? = some (.cells (cellsOf zeros2).toArray 156 (0, 0)) := (HC1.out.block _ (by simp)).trans (heap_alloc_new w7 _)
        have hge : w7.heap.size ≤ w7.heap.size := Nat.le_refl _
        have bb : Below w7.heap.size w7 x1 := hHeld
        have b8 : Below w7.heap.size w7 (x1.setRow w7.heap.size (cellsOf (s ++ o)).toArray) := bb.trans (((but_setRow _ (w7.heap.size) _).mono bb.size).below hge)
        have hh8 : (x1.setRow w7.heap.size (cellsOf (s ++ o)).toArray).heap[w7.heap.size]? = some (.cells (cellsOf (s ++ o)).toArray 156 (0, 0)) := setRow_heap _ _ _ _ _ _ hz5
        have SZ5 : (Tryz.prog.info? 156).map (·.size) = some (cellsOf (s ++ o)).toArray.size := by rw [List.size_toArray, cellsOf_len, List.length_append, HSL.out, HOL.out]; exact Tryz.sizeTwo
        have HZ5 : (cellsOf zeros2).toArray.size = (cellsOf (s ++ o)).toArray.size := by rw [List.size_toArray, List.size_toArray, cellsOf_len, cellsOf_len, List.length_append, HSL.out, HOL.out]; rfl
        have HB8 := Lib.hid b8
        have HH8 := Lib.hid hh8
        have HGE := Lib.hid hge
        clear b8 hh8 hge bb
        rw [if_pos (by rfl)]
        refine wp_store_row 156 _ _ rfl (w7.heap.size) (cellsOf (s ++ o)).toArray rfl rfl 156 (cellsOf zeros2).toArray hz5 SZ5 HZ5 (all_oneCell_toArray (cellsOf_one (s ++ o))) ?_
        clear hz5 SZ5 HZ5
        refine hK.out _ _ (by (try dsimp only); exact HB8.out) (fun hHeld => ?_)
        clear hK K
        refine wpAnyH_done (by kernel_rfl) ?_ _
        clear hHeld
        revert HB8 HH8 HGE
        generalize (x1.setRow w7.heap.size (cellsOf (s ++ o)).toArray) = w8
        intro HB8 HH8 HGE
        try rw [show w7.drew.heap.size = w7.heap.size from rfl]
        obtain ⟨r, hr⟩ : ∃ r, r = w7.heap.size := ⟨_, rfl⟩
        have hle : w7.heap.size ≤ r := by omega
        rw [← hr] at HH8 ⊢
        clear HGE
        have HGE := Lib.hid hle
        clear hle hr
        have HA8 := Lib.hid (HA7.out.more HB8.out)
        have HRU : Hid (Row w8 (some ⟨r, t * 32, none⟩) 32 32 u) := Lib.hid (by rw [← HUU.out]; exact two_row HH8.out HSL.out HOL.out HTT.out rfl)
        have HRV : Hid (Row w8 (some ⟨r, t' * 32, none⟩) 32 32 v) := Lib.hid (by rw [← HVV.out]; exact two_row HH8.out HSL.out HOL.out HTT'.out rfl)
        have HNE : Hid (∀ k, Value.ownBlock (.slice a' F c') = some k → k < r) := Lib.hid (fun k e => Nat.lt_of_lt_of_le (HA7.out.old k e) HGE.out)
        have HD8 := Lib.hid ((HA8.out.below.block _ (lt_of_block H3.out)).trans H3.out)
        clear HH8 HGE HB8
        try simp only [Act.put]
        go_wp2_with (refine wpList_load_row rfl 23 _ rfl q rfl 23 (cellsOf d).toArray (0, 0) _ HD8.out Tryz.underlying23 rfl SZD.out ?_)
        refine (HBIT.out _).mono ?_
        rintro e w9 ⟨rfl, hb9⟩
        have HA9 := Lib.hid (HA8.out.more hb9)
        have HRU9 := Lib.hid (HRU.out.below hb9)
        have HRV9 := Lib.hid (HRV.out.below hb9)
        clear hb9
        go_upto_region 12 with (at_builtin; refine wpList_append_row _ rfl _ _ 26 rfl w3.heap.size i0 Tryz.underlying26 HI.out hz0 hz1 hz2 (.slice a' F c') X F HLF.out rfl HA9.out.own _ 32 32 u rfl HRU9.out (by omega) HA9.out.below.size ?_; intro a11 c11 w11 ho11 hg11)
        have HA11 := Lib.hid (HA9.out.grown ho11 hg11)
        have HRV11 := Lib.hid (HRV9.out.grown hg11 HNE.out)
        have HLF11 : Hid ((X ++ u).length = F + 32) := Lib.hid (by rw [List.length_append, HLF.out, HULEN.out])
        clear ho11 hg11
        go_wp2_with (at_builtin; refine wpList_append_row _ rfl _ _ 26 rfl w3.heap.size i0 Tryz.underlying26 HI.out hz0 hz1 hz2 (.slice a11 (F + 32) c11) (X ++ u) (F + 32) HLF11.out rfl HA11.out.own _ 32 32 v rfl HRV11.out (by omega) HA11.out.below.size ?_; intro a12 c12 w12 ho12 hg12; have HA12 := Lib.hid (HA11.out.grown ho12 hg12); clear ho12 hg12)
        go_roundw
        case rel => exact ⟨j + 1, by omega, by go_num, by rw [HN.out]; exact HA12.out⟩
        case measure => simp [intOf]; omega
      exact AllReadyH.nil
    · have f1 : ¬ ((j : Int) < 64) := by omega
      have hj' : j = 64 := by omega
      rw [hj'] at hat
      obtain ⟨a', c', rfl⟩ := hat.shape (HLEN.out 64 (Nat.le_refl _))
      have HF := Lib.hid hat
      clear hat hj' HU
      go_wp2_with fail
      have b5 : Below wr.heap.size wr (wr.alloc (.cells #[.slice a' 4096 c'] 26)) := (Below.refl _ _).alloc (Nat.le_refl _) _
      refine (HJ.out _ a' c' _ (HF.out.row.below b5) ((HKW.out.below HF.out.below).below b5) (heap_alloc_new _ _)).mono ?_
      rintro e w5 ⟨rfl, hb5⟩
      have hb6 : Below w3.heap.size w3 w5 := HF.out.below.trans ((b5.trans (hb5.mono b5.size)).mono HF.out.below.size)
      have HB6 := Lib.hid hb6
      have HT1 := Lib.hid ((hb6.block _ (lt_of_block H4.out)).trans H4.out)
      clear b5 hb5 hb6
      go_wp2_with (refine wpList_store_row rfl 23 _ _ rfl g (cellsOf key).toArray rfl rfl 23 (cellsOf zero32).toArray HT1.out SZK.out HZK.out (all_oneCell_toArray (cellsOf_one key)) ?_)
      refine bodyPost_ret (results_cell_then rfl _ _ g 23 (cellsOf key).toArray (0, 0) _ (.int .i64 0) rfl rfl (setRow_heap w5 g _ _ 23 _ HT1.out) Tryz.underlying23 rfl SZK.out) rfl ⟨rfl, ?_⟩
      have b7 : Below w.heap.size w w5 := HB3.out.trans (HB6.out.mono HB3.out.size)
      exact b7.trans (((but_setRow _ g _).mono b7.size).below (by rw [HG.out]; omega))
end Go.Proofs.YtcmdpmialehjgaaGreatDoor
namespace Go.Proofs.YtcmdpmialehjgaaGreatDoor
open Go.RowKit

/-- Two rows under way, in blocks of their own. -/
structure Both (w0 : World) (u : Value) (l : List UInt8) (v : Value) (m : List UInt8) (wr : World) : Prop where
  left : Under w0 u l wr
  right : Under w0 v m wr
  apart : ∀ k, u.ownBlock = some k → v.ownBlock ≠ some k
/-- Two variables that were made in a region, and stored into. -/
structure Pair2 (w0 : World) (p q : Nat) (d e : List UInt8) (w : World) : Prop where
  first : w.heap[p]? = some (.cells (cellsOf d).toArray 23 (0, 0))
  next : w.heap[q]? = some (.cells (cellsOf e).toArray 23 (0, 0))
  geFirst : w0.heap.size ≤ p
  geNext : w0.heap.size ≤ q
  below : Below w0.heap.size w0 w
end Go.Proofs.YtcmdpmialehjgaaGreatDoor
