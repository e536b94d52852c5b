/- What turned comes to: a text's cover. -/
import Derived.Test.YtjfkhclcjggoeaaDoorVeilKey
namespace Go.Proofs.YtjfkhclcjggoeaaDoor
open Go.RowKit

theorem bits8_xor (x y : UInt8) : bits .xor .u8 ((x.toNat : Nat) : Int) ((y.toNat : Nat) : Int) = (((x ^^^ y).toNat : Nat) : Int) := by
  have e : ∀ z : UInt8, BitVec.ofInt 8 ((z.toNat : Nat) : Int) = z.toBitVec := fun z => by
    rw [BitVec.ofInt_natCast]
    apply BitVec.eq_of_toNat_eq
    rw [BitVec.toNat_ofNat]
    exact Nat.mod_eq_of_lt z.toBitVec.isLt
  show IntKind.u8.wrap ((BitVec.ofInt 8 ((x.toNat : Nat) : Int) ^^^ BitVec.ofInt 8 ((y.toNat : Nat) : Int)).toNat : Int) = _
  rw [e, e, show (x ^^^ y).toNat = (x.toBitVec ^^^ y.toBitVec).toNat from rfl]
  have h := (x.toBitVec ^^^ y.toBitVec).isLt
  generalize (x.toBitVec ^^^ y.toBitVec).toNat = m at *
  rw [IntKind.wrap_u8']
  omega
/-- A cover under way: its first k bytes lie in block g, behind them the key's. -/
structure Covering (w0 : World) (s t : List UInt8) (n g k : Nat) (W : World) : Prop where
  row : ∃ L, L.length = n ∧ (∀ i, i < n → L.getD i 0 = if i < k then t.getD i 0 ^^^ kb s i else kb s i) ∧ W.heap[g]? = some (.cells (cellsOf L).toArray 5 (0, 0))
  new : w0.heap.size ≤ g
  below : Below w0.heap.size w0 W
theorem Covering.begun {w0 W : World} {s t : List UInt8} {n g : Nat} (hh : W.heap[g]? = some (.cells (cellsOf (keyB s n)).toArray 5 (0, 0))) (h0 : w0.heap.size ≤ g) (hb : Below w0.heap.size w0 W) : Covering w0 s t n g 0 W :=
  ⟨⟨_, keyB_len s n, fun i hi => by rw [keyB_get hi, if_neg (by omega)], hh⟩, h0, hb⟩
theorem Covering.next {w0 W : World} {s t : List UInt8} {n g k : Nat} {z : Int} (h : Covering w0 s t n g k W) (hk : k < n) (hz : (((t.getD k 0 ^^^ kb s k).toNat : Nat) : Int) = z) : Covering w0 s t n g (k + 1) (W.setCell ⟨g, k, none⟩ (.int .u8 z)) := by
  obtain ⟨⟨L, h1, h2, h3⟩, h4, h5⟩ := h
  refine ⟨⟨L.set k (t.getD k 0 ^^^ kb s k), by rw [List.length_set, h1], fun i hi => ?_, ?_⟩, h4, But.in h5 (set_but W g k _) h4⟩
  · by_cases e : i = k
    · subst e
      rw [if_pos (by omega)]
      simp [List.getD, h1, hi]
    · have e2 : (L.set k (t.getD k 0 ^^^ kb s k)).getD i 0 = L.getD i 0 := by
        simp only [List.getD]
        rw [List.getElem?_set_ne (fun h => e h.symm)]
      rw [e2, h2 i hi]
      by_cases e3 : i < k
      · rw [if_pos e3, if_pos (by omega)]
      · rw [if_neg e3, if_neg (by omega)]
  · rw [set_heap h3 k, ← hz]
    simp [cellsOf, List.map_set]
theorem Covering.cell {w0 W : World} {s t : List UInt8} {n g k : Nat} (h : Covering w0 s t n g k W) (hk : k < n) : W.cell? ⟨g, k, none⟩ = some (.int .u8 (((kb s k).toNat : Nat) : Int)) ∧ W.frozen? ⟨g, k, none⟩ = false := by
  obtain ⟨⟨L, h1, h2, h3⟩, _, _⟩ := h
  refine ⟨?_, frozen_of_row _ _ _ _ _ h3⟩
  have e := h2 k hk
  rw [if_neg (by omega)] at e
  rw [cell_of_row _ _ _ _ _ _ h3, List.getElem?_toArray, cellsOf_get (by omega), e]
theorem Covering.done {w0 W : World} {s t : List UInt8} {n g k : Nat} (h : Covering w0 s t n g k W) (hk : n ≤ k) (ht : t.length = n) : W.heap[g]? = some (.cells (cellsOf (coverB s t)).toArray 5 (0, 0)) := by
  obtain ⟨⟨L, h1, h2, h3⟩, _, _⟩ := h
  rw [h3, show L = coverB s t from bytes_eq _ _ (by rw [coverB_len, h1, ht]) (fun i hi => by rw [h1] at hi; rw [h2 i hi, if_pos (by omega), coverB_get (by omega)])]
set_option linter.unusedSimpArgs false in
set_option maxRecDepth 100000 in
set_option maxHeartbeats 6400000 in
theorem veilTurned_any {w : World} {a : Option Addr} {s t : List UInt8} {n c : Nat} (hs : s.length = 32) (ht : Row w a n c t) (hn : n ≤ 100000) (hk : KsAt w) :
    Calls Tryd.prog 17 #[.agg (cellsOf s).toArray, .slice a n c] w fun e w' => ∃ g, e = .returned (.slice (some ⟨g, 0, none⟩) n n) ∧ w.heap.size ≤ g ∧ w'.heap[g]? = some (.cells (cellsOf (coverB s t)).toArray 5 (0, 0)) ∧ Below w.heap.size w w' := by
  have SZS := Lib.hid (size_of hs)
  have HS := Lib.hid hs
  have HK := Lib.hid hk
  have HT := Lib.hid ht
  clear hs hk ht
  go_enter Tryd.func17, Tryd.ntmps17
  go_upto_region 1 with (fail)
  have b1 : Below w.heap.size w (w.alloc (.cells (cellsOf s).toArray 23)) := (Below.refl _ _).alloc (Nat.le_refl _) _
  have h1 := heap_alloc_new w (.cells (cellsOf s).toArray 23)
  revert b1 h1
  generalize (w.alloc (.cells (cellsOf s).toArray 23)) = w1
  obtain ⟨q, hq⟩ : ∃ q, q = w.heap.size := ⟨_, rfl⟩
  rw [← hq]
  intro b1 h1
  rw [hq] at b1
  have HB1 := Lib.hid b1
  have HQ1 := Lib.hid h1
  have HK1 := Lib.hid (HK.out.below b1)
  have HT1 := Lib.hid (HT.out.below b1)
  clear b1 h1 hq HK
  go_upto_region 2 with (first | (refine wpList_load_row rfl 23 _ rfl q rfl 23 (cellsOf s).toArray (0, 0) _ HQ1.out Tryd.underlying23 rfl SZS.out ?_) | (go_at_call 19; (with_reducible refine (veilBytes_any HS.out hn HK1.out).mono ?_); rintro e w2 ⟨g, rfl, hg, hh2, hb2⟩; have HU := Lib.hid (Covering.begun (t := t) hh2 hg hb2); clear hg hh2 hb2) | fail)
  go_wp2_with fail
  go_loopw [14] (fun i wr => ∃ k : Nat, k ≤ n ∧ i = .int .i64 k ∧ Covering w1 s t n g k wr) (fun i _ => n - (intOf i).toNat)
  case atStart => exact ⟨0, Nat.zero_le _, rfl, HU.out⟩
  case round =>
    obtain ⟨k, hkn, rfl, hat⟩ := hrel
    have HAT := Lib.hid hat
    clear hat HU
    by_cases hkl : k < n
    · have f1 : (k : Int) < (n : Int) := by omega
      obtain ⟨b, off, rfl, hlt, hc⟩ := HT1.out.2.2.2.2 (by omega)
      have c0 := (HAT.out.below.cell (p := ⟨b, off + k, none⟩) hlt).trans (hc k hkl)
      obtain ⟨c1, c2⟩ := HAT.out.cell hkl
      obtain ⟨z, hz⟩ : ∃ z : Int, (((t.getD k 0 ^^^ kb s k).toNat : Nat) : Int) = z := ⟨_, rfl⟩
      have hx := bits8_xor (kb s k) (t.getD k 0)
      rw [UInt8.xor_comm, hz] at hx
      have hx0 := UInt8.toNat_lt (t.getD k 0)
      have hx1 := UInt8.toNat_lt (kb s k)
      have HNX := Lib.hid (HAT.out.next hkl hz)
      have HZ := Lib.hid hz
      generalize ((t.getD k 0).toNat : Nat) = x0 at *
      generalize ((kb s k).toNat : Nat) = x1 at *
      clear hc hz
      go_wp2_with fail
      go_roundw
      case rel => exact ⟨k + 1, by omega, by go_num, HNX.out⟩
      case measure => simp [intOf]; omega
    · have f1 : ¬ (k : Int) < (n : Int) := by omega
      have HFIN := Lib.hid (And.intro (Nat.le_trans HB1.out.size HAT.out.new) (And.intro (HAT.out.done (by omega) HT1.out.1) (bthen HB1.out HAT.out.below)))
      go_wp2_with fail
      go_ret
      exact ⟨g, rfl, HFIN.out⟩
end Go.Proofs.YtjfkhclcjggoeaaDoor
