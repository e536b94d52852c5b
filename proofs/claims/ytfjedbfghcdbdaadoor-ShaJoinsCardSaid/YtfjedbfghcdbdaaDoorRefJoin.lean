/- What the document's own Join comes to: the sum of parts under a tag. -/
import Derived.Test.YtfjedbfghcdbdaaDoorRefOf
import Derived.Test.YtfjedbfghcdbdaaDoorJoin
namespace Go.Proofs.YtfjedbfghcdbdaaDoor
open Go.RowKit

theorem row_len {w : World} {n : Nat} (hn : n ≤ 1000000) : Row (w.alloc (.cells #[.int .u8 ((n : Int) / 16777216), .int .u8 ((n : Int) / 65536), .int .u8 ((n : Int) / 256 % 256), .int .u8 ((n : Int) % 256)] 5)) (some ⟨w.heap.size, 0, none⟩) 4 4 (four (BitVec.ofNat 32 n)) := by
  have := row_four (w := w) (BitVec.ofNat 32 n)
  rw [num_ofNat n (by omega), show (n : Int) / 16777216 % 256 = (n : Int) / 16777216 by omega, show (n : Int) / 65536 % 256 = (n : Int) / 65536 by omega] at this
  exact this

set_option maxRecDepth 100000 in
set_option maxHeartbeats 1600000 in
theorem refJoin_any {w : World} {a : Option Addr} {n c : Nat} {ps : List (List UInt8)} (tag : UInt8) (T : Nat) (hT : tag.toNat = T) (h : Rows2 w a n c ps) (hn : (partsOf tag ps).length ≤ 1000000) :
    Calls Tryd.prog 12 #[.int .u8 (T : Int), .slice a n c] w fun e w' => ∃ (af : Option Addr) (cf : Nat), e = .returned (.slice af 32 cf) ∧ Row w' af 32 cf (sumOf (partsOf tag ps)) ∧ Below w.heap.size w w' := by
  obtain ⟨i0, hi, hz0, hz1, hz2⟩ := info_parts Tryd.info5
  have HI := Lib.hid hi
  have hn63 : n ≤ 9223372036854775807 := by have := h.2.1; have := h.2.2.1; unfold maxLen at this; omega
  have H := Lib.hid h
  have HTT := Lib.hid hT
  clear h hT hi
  go_enter Tryd.func12, Tryd.ntmps12
  go_wp2_with fail
  have b1 : Below w.heap.size w (w.alloc (.cells #[.int .u8 (T : Int)] 5)) := (Below.refl _ _).alloc (Nat.le_refl _) _
  have o1 : Own (w.alloc (.cells #[.int .u8 (T : Int)] 5)) w.heap.size (.slice (some ⟨w.heap.size, 0, none⟩) 1 1) (partsOf tag (ps.take 0)) := by
    refine own_fresh (n := 1) (by rw [heap_alloc_new, ← HTT.out]; rfl) (Nat.le_refl _) rfl (by omega)
  have HB1 := Lib.hid b1
  have HO1 := Lib.hid o1
  clear b1 o1
  go_loopw [5, 6] (fun v i wr => ∃ (j F : Nat) (a' : Option Addr) (c' : Nat), j ≤ n ∧ i = .int .i64 j ∧ v = .slice a' F c' ∧ Hid (F = (partsOf tag (ps.take j)).length) ∧ Own wr w.heap.size (.slice a' F c') (partsOf tag (ps.take j)) ∧ Below w.heap.size w wr) (fun _ i _ => n - (intOf i).toNat)
  case atStart => exact ⟨0, 1, some ⟨w.heap.size, 0, none⟩, 1, Nat.zero_le _, rfl, rfl, Lib.hid rfl, HO1.out, HB1.out⟩
  case round =>
    obtain ⟨j, F, a', c', hj, rfl, rfl, HF, hown, hbel⟩ := hrel
    have HO := Lib.hid hown
    have HB := Lib.hid hbel
    by_cases hjn : j < n
    · obtain ⟨b, off, rfl, hlt, hcells⟩ := H.out.2.2.2.2 (by omega)
      obtain ⟨aj, nj, cj, hcj, hrj⟩ := hcells j hjn
      have hcj1 : wr.cell? ⟨b, off + j, none⟩ = some (.slice aj nj cj) := (hbel.cell (p := ⟨b, off + j, none⟩) hlt).trans hcj
      have hpl : ps.length = n := H.out.1
      have hle := partsOf_le tag ps (j + 1)
      have hsucc := partsOf_succ tag ps j (by omega)
      have hlen : (partsOf tag (ps.take (j + 1))).length = (partsOf tag (ps.take j)).length + 4 + (ps.getD j []).length := by rw [hsucc, List.length_append, List.length_append, four_len]
      have hnj : (ps.getD j []).length = nj := hrj.1
      have hnjb : nj ≤ 1000000 := by omega
      have hFb : F + 4 + nj ≤ 1000000 := by have := HF.out; omega
      rw [hnj] at hsucc hlen
      have hF' : F + 4 + nj = (partsOf tag (ps.take (j + 1))).length := by have := HF.out; omega
      have HF' := Lib.hid hF'
      obtain ⟨q, hq⟩ : ∃ q, q = ps.getD j [] := ⟨_, rfl⟩
      rw [← hq] at hsucc hrj
      have b2 : Below wr.heap.size wr (wr.alloc (.cells #[.int .u8 ((nj : Int) / 16777216), .int .u8 ((nj : Int) / 65536), .int .u8 ((nj : Int) / 256 % 256), .int .u8 ((nj : Int) % 256)] 5)) := (Below.refl _ _).alloc (Nat.le_refl _) _
      have HR2 : Hid (Row (wr.alloc (.cells #[.int .u8 ((nj : Int) / 16777216), .int .u8 ((nj : Int) / 65536), .int .u8 ((nj : Int) / 256 % 256), .int .u8 ((nj : Int) % 256)] 5)) (some ⟨wr.heap.size, 0, none⟩) 4 4 (four (BitVec.ofNat 32 nj))) := Lib.hid (row_len (by omega))
      have HO2 := Lib.hid (hown.below b2)
      have HB2 := Lib.hid (hbel.trans (b2.mono hbel.size))
      have HS := Lib.hid hsucc
      have HRJ := Lib.hid hrj
      have HCJ := Lib.hid hcj
      have HFE : Hid ((partsOf tag (ps.take j)).length = F) := Lib.hid HF.out.symm
      clear hown hbel hcells hcj hpl hle hsucc hlen hnj hF' hq hrj b2
      go_upto_region 7 with (refine wpList_append_row _ rfl (.tmp 21) (.tmp 33) 22 rfl w.heap.size i0 Tryd.underlying22 HI.out hz0 hz1 hz2 (.slice a' F c') (partsOf tag (ps.take j)) F HFE.out rfl HO2.out _ 4 4 (four (BitVec.ofNat 32 nj)) rfl HR2.out (by omega) HB2.out.size ?_; intro a3 c3 w3 ho3 hg3; have HO3 := Lib.hid ho3; have HG3 := Lib.hid hg3; clear ho3 hg3)
      have b3 := Below.grown HB2.out HG3.out HB2.out.size HO2.out.lt
      have hcj3 : w3.cell? ⟨b, off + j, none⟩ = some (.slice aj nj cj) := (b3.cell (p := ⟨b, off + j, none⟩) hlt).trans HCJ.out
      have HR3 := Lib.hid (HRJ.out.below b3)
      have HB3 := Lib.hid b3
      have HL3 : Hid ((partsOf tag (ps.take j) ++ four (BitVec.ofNat 32 nj)).length = F + 4) := by show _ = _; rw [List.length_append, HFE.out, four_len]
      clear b3 hcj1
      go_wp2_with (refine wpList_append_row _ rfl (.tmp 35) (.tmp 39) 22 rfl w.heap.size i0 Tryd.underlying22 HI.out hz0 hz1 hz2 (.slice a3 (F + 4) c3) (partsOf tag (ps.take j) ++ four (BitVec.ofNat 32 nj)) (F + 4) HL3.out rfl HO3.out aj nj cj q rfl HR3.out (by omega) HB3.out.size ?_; intro a4 c4 w4 ho4 hg4; have HO4 := Lib.hid ho4; have HG4 := Lib.hid hg4; clear ho4 hg4)
      have b4 := Below.grown HB3.out HG4.out HB3.out.size HO3.out.lt
      have ho4 := HO4.out
      rw [← HS.out] at ho4
      have HO5 := Lib.hid ho4
      have HB4 := Lib.hid b4
      clear ho4 b4 hcj3
      go_roundw
      case rel => exact ⟨j + 1, F + 4 + nj, a4, c4, by omega, by go_num, rfl, HF', HO5.out, HB4.out⟩
      case measure => simp [intOf]; omega
    · have hjn' : j = n := by omega
      have htake : ps.take j = ps := List.take_of_length_le (by rw [H.out.1]; omega)
      rw [htake] at hown
      have hfl := HF.out
      rw [htake] at hfl
      have hrow := hown.row
      have HRO := Lib.hid hrow
      have hFb : F ≤ 1000000 := by omega
      have HBE := Lib.hid hbel
      clear hown hrow hfl htake hjn' hbel HO HB
      go_wp2_with (go_at_call 9; refine (refOf_any HRO.out hFb).mono ?_; rintro e w7 ⟨af, cf, rfl, hr7, hb7⟩; have HR7 := Lib.hid hr7; have HB7 := Lib.hid hb7; clear hr7 hb7)
      go_ret
      exact ⟨af, cf, rfl, HR7.out, HBE.out.trans (HB7.out.mono HBE.out.size)⟩
end Go.Proofs.YtfjedbfghcdbdaaDoor
