/- What 'Path' comes to: what stands beside the way to a place. -/
import Derived.Test.YtmbfpopfabjodaaDoorRoot
namespace Go.Proofs.YtmbfpopfabjodaaDoor
open Go.RowKit

theorem Sums.grown {w w' : World} {n c : Nat} {a : Option Addr} {ls : List (List UInt8)} {row : Option Nat} (h : Sums w a n c ls) (hg : w.grownBy w' row) (hoff : ∀ g, row = some g → Off g a n) : Sums w' a n c ls := by
  obtain ⟨h1, h2, h3, h4, h6, h5⟩ := h
  refine ⟨h1, h2, h3, h4, h6, fun h0 => ?_⟩
  obtain ⟨b, off, rfl, hlt, hc⟩ := h5 h0
  refine ⟨b, off, rfl, Nat.lt_of_lt_of_le hlt hg.size, fun j hj i v hv => ?_⟩
  exact hg.cell (hc j hj i v hv) (fun e => hoff b e.symm h0 b off rfl rfl)
theorem OwnS.grows {w w' : World} {B : Nat} {v : Value} {ls : List (List UInt8)} (h : OwnS w B v ls) (hg : w.grownBy w' v.ownBlock) (hB : B ≤ w.heap.size) : Below B w w' :=
  ⟨hg.os, hg.tape, hg.output, hg.size, fun k hk => hg.block k (by omega) (fun e => by have := (h.lt k e.symm).1; omega)⟩
/-- What Path tells: a slice that reads as the path, and true. -/
def PathIs (w : World) (q : List (List UInt8)) (e : Ending) (w' : World) : Prop :=
  ∃ (a : Option Addr) (c : Nat), e = .returned (.tuple #[.slice a q.length c, .bool true]) ∧ Sums w' a q.length c q ∧ Below w.heap.size w w'
/-- A path under way. -/
def Going (w : World) (R : List (List UInt8)) (x v r : Value) (wr : World) : Prop :=
  ∃ (d i k : Nat) (a : Option Addr) (row acc : List (List UInt8)), x = .int .i64 i ∧ r = .slice a k k ∧ Sums wr a k k row ∧ i < k ∧ k ≤ 2 ^ d ∧ k ≤ 100000 ∧ acc.length + d ≤ 17 ∧ OwnS wr w.heap.size v acc ∧ (∀ g, v.ownBlock = some g → Off g a k) ∧ Below w.heap.size w wr ∧ acc ++ way pairSum d i row = R
theorem way_end {d i : Nat} {row : List (List UInt8)} (h : row.length = 1) (hi : i < 1) : way pairSum d i row = [] := by
  obtain ⟨x, rfl⟩ := List.length_eq_one_iff.1 h
  obtain rfl : i = 0 := by omega
  exact way_one pairSum x d
theorem way_step {d i : Nat} {row : List (List UInt8)} {s : List UInt8} (hb : beside i < row.length) (hs : row.getD (beside i) [] = s) : way pairSum (d + 1) i row = [s] ++ way pairSum d (i / 2) (up pairSum row) := by
  show row[beside i]?.toList ++ _ = _
  rw [List.getElem?_eq_getElem hb]
  have : row[beside i] = s := by rw [← hs]; simp [List.getD, hb]
  rw [this]
  rfl
theorem way_skip {d i : Nat} {row : List (List UInt8)} (hb : ¬ beside i < row.length) : way pairSum (d + 1) i row = way pairSum d (i / 2) (up pairSum row) := by
  show row[beside i]?.toList ++ _ = _
  rw [List.getElem?_eq_none (by omega)]
  rfl
theorem off_new {w : World} {g n : Nat} (h : g < w.heap.size) : Off g (some ⟨w.heap.size, 0, none⟩) n := fun _ b off e => by cases e; omega
set_option maxRecDepth 100000 in
set_option maxHeartbeats 1600000 in
theorem path_out {w : World} {a : Option Addr} {n c : Nat} (i : Int) (h : i < 0 ∨ (n : Int) ≤ i) :
    Calls Tryd.prog 7 #[.int .i64 i, .slice a n c] w fun e w' => e = .returned (.tuple #[.slice none 0 0, .bool false]) ∧ Below w.heap.size w w' := by
  have HI := Lib.hid h
  clear h
  go_enter Tryd.func7, Tryd.ntmps7
  go_wp2_with (go_at_call 17; refine (isPlace_no i n HI.out _).mono ?_; rintro e w' ⟨rfl, rfl⟩)
  go_ret2
  exact ⟨rfl, Below.refl _ _⟩

set_option maxRecDepth 100000 in
set_option maxHeartbeats 3200000 in
theorem path_in {w : World} {a : Option Addr} {n c : Nat} {ls : List (List UInt8)} (i : Nat) (hi : i < n) (hn : n ≤ 100000) (h : Sums w a n c ls) (hk : KsAt w) :
    Calls Tryd.prog 7 #[.int .i64 (i : Int), .slice a n c] w fun e w' => PathIs w (pathOf pairSum i (ls.map leafSum)) e w' := by
  obtain ⟨R, hR⟩ : ∃ R, R = pathOf pairSum i (ls.map leafSum) := ⟨_, rfl⟩
  rw [← hR]
  have hway : way pairSum 17 i (ls.map leafSum) = R := by rw [hR]; exact way_path pairSum _ i 17 (by rw [List.length_map, h.len]; exact hi) (by rw [List.length_map, h.len]; omega)
  have H := Lib.hid h
  have HK := Lib.hid hk
  have HI := Lib.hid hi
  have HN := Lib.hid hn
  have HW := Lib.hid hway
  clear h hk hi hn hR hway
  go_enter Tryd.func7, Tryd.ntmps7
  go_wp2_with (first | (go_at_call 17; (with_reducible refine (isPlace_yes i n HI.out _).mono ?_); rintro e w' ⟨rfl, rfl⟩) | fail)
  refine (lowest_any H.out HK.out HN.out).mono ?_
  rintro e w2 ⟨rfl, hs2, hb2⟩
  have hgo : Going w R (.int .i64 (i : Int)) (.slice none 0 0) (.slice (some ⟨w.heap.size, 0, none⟩) n n) w2 := ⟨17, i, n, _, _, [], rfl, rfl, hs2, HI.out, by have := HN.out; omega, HN.out, by simp, OwnS.nil _ _, (fun g e => by cases e), hb2, HW.out⟩
  have HGO := Lib.hid hgo
  clear hs2 hb2 hgo
  go_wp2_with fail
  go_loopw [0, 6, 7] (fun x v r wr => Going w R x v r wr) (fun _ _ r _ => lenV r)
  case atStart => exact HGO.out
  case round =>
    obtain ⟨d, i, k, a, row, acc, rfl, rfl, hs, hik, hkd, hk, hacc, hown, hoff, hb, hR⟩ := hrel
    have HS := Lib.hid hs
    have HIK := Lib.hid hik
    have HKD := Lib.hid hkd
    have HKN := Lib.hid hk
    have HACC := Lib.hid hacc
    have HOWN := Lib.hid hown
    have HOFF := Lib.hid hoff
    have HB := Lib.hid hb
    have HRR := Lib.hid hR
    have hbs := beside_any i (by omega)
    have HBS := Lib.hid hbs
    have i0 : (0 : Int) ≤ (i : Int) := by omega
    have i1 : (i : Int) < 100000 := by omega
    have hdiv : (i : Int) / 2 = ((i / 2 : Nat) : Int) := by omega
    have HDIV := Lib.hid hdiv
    obtain ⟨va, vc, rfl, _⟩ := hown.shape
    have hab := fun (W : World) (hW : Sums W a k k row) (hkW : KsAt W) => above_any hW hkW hk
    have HAB := Lib.hid hab
    clear hs hkd hk hown hoff hb hR HGO hbs hdiv HI HN HW hab
    by_cases hk1 : k ≤ 1
    · have h1 : ¬ ((1 : Int) < (k : Int)) := by omega
      go_wp2_with fail
      go_ret2
      have e1 : i < 1 := by omega
      have e2 : row.length = 1 := by rw [HS.out.len]; omega
      have e := way_end (d := d) e2 e1
      have er := HRR.out
      rw [e, List.append_nil] at er
      subst er
      exact ⟨va, vc, rfl, HOWN.out.sums, HB.out⟩
    · have h1 : (1 : Int) < (k : Int) := by omega
      obtain ⟨d, rfl⟩ : ∃ d', d = d' + 1 := by
        cases d with
        | zero => have := HKD.out; simp at this; omega
        | succ d => exact ⟨d, rfl⟩
      have hhalf := half_lt hik hk1
      have hp2 : (k + 1) / 2 ≤ 2 ^ d := by have := HKD.out; rw [Nat.pow_succ] at this; omega
      have HHALF := Lib.hid hhalf
      have HP2 := Lib.hid hp2
      have hk2 : 1 < k := by omega
      clear hhalf hp2 hik hk1
      by_cases hbn : beside i < k
      · obtain ⟨b, off, rfl, hlt, hcells⟩ := HS.out.2.2.2.2.2 (by omega)
        have hrt := hcells _ hbn
        have htl := HS.out.each hbn
        obtain ⟨t, het⟩ : ∃ t, row.getD (beside i) [] = t := ⟨_, rfl⟩
        rw [het] at hrt htl
        have hst := way_step (d := d) (row := row) (by rw [HS.out.len]; exact hbn) het
        have szt : (Tryd.prog.info? 24).map (·.size) = some (cellsOf t).length := by rw [cellsOf_len, htl]; exact Tryd.size24
        have HRT := Lib.hid hrt
        have HTL := Lib.hid htl
        have SZT := Lib.hid szt
        have HST := Lib.hid hst
        obtain ⟨B, hB⟩ : ∃ B, B = beside i := ⟨_, rfl⟩
        rw [← hB] at HBS hbn HRT
        clear hcells hrt htl het szt hst hB
        have b1 : Below wr.heap.size wr (wr.alloc (.cells (cellsOf t).toArray 24)) := (Below.refl _ _).alloc (Nat.le_refl _) _
        have hlit := own_lit (w := wr) (B := w.heap.size) [t] (by simp [HTL.out]) HB.out.size 1 rfl (by omega)
        rw [seqCells_single] at hlit
        have HL1 := Lib.hid hlit.sums
        have HO1 := Lib.hid (HOWN.out.below b1)
        have hsz : w.heap.size ≤ (wr.alloc (.cells (cellsOf t).toArray 24)).heap.size := Nat.le_trans HB.out.size b1.size
        have HSZ := Lib.hid hsz
        have HB1 := Lib.hid b1
        clear b1 hlit hsz
        go_wp2_with (first | (go_at_call 20; (with_reducible refine (HBS.out _).mono ?_); rintro e w' ⟨rfl, rfl⟩) | (refine wpList_load_mid rfl 24 _ rfl b (off + B * 32) rfl (cellsOf t) _ HRT.out Tryd.underlying24 rfl SZT.out ?_) | (refine wpList_build1 rfl _ rfl rfl HTL.out ?_) | (at_builtin; refine wpList_append_sums rfl _ _ rfl rfl w.heap.size (.slice va acc.length vc) acc acc.length rfl rfl HO1.out _ 1 1 [t] rfl HL1.out (by have := HACC.out; omega) HSZ.out ?_; intro a' c' w4 ho4 hg4) | fail)
        have hs4 := (HS.out.below HB1.out).grown hg4 (fun g e => HOFF.out g e)
        have hb4 : Below w.heap.size w w4 := (HB.out.trans (HB1.out.mono HB.out.size)).trans (HO1.out.grows hg4 HSZ.out)
        have HS4 := Lib.hid hs4
        have HB4 := Lib.hid hb4
        have HO4 := Lib.hid ho4
        clear hs4 hb4 ho4 hg4
        refine (HAB.out _ HS4.out (HK.out.below HB4.out)).mono ?_
        rintro e w5 ⟨rfl, hs5, hb5⟩
        have hgo : Going w R (.int .i64 ((i / 2 : Nat) : Int)) (.slice a' (acc.length + 1) c') (.slice (some ⟨w4.heap.size, 0, none⟩) ((k + 1) / 2) ((k + 1) / 2)) w5 := ⟨d, i / 2, (k + 1) / 2, _, up pairSum row, acc ++ [t], rfl, rfl, hs5, HHALF.out.1, HP2.out, by have := HKN.out; omega, by rw [List.length_append]; simp; have := HACC.out; omega, HO4.out.below hb5, (fun g e => off_new (HO4.out.lt g e).2), HB4.out.trans (hb5.mono HB4.out.size), by rw [List.append_assoc, ← HST.out]; exact HRR.out⟩
        have HGO := Lib.hid hgo
        clear hs5 hb5 hgo
        go_wp2_with fail
        go_roundw
        case rel => exact (by rw [HDIV.out]; exact HGO.out)
        case measure => simp [lenV]; omega
      · have hbk : ¬ beside i < row.length := by rw [HS.out.len]; exact hbn
        have hst := way_skip (d := d) hbk
        have HST := Lib.hid hst
        obtain ⟨B, hB⟩ : ∃ B, B = beside i := ⟨_, rfl⟩
        rw [← hB] at HBS hbn
        clear hst hB hbk
        go_wp2_with (first | (go_at_call 20; (with_reducible refine (HBS.out _).mono ?_); rintro e w' ⟨rfl, rfl⟩) | fail)
        refine (HAB.out _ HS.out (HK.out.below HB.out)).mono ?_
        rintro e w5 ⟨rfl, hs5, hb5⟩
        have hgo : Going w R (.int .i64 ((i / 2 : Nat) : Int)) (.slice va acc.length vc) (.slice (some ⟨wr.heap.size, 0, none⟩) ((k + 1) / 2) ((k + 1) / 2)) w5 := ⟨d, i / 2, (k + 1) / 2, _, up pairSum row, acc, rfl, rfl, hs5, HHALF.out.1, HP2.out, by have := HKN.out; omega, by have := HACC.out; omega, HOWN.out.below hb5, (fun g e => off_new (HOWN.out.lt g e).2), HB.out.trans (hb5.mono HB.out.size), by rw [← HST.out]; exact HRR.out⟩
        have HGO := Lib.hid hgo
        clear hs5 hb5 hgo
        go_wp2_with fail
        go_roundw
        case rel => exact (by rw [HDIV.out]; exact HGO.out)
        case measure => simp [lenV]; omega
end Go.Proofs.YtmbfpopfabjodaaDoor
