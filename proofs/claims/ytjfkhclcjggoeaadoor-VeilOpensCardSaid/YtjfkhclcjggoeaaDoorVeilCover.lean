/- What the statements' own cover comes to. -/
import Derived.Test.YtjfkhclcjggoeaaDoorVeilOpen
namespace Go.Proofs.YtjfkhclcjggoeaaDoor
open Go.RowKit

theorem agU8 (w : World) : (isAgg 5).run Tryd.prog w = .ok false w := by kernel_rfl
theorem three_few {j : Nat} (h : j ≤ 200) : (cellsOf (three j)).toArray = #[.int .u8 0, .int .u8 0, .int .u8 (j : Int)] := by
  have e0 : ((UInt8.ofNat (j / 65536)).toNat : Int) = 0 := by rw [UInt8.toNat_ofNat']; omega
  have e1 : ((UInt8.ofNat (j / 256)).toNat : Int) = 0 := by rw [UInt8.toNat_ofNat']; omega
  have e2 : ((UInt8.ofNat j).toNat : Int) = (j : Int) := by rw [UInt8.toNat_ofNat']; omega
  rw [show (#[.int .u8 0, .int .u8 0, .int .u8 (j : Int)] : Array Value) = #[.int .u8 ((UInt8.ofNat (j / 65536)).toNat : Int), .int .u8 ((UInt8.ofNat (j / 256)).toNat : Int), .int .u8 ((UInt8.ofNat j).toNat : Int)] by rw [e0, e1, e2]]
  rfl
theorem cover_take {s t : List UInt8} {i : Nat} (h : i < t.length) : (coverB s t).take (i + 1) = (coverB s t).take i ++ [t.getD i 0 ^^^ kb s i] := by
  have h2 : i < (coverB s t).length := by rw [coverB_len]; exact h
  rw [List.take_succ_eq_append_getElem h2]
  congr 2
  have := coverB_get (s := s) h
  simp only [List.getD, List.getElem?_eq_getElem h2, Option.getD_some] at this
  rw [this]
  rfl
theorem grown_but {w w' : World} {r : Option Nat} {B k0 : Nat} (h : w.grownBy w' r) (hB : B ≤ w.heap.size) (hk : ∀ k, r = some k → k = k0) : But B k0 w w' :=
  ⟨h.os, h.tape, h.output, h.size, fun k hkB hne => h.block k (Nat.lt_of_lt_of_le hkB hB) (fun e => hne (hk k e.symm))⟩
set_option linter.unusedSimpArgs false in
set_option maxRecDepth 100000 in
set_option maxHeartbeats 6400000 in
theorem cover_law {w : World} {a : Option Addr} {s t : List UInt8} {n c : Nat} (hs : s.length = 32) (ht : Row w a n c t) (hn : n ≤ 200) (hk : KsAt w) :
    Calls Tryd.prog 8 #[.agg (cellsOf s).toArray, .slice a n c] w fun e w' => ∃ a' c', e = .returned (.slice a' n c') ∧ Row w' a' n c' (coverB s t) ∧ Below w.heap.size w w' := by
  obtain ⟨i0, hi, hz0, hz1, hz2⟩ := info_parts Tryd.info5
  have HI := Lib.hid hi
  have HS := Lib.hid hs
  have HK := Lib.hid hk
  have HT := Lib.hid ht
  clear hi hs hk ht
  go_enter Tryd.func8, Tryd.ntmps8
  go_upto_region 1 with (fail)
  have b1 : Below w.heap.size w (w.alloc (.cells (cellsOf s).toArray 23)) := (Below.refl _ _).alloc (Nat.le_refl _) _
  have h1 := heap_alloc_new w (.cells (cellsOf s).toArray 23)
  revert b1 h1
  generalize (w.alloc (.cells (cellsOf s).toArray 23)) = w1
  obtain ⟨q, hq⟩ : ∃ q, q = w.heap.size := ⟨_, rfl⟩
  rw [← hq]
  intro b1 h1
  rw [hq] at b1
  have HB1 := Lib.hid b1
  have HQ1 := Lib.hid h1
  have HK1 := Lib.hid (HK.out.below b1)
  have HT1 := Lib.hid (HT.out.below b1)
  clear b1 h1 hq HK
  go_wp2_with fail
  go_loopw [5, 6] (fun u v wr => ∃ i : Nat, i ≤ n ∧ v = .int .i64 i ∧ Under w1 u ((coverB s t).take i) wr) (fun _ v _ => n - (intOf v).toNat)
  case atStart => exact ⟨0, Nat.zero_le _, rfl, Under.none w1⟩
  case round =>
    obtain ⟨i, hin, rfl, hat⟩ := hrel
    have hcl : (coverB s t).length = n := by rw [coverB_len, HT1.out.1]
    have hxl : ((coverB s t).take i).length = i := by rw [List.length_take, hcl]; omega
    obtain ⟨a5, c5, rfl⟩ := hat.shape hxl
    have HAT := Lib.hid hat
    clear hat
    by_cases hil : i < n
    · have f1 : (i : Int) < (n : Int) := by omega
      obtain ⟨j, hj⟩ : ∃ j, j = i / 32 := ⟨_, rfl⟩
      obtain ⟨r, hr⟩ : ∃ r, r = i % 32 := ⟨_, rfl⟩
      have e1 : (i : Int) / 32 = (j : Int) := by omega
      have e2 : (i : Int) % 32 = (r : Int) := by omega
      have e3 : (i : Int).tmod 32 = (r : Int) := by rw [Int.tmod_eq_emod_of_nonneg (by omega)]; exact e2
      have f4 : (0 : Int) ≤ (r : Int) := by omega
      have hj6 : j ≤ 6 := by omega
      have hr32 : r < 32 := by omega
      have f2 : (j : Int) ≤ 6 := by omega
      have f3 : (r : Int) < 32 := by omega
      obtain ⟨b, off, rfl, hlb, hc⟩ := HT1.out.2.2.2.2 (by omega)
      have hc0 := hc i hil
      obtain ⟨x, hx, hxx, hjoin⟩ : ∃ x, keySum s j = x ∧ x.length = 32 ∧ ∀ (W : World) (gg p : Nat), KsAt W → W.heap[q]? = some (.cells (cellsOf s).toArray 23 (0, 0)) → W.heap[p]? = some (.cells (cellsOf (three j)).toArray 5 (0, 0)) → W.heap[gg]? = some (.cells #[.slice (some ⟨q, 0, none⟩) 32 32, .slice (some ⟨p, 0, none⟩) 3 3] 24 (0, 0)) →
          Calls Tryd.prog 7 #[.int .u8 51, .slice (some ⟨gg, 0, none⟩) 2 2] W fun e w' => e = .returned (.agg (cellsOf x).toArray) ∧ Below W.heap.size W w' :=
        ⟨_, rfl, keySum_len s j, fun W gg p hW hq hp hg => join_any 51 51 rfl (rows2_at hg (row_all hq 32 HS.out.symm (by omega)) (row_all hp 3 rfl (by omega))) hW (parts2_few 51 HS.out (by show 3 ≤ 1000000; omega))⟩
      have hkb : kb s i = x.getD r 0 := by unfold kb; rw [← hj, ← hr, hx]
      have htk := cover_take (s := s) (t := t) (i := i) (by rw [HT1.out.1]; exact hil)
      obtain ⟨zb, hzb⟩ : ∃ zb, zb = t.getD i 0 ^^^ kb s i := ⟨_, rfl⟩
      obtain ⟨z, hz⟩ : ∃ z : Int, ((zb.toNat : Nat) : Int) = z := ⟨_, rfl⟩
      have hxo := bits8_xor (t.getD i 0) (kb s i)
      rw [← hzb, hz, hkb] at hxo
      rw [← hzb] at htk
      have HXX := Lib.hid hxx
      have HJ := Lib.hid hjoin
      have HTK := Lib.hid htk
      have HZ := Lib.hid hz
      have HXL := Lib.hid hxl
      have SZX := Lib.hid (size_of hxx)
      have ZX := Lib.hid (zero_of hxx)
      obtain ⟨X, hX⟩ : ∃ X, X = (coverB s t).take i := ⟨_, rfl⟩
      rw [← hX] at HAT HTK HXL
      have HC0 := Lib.hid hc0
      have hx0 := UInt8.toNat_lt (t.getD i 0)
      have hx1 := UInt8.toNat_lt (x.getD r 0)
      clear hj hr hc hc0 hx hxx hjoin hkb htk hzb hz hX hxl hcl
      go_wp2_with fail
      rw [← three_few (by omega)]
      have b2 : Below wr.heap.size wr ((wr.alloc (.cells (cellsOf (three j)).toArray 5)).alloc (.cells #[.slice (some ⟨q, 0, none⟩) 32 32, .slice (some ⟨wr.heap.size, 0, none⟩) 3 3] 24)) := ((Below.refl _ _).alloc (Nat.le_refl _) _).alloc (by simp) _
      have hp2 : ((wr.alloc (.cells (cellsOf (three j)).toArray 5)).alloc (.cells #[.slice (some ⟨q, 0, none⟩) 32 32, .slice (some ⟨wr.heap.size, 0, none⟩) 3 3] 24)).heap[wr.heap.size]? = some (.cells (cellsOf (three j)).toArray 5 (0, 0)) := by
        rw [heap_alloc_old _ _ (by simp), heap_alloc_new]
      refine (HJ.out _ (wr.heap.size + 1) wr.heap.size ((HK1.out.below HAT.out.below).below b2) (keep b2 (keep HAT.out.below HQ1.out)) hp2 (heap_alloc_at _ _ _ (by simp))).mono ?_
      rintro e w3 ⟨rfl, hb3⟩
      have HU3 := Lib.hid (HAT.out.more (bthen b2 hb3))
      clear b2 hp2 hb3 HAT
      go_upto_region 6 with (first | (refine wpList_store_row rfl 23 _ _ rfl w3.heap.size (cellsOf x).toArray rfl rfl 23 (cellsOf zero32).toArray (heap_alloc_new _ _) SZX.out ZX.out (all_oneCell_toArray (cellsOf_one x)) ?_) | fail)
      rw [← zero32_is, laySum_is]
      have h5 := laySum_heap w3 x
      have b5 := laySum_self w3 x
      revert h5 b5
      generalize laySum w3 x = w5
      obtain ⟨p, hp⟩ : ∃ p, p = w3.heap.size := ⟨_, rfl⟩
      rw [← hp]
      intro h5 b5
      rw [hp] at b5
      have HU5 := Lib.hid (HU3.out.more b5)
      obtain ⟨k0, hk0⟩ : ∃ k0, k0 = (Value.ownBlock (.slice a5 i c5)).getD w5.heap.size := ⟨_, rfl⟩
      have hok : ∀ k, Value.ownBlock (.slice a5 i c5) = some k → k = k0 := fun k e => by rw [hk0, e]; rfl
      have hlp5 := lt_of_block h5
      have hlb5 : b < w5.heap.size := Nat.lt_of_lt_of_le hlb HU5.out.below.size
      have hnb : b ≠ k0 := by
        cases e : Value.ownBlock (.slice a5 i c5) with
        | none => rw [hk0, e]; show b ≠ w5.heap.size; omega
        | some k => rw [← hok k e]; have := HU5.out.own.lt k e; omega
      have hnp : p ≠ k0 := by
        cases e : Value.ownBlock (.slice a5 i c5) with
        | none => rw [hk0, e]; show p ≠ w5.heap.size; omega
        | some k => rw [← hok k e]; have := HU3.out.old k e; omega
      have hc8 : w5.cell? ⟨p, r, none⟩ = some (.int .u8 (((x.getD r 0).toNat : Nat) : Int)) := by
        rw [cell_of_row _ _ _ _ _ _ h5, List.getElem?_toArray, cellsOf_get (by rw [HXX.out]; omega)]
      have HC8 := Lib.hid hc8
      have HC4 := Lib.hid ((HU5.out.below.cell (p := ⟨b, off + i, none⟩) hlb).trans HC0.out)
      have HOK := Lib.hid hok
      clear h5 b5 hp hk0 hok hc8 HU3 HC0
      generalize ((t.getD i 0).toNat : Nat) = x0 at *
      generalize ((x.getD r 0).toNat : Nat) = x1 at *
      try simp only [Act.put]
      refine wp_region_held_drew (S := fun w' => But w5.heap.size k0 w5 w') (by kernel_rfl) (But.of (below_drew (Below.refl _ _))) (fun hHeld => ?_)
      refine take_at (i := 0) (v := ?_) rfl rfl (by kernel_rfl) (by kernel_rfl) (by kernel_rfl) (fun _ _ _ h => h) (Or.inl ⟨by rfl, ?_⟩) (by assumption) ?_
      rotate_left
      · intro w0 hSw; (try dsimp only at hSw); first | (go_simp; done) | (go_simp; with_reducible rfl)
      simp only [List.setIfInBounds_toArray, List.set_cons_zero, List.set_cons_succ]
      refine take_at (i := 1) (v := ?_) rfl rfl (by kernel_rfl) (by kernel_rfl) (by kernel_rfl) (fun _ _ _ h => h) (Or.inl ⟨by rfl, ?_⟩) (by assumption) ?_
      rotate_left
      · intro w0 hSw; (try dsimp only at hSw); first | (go_simp; done) | (go_simp; with_reducible rfl)
      simp only [List.setIfInBounds_toArray, List.set_cons_zero, List.set_cons_succ]
      refine take_at (i := 2) (v := ?_) rfl rfl (by kernel_rfl) (by kernel_rfl) (by kernel_rfl) (fun _ _ _ h => h) (Or.inl ⟨by rfl, ?_⟩) (by assumption) ?_
      rotate_left
      · intro w0 hSw; (try dsimp only at hSw); first | (go_simp; done) | (go_simp; with_reducible rfl)
      simp only [List.setIfInBounds_toArray, List.set_cons_zero, List.set_cons_succ]
      refine take_at (i := 3) (v := ?_) rfl rfl (by kernel_rfl) (by kernel_rfl) (by kernel_rfl) (fun _ _ _ h => h) (Or.inl ⟨by rfl, ?_⟩) (by assumption) ?_
      rotate_left
      · intro w0 hSw; (try dsimp only at hSw); first | (go_simp; done) | (go_simp; with_reducible rfl)
      simp only [List.setIfInBounds_toArray, List.set_cons_zero, List.set_cons_succ]
      refine take_at (i := 4) rfl rfl (by kernel_rfl) (by kernel_rfl) (by kernel_rfl) (fun _ _ _ h => h) (yields_cell (by rfl) rfl rfl (fun w0 hSw => (But.cell (a := ⟨b, off + i, none⟩) hSw hlb5 hnb).trans HC4.out) agU8) (by assumption) ?_
      simp only [List.setIfInBounds_toArray, List.set_cons_zero, List.set_cons_succ]
      refine take_at (i := 5) (v := ?_) rfl rfl (by kernel_rfl) (by kernel_rfl) (by kernel_rfl) (fun _ _ _ h => h) (Or.inl ⟨by rfl, ?_⟩) (by assumption) ?_
      rotate_left
      · intro w0 hSw; (try dsimp only at hSw); first | (go_simp; done) | (go_simp; with_reducible rfl)
      simp only [List.setIfInBounds_toArray, List.set_cons_zero, List.set_cons_succ]
      refine take_at (i := 6) (v := .int .i64 (r : Int)) rfl rfl (by kernel_rfl) (by kernel_rfl) (by kernel_rfl) (fun _ _ _ h => h) (Or.inl ⟨by rfl, ?_⟩) (by assumption) ?_
      · intro w0 hSw; (try dsimp only at hSw); first | (go_simp; done) | (go_simp; with_reducible rfl) | (go_simp; omega)
      simp only [List.setIfInBounds_toArray, List.set_cons_zero, List.set_cons_succ]
      refine take_at (i := 7) (v := ?_) rfl rfl (by kernel_rfl) (by kernel_rfl) (by kernel_rfl) (fun _ _ _ h => h) (Or.inl ⟨by rfl, ?_⟩) (by assumption) ?_
      rotate_left
      · intro w0 hSw; (try dsimp only at hSw); first | (go_simp; done) | (go_simp; with_reducible rfl)
      simp only [List.setIfInBounds_toArray, List.set_cons_zero, List.set_cons_succ]
      refine take_at (i := 8) rfl rfl (by kernel_rfl) (by kernel_rfl) (by kernel_rfl) (fun _ _ _ h => h) (yields_cell (by rfl) rfl rfl (b := p) (o := r) (fun w0 hSw => (But.cell (a := ⟨p, r, none⟩) hSw hlp5 hnp).trans HC8.out) agU8) (by assumption) ?_
      simp only [List.setIfInBounds_toArray, List.set_cons_zero, List.set_cons_succ]
      refine take_at (i := 9) (v := .int .u8 z) rfl rfl (by kernel_rfl) (by kernel_rfl) (by kernel_rfl) (fun _ _ _ h => h) (Or.inl ⟨by rfl, ?_⟩) (by assumption) ?_
      · intro w0 hSw; (try dsimp only at hSw); first | (go_simp; done) | (go_simp; with_reducible rfl) | (go_simp; omega)
      simp only [List.setIfInBounds_toArray, List.set_cons_zero, List.set_cons_succ]
      refine wpAnyH_ready (rs := [10]) (by kernel_rfl) (by simp) ?_
      refine AllReadyH.cons rfl (fun K hK => ?_) ?_
      · refine step_byte1_gen (d := 31) (b := zb) rfl (by rfl) rfl rfl HZ.out (fun p6 y6 hp6 hr6 hb6 => ?_)
        have HR6 := Lib.hid hr6
        have HX6 := Lib.hid hb6
        clear hr6 hb6 hp6
        refine hK.out _ _ (by (try dsimp only); exact hHeld.trans (But.of (HX6.out.mono hHeld.size))) (fun hHeld => ?_)
        clear hK K
        refine wpAnyH_ready (rs := [11]) (by kernel_rfl) (by simp) ?_
        refine AllReadyH.cons rfl (fun K hK => ?_) ?_
        · have HU6 := Lib.hid ((HU5.out.more (below_drew (Below.refl _ _))).more HX6.out)
          refine step_append_row rfl _ _ 24 rfl w1.heap.size i0 Tryd.underlying24 HI.out hz0 hz1 hz2 _ X i HXL.out rfl HU6.out.own (some ⟨p6, 0, none⟩) 1 1 [zb] rfl HR6.out (by omega) HU6.out.below.size (fun a7 c7 y7 ho7 hg7 => ?_)
          have HU7 := Lib.hid (Under.grown HU6.out ho7 hg7)
          have HG7 := Lib.hid (grown_but (B := w5.heap.size) hg7 hHeld.size HOK.out)
          clear ho7 hg7 HU6
          refine hK.out _ _ (by (try dsimp only); exact hHeld.trans HG7.out) (fun hHeld => ?_)
          clear hK K
          refine take_at (i := 12) (v := ?_) rfl rfl (by kernel_rfl) (by kernel_rfl) (by kernel_rfl) (fun _ _ _ h => h) (Or.inl ⟨by rfl, ?_⟩) (by assumption) ?_
          rotate_left
          · intro w0 hSw; (try dsimp only at hSw); first | (go_simp; done) | (go_simp; with_reducible rfl)
          simp only [List.setIfInBounds_toArray, List.set_cons_zero, List.set_cons_succ]
          refine wpAnyH_done (by kernel_rfl) ?_ _
          clear hHeld HG7 HX6
          go_wp2_with fail
          go_roundw
          case rel => exact ⟨i + 1, by omega, by go_num, by rw [HTK.out]; exact HU7.out⟩
          case measure => simp [intOf]; omega
        exact AllReadyH.nil
      exact AllReadyH.nil
    · have f1 : ¬ (i : Int) < (n : Int) := by omega
      obtain rfl : i = n := by omega
      rw [List.take_of_length_le (by rw [hcl]; exact Nat.le_refl _)] at HAT
      have HFIN := Lib.hid (And.intro HAT.out.row (bthen HB1.out HAT.out.below))
      clear hcl hxl
      go_wp2_with fail
      go_ret
      exact ⟨a5, c5, rfl, HFIN.out⟩
end Go.Proofs.YtjfkhclcjggoeaaDoor
