/- ReceiptSigns, walked. -/
import Derived.Test.YtfccmiohnjhkoaaDoorAwake12
import Derived.Test.YtfccmiohnjhkoaaDoorRecSign
import Derived.Test.YtfccmiohnjhkoaaDoorRecKind
namespace Go.Proofs.YtfccmiohnjhkoaaDoor
open Go.RowKit

set_option linter.unusedSimpArgs false in
set_option maxRecDepth 100000 in
set_option maxHeartbeats 6400000 in
theorem signs12_few {w : World} {s : List UInt8} {a : Option Addr} {m c : Nat} {o : PRec} (n : Int) (hm : (m : Int) ≤ 9223372036854775807) (h : n < 1 ∨ 3 < n ∨ 4 < m) :
    Calls Tryd.prog 3 #[.agg (cellsOf s).toArray, .int .i64 n, .slice a m c, .agg o.cells.toArray] w fun e w' => e = .returned (.bool true) ∧ Below w.heap.size w w' := by
  have HAW := Lib.hid awake12_any
  have hh : n < 1 ∨ (¬ n < 1 ∧ 3 < n) ∨ (¬ n < 1 ∧ ¬ 3 < n ∧ 4 < (m : Int)) := by omega
  clear h
  rcases hh with d1 | ⟨d1, d2⟩ | ⟨d1, d2, d3⟩
  all_goals
    go_enter Tryd.func3, Tryd.ntmps3
    go_upto_region 1 with (fail)
    have b1 : Below w.heap.size w ((w.alloc (.cells (cellsOf s).toArray 23)).alloc (.cells o.cells.toArray 26)) := ((Below.refl _ _).alloc (Nat.le_refl _) _).alloc (by simp) _
    have h1' : ((w.alloc (.cells (cellsOf s).toArray 23)).alloc (.cells o.cells.toArray 26)).heap[w.heap.size]? = some (.cells (cellsOf s).toArray 23 (0, 0)) := by
      rw [heap_alloc_old _ _ (by simp), heap_alloc_new]
    have h2' : ((w.alloc (.cells (cellsOf s).toArray 23)).alloc (.cells o.cells.toArray 26)).heap[w.heap.size + 1]? = some (.cells o.cells.toArray 26 (0, 0)) := heap_alloc_at _ _ _ (by simp)
    revert b1 h1' h2'
    generalize ((w.alloc (.cells (cellsOf s).toArray 23)).alloc (.cells o.cells.toArray 26)) = w1
    obtain ⟨g, hg⟩ : ∃ g, g = w.heap.size := ⟨_, rfl⟩
    rw [← hg]
    intro b1 h1' h2'
    rw [hg] at b1
    have HB1 := Lib.hid b1
    clear b1 h1' h2' hg
    go_wp2_with (first | (go_at_call 4; (with_reducible refine (HAW.out _).mono ?_); rintro e wz ⟨rfl, hb⟩; have HBZ := Lib.hid hb; clear hb) | fail)
    go_ret
    exact ⟨rfl, bthen HB1.out HBZ.out⟩
set_option linter.unusedSimpArgs false in
set_option maxRecDepth 100000 in
set_option maxHeartbeats 6400000 in
theorem signs12_in {w : World} {s : List UInt8} {a : Option Addr} {m c : Nat} {xs : List PRec} {o : PRec} (n : Nat) (hs : s.length = 32) (h : SliceOf recK w a m c xs) (ho : RecIn o) (hk : KsAt w) (h1 : 1 ≤ n) (h3 : n ≤ 3) (hm4 : m ≤ 4) :
    Calls Tryd.prog 3 #[.agg (cellsOf s).toArray, .int .i64 (n : Int), .slice a m c, .agg o.cells.toArray] w fun e w' => e = .returned (.bool true) ∧ Below w.heap.size w w' := by
  have HAW := Lib.hid awake12_any
  have hnew : ∀ W : World, KsAt W → Calls Tryd.prog 5 #[.agg (cellsOf s).toArray, .int .i64 (n : Int)] W fun e w' => ∃ k, e = .returned (.tuple #[.pointer (some ⟨k, 0, none⟩), .int .i64 0]) ∧ W.heap.size ≤ k ∧ KeyAt w' k s (leafKeys s n) 0 ∧ Below W.heap.size W w' := fun W hW => new_yes n h1 (by omega) hs hW
  have hlen := leafKeys_len s n
  obtain ⟨RO0, hRO⟩ : ∃ r, recOk o = r := ⟨_, rfl⟩
  have HRO : Hid (∀ W : World, Calls Tryd.prog 7 #[.agg o.cells.toArray] W fun e w' => e = .returned (.bool RO0) ∧ Below W.heap.size W w') := Lib.hid fun W => by rw [← hRO]; exact recright_law W o
  obtain ⟨TO, hTO⟩ : ∃ r, textB o = r := ⟨_, rfl⟩
  have htl := textB_len ho
  have HTO : Hid (∀ W : World, Calls Tryd.prog 13 #[.agg o.cells.toArray] W (TextOut W TO)) := Lib.hid fun W => by rw [← hTO]; exact text_law ho
  obtain ⟨R0, hrl, hrt, hstep⟩ : ∃ R0 : List UInt8, R0.length = 32 ∧ (∀ (W : World) (k u : Nat), KeyAt W k s (leafKeys s n) u → KsAt W → Calls Tryd.prog 10 #[.pointer (some ⟨k, 0, none⟩)] W fun e w' => e = .returned (.agg (cellsOf R0).toArray) ∧ Below W.heap.size W w') ∧
      (∀ (u : Nat) (y : PRec), u < n → RecIn y → recOk y = true → ∃ (SB : List UInt8) (V : Bool),
        (∀ (W : World) (k : Nat), KeyAt W k s (leafKeys s n) u → KsAt W → Calls Tryd.prog 6 #[.pointer (some ⟨k, 0, none⟩), .agg y.cells.toArray] W fun e w' => ∃ (a : Option Addr) (m c : Nat), e = .returned (.tuple #[.slice a m c, .int .i64 0]) ∧ Row w' a m c SB ∧ KeyAt w' k s (leafKeys s n) (u + 1) ∧ But W.heap.size k W w') ∧
        (∀ (W : World) (b : Option Addr) (m c : Nat), Row W b m c SB → KsAt W → Calls Tryd.prog 9 #[.agg (sigCells y b m c).toArray, .agg (cellsOf R0).toArray] W fun e w' => e = .returned (.bool true) ∧ Below W.heap.size W w') ∧
        (∀ (W : World) (b : Option Addr) (m c : Nat), Row W b m c SB → KsAt W → Calls Tryd.prog 11 #[.agg (cellsOf R0).toArray, .agg y.cells.toArray, .slice b m c] W fun e w' => e = .returned (.bool true) ∧ Below W.heap.size W w') ∧
        (∀ (W : World) (b : Option Addr) (m c : Nat), Row W b m c SB → KsAt W → Calls Tryd.prog 11 #[.agg (cellsOf R0).toArray, .agg o.cells.toArray, .slice b m c] W fun e w' => e = .returned (.bool (RO0 && V)) ∧ Below W.heap.size W w') ∧
        (∀ (W : World) (a : Option Addr) (k d : Nat) (b : Option Addr) (m c : Nat), Row W a k d TO → Row W b m c SB → KsAt W → Calls Tryd.prog 12 #[.agg (cellsOf R0).toArray, .slice a k d, .slice b m c] W fun e w' => e = .returned (.bool V) ∧ Below W.heap.size W w')) := by
    refine ⟨rootSum (leafKeys s n), rootSum_len _, fun W k u h1 h2 => keyroot_at h1 h2, fun u y hu hy hok => ⟨sig5 s n u (textB y), verdict (rootSum (leafKeys s n)) (textB o) s n u (textB y), fun W k g1 g2 => sign12_at hy hok g1 hu g2, fun W b m c g1 g2 => ?_, fun W b m c g1 g2 => ?_, fun W b m c g1 g2 => ?_, fun W a k d b m c g0 g1 g2 => ?_⟩⟩
    · have h9 := good12_any hy (rootSum_len (leafKeys s n)) hu (by omega) g1 g2
      rw [hok, verdict_own s n u (textB y) hu (by omega)] at h9
      exact h9
    · have h9 := verify12_any hy (rootSum_len (leafKeys s n)) hu (by omega) g1 g2
      rw [hok, verdict_own s n u (textB y) hu (by omega)] at h9
      exact h9
    · have h9 := verify12_any ho (rootSum_len (leafKeys s n)) hu (by omega) g1 g2
      rw [hRO] at h9
      exact h9
    · rw [← hTO] at g0
      exact verify5_text hu (by omega) (rootSum_len (leafKeys s n)) g0 (by have h9 := g0.1; omega) g1 g2
  obtain ⟨LS, hLS⟩ : ∃ r, leafKeys s n = r := ⟨_, rfl⟩
  rw [hLS] at hnew hlen hrt hstep
  have HNEW := Lib.hid hnew
  have HLEN := Lib.hid hlen
  have HRTA := Lib.hid hrt
  have HSTEP := Lib.hid hstep
  have SZS := Lib.hid (sumLenS hs)
  have SLO := Lib.hid (rec_size ho)
  have HL := Lib.hid h
  have HK := Lib.hid hk
  have e1 : ¬ ((n : Int) < 1) := by omega
  have e2 : ¬ (3 < (n : Int)) := by omega
  have e3 : ¬ (4 < (m : Int)) := by omega
  clear hnew hlen hrt hstep hLS hTO hRO htl hs h ho hk hrl
  go_enter Tryd.func3, Tryd.ntmps3
  go_upto_region 1 with (fail)
  have b1 : Below w.heap.size w ((w.alloc (.cells (cellsOf s).toArray 23)).alloc (.cells o.cells.toArray 26)) := ((Below.refl _ _).alloc (Nat.le_refl _) _).alloc (by simp) _
  have h1' : ((w.alloc (.cells (cellsOf s).toArray 23)).alloc (.cells o.cells.toArray 26)).heap[w.heap.size]? = some (.cells (cellsOf s).toArray 23 (0, 0)) := by
    rw [heap_alloc_old _ _ (by simp), heap_alloc_new]
  have h2' : ((w.alloc (.cells (cellsOf s).toArray 23)).alloc (.cells o.cells.toArray 26)).heap[w.heap.size + 1]? = some (.cells o.cells.toArray 26 (0, 0)) := heap_alloc_at _ _ _ (by simp)
  revert b1 h1' h2'
  generalize ((w.alloc (.cells (cellsOf s).toArray 23)).alloc (.cells o.cells.toArray 26)) = w1
  obtain ⟨g, hg⟩ : ∃ g, g = w.heap.size := ⟨_, rfl⟩
  rw [← hg]
  intro b1 h1' h2'
  rw [hg] at b1
  have HB1 := Lib.hid b1
  have RS : Hid (w1.rangeAt g 0 (cellsOf s)) := Lib.hid (range_of h1')
  have RO : Hid (∀ W : World, Below w1.heap.size w1 W → W.rangeAt (g + 1) 0 o.cells) := Lib.hid fun W hW => range_of (keep hW h2')
  have HL1 := Lib.hid (HL.out.below b1)
  have HK1 := Lib.hid (HK.out.below b1)
  clear b1 h1' h2' hg HL HK
  go_wp2_with (first | (refine wpList_load_mid rfl 23 _ rfl g 0 rfl (cellsOf s) _ RS.out Tryd.underlying23 rfl SZS.out ?_) | fail)
  refine (HNEW.out _ HK1.out).mono ?_
  rintro e w6 ⟨k, rfl, hnk, hkey, hb6⟩
  have HNK1 := Lib.hid hnk
  have HKEY6 := Lib.hid hkey
  have HB6 := Lib.hid hb6
  have HRT : Hid (∀ (W : World) {u : Nat}, KeyAt W k s LS u → KsAt W → Calls Tryd.prog 10 #[.pointer (some ⟨k, 0, none⟩)] W fun e w' => e = .returned (.agg (cellsOf R0).toArray) ∧ Below W.heap.size W w') := Lib.hid fun W u h1 h2 => HRTA.out W k u h1 h2
  clear hnk hkey hb6 HNEW RS SZS HRTA
  go_wp2_with fail
  go_loopw [11, 12] (fun x z wr => ∃ u j : Nat, u ≤ n ∧ j ≤ m ∧ x = .int .i64 u ∧ z = .int .i64 j ∧ KeyAt wr k s LS u ∧ But w6.heap.size k w6 wr) (fun _ z _ => m - (intOf z).toNat)
  case atStart => exact ⟨0, 0, by omega, by omega, rfl, rfl, HKEY6.out, But.refl _ _ _⟩
  case round =>
    obtain ⟨u, j, hu, hj, rfl, rfl, hkey, hbut⟩ := hrel
    have HBT := Lib.hid hbut
    have HBW1 := Lib.hid (But.in HB6.out hbut HNK1.out)
    have HKW := Lib.hid (HK1.out.below HBW1.out)
    have HKEY := Lib.hid hkey
    clear hkey hbut HKEY6
    by_cases hjm : j < m
    · have f1 : (j : Int) < (m : Int) := by omega
      have f0 : (0 : Int) ≤ (j : Int) := by omega
      have ft : ((j : Int)).toNat = j := by omega
      obtain ⟨lb, lo, rfl, hlt, hcells⟩ := HL1.out.2.2.2.2.2 (by omega)
      have hc0 := hcells j hjm
      have hyi0 := HL1.out.get hjm
      obtain ⟨y, hy⟩ : ∃ y : PRec, y = xs.getD j noRec := ⟨_, rfl⟩
      have hyi : RecIn y := by rw [hy]; exact hyi0
      have RL : Hid (∀ W : World, Below w1.heap.size w1 W → W.rangeAt lb (lo + j * 67) y.cells) := Lib.hid fun W hW => by rw [hy]; exact rangeAt_below hc0 hlt hW
      have RL0 := Lib.hid (RL.out _ HBW1.out)
      have SLY := Lib.hid (rec_size hyi)
      clear hlt hcells hc0 hyi0 hy
      by_cases hR : recOk y = true
      rotate_left
      · replace hR : recOk y = false := by simpa using hR
        have HSB : Hid (∀ (W : World) (v : Value), Calls Tryd.prog 6 #[v, .agg y.cells.toArray] W fun e w' => e = .returned (.tuple #[.slice none 0 0, .int .i64 1]) ∧ Below W.heap.size W w') := Lib.hid fun W v => sign12_bad hyi hR
        have HRY : Hid (∀ W : World, Calls Tryd.prog 7 #[.agg y.cells.toArray] W fun e w' => e = .returned (.bool false) ∧ Below W.heap.size W w') := Lib.hid fun W => by rw [← hR]; exact recright_law W y
        clear hR hyi
        go_wp2_with (first | (refine wpList_load_mid rfl 26 _ rfl lb (lo + j * 67) rfl y.cells _ RL0.out Tryd.underlying26 rfl SLY.out ?_) | fail)
        refine (HSB.out _ _).mono ?_
        rintro e w7 ⟨rfl, hb⟩
        have RL7 := Lib.hid (RL.out _ (bthen HBW1.out hb))
        have HB7 := Lib.hid hb
        clear hb RL0
        go_wp2_with (first | (refine wpList_load_mid rfl 26 _ rfl lb (lo + j * 67) rfl y.cells _ RL7.out Tryd.underlying26 rfl SLY.out ?_) | fail)
        refine (HRY.out _).mono ?_
        rintro e w8 ⟨rfl, hb⟩
        have HB8 := Lib.hid (bthen HB7.out hb)
        clear hb RL7 HB7
        have HKY8 := Lib.hid (HKEY.out.below HB8.out)
        have HBT8 := Lib.hid (HBT.out.trans (But.of (HB8.out.mono HBT.out.size)))
        go_wp2_with (first | (go_at_call 8; (with_reducible refine (next_at HKY8.out).mono ?_); rintro e w9 ⟨rfl, rfl⟩) | fail)
        go_roundw
        case rel => exact ⟨u, j + 1, by omega, by omega, by go_num, by go_num, HKY8.out, HBT8.out⟩
        case measure => simp [intOf]; omega
      by_cases hun : u < n
      rotate_left
      · obtain rfl : u = n := by omega
        have d1 : (u : Int) ≤ (u : Int) := Int.le_refl _
        have HSB : Hid (∀ (W : World), KeyAt W k s LS u → Calls Tryd.prog 6 #[.pointer (some ⟨k, 0, none⟩), .agg y.cells.toArray] W fun e w' => e = .returned (.tuple #[.slice none 0 0, .int .i64 15]) ∧ Below W.heap.size W w') := Lib.hid fun W hW => sign12_used hyi hR hW HLEN.out
        have HRY : Hid (∀ W : World, Calls Tryd.prog 7 #[.agg y.cells.toArray] W fun e w' => e = .returned (.bool true) ∧ Below W.heap.size W w') := Lib.hid fun W => by rw [← hR]; exact recright_law W y
        clear hR hyi hun
        go_wp2_with (first | (refine wpList_load_mid rfl 26 _ rfl lb (lo + j * 67) rfl y.cells _ RL0.out Tryd.underlying26 rfl SLY.out ?_) | fail)
        refine (HSB.out _ HKEY.out).mono ?_
        rintro e w7 ⟨rfl, hb⟩
        have RL7 := Lib.hid (RL.out _ (bthen HBW1.out hb))
        have HB7 := Lib.hid hb
        clear hb RL0
        go_wp2_with (first | (refine wpList_load_mid rfl 26 _ rfl lb (lo + j * 67) rfl y.cells _ RL7.out Tryd.underlying26 rfl SLY.out ?_) | fail)
        refine (HRY.out _).mono ?_
        rintro e w8 ⟨rfl, hb⟩
        have HB8 := Lib.hid (bthen HB7.out hb)
        clear hb RL7 HB7
        have HKY8 := Lib.hid (HKEY.out.below HB8.out)
        have HBT8 := Lib.hid (HBT.out.trans (But.of (HB8.out.mono HBT.out.size)))
        go_wp2_with fail
        go_roundw
        case rel => exact ⟨u, j + 1, by omega, by omega, by go_num, by go_num, HKY8.out, HBT8.out⟩
        case measure => simp [intOf]; omega
      · have d1 : ¬ ((n : Int) ≤ (u : Int)) := by omega
        have iw : IntKind.i64.wrap ((u : Int) + 1) = (u : Int) + 1 := IntWalk.i64_in _ (by omega)
        obtain ⟨SB, V, hsg, hgy, hvy, hvo, hmv⟩ := HSTEP.out u y hun hyi hR
        have HSG := Lib.hid hsg
        have HGY := Lib.hid hgy
        have HVY := Lib.hid hvy
        have HVO := Lib.hid hvo
        have HMV := Lib.hid hmv
        have HRY : Hid (∀ W : World, Calls Tryd.prog 7 #[.agg y.cells.toArray] W fun e w' => e = .returned (.bool true) ∧ Below W.heap.size W w') := Lib.hid fun W => by rw [← hR]; exact recright_law W y
        clear hR hun hsg hgy hvy hvo hmv
        go_wp2_with (first | (refine wpList_load_mid rfl 26 _ rfl lb (lo + j * 67) rfl y.cells _ RL0.out Tryd.underlying26 rfl SLY.out ?_) | fail)
        refine (HSG.out _ _ HKEY.out HKW.out).mono ?_
        rintro e w7 ⟨sa, sm, sc, rfl, hr, hkey, hb⟩
        have HS7 := Lib.hid hr
        have HKY7 := Lib.hid hkey
        have HBT7 := Lib.hid (HBT.out.trans (hb.mono HBT.out.size))
        have HB17 := Lib.hid (But.in HBW1.out hb HNK1.out)
        have RL7 := Lib.hid (RL.out _ HB17.out)
        clear hr hkey hb RL0
        go_wp2_with (first | (refine wpList_load_mid rfl 26 _ rfl lb (lo + j * 67) rfl y.cells _ RL7.out Tryd.underlying26 rfl SLY.out ?_) | fail)
        refine (HRY.out _).mono ?_
        rintro e w8 ⟨rfl, hb⟩
        have HS8 := Lib.hid (HS7.out.below hb)
        have HKY8 := Lib.hid (HKY7.out.below hb)
        have HBT8 := Lib.hid (HBT7.out.trans (But.of (hb.mono HBT7.out.size)))
        have HB18 := Lib.hid (bthen HB17.out hb)
        have RL8 := Lib.hid (RL.out _ HB18.out)
        clear hb HS7 HKY7 HBT7 HB17 RL7
        have SGA := Lib.hid (sig_sizeA hyi sa sm sc)
        have SGZ := Lib.hid (sig_zero hyi sa sm sc)
        have SGY := Lib.hid (sig_size hyi sa sm sc)
        have HYI := Lib.hid hyi
        clear hyi
        go_upto_region 19 with (first | (refine wpList_load_mid rfl 26 _ rfl lb (lo + j * 67) rfl y.cells _ RL8.out Tryd.underlying26 rfl SLY.out ?_) | (refine wpList_build10 rfl rfl (vs := [(0, .agg y.cells.toArray), (1, .slice sa sm sc)]) (by rfl) (build_sig HYI.out sa sm sc) ?_) | (refine wpList_new rfl 38 rfl noSig.toArray Tryd.infoSig ?_; intro g15 w_n hg_n h_n b_n; have HNV := Lib.hid h_n; have HNB := Lib.hid b_n; have HNG := Lib.hid hg_n; clear h_n b_n hg_n; go_frame) | (refine wpList_store_row rfl 38 _ _ rfl g15 (sigCells y sa sm sc).toArray rfl rfl 38 noSig.toArray HNV.out SGA.out SGZ.out (all_oneCell_toArray (sig_one _ _ _ _)) ?_) | fail)
        have h_s := setRow_heap w_n g15 noSig.toArray (sigCells y sa sm sc).toArray 38 (0, 0) HNV.out
        have b_s := But.in HNB.out (but_setRow w_n g15 (sigCells y sa sm sc).toArray) HNG.out
        revert h_s b_s
        generalize w_n.setRow g15 (sigCells y sa sm sc).toArray = w9
        intro h_s b_s
        clear HNV HNB HNG
        have HS9 := Lib.hid (HS8.out.below b_s)
        have HKY9 := Lib.hid (HKY8.out.below b_s)
        have HBT9 := Lib.hid (HBT8.out.trans (But.of (b_s.mono HBT8.out.size)))
        have HB9 := Lib.hid (bthen HB18.out b_s)
        have HK9 := Lib.hid (HK1.out.below HB9.out)
        have R15 : Hid (∀ W : World, Below w9.heap.size w9 W → W.rangeAt g15 0 (sigCells y sa sm sc)) := Lib.hid fun W hW => range_of (keep hW h_s)
        clear h_s b_s HS8 HKY8 HBT8 HB18 RL8 SGA SGZ HKW HBW1 HKEY HBT
        cases RO0
        · refine wp_region_held_drew (S := fun w' => Below w9.heap.size w9 w') (by kernel_rfl) (below_drew (Below.refl _ _)) (fun hHeld => ?_)
          refine take_at (i := 0) (v := ?_) rfl rfl (by kernel_rfl) (by kernel_rfl) (by kernel_rfl) (fun _ _ _ h => h) (Or.inl ⟨by rfl, ?_⟩) (by assumption) ?_
          rotate_left
          · intro w0 hSw; (try dsimp only at hSw); first | (go_simp; done) | (go_simp; with_reducible rfl)
          simp only [List.setIfInBounds_toArray, List.set_cons_zero, List.set_cons_succ]
          refine take_at (i := 1) (v := ?_) rfl rfl (by kernel_rfl) (by kernel_rfl) (by kernel_rfl) (fun _ _ _ h => h) (Or.inl ⟨by rfl, ?_⟩) (by assumption) ?_
          rotate_left
          · intro w0 hSw; (try dsimp only at hSw); first | (go_simp; done) | (go_simp; with_reducible rfl)
          simp only [List.setIfInBounds_toArray, List.set_cons_zero, List.set_cons_succ]
          refine take_at (i := 2) (v := ?_) rfl rfl (by kernel_rfl) (by kernel_rfl) (by kernel_rfl) (fun _ _ _ h => h) (Or.inl ⟨by rfl, ?_⟩) (by assumption) ?_
          rotate_left
          · intro w0 hSw; (try dsimp only at hSw); first | (go_simp; done) | (go_simp; with_reducible rfl)
          simp only [List.setIfInBounds_toArray, List.set_cons_zero, List.set_cons_succ]
          refine take_at (i := 3) rfl rfl (by kernel_rfl) (by kernel_rfl) (by kernel_rfl) (fun _ _ _ h => h) (yieldsIf_load_mid (by rfl) _ _ rfl g15 0 rfl (sigCells y sa sm sc) _ (fun w0 hSw => R15.out _ hSw) Tryd.underlying38 rfl SGY.out) (by assumption) ?_
          simp only [List.setIfInBounds_toArray, List.set_cons_zero, List.set_cons_succ]
          refine take_at (i := 4) (v := ?_) rfl rfl (by kernel_rfl) (by kernel_rfl) (by kernel_rfl) (fun _ _ _ h => h) (Or.inl ⟨by rfl, ?_⟩) (by assumption) ?_
          rotate_left
          · intro w0 hSw; (try dsimp only at hSw); first | (go_simp; done) | (go_simp; with_reducible rfl)
          simp only [List.setIfInBounds_toArray, List.set_cons_zero, List.set_cons_succ]
          refine wpAnyH_ready (rs := [5]) (by kernel_rfl) (by simp) ?_
          refine AllReadyH.cons rfl (fun K hK => ?_) ?_
          · go_simp
            go_wp2_with ((go_at_call 10; (with_reducible refine (HRT.out _ (HKY9.out.below hHeld) (HK9.out.below hHeld)).mono ?_); rintro e y5 ⟨rfl, hb⟩; have HBy5 := Lib.hid hb; clear hb))
            refine hK.out _ _ (by (try dsimp only); exact Below.trans hHeld (HBy5.out.mono (Below.size hHeld))) (fun hHeld => ?_)
            clear hK K
            refine wpAnyH_ready (rs := [6]) (by kernel_rfl) (by simp) ?_
            refine AllReadyH.cons rfl (fun K hK => ?_) ?_
            · go_simp
              go_wp2_with ((go_at_call 9; (with_reducible refine (HGY.out _ sa sm sc (HS9.out.below hHeld) (HK9.out.below hHeld)).mono ?_); rintro e y6 ⟨rfl, hb⟩; have HBy6 := Lib.hid hb; clear hb))
              refine hK.out _ _ (by (try dsimp only); exact Below.trans hHeld (HBy6.out.mono (Below.size hHeld))) (fun hHeld => ?_)
              clear hK K
              refine take_at (i := 7) (v := ?_) rfl rfl (by kernel_rfl) (by kernel_rfl) (by kernel_rfl) (fun _ _ _ h => h) (Or.inl ⟨by rfl, ?_⟩) (by assumption) ?_
              rotate_left
              · intro w0 hSw; (try dsimp only at hSw); first | (go_simp; done) | (go_simp; with_reducible rfl)
              simp only [List.setIfInBounds_toArray, List.set_cons_zero, List.set_cons_succ]
              refine take_at (i := 8) (v := ?_) rfl rfl (by kernel_rfl) (by kernel_rfl) (by kernel_rfl) (fun _ _ _ h => h) (Or.inl ⟨by rfl, ?_⟩) (by assumption) ?_
              rotate_left
              · intro w0 hSw; (try dsimp only at hSw); first | (go_simp; done) | (go_simp; with_reducible rfl)
              simp only [List.setIfInBounds_toArray, List.set_cons_zero, List.set_cons_succ]
              refine take_at (i := 9) (v := ?_) rfl rfl (by kernel_rfl) (by kernel_rfl) (by kernel_rfl) (fun _ _ _ h => h) (Or.inl ⟨by rfl, ?_⟩) (by assumption) ?_
              rotate_left
              · intro w0 hSw; (try dsimp only at hSw); first | (go_simp; done) | (go_simp; with_reducible rfl)
              simp only [List.setIfInBounds_toArray, List.set_cons_zero, List.set_cons_succ]
              refine take_at (i := 10) (v := ?_) rfl rfl (by kernel_rfl) (by kernel_rfl) (by kernel_rfl) (fun _ _ _ h => h) (Or.inl ⟨by rfl, ?_⟩) (by assumption) ?_
              rotate_left
              · intro w0 hSw; (try dsimp only at hSw); first | (go_simp; done) | (go_simp; with_reducible rfl)
              simp only [List.setIfInBounds_toArray, List.set_cons_zero, List.set_cons_succ]
              refine take_at (i := 12) (v := ?_) rfl rfl (by kernel_rfl) (by kernel_rfl) (by kernel_rfl) (fun _ _ _ h => h) (Or.inl ⟨by rfl, ?_⟩) (by assumption) ?_
              rotate_left
              · intro w0 hSw; (try dsimp only at hSw); first | (go_simp; done) | (go_simp; with_reducible rfl)
              simp only [List.setIfInBounds_toArray, List.set_cons_zero, List.set_cons_succ]
              refine take_at (i := 13) (v := ?_) rfl rfl (by kernel_rfl) (by kernel_rfl) (by kernel_rfl) (fun _ _ _ h => h) (Or.inl ⟨by rfl, ?_⟩) (by assumption) ?_
              rotate_left
              · intro w0 hSw; (try dsimp only at hSw); first | (go_simp; done) | (go_simp; with_reducible rfl)
              simp only [List.setIfInBounds_toArray, List.set_cons_zero, List.set_cons_succ]
              refine take_at (i := 14) (v := ?_) rfl rfl (by kernel_rfl) (by kernel_rfl) (by kernel_rfl) (fun _ _ _ h => h) (Or.inl ⟨by rfl, ?_⟩) (by assumption) ?_
              rotate_left
              · intro w0 hSw; (try dsimp only at hSw); first | (go_simp; done) | (go_simp; with_reducible rfl)
              simp only [List.setIfInBounds_toArray, List.set_cons_zero, List.set_cons_succ]
              refine take_at (i := 15) rfl rfl (by kernel_rfl) (by kernel_rfl) (by kernel_rfl) (fun _ _ _ h => h) (yieldsIf_load_mid (by rfl) _ _ rfl lb (lo + j * 67) rfl y.cells _ (fun w0 hSw => RL.out _ (bthen HB9.out hSw)) Tryd.underlying26 rfl SLY.out) (by assumption) ?_
              simp only [List.setIfInBounds_toArray, List.set_cons_zero, List.set_cons_succ]
              refine take_at (i := 16) (v := ?_) rfl rfl (by kernel_rfl) (by kernel_rfl) (by kernel_rfl) (fun _ _ _ h => h) (Or.inl ⟨by rfl, ?_⟩) (by assumption) ?_
              rotate_left
              · intro w0 hSw; (try dsimp only at hSw); first | (go_simp; done) | (go_simp; with_reducible rfl)
              simp only [List.setIfInBounds_toArray, List.set_cons_zero, List.set_cons_succ]
              refine wpAnyH_ready (rs := [11]) (by kernel_rfl) (by simp) ?_
              refine AllReadyH.cons rfl (fun K hK => ?_) ?_
              · go_simp
                go_wp2_with ((go_at_call 10; (with_reducible refine (HRT.out _ (HKY9.out.below hHeld) (HK9.out.below hHeld)).mono ?_); rintro e y11 ⟨rfl, hb⟩; have HBy11 := Lib.hid hb; clear hb))
                refine hK.out _ _ (by (try dsimp only); exact Below.trans hHeld (HBy11.out.mono (Below.size hHeld))) (fun hHeld => ?_)
                clear hK K
                refine wpAnyH_ready (rs := [17]) (by kernel_rfl) (by simp) ?_
                refine AllReadyH.cons rfl (fun K hK => ?_) ?_
                · go_simp
                  go_wp2_with ((go_at_call 11; (with_reducible refine (HVY.out _ sa sm sc (HS9.out.below hHeld) (HK9.out.below hHeld)).mono ?_); rintro e y17 ⟨rfl, hb⟩; have HBy17 := Lib.hid hb; clear hb))
                  refine hK.out _ _ (by (try dsimp only); exact Below.trans hHeld (HBy17.out.mono (Below.size hHeld))) (fun hHeld => ?_)
                  clear hK K
                  refine take_at (i := 18) (v := ?_) rfl rfl (by kernel_rfl) (by kernel_rfl) (by kernel_rfl) (fun _ _ _ h => h) (Or.inl ⟨by rfl, ?_⟩) (by assumption) ?_
                  rotate_left
                  · intro w0 hSw; (try dsimp only at hSw); first | (go_simp; done) | (go_simp; with_reducible rfl)
                  simp only [List.setIfInBounds_toArray, List.set_cons_zero, List.set_cons_succ]
                  refine take_at (i := 19) (v := ?_) rfl rfl (by kernel_rfl) (by kernel_rfl) (by kernel_rfl) (fun _ _ _ h => h) (Or.inl ⟨by rfl, ?_⟩) (by assumption) ?_
                  rotate_left
                  · intro w0 hSw; (try dsimp only at hSw); first | (go_simp; done) | (go_simp; with_reducible rfl)
                  simp only [List.setIfInBounds_toArray, List.set_cons_zero, List.set_cons_succ]
                  refine take_at (i := 20) (v := ?_) rfl rfl (by kernel_rfl) (by kernel_rfl) (by kernel_rfl) (fun _ _ _ h => h) (Or.inl ⟨by rfl, ?_⟩) (by assumption) ?_
                  rotate_left
                  · intro w0 hSw; (try dsimp only at hSw); first | (go_simp; done) | (go_simp; with_reducible rfl)
                  simp only [List.setIfInBounds_toArray, List.set_cons_zero, List.set_cons_succ]
                  refine take_at (i := 21) (v := ?_) rfl rfl (by kernel_rfl) (by kernel_rfl) (by kernel_rfl) (fun _ _ _ h => h) (Or.inl ⟨by rfl, ?_⟩) (by assumption) ?_
                  rotate_left
                  · intro w0 hSw; (try dsimp only at hSw); first | (go_simp; done) | (go_simp; with_reducible rfl)
                  simp only [List.setIfInBounds_toArray, List.set_cons_zero, List.set_cons_succ]
                  refine take_at (i := 23) rfl rfl (by kernel_rfl) (by kernel_rfl) (by kernel_rfl) (fun _ _ _ h => h) (yieldsIf_load_mid (by rfl) _ _ rfl (g + 1) 0 rfl o.cells _ (fun w0 hSw => RO.out _ (bthen HB9.out hSw)) Tryd.underlying26 rfl SLO.out) (by assumption) ?_
                  simp only [List.setIfInBounds_toArray, List.set_cons_zero, List.set_cons_succ]
                  refine take_at (i := 24) (v := ?_) rfl rfl (by kernel_rfl) (by kernel_rfl) (by kernel_rfl) (fun _ _ _ h => h) (Or.inl ⟨by rfl, ?_⟩) (by assumption) ?_
                  rotate_left
                  · intro w0 hSw; (try dsimp only at hSw); first | (go_simp; done) | (go_simp; with_reducible rfl)
                  simp only [List.setIfInBounds_toArray, List.set_cons_zero, List.set_cons_succ]
                  refine take_at (i := 26) rfl rfl (by kernel_rfl) (by kernel_rfl) (by kernel_rfl) (fun _ _ _ h => h) (yieldsIf_load_mid (by rfl) _ _ rfl (g + 1) 0 rfl o.cells _ (fun w0 hSw => RO.out _ (bthen HB9.out hSw)) Tryd.underlying26 rfl SLO.out) (by assumption) ?_
                  simp only [List.setIfInBounds_toArray, List.set_cons_zero, List.set_cons_succ]
                  refine wpAnyH_ready (rs := [22]) (by kernel_rfl) (by simp) ?_
                  refine AllReadyH.cons rfl (fun K hK => ?_) ?_
                  · go_simp
                    go_wp2_with ((go_at_call 10; (with_reducible refine (HRT.out _ (HKY9.out.below hHeld) (HK9.out.below hHeld)).mono ?_); rintro e y22 ⟨rfl, hb⟩; have HBy22 := Lib.hid hb; clear hb))
                    refine hK.out _ _ (by (try dsimp only); exact Below.trans hHeld (HBy22.out.mono (Below.size hHeld))) (fun hHeld => ?_)
                    clear hK K
                    refine wpAnyH_ready (rs := [25]) (by kernel_rfl) (by simp) ?_
                    refine AllReadyH.cons rfl (fun K hK => ?_) ?_
                    · go_simp
                      go_wp2_with ((go_at_call 11; (with_reducible refine (HVO.out _ sa sm sc (HS9.out.below hHeld) (HK9.out.below hHeld)).mono ?_); rintro e y25 ⟨rfl, hb⟩; have HBy25 := Lib.hid hb; clear hb))
                      refine hK.out _ _ (by (try dsimp only); exact Below.trans hHeld (HBy25.out.mono (Below.size hHeld))) (fun hHeld => ?_)
                      clear hK K
                      refine wpAnyH_ready (rs := [27]) (by kernel_rfl) (by simp) ?_
                      refine AllReadyH.cons rfl (fun K hK => ?_) ?_
                      · go_simp
                        go_wp2_with ((go_at_call 7; (with_reducible refine (HRO.out _).mono ?_); rintro e y27 ⟨rfl, hb⟩; have HBy27 := Lib.hid hb; clear hb))
                        refine hK.out _ _ (by (try dsimp only); exact Below.trans hHeld (HBy27.out.mono (Below.size hHeld))) (fun hHeld => ?_)
                        clear hK K
                        refine take_at (i := 28) (v := ?_) rfl rfl (by kernel_rfl) (by kernel_rfl) (by kernel_rfl) (fun _ _ _ h => h) (Or.inl ⟨by rfl, ?_⟩) (by assumption) ?_
                        rotate_left
                        · intro w0 hSw; (try dsimp only at hSw); first | (go_simp; done) | (go_simp; with_reducible rfl)
                        simp only [List.setIfInBounds_toArray, List.set_cons_zero, List.set_cons_succ]
                        refine take_at (i := 29) (v := undef) rfl rfl (by kernel_rfl) (by kernel_rfl) (by kernel_rfl) (fun _ _ _ h => h) (Or.inr ⟨by rfl, rfl⟩) (by assumption) ?_
                        simp only [List.setIfInBounds_toArray, List.set_cons_zero, List.set_cons_succ]
                        refine take_at (i := 30) (v := undef) rfl rfl (by kernel_rfl) (by kernel_rfl) (by kernel_rfl) (fun _ _ _ h => h) (Or.inr ⟨by rfl, rfl⟩) (by assumption) ?_
                        simp only [List.setIfInBounds_toArray, List.set_cons_zero, List.set_cons_succ]
                        refine take_at (i := 31) (v := undef) rfl rfl (by kernel_rfl) (by kernel_rfl) (by kernel_rfl) (fun _ _ _ h => h) (Or.inr ⟨by rfl, rfl⟩) (by assumption) ?_
                        simp only [List.setIfInBounds_toArray, List.set_cons_zero, List.set_cons_succ]
                        refine take_at (i := 32) (v := undef) rfl rfl (by kernel_rfl) (by kernel_rfl) (by kernel_rfl) (fun _ _ _ h => h) (Or.inr ⟨by rfl, rfl⟩) (by assumption) ?_
                        simp only [List.setIfInBounds_toArray, List.set_cons_zero, List.set_cons_succ]
                        refine take_at (i := 33) (v := undef) rfl rfl (by kernel_rfl) (by kernel_rfl) (by kernel_rfl) (fun _ _ _ h => h) (Or.inr ⟨by rfl, rfl⟩) (by assumption) ?_
                        simp only [List.setIfInBounds_toArray, List.set_cons_zero, List.set_cons_succ]
                        refine take_at (i := 34) (v := undef) rfl rfl (by kernel_rfl) (by kernel_rfl) (by kernel_rfl) (fun _ _ _ h => h) (Or.inr ⟨by rfl, rfl⟩) (by assumption) ?_
                        simp only [List.setIfInBounds_toArray, List.set_cons_zero, List.set_cons_succ]
                        refine take_at (i := 35) (v := ?_) rfl rfl (by kernel_rfl) (by kernel_rfl) (by kernel_rfl) (fun _ _ _ h => h) (Or.inl ⟨by rfl, ?_⟩) (by assumption) ?_
                        rotate_left
                        · intro w0 hSw; (try dsimp only at hSw); first | (go_simp; done) | (go_simp; with_reducible rfl)
                        simp only [List.setIfInBounds_toArray, List.set_cons_zero, List.set_cons_succ]
                        refine take_at (i := 36) (v := .bool false) rfl rfl (by kernel_rfl) (by kernel_rfl) (by kernel_rfl) (fun _ _ _ h => h) (Or.inl ⟨by rfl, ?_⟩) (by assumption) ?_
                        · intro w0 hSw; (try dsimp only at hSw); first | (go_simp; done) | (go_simp; with_reducible rfl) | (go_simp; omega)
                        simp only [List.setIfInBounds_toArray, List.set_cons_zero, List.set_cons_succ]
                        refine take_at (i := 37) (v := ?_) rfl rfl (by kernel_rfl) (by kernel_rfl) (by kernel_rfl) (fun _ _ _ h => h) (Or.inl ⟨by rfl, ?_⟩) (by assumption) ?_
                        rotate_left
                        · intro w0 hSw; (try dsimp only at hSw); first | (go_simp; done) | (go_simp; with_reducible rfl)
                        simp only [List.setIfInBounds_toArray, List.set_cons_zero, List.set_cons_succ]
                        refine wpAnyH_done (by kernel_rfl) ?_ _
                        have HST := Lib.hid (show Below w9.heap.size w9 y27 from hHeld)
                        clear hHeld
                        have HKYf := Lib.hid (HKY9.out.below HST.out)
                        have HBTf := Lib.hid (HBT9.out.trans (But.of (HST.out.mono HBT9.out.size)))
                        go_wp2_with fail
                        go_roundw
                        case rel => exact ⟨u + 1, j + 1, by omega, by omega, by go_num, by go_num, HKYf.out, HBTf.out⟩
                        case measure => simp [intOf]; omega
                      exact AllReadyH.nil
                    exact AllReadyH.nil
                  exact AllReadyH.nil
                exact AllReadyH.nil
              exact AllReadyH.nil
            exact AllReadyH.nil
          exact AllReadyH.nil
        · refine wp_region_held_drew (S := fun w' => Below w9.heap.size w9 w') (by kernel_rfl) (below_drew (Below.refl _ _)) (fun hHeld => ?_)
          refine take_at (i := 0) (v := ?_) rfl rfl (by kernel_rfl) (by kernel_rfl) (by kernel_rfl) (fun _ _ _ h => h) (Or.inl ⟨by rfl, ?_⟩) (by assumption) ?_
          rotate_left
          · intro w0 hSw; (try dsimp only at hSw); first | (go_simp; done) | (go_simp; with_reducible rfl)
          simp only [List.setIfInBounds_toArray, List.set_cons_zero, List.set_cons_succ]
          refine take_at (i := 1) (v := ?_) rfl rfl (by kernel_rfl) (by kernel_rfl) (by kernel_rfl) (fun _ _ _ h => h) (Or.inl ⟨by rfl, ?_⟩) (by assumption) ?_
          rotate_left
          · intro w0 hSw; (try dsimp only at hSw); first | (go_simp; done) | (go_simp; with_reducible rfl)
          simp only [List.setIfInBounds_toArray, List.set_cons_zero, List.set_cons_succ]
          refine take_at (i := 2) (v := ?_) rfl rfl (by kernel_rfl) (by kernel_rfl) (by kernel_rfl) (fun _ _ _ h => h) (Or.inl ⟨by rfl, ?_⟩) (by assumption) ?_
          rotate_left
          · intro w0 hSw; (try dsimp only at hSw); first | (go_simp; done) | (go_simp; with_reducible rfl)
          simp only [List.setIfInBounds_toArray, List.set_cons_zero, List.set_cons_succ]
          refine take_at (i := 3) rfl rfl (by kernel_rfl) (by kernel_rfl) (by kernel_rfl) (fun _ _ _ h => h) (yieldsIf_load_mid (by rfl) _ _ rfl g15 0 rfl (sigCells y sa sm sc) _ (fun w0 hSw => R15.out _ hSw) Tryd.underlying38 rfl SGY.out) (by assumption) ?_
          simp only [List.setIfInBounds_toArray, List.set_cons_zero, List.set_cons_succ]
          refine take_at (i := 4) (v := ?_) rfl rfl (by kernel_rfl) (by kernel_rfl) (by kernel_rfl) (fun _ _ _ h => h) (Or.inl ⟨by rfl, ?_⟩) (by assumption) ?_
          rotate_left
          · intro w0 hSw; (try dsimp only at hSw); first | (go_simp; done) | (go_simp; with_reducible rfl)
          simp only [List.setIfInBounds_toArray, List.set_cons_zero, List.set_cons_succ]
          refine wpAnyH_ready (rs := [5]) (by kernel_rfl) (by simp) ?_
          refine AllReadyH.cons rfl (fun K hK => ?_) ?_
          · go_simp
            go_wp2_with ((go_at_call 10; (with_reducible refine (HRT.out _ (HKY9.out.below hHeld) (HK9.out.below hHeld)).mono ?_); rintro e y5 ⟨rfl, hb⟩; have HBy5 := Lib.hid hb; clear hb))
            refine hK.out _ _ (by (try dsimp only); exact Below.trans hHeld (HBy5.out.mono (Below.size hHeld))) (fun hHeld => ?_)
            clear hK K
            refine wpAnyH_ready (rs := [6]) (by kernel_rfl) (by simp) ?_
            refine AllReadyH.cons rfl (fun K hK => ?_) ?_
            · go_simp
              go_wp2_with ((go_at_call 9; (with_reducible refine (HGY.out _ sa sm sc (HS9.out.below hHeld) (HK9.out.below hHeld)).mono ?_); rintro e y6 ⟨rfl, hb⟩; have HBy6 := Lib.hid hb; clear hb))
              refine hK.out _ _ (by (try dsimp only); exact Below.trans hHeld (HBy6.out.mono (Below.size hHeld))) (fun hHeld => ?_)
              clear hK K
              refine take_at (i := 7) (v := ?_) rfl rfl (by kernel_rfl) (by kernel_rfl) (by kernel_rfl) (fun _ _ _ h => h) (Or.inl ⟨by rfl, ?_⟩) (by assumption) ?_
              rotate_left
              · intro w0 hSw; (try dsimp only at hSw); first | (go_simp; done) | (go_simp; with_reducible rfl)
              simp only [List.setIfInBounds_toArray, List.set_cons_zero, List.set_cons_succ]
              refine take_at (i := 8) (v := ?_) rfl rfl (by kernel_rfl) (by kernel_rfl) (by kernel_rfl) (fun _ _ _ h => h) (Or.inl ⟨by rfl, ?_⟩) (by assumption) ?_
              rotate_left
              · intro w0 hSw; (try dsimp only at hSw); first | (go_simp; done) | (go_simp; with_reducible rfl)
              simp only [List.setIfInBounds_toArray, List.set_cons_zero, List.set_cons_succ]
              refine take_at (i := 9) (v := ?_) rfl rfl (by kernel_rfl) (by kernel_rfl) (by kernel_rfl) (fun _ _ _ h => h) (Or.inl ⟨by rfl, ?_⟩) (by assumption) ?_
              rotate_left
              · intro w0 hSw; (try dsimp only at hSw); first | (go_simp; done) | (go_simp; with_reducible rfl)
              simp only [List.setIfInBounds_toArray, List.set_cons_zero, List.set_cons_succ]
              refine take_at (i := 10) (v := ?_) rfl rfl (by kernel_rfl) (by kernel_rfl) (by kernel_rfl) (fun _ _ _ h => h) (Or.inl ⟨by rfl, ?_⟩) (by assumption) ?_
              rotate_left
              · intro w0 hSw; (try dsimp only at hSw); first | (go_simp; done) | (go_simp; with_reducible rfl)
              simp only [List.setIfInBounds_toArray, List.set_cons_zero, List.set_cons_succ]
              refine take_at (i := 12) (v := ?_) rfl rfl (by kernel_rfl) (by kernel_rfl) (by kernel_rfl) (fun _ _ _ h => h) (Or.inl ⟨by rfl, ?_⟩) (by assumption) ?_
              rotate_left
              · intro w0 hSw; (try dsimp only at hSw); first | (go_simp; done) | (go_simp; with_reducible rfl)
              simp only [List.setIfInBounds_toArray, List.set_cons_zero, List.set_cons_succ]
              refine take_at (i := 13) (v := ?_) rfl rfl (by kernel_rfl) (by kernel_rfl) (by kernel_rfl) (fun _ _ _ h => h) (Or.inl ⟨by rfl, ?_⟩) (by assumption) ?_
              rotate_left
              · intro w0 hSw; (try dsimp only at hSw); first | (go_simp; done) | (go_simp; with_reducible rfl)
              simp only [List.setIfInBounds_toArray, List.set_cons_zero, List.set_cons_succ]
              refine take_at (i := 14) (v := ?_) rfl rfl (by kernel_rfl) (by kernel_rfl) (by kernel_rfl) (fun _ _ _ h => h) (Or.inl ⟨by rfl, ?_⟩) (by assumption) ?_
              rotate_left
              · intro w0 hSw; (try dsimp only at hSw); first | (go_simp; done) | (go_simp; with_reducible rfl)
              simp only [List.setIfInBounds_toArray, List.set_cons_zero, List.set_cons_succ]
              refine take_at (i := 15) rfl rfl (by kernel_rfl) (by kernel_rfl) (by kernel_rfl) (fun _ _ _ h => h) (yieldsIf_load_mid (by rfl) _ _ rfl lb (lo + j * 67) rfl y.cells _ (fun w0 hSw => RL.out _ (bthen HB9.out hSw)) Tryd.underlying26 rfl SLY.out) (by assumption) ?_
              simp only [List.setIfInBounds_toArray, List.set_cons_zero, List.set_cons_succ]
              refine take_at (i := 16) (v := ?_) rfl rfl (by kernel_rfl) (by kernel_rfl) (by kernel_rfl) (fun _ _ _ h => h) (Or.inl ⟨by rfl, ?_⟩) (by assumption) ?_
              rotate_left
              · intro w0 hSw; (try dsimp only at hSw); first | (go_simp; done) | (go_simp; with_reducible rfl)
              simp only [List.setIfInBounds_toArray, List.set_cons_zero, List.set_cons_succ]
              refine wpAnyH_ready (rs := [11]) (by kernel_rfl) (by simp) ?_
              refine AllReadyH.cons rfl (fun K hK => ?_) ?_
              · go_simp
                go_wp2_with ((go_at_call 10; (with_reducible refine (HRT.out _ (HKY9.out.below hHeld) (HK9.out.below hHeld)).mono ?_); rintro e y11 ⟨rfl, hb⟩; have HBy11 := Lib.hid hb; clear hb))
                refine hK.out _ _ (by (try dsimp only); exact Below.trans hHeld (HBy11.out.mono (Below.size hHeld))) (fun hHeld => ?_)
                clear hK K
                refine wpAnyH_ready (rs := [17]) (by kernel_rfl) (by simp) ?_
                refine AllReadyH.cons rfl (fun K hK => ?_) ?_
                · go_simp
                  go_wp2_with ((go_at_call 11; (with_reducible refine (HVY.out _ sa sm sc (HS9.out.below hHeld) (HK9.out.below hHeld)).mono ?_); rintro e y17 ⟨rfl, hb⟩; have HBy17 := Lib.hid hb; clear hb))
                  refine hK.out _ _ (by (try dsimp only); exact Below.trans hHeld (HBy17.out.mono (Below.size hHeld))) (fun hHeld => ?_)
                  clear hK K
                  refine take_at (i := 18) (v := ?_) rfl rfl (by kernel_rfl) (by kernel_rfl) (by kernel_rfl) (fun _ _ _ h => h) (Or.inl ⟨by rfl, ?_⟩) (by assumption) ?_
                  rotate_left
                  · intro w0 hSw; (try dsimp only at hSw); first | (go_simp; done) | (go_simp; with_reducible rfl)
                  simp only [List.setIfInBounds_toArray, List.set_cons_zero, List.set_cons_succ]
                  refine take_at (i := 19) (v := ?_) rfl rfl (by kernel_rfl) (by kernel_rfl) (by kernel_rfl) (fun _ _ _ h => h) (Or.inl ⟨by rfl, ?_⟩) (by assumption) ?_
                  rotate_left
                  · intro w0 hSw; (try dsimp only at hSw); first | (go_simp; done) | (go_simp; with_reducible rfl)
                  simp only [List.setIfInBounds_toArray, List.set_cons_zero, List.set_cons_succ]
                  refine take_at (i := 20) (v := ?_) rfl rfl (by kernel_rfl) (by kernel_rfl) (by kernel_rfl) (fun _ _ _ h => h) (Or.inl ⟨by rfl, ?_⟩) (by assumption) ?_
                  rotate_left
                  · intro w0 hSw; (try dsimp only at hSw); first | (go_simp; done) | (go_simp; with_reducible rfl)
                  simp only [List.setIfInBounds_toArray, List.set_cons_zero, List.set_cons_succ]
                  refine take_at (i := 21) (v := ?_) rfl rfl (by kernel_rfl) (by kernel_rfl) (by kernel_rfl) (fun _ _ _ h => h) (Or.inl ⟨by rfl, ?_⟩) (by assumption) ?_
                  rotate_left
                  · intro w0 hSw; (try dsimp only at hSw); first | (go_simp; done) | (go_simp; with_reducible rfl)
                  simp only [List.setIfInBounds_toArray, List.set_cons_zero, List.set_cons_succ]
                  refine take_at (i := 23) rfl rfl (by kernel_rfl) (by kernel_rfl) (by kernel_rfl) (fun _ _ _ h => h) (yieldsIf_load_mid (by rfl) _ _ rfl (g + 1) 0 rfl o.cells _ (fun w0 hSw => RO.out _ (bthen HB9.out hSw)) Tryd.underlying26 rfl SLO.out) (by assumption) ?_
                  simp only [List.setIfInBounds_toArray, List.set_cons_zero, List.set_cons_succ]
                  refine take_at (i := 24) (v := ?_) rfl rfl (by kernel_rfl) (by kernel_rfl) (by kernel_rfl) (fun _ _ _ h => h) (Or.inl ⟨by rfl, ?_⟩) (by assumption) ?_
                  rotate_left
                  · intro w0 hSw; (try dsimp only at hSw); first | (go_simp; done) | (go_simp; with_reducible rfl)
                  simp only [List.setIfInBounds_toArray, List.set_cons_zero, List.set_cons_succ]
                  refine take_at (i := 26) rfl rfl (by kernel_rfl) (by kernel_rfl) (by kernel_rfl) (fun _ _ _ h => h) (yieldsIf_load_mid (by rfl) _ _ rfl (g + 1) 0 rfl o.cells _ (fun w0 hSw => RO.out _ (bthen HB9.out hSw)) Tryd.underlying26 rfl SLO.out) (by assumption) ?_
                  simp only [List.setIfInBounds_toArray, List.set_cons_zero, List.set_cons_succ]
                  refine wpAnyH_ready (rs := [22]) (by kernel_rfl) (by simp) ?_
                  refine AllReadyH.cons rfl (fun K hK => ?_) ?_
                  · go_simp
                    go_wp2_with ((go_at_call 10; (with_reducible refine (HRT.out _ (HKY9.out.below hHeld) (HK9.out.below hHeld)).mono ?_); rintro e y22 ⟨rfl, hb⟩; have HBy22 := Lib.hid hb; clear hb))
                    refine hK.out _ _ (by (try dsimp only); exact Below.trans hHeld (HBy22.out.mono (Below.size hHeld))) (fun hHeld => ?_)
                    clear hK K
                    refine wpAnyH_ready (rs := [25]) (by kernel_rfl) (by simp) ?_
                    refine AllReadyH.cons rfl (fun K hK => ?_) ?_
                    · go_simp
                      go_wp2_with ((go_at_call 11; (with_reducible refine (HVO.out _ sa sm sc (HS9.out.below hHeld) (HK9.out.below hHeld)).mono ?_); rintro e y25 ⟨rfl, hb⟩; have HBy25 := Lib.hid hb; clear hb))
                      refine hK.out _ _ (by (try dsimp only); exact Below.trans hHeld (HBy25.out.mono (Below.size hHeld))) (fun hHeld => ?_)
                      clear hK K
                      refine wpAnyH_ready (rs := [27]) (by kernel_rfl) (by simp) ?_
                      refine AllReadyH.cons rfl (fun K hK => ?_) ?_
                      · go_simp
                        go_wp2_with ((go_at_call 7; (with_reducible refine (HRO.out _).mono ?_); rintro e y27 ⟨rfl, hb⟩; have HBy27 := Lib.hid hb; clear hb))
                        refine hK.out _ _ (by (try dsimp only); exact Below.trans hHeld (HBy27.out.mono (Below.size hHeld))) (fun hHeld => ?_)
                        clear hK K
                        refine take_at (i := 28) (v := ?_) rfl rfl (by kernel_rfl) (by kernel_rfl) (by kernel_rfl) (fun _ _ _ h => h) (Or.inl ⟨by rfl, ?_⟩) (by assumption) ?_
                        rotate_left
                        · intro w0 hSw; (try dsimp only at hSw); first | (go_simp; done) | (go_simp; with_reducible rfl)
                        simp only [List.setIfInBounds_toArray, List.set_cons_zero, List.set_cons_succ]
                        refine take_at (i := 29) (v := ?_) rfl rfl (by kernel_rfl) (by kernel_rfl) (by kernel_rfl) (fun _ _ _ h => h) (Or.inl ⟨by rfl, ?_⟩) (by assumption) ?_
                        rotate_left
                        · intro w0 hSw; (try dsimp only at hSw); first | (go_simp; done) | (go_simp; with_reducible rfl)
                        simp only [List.setIfInBounds_toArray, List.set_cons_zero, List.set_cons_succ]
                        refine take_at (i := 31) rfl rfl (by kernel_rfl) (by kernel_rfl) (by kernel_rfl) (fun _ _ _ h => h) (yieldsIf_load_mid (by rfl) _ _ rfl (g + 1) 0 rfl o.cells _ (fun w0 hSw => RO.out _ (bthen HB9.out hSw)) Tryd.underlying26 rfl SLO.out) (by assumption) ?_
                        simp only [List.setIfInBounds_toArray, List.set_cons_zero, List.set_cons_succ]
                        refine take_at (i := 33) (v := ?_) rfl rfl (by kernel_rfl) (by kernel_rfl) (by kernel_rfl) (fun _ _ _ h => h) (Or.inl ⟨by rfl, ?_⟩) (by assumption) ?_
                        rotate_left
                        · intro w0 hSw; (try dsimp only at hSw); first | (go_simp; done) | (go_simp; with_reducible rfl)
                        simp only [List.setIfInBounds_toArray, List.set_cons_zero, List.set_cons_succ]
                        refine wpAnyH_ready (rs := [30]) (by kernel_rfl) (by simp) ?_
                        refine AllReadyH.cons rfl (fun K hK => ?_) ?_
                        · go_simp
                          go_wp2_with ((go_at_call 10; (with_reducible refine (HRT.out _ (HKY9.out.below hHeld) (HK9.out.below hHeld)).mono ?_); rintro e y30 ⟨rfl, hb⟩; have HBy30 := Lib.hid hb; clear hb))
                          refine hK.out _ _ (by (try dsimp only); exact Below.trans hHeld (HBy30.out.mono (Below.size hHeld))) (fun hHeld => ?_)
                          clear hK K
                          refine wpAnyH_ready (rs := [32]) (by kernel_rfl) (by simp) ?_
                          refine AllReadyH.cons rfl (fun K hK => ?_) ?_
                          · go_simp
                            go_wp2_with ((go_at_call 13; (with_reducible refine (HTO.out _).mono ?_); rintro e y32 ⟨a_y32, n_y32, c_y32, rfl, hr, _, hb⟩; have HRy32 := Lib.hid hr; have HBy32 := Lib.hid hb; clear hr hb))
                            refine hK.out _ _ (by (try dsimp only); exact Below.trans hHeld (HBy32.out.mono (Below.size hHeld))) (fun hHeld => ?_)
                            clear hK K
                            refine wpAnyH_ready (rs := [34]) (by kernel_rfl) (by simp) ?_
                            refine AllReadyH.cons rfl (fun K hK => ?_) ?_
                            · go_simp
                              go_wp2_with ((go_at_call 12; (with_reducible refine (HMV.out _ _ _ _ sa sm sc HRy32.out (HS9.out.below hHeld) (HK9.out.below hHeld)).mono ?_); rintro e y34 ⟨rfl, hb⟩; have HBy34 := Lib.hid hb; clear hb))
                              refine hK.out _ _ (by (try dsimp only); exact Below.trans hHeld (HBy34.out.mono (Below.size hHeld))) (fun hHeld => ?_)
                              clear hK K
                              refine take_at (i := 35) (v := ?_) rfl rfl (by kernel_rfl) (by kernel_rfl) (by kernel_rfl) (fun _ _ _ h => h) (Or.inl ⟨by rfl, ?_⟩) (by assumption) ?_
                              rotate_left
                              · intro w0 hSw; (try dsimp only at hSw); first | (go_simp; done) | (go_simp; with_reducible rfl)
                              simp only [List.setIfInBounds_toArray, List.set_cons_zero, List.set_cons_succ]
                              refine take_at (i := 36) (v := .bool false) rfl rfl (by kernel_rfl) (by kernel_rfl) (by kernel_rfl) (fun _ _ _ h => h) (Or.inl ⟨by rfl, ?_⟩) (by assumption) ?_
                              · intro w0 hSw; (try dsimp only at hSw); cases V <;> (go_simp; done)
                              simp only [List.setIfInBounds_toArray, List.set_cons_zero, List.set_cons_succ]
                              refine take_at (i := 37) (v := ?_) rfl rfl (by kernel_rfl) (by kernel_rfl) (by kernel_rfl) (fun _ _ _ h => h) (Or.inl ⟨by rfl, ?_⟩) (by assumption) ?_
                              rotate_left
                              · intro w0 hSw; (try dsimp only at hSw); first | (go_simp; done) | (go_simp; with_reducible rfl)
                              simp only [List.setIfInBounds_toArray, List.set_cons_zero, List.set_cons_succ]
                              refine wpAnyH_done (by kernel_rfl) ?_ _
                              have HST := Lib.hid (show Below w9.heap.size w9 y34 from hHeld)
                              clear hHeld
                              have HKYf := Lib.hid (HKY9.out.below HST.out)
                              have HBTf := Lib.hid (HBT9.out.trans (But.of (HST.out.mono HBT9.out.size)))
                              go_wp2_with fail
                              go_roundw
                              case rel => exact ⟨u + 1, j + 1, by omega, by omega, by go_num, by go_num, HKYf.out, HBTf.out⟩
                              case measure => simp [intOf]; omega
                            exact AllReadyH.nil
                          exact AllReadyH.nil
                        exact AllReadyH.nil
                      exact AllReadyH.nil
                    exact AllReadyH.nil
                  exact AllReadyH.nil
                exact AllReadyH.nil
              exact AllReadyH.nil
            exact AllReadyH.nil
          exact AllReadyH.nil
    · have f1 : ¬ ((j : Int) < (m : Int)) := by omega
      have HBW0 := Lib.hid (bthen HB1.out HBW1.out)
      go_wp2_with (first | (go_at_call 4; (with_reducible refine (HAW.out _).mono ?_); rintro e wz ⟨rfl, hb⟩; have HBZ := Lib.hid hb; clear hb) | fail)
      go_ret
      exact ⟨rfl, bthen HBW0.out HBZ.out⟩
theorem signs12_walk {w : World} {s : List UInt8} {a : Option Addr} {m c : Nat} {xs : List PRec} {o : PRec} (n : Int) (hs : s.length = 32) (h : SliceOf recK w a m c xs) (ho : RecIn o) (hk : KsAt w) :
    Calls Tryd.prog 3 #[.agg (cellsOf s).toArray, .int .i64 n, .slice a m c, .agg o.cells.toArray] w fun e w' => e = .returned (.bool true) ∧ Below w.heap.size w w' := by
  by_cases h1 : n < 1 ∨ 3 < n ∨ 4 < m
  · exact signs12_few n h.len63 h1
  · obtain ⟨N, rfl⟩ : ∃ N : Nat, n = N := ⟨n.toNat, by omega⟩
    exact signs12_in N hs h ho hk (by omega) (by omega) (by omega)
end Go.Proofs.YtfccmiohnjhkoaaDoor
