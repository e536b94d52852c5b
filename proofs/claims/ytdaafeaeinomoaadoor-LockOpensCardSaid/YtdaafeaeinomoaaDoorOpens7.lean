/- LockOpens, walked. -/
import Derived.Test.YtdaafeaeinomoaaDoorLaw7Right
import Derived.Test.YtdaafeaeinomoaaDoorAwake7
namespace Go.Proofs.YtdaafeaeinomoaaDoor
open Go.RowKit

theorem or_of_no : ∀ {z k : Bool}, false = (!z && !k) → (z || k) = true := by decide
theorem or_of_yes : ∀ {z k : Bool}, true = (!z && !k) → (z || k) = false := by decide
set_option linter.unusedSimpArgs false in
set_option maxRecDepth 100000 in
set_option maxHeartbeats 6400000 in
theorem opensLaw_walk {w : World} {x : PWay} {a b : Option Addr} {n c m d : Nat} {ts : List Int} {l : List UInt8} {H A : Int} (h : WayIn w x) (ht : Numbers w a n c ts) (hl : Row w b m d l) (hk : KsAt w) :
    Calls Tryd.prog 3 #[.agg x.cells.toArray, .agg #[.slice a n c, .slice b m d, .int .i64 H, .int .i64 A]] w fun e w' => e = .returned (.bool true) ∧ Below w.heap.size w w' := by
  have hn63 : (x.n : Int) ≤ 9223372036854775807 := by have h1 := h.keys.2.1; have h2 := h.keys.2.2.1; unfold maxLen at h2; omega
  have hn63' : (n : Int) ≤ 9223372036854775807 := by have h1 := ht.2.1; have h2 := ht.2.2.1; unfold maxLen at h2; omega
  have hm63 : (m : Int) ≤ 9223372036854775807 := by have h1 := hl.2.1; have h2 := hl.2.2.1; unfold maxLen at h2; omega
  have SX := Lib.hid (way_size h.sum)
  have SXH := Lib.hid (sumLen h.sum)
  have HT := Lib.hid ht
  have HL := Lib.hid hl
  have HK := Lib.hid hk
  have H0 := Lib.hid h
  clear ht hl hk
  go_enter Tryd.func3, Tryd.ntmps3
  go_upto_region 1 with (fail)
  obtain ⟨v, hv, hb, hlt, hx, hrg⟩ := way_boxed h 26
  rw [hv]
  obtain ⟨g, hg⟩ : ∃ g, g = w.heap.size := ⟨_, rfl⟩
  rw [← hg] at hrg hlt ⊢
  have hgs : v.heap.size = g + 1 := by rw [← hv, hg]; simp
  have b1 : Below v.heap.size v (v.alloc (.cells #[.slice a n c, .slice b m d, .int .i64 H, .int .i64 A] 29)) := (Below.refl _ _).alloc (Nat.le_refl _) _
  have h1 := heap_alloc_new v (.cells #[.slice a n c, .slice b m d, .int .i64 H, .int .i64 A] 29)
  revert b1 h1
  generalize (v.alloc (.cells #[.slice a n c, .slice b m d, .int .i64 H, .int .i64 A] 29)) = v1
  rw [hgs]
  intro b1 h1
  rw [← hgs] at b1
  have hltv := lt_of_block h1
  have hltg : g < v1.heap.size := by omega
  have HB := Lib.hid (hb.trans (b1.mono hb.size))
  have HXV := Lib.hid (H0.out.below HB.out)
  have HTV := Lib.hid (HT.out.below HB.out)
  have HLV := Lib.hid (HL.out.below HB.out)
  have HKV := Lib.hid (HK.out.below HB.out)
  have RX := Lib.hid (rangeAt_below hrg hlt b1)
  have RT := Lib.hid (range_of (cs := [.slice a n c, .slice b m d, .int .i64 H, .int .i64 A]) h1)
  have HR1 := Lib.hid (fun (W : World) (hW : Below v1.heap.size v1 W) => lockRight_any (HXV.out.below hW))
  have HR2 := Lib.hid (fun (W : World) (hW : Below v1.heap.size v1 W) => right_law (HXV.out.below hW))
  clear hrg hv hx hb h hgs h1 b1 hlt HT HL HK H0 hg
  generalize wayOk x = r at *
  refine wp_region_held_drew (S := fun w' => Below v1.heap.size v1 w') (by kernel_rfl) (below_drew (Below.refl _ _)) (fun hHeld => ?_)
  refine take_at (i := 0) rfl rfl (by kernel_rfl) (by kernel_rfl) (by kernel_rfl) (fun _ _ _ h => h) (yieldsIf_load_mid (by rfl) _ _ rfl g 0 rfl x.cells _ (fun w0 hSw => rangeAt_below RX.out hltg hSw) Tryd.underlying26 rfl SX.out) (by assumption) ?_
  simp only [List.setIfInBounds_toArray, List.set_cons_zero, List.set_cons_succ]
  refine take_at (i := 2) rfl rfl (by kernel_rfl) (by kernel_rfl) (by kernel_rfl) (fun _ _ _ h => h) (yieldsIf_load_mid (by rfl) _ _ rfl g 0 rfl x.cells _ (fun w0 hSw => rangeAt_below RX.out hltg hSw) Tryd.underlying26 rfl SX.out) (by assumption) ?_
  simp only [List.setIfInBounds_toArray, List.set_cons_zero, List.set_cons_succ]
  refine wpAnyH_ready (rs := [1]) (by kernel_rfl) (by simp) ?_
  refine AllReadyH.cons rfl (fun K hK => ?_) ?_
  · have hS1 : Below v1.heap.size v1 v1.drew := hHeld
    have HC1 := Lib.hid (HR1.out _ hS1)
    clear hS1
    go_simp
    go_wp2_with ((go_at_call 7; (with_reducible refine (HC1.out).mono ?_); rintro e x4 ⟨rfl, hb1⟩; have HX1 := Lib.hid hb1; clear hb1))
    refine hK.out _ _ (by (try dsimp only); exact Below.trans hHeld (HX1.out.mono (Below.size hHeld))) (fun hHeld => ?_)
    clear hK K
    refine wpAnyH_ready (rs := [3]) (by kernel_rfl) (by simp) ?_
    refine AllReadyH.cons rfl (fun K hK => ?_) ?_
    · have hS3 : Below v1.heap.size v1 x4 := hHeld
      have HC3 := Lib.hid (HR2.out _ hS3)
      clear hS3
      go_simp
      go_wp2_with ((go_at_call 8; (with_reducible refine (HC3.out).mono ?_); rintro e x5 ⟨rfl, hb3⟩; have HX3 := Lib.hid hb3; clear hb3))
      refine hK.out _ _ (by (try dsimp only); exact Below.trans hHeld (HX3.out.mono (Below.size hHeld))) (fun hHeld => ?_)
      clear hK K
      refine take_at (i := 4) (v := .bool false) rfl rfl (by kernel_rfl) (by kernel_rfl) (by kernel_rfl) (fun _ _ _ h => h) (Or.inl ⟨by rfl, ?_⟩) (by assumption) ?_
      · intro w0 hSw; (try dsimp only at hSw); first | (go_simp; done) | (go_simp; with_reducible rfl) | (go_simp; omega)
      simp only [List.setIfInBounds_toArray, List.set_cons_zero, List.set_cons_succ]
      refine wpAnyH_done (by kernel_rfl) ?_ _
      have HS5 := Lib.hid (show Below v1.heap.size v1 x5 from hHeld)
      clear hHeld HR1 HR2
      have hb5 := HS5.out
      have HB5 := Lib.hid (HB.out.trans (hb5.mono HB.out.size))
      have HK5 := Lib.hid (HKV.out.below hb5)
      have hlg5 : g < x5.heap.size := Nat.lt_of_lt_of_le hltg hb5.size
      have hlv5 : g + 1 < x5.heap.size := Nat.lt_of_lt_of_le hltv hb5.size
      have hrx := rangeAt_below RX.out hltg hb5
      have hrt := rangeAt_below RT.out hltv hb5
      have c0 := way_keys hrx
      have c1 := way_after HXV.out.sum hrx
      have c2 := way_wait HXV.out.sum hrx
      have RXH := Lib.hid (way_sum HXV.out.sum hrx)
      rw [Nat.zero_add] at c1 c2 RXH
      have d0 : x5.cell? ⟨g + 1, 0, none⟩ = some (.slice a n c) := hrt 0 _ rfl
      have d1 : x5.cell? ⟨g + 1, 1, none⟩ = some (.slice b m d) := hrt 1 _ rfl
      have d2 : x5.cell? ⟨g + 1, 2, none⟩ = some (.int .i64 H) := hrt 2 _ rfl
      have d3 : x5.cell? ⟨g + 1, 3, none⟩ = some (.int .i64 A) := hrt 3 _ rfl
      clear hrx hrt hb5
      by_cases g1 : x.n ≤ 16
      rotate_left
      · have f1 : 16 < (x.n : Int) := by omega
        go_wp2_with ((go_at_call 9; (with_reducible refine (awake_any HK5.out).mono ?_); rintro e x6 ⟨rfl, hb6⟩; have HX6 := Lib.hid hb6; clear hb6))
        go_ret
        exact ⟨rfl, HB5.out.trans (HX6.out.mono HB5.out.size)⟩
      have f1 : ¬ 16 < (x.n : Int) := by omega
      by_cases g2 : n ≤ 16
      rotate_left
      · have f2 : 16 < (n : Int) := by omega
        go_wp2_with ((go_at_call 9; (with_reducible refine (awake_any HK5.out).mono ?_); rintro e x6 ⟨rfl, hb6⟩; have HX6 := Lib.hid hb6; clear hb6))
        go_ret
        exact ⟨rfl, HB5.out.trans (HX6.out.mono HB5.out.size)⟩
      have f2 : ¬ 16 < (n : Int) := by omega
      by_cases g3 : m ≤ 200
      rotate_left
      · have f3 : 200 < (m : Int) := by omega
        go_wp2_with ((go_at_call 9; (with_reducible refine (awake_any HK5.out).mono ?_); rintro e x6 ⟨rfl, hb6⟩; have HX6 := Lib.hid hb6; clear hb6))
        go_ret
        exact ⟨rfl, HB5.out.trans (HX6.out.mono HB5.out.size)⟩
      have f3 : ¬ 200 < (m : Int) := by omega
      have hw63 : (0 : Int) ≤ (x.n : Int) := by omega
      obtain ⟨o0, ho0⟩ : ∃ o, o = (decide (x.after ≤ H) && decide (x.wait ≤ A)) := ⟨_, rfl⟩
      have HO0 := Lib.hid ho0
      clear ho0
      go_upto_region 5 with (fail)
      go_cut [5] from 8 to 88 (fun u w' => u = .bool o0 ∧ x5 = w')
      case first =>
        by_cases t1 : x.after ≤ H
        · by_cases t2 : x.wait ≤ A
          · go_wp2_with fail
            go_meet
            exact ⟨by rw [HO0.out, decide_eq_true t1, decide_eq_true t2]; rfl, rfl⟩
          · go_wp2_with fail
            go_meet
            exact ⟨by rw [HO0.out, decide_eq_true t1, decide_eq_false (show ¬ x.wait ≤ A by omega)]; rfl, rfl⟩
        · go_wp2_with fail
          go_meet
          exact ⟨by rw [HO0.out, decide_eq_false (show ¬ x.after ≤ H by omega)]; rfl, rfl⟩
      case rest =>
        obtain ⟨rfl, rfl⟩ := hcut
        have C0 := Lib.hid c0
        have C1 := Lib.hid c1
        have C2 := Lib.hid c2
        have D0 := Lib.hid d0
        have D1 := Lib.hid d1
        have D2 := Lib.hid d2
        have D3 := Lib.hid d3
        clear c0 c1 c2 d0 d1 d2 d3
        go_wp2_with fail
        go_loopw [5, 6] (fun u i wr => ∃ (j : Nat) (O : Bool), j ≤ x.n ∧ i = .int .i64 j ∧ u = .bool O ∧ O = (o0 && (x.ks.take j).all fun k => decide (k ∈ ts)) ∧ Below x5.heap.size x5 wr) (fun _ i _ => x.n - (intOf i).toNat)
        case atStart => exact ⟨0, o0, Nat.zero_le _, rfl, rfl, by simp, Below.refl _ _⟩
        case round =>
          obtain ⟨j, O, hj, rfl, rfl, hO, hb6⟩ := hrel
          have HO := Lib.hid hO
          have HB6 := Lib.hid hb6
          have hlg6 : g < wr.heap.size := Nat.lt_of_lt_of_le hlg5 hb6.size
          have hlv6 : g + 1 < wr.heap.size := Nat.lt_of_lt_of_le hlv5 hb6.size
          have c0 := (hb6.cell (p := ⟨g, 0, none⟩) hlg5).trans C0.out
          clear hO hb6
          by_cases hjn : j < x.n
          · have f4 : (j : Int) < (x.n : Int) := by omega
            have f5 : (0 : Int) ≤ (j : Int) := by omega
            have f6 : ((j : Int)).toNat = j := by omega
            have hbw := HS5.out.trans (HB6.out.mono HS5.out.size)
            obtain ⟨b1, o1, e1, hltb, hc1⟩ := (HXV.out.below hbw).keys.2.2.2.2.2 (by omega)
            have hcz := hc1 j hjn
            have hls : j < x.ks.length := by rw [HXV.out.keys.1]; exact hjn
            have hta : ((x.ks.take (j + 1)).all fun k => decide (k ∈ ts)) = (((x.ks.take j).all fun k => decide (k ∈ ts)) && decide (x.ks.getD j 0 ∈ ts)) := by rw [List.take_succ_eq_append_getElem hls, List.all_append]; simp [List.getD, hls]
            revert hcz hta
            generalize x.ks.getD j 0 = z
            intro hcz hta
            have cz := Lib.hid hcz
            have HTA := Lib.hid hta
            rw [e1] at c0
            have c0 := Lib.hid c0
            have HTR := Lib.hid (HTV.out.below hbw)
            have d0 := Lib.hid ((HB6.out.cell (p := ⟨g + 1, 0, none⟩) hlv5).trans D0.out)
            obtain ⟨q, hq⟩ : ∃ q, decide (z ∈ ts) = q := ⟨_, rfl⟩
            rw [hq] at HTA
            have HQ := Lib.hid hq
            clear hcz hta hc1 hls hbw hq e1
            go_wp2_with fail
            cases O
            · refine wp_region_held_drew (S := fun w' => Below wr.heap.size wr w') (by kernel_rfl) (below_drew (Below.refl _ _)) (fun hHeld => ?_)
              refine take_at (i := 0) (v := ?_) rfl rfl (by kernel_rfl) (by kernel_rfl) (by kernel_rfl) (fun _ _ _ h => h) (Or.inl ⟨by rfl, ?_⟩) (by assumption) ?_
              rotate_left
              · intro w0 hSw; (try dsimp only at hSw); first | (go_simp; done) | (go_simp; with_reducible rfl)
              simp only [List.setIfInBounds_toArray, List.set_cons_zero, List.set_cons_succ]
              refine take_at (i := 1) (v := ?_) rfl rfl (by kernel_rfl) (by kernel_rfl) (by kernel_rfl) (fun _ _ _ h => h) (Or.inl ⟨by rfl, ?_⟩) (by assumption) ?_
              rotate_left
              · intro w0 hSw; (try dsimp only at hSw); first | (go_simp; done) | (go_simp; with_reducible rfl)
              simp only [List.setIfInBounds_toArray, List.set_cons_zero, List.set_cons_succ]
              refine take_at (i := 2) (v := undef) rfl rfl (by kernel_rfl) (by kernel_rfl) (by kernel_rfl) (fun _ _ _ h => h) (Or.inr ⟨by rfl, rfl⟩) (by assumption) ?_
              simp only [List.setIfInBounds_toArray, List.set_cons_zero, List.set_cons_succ]
              refine take_at (i := 3) (v := undef) rfl rfl (by kernel_rfl) (by kernel_rfl) (by kernel_rfl) (fun _ _ _ h => h) (Or.inr ⟨by rfl, rfl⟩) (by assumption) ?_
              simp only [List.setIfInBounds_toArray, List.set_cons_zero, List.set_cons_succ]
              refine take_at (i := 4) (v := undef) rfl rfl (by kernel_rfl) (by kernel_rfl) (by kernel_rfl) (fun _ _ _ h => h) (Or.inr ⟨by rfl, rfl⟩) (by assumption) ?_
              simp only [List.setIfInBounds_toArray, List.set_cons_zero, List.set_cons_succ]
              refine take_at (i := 5) (v := undef) rfl rfl (by kernel_rfl) (by kernel_rfl) (by kernel_rfl) (fun _ _ _ h => h) (Or.inr ⟨by rfl, rfl⟩) (by assumption) ?_
              simp only [List.setIfInBounds_toArray, List.set_cons_zero, List.set_cons_succ]
              refine take_at (i := 6) (v := undef) rfl rfl (by kernel_rfl) (by kernel_rfl) (by kernel_rfl) (fun _ _ _ h => h) (Or.inr ⟨by rfl, rfl⟩) (by assumption) ?_
              simp only [List.setIfInBounds_toArray, List.set_cons_zero, List.set_cons_succ]
              refine take_at (i := 7) (v := undef) rfl rfl (by kernel_rfl) (by kernel_rfl) (by kernel_rfl) (fun _ _ _ h => h) (Or.inr ⟨by rfl, rfl⟩) (by assumption) ?_
              simp only [List.setIfInBounds_toArray, List.set_cons_zero, List.set_cons_succ]
              refine take_at (i := 8) (v := undef) rfl rfl (by kernel_rfl) (by kernel_rfl) (by kernel_rfl) (fun _ _ _ h => h) (Or.inr ⟨by rfl, rfl⟩) (by assumption) ?_
              simp only [List.setIfInBounds_toArray, List.set_cons_zero, List.set_cons_succ]
              refine take_at (i := 9) (v := undef) rfl rfl (by kernel_rfl) (by kernel_rfl) (by kernel_rfl) (fun _ _ _ h => h) (Or.inr ⟨by rfl, rfl⟩) (by assumption) ?_
              simp only [List.setIfInBounds_toArray, List.set_cons_zero, List.set_cons_succ]
              refine take_at (i := 10) (v := ?_) rfl rfl (by kernel_rfl) (by kernel_rfl) (by kernel_rfl) (fun _ _ _ h => h) (Or.inl ⟨by rfl, ?_⟩) (by assumption) ?_
              rotate_left
              · intro w0 hSw; (try dsimp only at hSw); first | (go_simp; done) | (go_simp; with_reducible rfl)
              simp only [List.setIfInBounds_toArray, List.set_cons_zero, List.set_cons_succ]
              refine take_at (i := 11) (v := ?_) rfl rfl (by kernel_rfl) (by kernel_rfl) (by kernel_rfl) (fun _ _ _ h => h) (Or.inl ⟨by rfl, ?_⟩) (by assumption) ?_
              rotate_left
              · intro w0 hSw; (try dsimp only at hSw); first | (go_simp; done) | (go_simp; with_reducible rfl)
              simp only [List.setIfInBounds_toArray, List.set_cons_zero, List.set_cons_succ]
              refine wpAnyH_done (by kernel_rfl) ?_ _
              have HS9 := Lib.hid (show Below wr.heap.size wr wr.drew from hHeld)
              clear hHeld
              go_wp2_with fail
              go_roundw
              case rel => exact ⟨j + 1, false, by omega, by go_num, rfl, by rw [HTA.out, ← Bool.and_assoc, ← HO.out]; rfl, HB6.out.trans (HS9.out.mono HB6.out.size)⟩
              case measure => simp [intOf]; omega
            · refine wp_region_held_drew (S := fun w' => Below wr.heap.size wr w') (by kernel_rfl) (below_drew (Below.refl _ _)) (fun hHeld => ?_)
              refine take_at (i := 0) (v := ?_) rfl rfl (by kernel_rfl) (by kernel_rfl) (by kernel_rfl) (fun _ _ _ h => h) (Or.inl ⟨by rfl, ?_⟩) (by assumption) ?_
              rotate_left
              · intro w0 hSw; (try dsimp only at hSw); first | (go_simp; done) | (go_simp; with_reducible rfl)
              simp only [List.setIfInBounds_toArray, List.set_cons_zero, List.set_cons_succ]
              refine take_at (i := 1) (v := ?_) rfl rfl (by kernel_rfl) (by kernel_rfl) (by kernel_rfl) (fun _ _ _ h => h) (Or.inl ⟨by rfl, ?_⟩) (by assumption) ?_
              rotate_left
              · intro w0 hSw; (try dsimp only at hSw); first | (go_simp; done) | (go_simp; with_reducible rfl)
              simp only [List.setIfInBounds_toArray, List.set_cons_zero, List.set_cons_succ]
              refine take_at (i := 2) (v := ?_) rfl rfl (by kernel_rfl) (by kernel_rfl) (by kernel_rfl) (fun _ _ _ h => h) (Or.inl ⟨by rfl, ?_⟩) (by assumption) ?_
              rotate_left
              · intro w0 hSw; (try dsimp only at hSw); first | (go_simp; done) | (go_simp; with_reducible rfl)
              simp only [List.setIfInBounds_toArray, List.set_cons_zero, List.set_cons_succ]
              refine take_at (i := 3) rfl rfl (by kernel_rfl) (by kernel_rfl) (by kernel_rfl) (fun _ _ _ h => h) (yields_cell (by rfl) rfl rfl (fun w0 hSw => (Below.cell hSw (p := ⟨(g + 1), 0, none⟩) hlv6).trans d0.out) Tryd.isAgg22) (by assumption) ?_
              simp only [List.setIfInBounds_toArray, List.set_cons_zero, List.set_cons_succ]
              refine take_at (i := 4) (v := ?_) rfl rfl (by kernel_rfl) (by kernel_rfl) (by kernel_rfl) (fun _ _ _ h => h) (Or.inl ⟨by rfl, ?_⟩) (by assumption) ?_
              rotate_left
              · intro w0 hSw; (try dsimp only at hSw); first | (go_simp; done) | (go_simp; with_reducible rfl)
              simp only [List.setIfInBounds_toArray, List.set_cons_zero, List.set_cons_succ]
              refine take_at (i := 5) rfl rfl (by kernel_rfl) (by kernel_rfl) (by kernel_rfl) (fun _ _ _ h => h) (yields_cell (by rfl) rfl rfl (fun w0 hSw => (Below.cell hSw (p := ⟨g, 0, none⟩) hlg6).trans c0.out) Tryd.isAgg22) (by assumption) ?_
              simp only [List.setIfInBounds_toArray, List.set_cons_zero, List.set_cons_succ]
              refine take_at (i := 6) (v := ?_) rfl rfl (by kernel_rfl) (by kernel_rfl) (by kernel_rfl) (fun _ _ _ h => h) (Or.inl ⟨by rfl, ?_⟩) (by assumption) ?_
              rotate_left
              · intro w0 hSw; (try dsimp only at hSw); first | (go_simp; done) | (go_simp; with_reducible rfl)
              simp only [List.setIfInBounds_toArray, List.set_cons_zero, List.set_cons_succ]
              refine take_at (i := 7) (v := ?_) rfl rfl (by kernel_rfl) (by kernel_rfl) (by kernel_rfl) (fun _ _ _ h => h) (Or.inl ⟨by rfl, ?_⟩) (by assumption) ?_
              rotate_left
              · intro w0 hSw; (try dsimp only at hSw); first | (go_simp; done) | (go_simp; with_reducible rfl)
              simp only [List.setIfInBounds_toArray, List.set_cons_zero, List.set_cons_succ]
              refine take_at (i := 8) rfl rfl (by kernel_rfl) (by kernel_rfl) (by kernel_rfl) (fun _ _ _ h => h) (yields_cell (by rfl) rfl rfl (fun w0 hSw => (Below.cell hSw (p := ⟨b1, o1 + j, none⟩) hltb).trans cz.out) Tryd.isAgg3) (by assumption) ?_
              simp only [List.setIfInBounds_toArray, List.set_cons_zero, List.set_cons_succ]
              refine wpAnyH_ready (rs := [9]) (by kernel_rfl) (by simp) ?_
              refine AllReadyH.cons rfl (fun K hK => ?_) ?_
              · have hS9 : Below wr.heap.size wr wr.drew := hHeld
                have HT9 := Lib.hid (has_law z (HTR.out.below hS9))
                clear hS9
                go_simp
                go_wp2_with ((go_at_call 10; (with_reducible refine (HT9.out).mono ?_); rintro e x9 ⟨rfl, rfl⟩))
                refine hK.out _ _ (by (try dsimp only); exact hHeld) (fun hHeld => ?_)
                clear hK K
                refine take_at (i := 10) (v := ?_) rfl rfl (by kernel_rfl) (by kernel_rfl) (by kernel_rfl) (fun _ _ _ h => h) (Or.inl ⟨by rfl, ?_⟩) (by assumption) ?_
                rotate_left
                · intro w0 hSw; (try dsimp only at hSw); first | (go_simp; done) | (go_simp; with_reducible rfl)
                simp only [List.setIfInBounds_toArray, List.set_cons_zero, List.set_cons_succ]
                refine take_at (i := 11) (v := ?_) rfl rfl (by kernel_rfl) (by kernel_rfl) (by kernel_rfl) (fun _ _ _ h => h) (Or.inl ⟨by rfl, ?_⟩) (by assumption) ?_
                rotate_left
                · intro w0 hSw; (try dsimp only at hSw); first | (go_simp; done) | (go_simp; with_reducible rfl)
                simp only [List.setIfInBounds_toArray, List.set_cons_zero, List.set_cons_succ]
                refine wpAnyH_done (by kernel_rfl) ?_ _
                have HS9 := Lib.hid (show Below wr.heap.size wr wr.drew from hHeld)
                clear hHeld
                go_wp2_with fail
                go_roundw
                case rel => exact ⟨j + 1, q, by omega, by go_num, by rw [HQ.out], by rw [HTA.out, ← Bool.and_assoc, ← HO.out]; rfl, HB6.out.trans (HS9.out.mono HB6.out.size)⟩
                case measure => simp [intOf]; omega
              exact AllReadyH.nil
          · have f4 : ¬ (j : Int) < (x.n : Int) := by omega
            have d1 := (HB6.out.cell (p := ⟨g + 1, 1, none⟩) hlv5).trans D1.out
            obtain rfl : j = x.n := by omega
            have hall : O = (o0 && x.ks.all fun k => decide (k ∈ ts)) := by have h5 := HO.out; rw [List.take_of_length_le (by rw [HXV.out.keys.1]; exact Nat.le_refl _)] at h5; exact h5
            have HALL := Lib.hid hall
            have HB7 := Lib.hid (HB5.out.trans (HB6.out.mono HB5.out.size))
            have HS7 := Lib.hid (HS5.out.trans (HB6.out.mono HS5.out.size))
            clear hall HO
            have b4 : Below wr.heap.size wr (wr.alloc (.cells #[.slice b m d] 27)) := (Below.refl _ _).alloc (Nat.le_refl _) _
            have r4 : Row (wr.alloc (.cells #[.slice b m d] 27)) b m d l := (HLV.out.below HS7.out).below b4
            have hlen : (partsOf 31 [l]).length ≤ 1125899906842624 := by
              have := HLV.out.1
              unfold partsOf partOf
              simp only [List.flatMap_cons, List.flatMap_nil, List.length_cons, List.length_append, four_len, List.length_nil]
              omega
            have HB4 := Lib.hid b4
            have HR4 := Lib.hid r4
            have HLEN := Lib.hid hlen
            clear b4 r4 hlen
            go_wp2_with fail
            refine (join_any 31 31 rfl (rows2_one (heap_alloc_new _ _) HR4.out) ((HKV.out.below HS7.out).below HB4.out) HLEN.out).mono ?_
            rintro e w7 ⟨rfl, hb7⟩
            obtain ⟨s, hs, hsl⟩ : ∃ s, shownSum l = s ∧ s.length = 32 := ⟨_, rfl, shownSum_len l⟩
            have hs2 : sumOf (partsOf 31 [l]) = s := hs
            rw [hs2]
            have HSM := Lib.hid hs
            have HSM2 := Lib.hid hs
            have HSL := Lib.hid hsl
            have SZS := Lib.hid (sumLen hsl)
            have SZ := Lib.hid (size_of hsl)
            have HZ := Lib.hid (zero_of hsl)
            have HBJ := Lib.hid (HS7.out.trans ((HB4.out.trans (hb7.mono HB4.out.size)).mono HS7.out.size))
            clear hb7 hs hsl hs2 HB4 HR4 HLEN d1 c0
            go_upto_region 11 with (refine wpList_store_row rfl 24 _ _ rfl w7.heap.size (cellsOf s).toArray rfl rfl 24 (cellsOf zero32).toArray (heap_alloc_new _ _) SZ.out HZ.out (all_oneCell_toArray (cellsOf_one s)) ?_)
            rw [← zero32_is, laySum_is]
            have h8 := laySum_heap w7 s
            have b8 := laySum_below s HBJ.out
            revert h8 b8
            generalize laySum w7 s = w8
            generalize w7.heap.size = q
            intro h8 b8
            have HS8 := Lib.hid b8
            have HBT := Lib.hid (HB.out.trans (b8.mono HB.out.size))
            have HQ8 := Lib.hid (range_of h8)
            have hlq8 := lt_of_block h8
            have hlg8 : g < w8.heap.size := Nat.lt_of_lt_of_le hltg b8.size
            have hlv8 : g + 1 < w8.heap.size := Nat.lt_of_lt_of_le hltv b8.size
            have RX8 := Lib.hid (rangeAt_below RX.out hltg b8)
            have RT8 := Lib.hid (rangeAt_below RT.out hltv b8)
            have hxh := way_sum HXV.out.sum RX8.out
            rw [Nat.zero_add] at hxh
            have RXH8 := Lib.hid hxh
            clear h8 b8 hxh
            obtain ⟨z, hz⟩ : ∃ z, decide (x.h = zero32) = z := ⟨_, rfl⟩
            obtain ⟨k, hk⟩ : ∃ k, decide (s = x.h) = k := ⟨_, rfl⟩
            have qz : ∀ W : World, (Op.equalIn 10000 24 (.agg (cellsOf x.h).toArray) (.agg (cellsOf zero32).toArray)).run Tryd.prog W = .ok z W := fun W => by rw [← hz]; exact run_eqSums _ _ HXV.out.sum zero32_len W
            have qk : ∀ W : World, (Op.equalIn 10000 24 (.agg (cellsOf s).toArray) (.agg (cellsOf x.h).toArray)).run Tryd.prog W = .ok k W := fun W => by rw [← hk]; exact run_eqSums _ _ HSL.out HXV.out.sum W
            rw [zero32_is] at qz
            have hF : opensW x ts l H A = (O && (z || k)) := by
              unfold opensW
              rw [HALL.out, HO0.out, HSM.out, hz, show decide (x.h = s) = k from by rw [← hk, decide_eq_decide]; exact ⟨Eq.symm, Eq.symm⟩]
              cases decide (x.after ≤ H) <;> cases decide (x.wait ≤ A) <;> simp
            have HF := Lib.hid hF
            clear hF hz hk HALL f4 hj hjn HB6 HBJ HSM HZ SZ
            try simp only [Act.put]
            go_cut [73] from 8 to 72 (fun u w' => u = .bool (!z && !k) ∧ w8 = w')
            case first =>
              cases z
              · cases k
                · go_wp2_with (first | (refine wpList_load_mid rfl 24 _ rfl g 1 rfl (cellsOf x.h) _ RXH8.out Tryd.underlying24 rfl SXH.out ?_) | (refine wpList_mid_wanted (by rfl) 24 _ rfl g 1 rfl (cellsOf x.h) _ RXH8.out Tryd.underlying24 rfl SXH.out ?_) | (refine wpList_mid_wanted (by rfl) 24 _ rfl q 0 rfl (cellsOf s) _ HQ8.out Tryd.underlying24 rfl SZS.out ?_) | fail)
                  go_meet
                  exact ⟨rfl, rfl⟩
                · go_wp2_with (first | (refine wpList_load_mid rfl 24 _ rfl g 1 rfl (cellsOf x.h) _ RXH8.out Tryd.underlying24 rfl SXH.out ?_) | (refine wpList_mid_wanted (by rfl) 24 _ rfl g 1 rfl (cellsOf x.h) _ RXH8.out Tryd.underlying24 rfl SXH.out ?_) | (refine wpList_mid_wanted (by rfl) 24 _ rfl q 0 rfl (cellsOf s) _ HQ8.out Tryd.underlying24 rfl SZS.out ?_) | fail)
                  go_meet
                  exact ⟨rfl, rfl⟩
              · go_wp2_with (first | (refine wpList_load_mid rfl 24 _ rfl g 1 rfl (cellsOf x.h) _ RXH8.out Tryd.underlying24 rfl SXH.out ?_) | (refine wpList_mid_wanted (by rfl) 24 _ rfl g 1 rfl (cellsOf x.h) _ RXH8.out Tryd.underlying24 rfl SXH.out ?_) | (refine wpList_mid_wanted (by rfl) 24 _ rfl q 0 rfl (cellsOf s) _ HQ8.out Tryd.underlying24 rfl SZS.out ?_) | fail)
                go_meet
                exact ⟨rfl, rfl⟩
            case rest =>
              obtain ⟨rfl, rfl⟩ := hcut
              obtain ⟨E, hE⟩ : ∃ E, E = (!z && !k) := ⟨_, rfl⟩
              rw [← hE]
              have HE := Lib.hid hE
              clear hE qz qk
              go_upto_if 73 with (fail)
              go_cut [5] from 8 to 88 (fun u w' => u = .bool (O && (z || k)) ∧ w8 = w')
              case first =>
                cases E
                · have hzk : Hid ((z || k) = true) := or_of_no HE.out
                  go_wp2_with fail
                  go_meet
                  exact ⟨by rw [hzk.out, Bool.and_true], rfl⟩
                · have hzk : Hid ((z || k) = false) := or_of_yes HE.out
                  go_wp2_with fail
                  go_meet
                  exact ⟨by rw [hzk.out, Bool.and_false], rfl⟩
              case rest =>
                obtain ⟨rfl, rfl⟩ := hcut
                generalize (O && (z || k)) = F at *
                clear RXH8 HE
                have HO8 := Lib.hid (fun (W : World) (hW : Below w8.heap.size w8 W) => by have h9 := opens_any (H := H) (A := A) (HXV.out.below (HS8.out.trans (hW.mono HS8.out.size))) (HTV.out.below (HS8.out.trans (hW.mono HS8.out.size))) (HLV.out.below (HS8.out.trans (hW.mono HS8.out.size))) (HKV.out.below (HS8.out.trans (hW.mono HS8.out.size))) (by omega) (by omega); rw [HF.out] at h9; exact h9)
                have HSS : Hid (decide True = true) := Lib.hid (decide_eq_true trivial)
                have HH8 := Lib.hid (fun (W : World) (hW : Below w8.heap.size w8 W) => by have h9 := hash_any (HLV.out.below (HS8.out.trans (hW.mono HS8.out.size))) (HKV.out.below (HS8.out.trans (hW.mono HS8.out.size))) (by omega); rw [HSM2.out] at h9; exact h9)
                have HA8 := Lib.hid (fun (W : World) (hW : Below w8.heap.size w8 W) => awake_any (HKV.out.below (HS8.out.trans (hW.mono HS8.out.size))))
                have d1 := Lib.hid (show w8.cell? ⟨g + 1, 1, none⟩ = some (.slice b m d) from RT8.out 1 _ rfl)
                go_upto_region 13 with (fail)
                refine wp_region_held_drew (S := fun w' => Below w8.heap.size w8 w') (by kernel_rfl) (below_drew (Below.refl _ _)) (fun hHeld => ?_)
                refine take_at (i := 0) rfl rfl (by kernel_rfl) (by kernel_rfl) (by kernel_rfl) (fun _ _ _ h => h) (yieldsIf_load_mid (by rfl) _ _ rfl g 0 rfl x.cells _ (fun w0 hSw => rangeAt_below RX8.out hlg8 hSw) Tryd.underlying26 rfl SX.out) (by assumption) ?_
                simp only [List.setIfInBounds_toArray, List.set_cons_zero, List.set_cons_succ]
                refine take_at (i := 1) rfl rfl (by kernel_rfl) (by kernel_rfl) (by kernel_rfl) (fun _ _ _ h => h) (yieldsIf_load_mid (by rfl) _ _ rfl (g + 1) 0 rfl [.slice a n c, .slice b m d, .int .i64 H, .int .i64 A] _ (fun w0 hSw => rangeAt_below RT8.out hlv8 hSw) Tryd.underlying29 rfl (by kernel_rfl)) (by assumption) ?_
                simp only [List.setIfInBounds_toArray, List.set_cons_zero, List.set_cons_succ]
                refine take_at (i := 3) (v := ?_) rfl rfl (by kernel_rfl) (by kernel_rfl) (by kernel_rfl) (fun _ _ _ h => h) (Or.inl ⟨by rfl, ?_⟩) (by assumption) ?_
                rotate_left
                · intro w0 hSw; (try dsimp only at hSw); first | (go_simp; done) | (go_simp; with_reducible rfl)
                simp only [List.setIfInBounds_toArray, List.set_cons_zero, List.set_cons_succ]
                refine wpAnyH_ready (rs := [2]) (by kernel_rfl) (by simp) ?_
                refine AllReadyH.cons rfl (fun K hK => ?_) ?_
                · have hS2 : Below w8.heap.size w8 w8.drew := hHeld
                  have HC2 := Lib.hid (HO8.out _ hS2)
                  clear hS2
                  go_simp
                  go_wp2_with ((go_at_call 12; (with_reducible refine (HC2.out).mono ?_); rintro e y2 ⟨rfl, hb2⟩; have HX2 := Lib.hid hb2; clear hb2))
                  refine hK.out _ _ (by (try dsimp only); exact Below.trans hHeld (HX2.out.mono (Below.size hHeld))) (fun hHeld => ?_)
                  clear hK K
                  refine take_at (i := 4) (v := .bool true) rfl rfl (by kernel_rfl) (by kernel_rfl) (by kernel_rfl) (fun _ _ _ h => h) (Or.inl ⟨by rfl, ?_⟩) (by assumption) ?_
                  · intro w0 hSw; (try dsimp only at hSw); first | (go_simp; done) | (go_simp; with_reducible rfl) | (go_simp; omega)
                  simp only [List.setIfInBounds_toArray, List.set_cons_zero, List.set_cons_succ]
                  refine take_at (i := 5) (v := ?_) rfl rfl (by kernel_rfl) (by kernel_rfl) (by kernel_rfl) (fun _ _ _ h => h) (Or.inl ⟨by rfl, ?_⟩) (by assumption) ?_
                  rotate_left
                  · intro w0 hSw; (try dsimp only at hSw); first | (go_simp; done) | (go_simp; with_reducible rfl)
                  simp only [List.setIfInBounds_toArray, List.set_cons_zero, List.set_cons_succ]
                  refine take_at (i := 6) (v := ?_) rfl rfl (by kernel_rfl) (by kernel_rfl) (by kernel_rfl) (fun _ _ _ h => h) (Or.inl ⟨by rfl, ?_⟩) (by assumption) ?_
                  rotate_left
                  · intro w0 hSw; (try dsimp only at hSw); first | (go_simp; done) | (go_simp; with_reducible rfl)
                  simp only [List.setIfInBounds_toArray, List.set_cons_zero, List.set_cons_succ]
                  refine take_at (i := 7) rfl rfl (by kernel_rfl) (by kernel_rfl) (by kernel_rfl) (fun _ _ _ h => h) (yields_cell (by rfl) rfl rfl (fun w0 hSw => (Below.cell hSw (p := ⟨(g + 1), 1, none⟩) hlv8).trans d1.out) Tryd.isAgg27) (by assumption) ?_
                  simp only [List.setIfInBounds_toArray, List.set_cons_zero, List.set_cons_succ]
                  refine take_at (i := 9) rfl rfl (by kernel_rfl) (by kernel_rfl) (by kernel_rfl) (fun _ _ _ h => h) (yieldsIf_load_mid (by rfl) _ _ rfl q 0 rfl (cellsOf s) _ (fun w0 hSw => rangeAt_below HQ8.out hlq8 hSw) Tryd.underlying24 rfl SZS.out) (by assumption) ?_
                  simp only [List.setIfInBounds_toArray, List.set_cons_zero, List.set_cons_succ]
                  refine wpAnyH_ready (rs := [8]) (by kernel_rfl) (by simp) ?_
                  refine AllReadyH.cons rfl (fun K hK => ?_) ?_
                  · have hS8 : Below w8.heap.size w8 y2 := hHeld
                    have HC8 := Lib.hid (HH8.out _ hS8)
                    clear hS8
                    go_simp
                    go_wp2_with ((go_at_call 13; (with_reducible refine (HC8.out).mono ?_); rintro e y8 ⟨rfl, hb8⟩; have HX8 := Lib.hid hb8; clear hb8))
                    refine hK.out _ _ (by (try dsimp only); exact Below.trans hHeld (HX8.out.mono (Below.size hHeld))) (fun hHeld => ?_)
                    clear hK K
                    refine take_at (i := 10) rfl rfl (by kernel_rfl) (by kernel_rfl) (by kernel_rfl) (fun _ _ _ h => h) (yields_eql (by rfl) rfl rfl rfl HSL.out HSL.out true (decide_eq_true rfl)) (by assumption) ?_
                    simp only [List.setIfInBounds_toArray, List.set_cons_zero, List.set_cons_succ]
                    refine take_at (i := 11) (v := ?_) rfl rfl (by kernel_rfl) (by kernel_rfl) (by kernel_rfl) (fun _ _ _ h => h) (Or.inl ⟨by rfl, ?_⟩) (by assumption) ?_
                    rotate_left
                    · intro w0 hSw; (try dsimp only at hSw); first | (go_simp; done) | (go_simp; with_reducible rfl)
                    simp only [List.setIfInBounds_toArray, List.set_cons_zero, List.set_cons_succ]
                    refine take_at (i := 12) (v := ?_) rfl rfl (by kernel_rfl) (by kernel_rfl) (by kernel_rfl) (fun _ _ _ h => h) (Or.inl ⟨by rfl, ?_⟩) (by assumption) ?_
                    rotate_left
                    · intro w0 hSw; (try dsimp only at hSw); first | (go_simp; done) | (go_simp; with_reducible rfl)
                    simp only [List.setIfInBounds_toArray, List.set_cons_zero, List.set_cons_succ]
                    refine wpAnyH_ready (rs := [13]) (by kernel_rfl) (by simp) ?_
                    refine AllReadyH.cons rfl (fun K hK => ?_) ?_
                    · have hS13 : Below w8.heap.size w8 y8 := hHeld
                      have HC13 := Lib.hid (HA8.out _ hS13)
                      clear hS13
                      go_simp
                      go_wp2_with ((go_at_call 9; (with_reducible refine (HC13.out).mono ?_); rintro e y13 ⟨rfl, hb13⟩; have HX13 := Lib.hid hb13; clear hb13))
                      refine hK.out _ _ (by (try dsimp only); exact Below.trans hHeld (HX13.out.mono (Below.size hHeld))) (fun hHeld => ?_)
                      clear hK K
                      refine take_at (i := 14) (v := ?_) rfl rfl (by kernel_rfl) (by kernel_rfl) (by kernel_rfl) (fun _ _ _ h => h) (Or.inl ⟨by rfl, ?_⟩) (by assumption) ?_
                      rotate_left
                      · intro w0 hSw; (try dsimp only at hSw); first | (go_simp; done) | (go_simp; with_reducible rfl)
                      simp only [List.setIfInBounds_toArray, List.set_cons_zero, List.set_cons_succ]
                      refine take_at (i := 15) (v := ?_) rfl rfl (by kernel_rfl) (by kernel_rfl) (by kernel_rfl) (fun _ _ _ h => h) (Or.inl ⟨by rfl, ?_⟩) (by assumption) ?_
                      rotate_left
                      · intro w0 hSw; (try dsimp only at hSw); first | (go_simp; done) | (go_simp; with_reducible rfl)
                      simp only [List.setIfInBounds_toArray, List.set_cons_zero, List.set_cons_succ]
                      refine wpAnyH_done (by kernel_rfl) ?_ _
                      have HY := Lib.hid (show Below w8.heap.size w8 y13 from hHeld)
                      clear hHeld
                      go_wp2_with fail
                      go_ret
                      exact ⟨rfl, HBT.out.trans (HY.out.mono HBT.out.size)⟩
                    exact AllReadyH.nil
                  exact AllReadyH.nil
                exact AllReadyH.nil
    exact AllReadyH.nil
  exact AllReadyH.nil
end Go.Proofs.YtdaafeaeinomoaaDoor
