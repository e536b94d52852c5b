/- bond.Lock, case by case. -/
import Derived.Test.YtijanllppbambaaBondOps
import Derived.Test.YtijanllppbambaaCoin
namespace Go.Proofs.Ytijanllppbambaa
open Go.RowKit Go.Maps

theorem zero32_len9 : zero32.length = 32 := rfl
theorem add_two {S m : Int} (h0 : 0 ≤ S) (h1 : S ≤ 1125899906842624) (hm : 1 ≤ m) : addFrom 0 [S, m] = if 1125899906842624 < m then (0, 5) else if 1125899906842624 < S + m then (0, 10) else (S + m, 0) := by
  rw [addFrom_more h0 h1 (by omega), Int.zero_add]
  by_cases h2 : 1125899906842624 < m
  · rw [if_pos h2, addFrom_bad (.inr h2)]
  · rw [if_neg h2]
    by_cases h3 : 1125899906842624 < S + m
    · rw [if_pos h3, addFrom_over (by omega) (by omega) h3]
    · rw [if_neg h3, addFrom_more (by omega) (by omega) (by omega)]
      rfl
set_option linter.unusedSimpArgs false in
set_option maxRecDepth 100000 in
set_option maxHeartbeats 12800000 in
theorem lock_bad {w : World} {pv : Value} {n m : Int} {sm : List UInt8} {g : Bool} (hs9 : sm.length = 32) (hg : GivenIs w pv g) (hbad : g = false ∨ badLock n m sm) :
    Calls Try.prog 12 #[pv, .int .i64 n, .int .i64 m, .agg (cellsOf sm).toArray] w fun e w' => e = .returned (.int .i64 1) ∧ Below w.heap.size w w' := by
  have HG := Lib.hid hg
  have HS := Lib.hid hs9
  unfold badLock at hbad
  clear hg hs9
  go_enter Try.func12, Try.ntmps12
  cases g with
  | false =>
    clear hbad
    go_wp2_with (first | (refine wpList_box10 rfl 31 _ rfl (cellsOf sm).toArray rfl ?_; intro g3 w3 n3 h3 k3; have H3 := Lib.hid h3; have K3 := Lib.hid k3; have N3 := Lib.hid n3; clear h3 k3 n3; go_frame) | (go_at_call 30; refine (HG.out _ K3.out).mono ?_; rintro e w4 ⟨rfl, rfl⟩) | fail)
    go_ret
    exact ⟨rfl, K3.out⟩
  | true =>
    have hb1 := hbad.resolve_left (by simp)
    clear hbad
    by_cases h1 : n < 0
    · clear hb1
      go_wp2_with (first | (refine wpList_box10 rfl 31 _ rfl (cellsOf sm).toArray rfl ?_; intro g3 w3 n3 h3 k3; have H3 := Lib.hid h3; have K3 := Lib.hid k3; have N3 := Lib.hid n3; clear h3 k3 n3; go_frame) | (go_at_call 30; refine (HG.out _ K3.out).mono ?_; rintro e w4 ⟨rfl, rfl⟩) | fail)
      go_ret
      exact ⟨rfl, K3.out⟩
    · by_cases h2 : 16 ≤ n
      · clear hb1
        go_wp2_with (first | (refine wpList_box10 rfl 31 _ rfl (cellsOf sm).toArray rfl ?_; intro g3 w3 n3 h3 k3; have H3 := Lib.hid h3; have K3 := Lib.hid k3; have N3 := Lib.hid n3; clear h3 k3 n3; go_frame) | (go_at_call 30; refine (HG.out _ K3.out).mono ?_; rintro e w4 ⟨rfl, rfl⟩) | fail)
        go_ret
        exact ⟨rfl, K3.out⟩
      · by_cases h3 : m < 1
        · clear hb1
          go_wp2_with (first | (refine wpList_box10 rfl 31 _ rfl (cellsOf sm).toArray rfl ?_; intro g3 w3 n3 h3 k3; have H3 := Lib.hid h3; have K3 := Lib.hid k3; have N3 := Lib.hid n3; clear h3 k3 n3; go_frame) | (go_at_call 30; refine (HG.out _ K3.out).mono ?_; rintro e w4 ⟨rfl, rfl⟩) | fail)
          go_ret
          exact ⟨rfl, K3.out⟩
        · have h4 : sm = zero32 := ((hb1.resolve_left h1).resolve_left (by omega)).resolve_left h3
          have hq := eq_sums (r := true) HS.out zero32_len9 (by rw [h4]; simp)
          have d1 := decide_eq_false h1
          have d2 := decide_eq_false h2
          have d3 := decide_eq_false h3
          clear hb1 h4 h1 h2 h3
          go_wp2_with (first | (refine wpList_box10 rfl 31 _ rfl (cellsOf sm).toArray rfl ?_; intro g3 w3 n3 h3 k3; have H3 := Lib.hid h3; have K3 := Lib.hid k3; have N3 := Lib.hid n3; clear h3 k3 n3; go_frame) | (go_at_call 30; refine (HG.out _ K3.out).mono ?_; rintro e w4 ⟨rfl, rfl⟩) | (refine wpList_loadw (by rfl) 31 _ rfl g3 0 rfl (cellsOf sm) _ (range_of H3.out) Try.underlying31 rfl (sum_size HS.out) ?_; go_frame) | (refine wpList_buildw (by rfl) rfl (vs := []) (by rfl) build_zero ?_; go_frame) | fail)
          go_ret
          exact ⟨rfl, K3.out⟩
set_option linter.unusedSimpArgs false in
set_option maxRecDepth 100000 in
set_option maxHeartbeats 12800000 in
theorem lock_twice {w : World} {pv : Value} {n m : Int} {sm : List UInt8} {v : PTow} (hs9 : sm.length = 32) (hg : GivenIs w pv true) (hgood : ¬ badLock n m sm) (hr : v.root.length = 32) (ht : GetIs w pv n v true) (hne : v.root ≠ sm) :
    Calls Try.prog 12 #[pv, .int .i64 n, .int .i64 m, .agg (cellsOf sm).toArray] w fun e w' => e = .returned (.int .i64 8) ∧ Below w.heap.size w w' := by
  have HG := Lib.hid hg
  have HS := Lib.hid hs9
  have HT := Lib.hid ht
  have HR := Lib.hid hr
  unfold badLock at hgood
  have h1 : decide (n < 0) = false := decide_eq_false (fun e => hgood (.inl e))
  have h2 : decide (16 ≤ n) = false := decide_eq_false (fun e => hgood (.inr (.inl (by omega))))
  have h3 : decide (m < 1) = false := decide_eq_false (fun e => hgood (.inr (.inr (.inl e))))
  have hq := eq_sums (r := false) HS.out zero32_len9 (by simpa using fun e => hgood (.inr (.inr (.inr e))))
  have hq2 := eq_sums (r := false) HR.out HS.out (by simpa using hne)
  clear hne
  clear hg hs9 ht hr hgood
  go_enter Try.func12, Try.ntmps12
  go_wp2_with (first | (refine wpList_box10 rfl 31 _ rfl (cellsOf sm).toArray rfl ?_; intro g3 w3 n3 h3 k3; have H3 := Lib.hid h3; have K3 := Lib.hid k3; have N3 := Lib.hid n3; clear h3 k3 n3; go_frame) | (go_at_call 30; refine (HG.out _ K3.out).mono ?_; rintro e w4 ⟨rfl, rfl⟩) | (refine wpList_loadw (by rfl) 31 _ rfl g3 0 rfl (cellsOf sm) _ (range_of H3.out) Try.underlying31 rfl (sum_size HS.out) ?_; go_frame) | (refine wpList_buildw (by rfl) rfl (vs := []) (by rfl) build_zero ?_; go_frame) | (go_at_call 28; refine (HT.out _ K3.out).mono ?_; rintro e w5 ⟨rfl, hb5⟩; have K5 := Lib.hid (bthen K3.out hb5); have H35 := Lib.hid (keep hb5 H3.out); clear hb5) | (refine wpList_var rfl rfl 67 rfl _ _ rfl noTow.cells.toArray Try.zeroTow rfl v.cells (fun _ => rfl) (fun _ => rfl) (PTow.len HR.out) v.one ?_; intro g6 w6 n6 h6 k6; have K6 := Lib.hid (bthen K5.out k6); have H36 := Lib.hid (keep k6 H35.out); have H6 := Lib.hid h6; clear h6 k6 n6; go_frame) | (refine wpList_loadw (by rfl) 31 _ rfl g6 0 rfl (cellsOf v.root) _ ((tow_at HR.out (range_of H6.out)).root) Try.underlying31 rfl (sum_size HR.out) ?_; go_frame) | (refine wpList_loadw (by rfl) 31 _ rfl g3 0 rfl (cellsOf sm) _ (range_of H36.out) Try.underlying31 rfl (sum_size HS.out) ?_; go_frame) | fail)
  go_ret
  exact ⟨rfl, K6.out⟩
set_option linter.unusedSimpArgs false in
set_option maxRecDepth 100000 in
set_option maxHeartbeats 12800000 in
theorem lock_over {w : World} {pv : Value} {n m S E : Int} {sm : List UInt8} {v : PTow} {ok : Bool} (hs9 : sm.length = 32) (hg : GivenIs w pv true) (hgood : ¬ badLock n m sm) (hr : v.root.length = 32) (ht : GetIs w pv n v ok) (hok : ok = true → v.root = sm) (hto : TotalIs w pv S) (hSF : Fits S) (hMF : Fits m) (hadd : addFrom 0 [S, m] = (0, E)) (hE : ¬ E = 0) :
    Calls Try.prog 12 #[pv, .int .i64 n, .int .i64 m, .agg (cellsOf sm).toArray] w fun e w' => e = .returned (.int .i64 E) ∧ Below w.heap.size w w' := by
  have HG := Lib.hid hg
  have HS := Lib.hid hs9
  have HT := Lib.hid ht
  have HR := Lib.hid hr
  unfold badLock at hgood
  have h1 : decide (n < 0) = false := decide_eq_false (fun e => hgood (.inl e))
  have h2 : decide (16 ≤ n) = false := decide_eq_false (fun e => hgood (.inr (.inl (by omega))))
  have h3 : decide (m < 1) = false := decide_eq_false (fun e => hgood (.inr (.inr (.inl e))))
  have hq := eq_sums (r := false) HS.out zero32_len9 (by simpa using fun e => hgood (.inr (.inr (.inr e))))
  have HTO := Lib.hid hto
  have HAD : Hid (∀ (W : World) (g : Nat), W.heap[g]? = some (.cells #[.int .i64 S, .int .i64 m] 2 (0, 0)) → Calls Try.prog 33 #[.slice (some ⟨g, 0, none⟩) 2 2] W fun e w' => e = .returned (.tuple #[.int .i64 0, .int .i64 E]) ∧ Below W.heap.size W w') := Lib.hid (fun W g hW => by
    have h9 := add_any (numbers_two hW hSF hMF)
    rw [hadd] at h9
    exact h9)
  have hE' : (E == 0) = false := by simpa using hE
  clear hto hSF hMF hadd
  clear hg hs9 ht hr hgood
  go_enter Try.func12, Try.ntmps12
  go_upto_region 4 with (first | (refine wpList_box10 rfl 31 _ rfl (cellsOf sm).toArray rfl ?_; intro g3 w3 n3 h3 k3; have H3 := Lib.hid h3; have K3 := Lib.hid k3; have N3 := Lib.hid n3; clear h3 k3 n3; go_frame) | (go_at_call 30; refine (HG.out _ K3.out).mono ?_; rintro e w4 ⟨rfl, rfl⟩) | (refine wpList_loadw (by rfl) 31 _ rfl g3 0 rfl (cellsOf sm) _ (range_of H3.out) Try.underlying31 rfl (sum_size HS.out) ?_; go_frame) | (refine wpList_buildw (by rfl) rfl (vs := []) (by rfl) build_zero ?_; go_frame) | (go_at_call 28; refine (HT.out _ K3.out).mono ?_; rintro e w5 ⟨rfl, hb5⟩; have K5 := Lib.hid (bthen K3.out hb5); have H35 := Lib.hid (keep hb5 H3.out); clear hb5) | (refine wpList_var rfl rfl 67 rfl _ _ rfl noTow.cells.toArray Try.zeroTow rfl v.cells (fun _ => rfl) (fun _ => rfl) (PTow.len HR.out) v.one ?_; intro g6 w6 n6 h6 k6; have K6 := Lib.hid (bthen K5.out k6); have H36 := Lib.hid (keep k6 H35.out); have H6 := Lib.hid h6; clear h6 k6 n6; go_frame) | fail)
  cases ok with
  | false =>
    clear hok
    go_wp2_with (first | (go_at_call 10; refine (HTO.out _ K6.out).mono ?_; rintro e w7 ⟨rfl, hb7⟩; have K7 := Lib.hid (bthen K6.out hb7); have H37 := Lib.hid (keep hb7 H36.out); have H67 := Lib.hid (keep hb7 H6.out); clear hb7) | (go_at_call 33; refine (HAD.out _ _ (heap_alloc_new _ _)).mono ?_; rintro e w8 ⟨rfl, hb8⟩; have J8 := Lib.hid (bthen ((Below.refl w7.heap.size w7).alloc (Nat.le_refl _) _) hb8); have K8 := Lib.hid (bthen K7.out (bthen ((Below.refl w7.heap.size w7).alloc (Nat.le_refl _) _) hb8)); clear hb8) | fail)
    go_ret
    exact ⟨rfl, K8.out⟩
  | true =>
    have hq2 := eq_sums (r := true) HR.out HS.out (by simpa using hok rfl)
    clear hok
    go_wp2_with (first | (refine wpList_loadw (by rfl) 31 _ rfl g6 0 rfl (cellsOf v.root) _ ((tow_at HR.out (range_of H6.out)).root) Try.underlying31 rfl (sum_size HR.out) ?_; go_frame) | (refine wpList_loadw (by rfl) 31 _ rfl g3 0 rfl (cellsOf sm) _ (range_of H36.out) Try.underlying31 rfl (sum_size HS.out) ?_; go_frame) | (go_at_call 10; refine (HTO.out _ K6.out).mono ?_; rintro e w7 ⟨rfl, hb7⟩; have K7 := Lib.hid (bthen K6.out hb7); have H37 := Lib.hid (keep hb7 H36.out); have H67 := Lib.hid (keep hb7 H6.out); clear hb7) | (go_at_call 33; refine (HAD.out _ _ (heap_alloc_new _ _)).mono ?_; rintro e w8 ⟨rfl, hb8⟩; have J8 := Lib.hid (bthen ((Below.refl w7.heap.size w7).alloc (Nat.le_refl _) _) hb8); have K8 := Lib.hid (bthen K7.out (bthen ((Below.refl w7.heap.size w7).alloc (Nat.le_refl _) _) hb8)); clear hb8) | fail)
    go_ret
    exact ⟨rfl, K8.out⟩
set_option linter.unusedSimpArgs false in
set_option maxRecDepth 100000 in
set_option maxHeartbeats 12800000 in
theorem lock_ok9 {B : Nat} {w : World} {pv : Value} {tb hb N : Nat} {ts : List PTE} {hs : List PHE} (h : BoardAt B w pv tb hb N ts hs) (hN : N + 1 ≤ 100) {n m : Int} {sm : List UInt8} {v : PTow} {ok : Bool} (fn : Fits n) (hs9 : sm.length = 32) (hg : GivenIs w pv true) (hgood : ¬ badLock n m sm) (hr : v.root.length = 32) (ht : GetIs w pv n v ok) (hok : ok = true → v.root = sm) (hMF : Fits m) (hadd : addFrom 0 [totT ts, m] = (totT ts + m, 0)) (hl0 : 0 ≤ v.locked) (hl1 : v.locked ≤ 1125899906842624) (hm1 : m ≤ 1125899906842624) (hi : Inv (putT n ⟨sm, v.locked + m, v.asked, v.at9⟩ ts) hs) :
    Calls Try.prog 12 #[pv, .int .i64 n, .int .i64 m, .agg (cellsOf sm).toArray] w fun e w' => CodeOut B w pv tb hb N (.int .i64 0) (putT n ⟨sm, v.locked + m, v.asked, v.at9⟩ ts) hs e w' := by
  have hto := totalIs h
  have h0 := h.inv.tot0
  have h9 := h.inv.tot
  obtain ⟨S, hS⟩ : ∃ S, S = totT ts := ⟨_, rfl⟩
  rw [← hS] at hadd hto h0 h9
  have hSF : Fits S := by constructor <;> omega
  have HG := Lib.hid hg
  have HS := Lib.hid hs9
  have HT := Lib.hid ht
  have HR := Lib.hid hr
  unfold badLock at hgood
  have h1 : decide (n < 0) = false := decide_eq_false (fun e => hgood (.inl e))
  have h2 : decide (16 ≤ n) = false := decide_eq_false (fun e => hgood (.inr (.inl (by omega))))
  have h3 : decide (m < 1) = false := decide_eq_false (fun e => hgood (.inr (.inr (.inl e))))
  have hq := eq_sums (r := false) HS.out zero32_len9 (by simpa using fun e => hgood (.inr (.inr (.inr e))))
  obtain ⟨a, ha⟩ : ∃ a, a = v.asked := ⟨_, rfl⟩
  obtain ⟨l, hlk⟩ : ∃ l, l = v.locked := ⟨_, rfl⟩
  obtain ⟨t, ht9⟩ : ∃ t, t = v.at9 := ⟨_, rfl⟩
  have HAS := Lib.hid ha
  have HLK := Lib.hid hlk
  have HTT := Lib.hid ht9
  rw [← ha, ← hlk, ← ht9] at hi ⊢
  rw [← hlk] at hl0 hl1
  have iw : IntKind.i64.wrap (l + m) = l + m := IntWalk.i64_in _ (by omega)
  have HTO := Lib.hid hto
  have HAD : Hid (∀ (W : World) (g : Nat), W.heap[g]? = some (.cells #[.int .i64 S, .int .i64 m] 2 (0, 0)) → Calls Try.prog 33 #[.slice (some ⟨g, 0, none⟩) 2 2] W fun e w' => e = .returned (.tuple #[.int .i64 (S + m), .int .i64 0]) ∧ Below W.heap.size W w') := Lib.hid (fun W g hW => by
    have h9 := add_any (numbers_two hW hSF hMF)
    rw [hadd] at h9
    exact h9)
  have HPP : Hid (∀ W : World, Below w.heap.size w W → ∃ w', (Instr.mapUpdate 48 (.map (some tb)) (.int .i64 n) (.agg (PTow.cells ⟨sm, l + m, a, t⟩).toArray)).run Try.prog W = .ok () w' ∧ BoardAt B w' pv tb hb (N + 1) (putT n ⟨sm, l + m, a, t⟩ ts) hs ∧ W.grownBy w' (some tb)) := Lib.hid (fun W hW => (h.below hW).putTow hN fn _ hi)
  have HA := Lib.hid h
  obtain ⟨vb, rfl, hvb⟩ := h.has
  have HVB := Lib.hid hvb
  clear h hvb hto hSF hMF hadd hS hl0 hl1 hm1 hi ha hlk ht9 fn hN h0 h9
  clear hg hs9 ht hr hgood
  generalize putT n ⟨sm, l + m, a, t⟩ ts = ts' at HPP ⊢
  go_enter Try.func12, Try.ntmps12
  go_upto_region 4 with (first | (refine wpList_box10 rfl 31 _ rfl (cellsOf sm).toArray rfl ?_; intro g3 w3 n3 h3 k3; have H3 := Lib.hid h3; have K3 := Lib.hid k3; have N3 := Lib.hid n3; clear h3 k3 n3; go_frame) | (go_at_call 30; refine (HG.out _ K3.out).mono ?_; rintro e w4 ⟨rfl, rfl⟩) | (refine wpList_loadw (by rfl) 31 _ rfl g3 0 rfl (cellsOf sm) _ (range_of H3.out) Try.underlying31 rfl (sum_size HS.out) ?_; go_frame) | (refine wpList_buildw (by rfl) rfl (vs := []) (by rfl) build_zero ?_; go_frame) | (go_at_call 28; refine (HT.out _ K3.out).mono ?_; rintro e w5 ⟨rfl, hb5⟩; have K5 := Lib.hid (bthen K3.out hb5); have H35 := Lib.hid (keep hb5 H3.out); clear hb5) | (refine wpList_var rfl rfl 67 rfl _ _ rfl noTow.cells.toArray Try.zeroTow rfl v.cells (fun _ => rfl) (fun _ => rfl) (PTow.len HR.out) v.one ?_; intro g6 w6 n6 h6 k6; have K6 := Lib.hid (bthen K5.out k6); have H36 := Lib.hid (keep k6 H35.out); have H6 := Lib.hid h6; clear h6 k6 n6; go_frame) | fail)
  cases ok with
  | false =>
    clear hok
    go_upto_region 9 with (first | (go_at_call 10; refine (HTO.out _ K6.out).mono ?_; rintro e w7 ⟨rfl, hb7⟩; have K7 := Lib.hid (bthen K6.out hb7); have H37 := Lib.hid (keep hb7 H36.out); have H67 := Lib.hid (keep hb7 H6.out); clear hb7) | (go_at_call 33; refine (HAD.out _ _ (heap_alloc_new _ _)).mono ?_; rintro e w8 ⟨rfl, hb8⟩; have J8 := Lib.hid (bthen ((Below.refl w7.heap.size w7).alloc (Nat.le_refl _) _) hb8); have K8 := Lib.hid (bthen K7.out (bthen ((Below.refl w7.heap.size w7).alloc (Nat.le_refl _) _) hb8)); clear hb8) | fail)
    obtain ⟨es9, cl9, hmap9⟩ := (HA.out.below K8.out).tMap
    have hv9 := keep K8.out HVB.out
    have CB : Hid (∀ W : World, But w8.heap.size tb w8 W → W.cell? ⟨vb, 0, none⟩ = some (.map (some tb))) := Lib.hid (fun W hW => cell_of_row W vb 0 _ _ _ (hW.heap hv9 (lt_of_block hv9) (ne_of_map hmap9 hv9)))
    have RS : Hid (∀ W : World, But w8.heap.size tb w8 W → W.rangeAt g3 0 (cellsOf sm)) := Lib.hid (fun W hW => by
      have h9 := hW.heap (keep J8.out H37.out) (lt_of_block (keep J8.out H37.out)) (ne_of_map hmap9 (keep J8.out H37.out))
      exact range_of h9)
    have RV : Hid (∀ W : World, But w8.heap.size tb w8 W → TowAt W g6 0 v) := Lib.hid (fun W hW => by
      have h9 := hW.heap (keep J8.out H67.out) (lt_of_block (keep J8.out H67.out)) (ne_of_map hmap9 (keep J8.out H67.out))
      exact tow_at HR.out (range_of h9))
    clear hmap9 hv9
    have C32 : Hid (∀ W : World, But w8.heap.size tb w8 W → W.cell? ⟨g6, 32, none⟩ = some (.int .i64 l)) := Lib.hid (fun W hW => by have h9 := (RV.out W hW).locked; rw [Nat.zero_add, ← HLK.out] at h9; exact h9)
    have C33 : Hid (∀ W : World, But w8.heap.size tb w8 W → W.cell? ⟨g6, 33, none⟩ = some (.int .i64 a)) := Lib.hid (fun W hW => by have h9 := (RV.out W hW).asked; rw [Nat.zero_add, ← HAS.out] at h9; exact h9)
    have C34 : Hid (∀ W : World, But w8.heap.size tb w8 W → W.cell? ⟨g6, 34, none⟩ = some (.int .i64 t)) := Lib.hid (fun W hW => by have h9 := (RV.out W hW).at9; rw [Nat.zero_add, ← HTT.out] at h9; exact h9)
    have SZ := Lib.hid (sum_size HS.out)
    refine wp_region_held_drew (S := fun w' => But w8.heap.size tb w8 w') (by kernel_rfl) ((But.refl _ _ _).drew) (fun hHeld => ?_)
    refine take_at (i := 0) (v := ?_) rfl rfl (by kernel_rfl) (by kernel_rfl) (by kernel_rfl) (fun _ _ _ h => h) (Or.inl ⟨by rfl, ?_⟩) (by assumption) ?_
    rotate_left
    · intro w0 hSw; (try dsimp only at hSw); first | (go_simp; done) | (go_simp; with_reducible rfl)
    simp only [List.setIfInBounds_toArray, List.set_cons_zero, List.set_cons_succ]
    refine take_at (i := 1) (v := ?_) rfl rfl (by kernel_rfl) (by kernel_rfl) (by kernel_rfl) (fun _ _ _ h => h) (Or.inl ⟨by rfl, ?_⟩) (by assumption) ?_
    rotate_left
    · intro w0 hSw; (try dsimp only at hSw); first | (go_simp; done) | (go_simp; with_reducible rfl)
    simp only [List.setIfInBounds_toArray, List.set_cons_zero, List.set_cons_succ]
    refine take_at (i := 2) (v := ?_) rfl rfl (by kernel_rfl) (by kernel_rfl) (by kernel_rfl) (fun _ _ _ h => h) (Or.inl ⟨by rfl, ?_⟩) (by assumption) ?_
    rotate_left
    · intro w0 hSw; (try dsimp only at hSw); first | (go_simp; done) | (go_simp; with_reducible rfl)
    simp only [List.setIfInBounds_toArray, List.set_cons_zero, List.set_cons_succ]
    refine take_at (i := 3) rfl rfl (by kernel_rfl) (by kernel_rfl) (by kernel_rfl) (fun _ _ _ h => h) (yields_cell (b := vb) (o := 0) (by rfl) rfl rfl (fun w0 hSw => CB.out w0 hSw) (fun w0 => Try.isAgg48 w0)) (by assumption) ?_
    simp only [List.setIfInBounds_toArray, List.set_cons_zero, List.set_cons_succ]
    refine take_at (i := 4) (v := ?_) rfl rfl (by kernel_rfl) (by kernel_rfl) (by kernel_rfl) (fun _ _ _ h => h) (Or.inl ⟨by rfl, ?_⟩) (by assumption) ?_
    rotate_left
    · intro w0 hSw; (try dsimp only at hSw); first | (go_simp; done) | (go_simp; with_reducible rfl)
    simp only [List.setIfInBounds_toArray, List.set_cons_zero, List.set_cons_succ]
    refine take_at (i := 5) rfl rfl (by kernel_rfl) (by kernel_rfl) (by kernel_rfl) (fun _ _ _ h => h) (yieldsIf_load_mid (by rfl) _ _ rfl g3 0 rfl (cellsOf sm) _ (fun w0 hSw => RS.out w0 hSw) Try.underlying31 rfl SZ.out) (by assumption) ?_
    simp only [List.setIfInBounds_toArray, List.set_cons_zero, List.set_cons_succ]
    refine take_at (i := 6) (v := ?_) rfl rfl (by kernel_rfl) (by kernel_rfl) (by kernel_rfl) (fun _ _ _ h => h) (Or.inl ⟨by rfl, ?_⟩) (by assumption) ?_
    rotate_left
    · intro w0 hSw; (try dsimp only at hSw); first | (go_simp; done) | (go_simp; with_reducible rfl)
    simp only [List.setIfInBounds_toArray, List.set_cons_zero, List.set_cons_succ]
    refine take_at (i := 7) rfl rfl (by kernel_rfl) (by kernel_rfl) (by kernel_rfl) (fun _ _ _ h => h) (yields_cell (b := g6) (o := 32) (by rfl) rfl rfl (fun w0 hSw => C32.out w0 hSw) (fun w0 => Try.isAgg2 w0)) (by assumption) ?_
    simp only [List.setIfInBounds_toArray, List.set_cons_zero, List.set_cons_succ]
    refine take_at (i := 8) (v := ?_) rfl rfl (by kernel_rfl) (by kernel_rfl) (by kernel_rfl) (fun _ _ _ h => h) (Or.inl ⟨by rfl, ?_⟩) (by assumption) ?_
    rotate_left
    · intro w0 hSw; (try dsimp only at hSw); first | (go_simp; done) | (go_simp; with_reducible rfl)
    simp only [List.setIfInBounds_toArray, List.set_cons_zero, List.set_cons_succ]
    refine take_at (i := 9) (v := ?_) rfl rfl (by kernel_rfl) (by kernel_rfl) (by kernel_rfl) (fun _ _ _ h => h) (Or.inl ⟨by rfl, ?_⟩) (by assumption) ?_
    rotate_left
    · intro w0 hSw; (try dsimp only at hSw); first | (go_simp; done) | (go_simp; with_reducible rfl)
    simp only [List.setIfInBounds_toArray, List.set_cons_zero, List.set_cons_succ]
    refine take_at (i := 10) (v := ?_) rfl rfl (by kernel_rfl) (by kernel_rfl) (by kernel_rfl) (fun _ _ _ h => h) (Or.inl ⟨by rfl, ?_⟩) (by assumption) ?_
    rotate_left
    · intro w0 hSw; (try dsimp only at hSw); first | (go_simp; done) | (go_simp; with_reducible rfl)
    simp only [List.setIfInBounds_toArray, List.set_cons_zero, List.set_cons_succ]
    refine take_at (i := 11) rfl rfl (by kernel_rfl) (by kernel_rfl) (by kernel_rfl) (fun _ _ _ h => h) (yields_cell (b := g6) (o := 33) (by rfl) rfl rfl (fun w0 hSw => C33.out w0 hSw) (fun w0 => Try.isAgg2 w0)) (by assumption) ?_
    simp only [List.setIfInBounds_toArray, List.set_cons_zero, List.set_cons_succ]
    refine take_at (i := 12) (v := ?_) rfl rfl (by kernel_rfl) (by kernel_rfl) (by kernel_rfl) (fun _ _ _ h => h) (Or.inl ⟨by rfl, ?_⟩) (by assumption) ?_
    rotate_left
    · intro w0 hSw; (try dsimp only at hSw); first | (go_simp; done) | (go_simp; with_reducible rfl)
    simp only [List.setIfInBounds_toArray, List.set_cons_zero, List.set_cons_succ]
    refine take_at (i := 13) rfl rfl (by kernel_rfl) (by kernel_rfl) (by kernel_rfl) (fun _ _ _ h => h) (yields_cell (b := g6) (o := 34) (by rfl) rfl rfl (fun w0 hSw => C34.out w0 hSw) (fun w0 => Try.isAgg3 w0)) (by assumption) ?_
    simp only [List.setIfInBounds_toArray, List.set_cons_zero, List.set_cons_succ]
    refine take_at (i := 14) rfl rfl (by kernel_rfl) (by kernel_rfl) (by kernel_rfl) (fun _ _ _ h => h) (yields_build10 (by rfl) rfl (vs := [(0, .agg (cellsOf sm).toArray), (1, .int .i64 (l + m)), (2, .int .i64 a), (3, .int .i64 t)]) (by rfl) (build_tow4 HS.out _ _ _)) (by assumption) ?_
    simp only [List.setIfInBounds_toArray, List.set_cons_zero, List.set_cons_succ]
    refine wpAnyH_ready (rs := [15]) (by kernel_rfl) (by simp) ?_
    refine AllReadyH.cons rfl (fun K hK => ?_) ?_
    · obtain ⟨w12, hr12, hA12, hg12⟩ := HPP.out _ (bthen K8.out (below_drew (Below.refl _ _)))
      refine step_mapUpdate10 (by rfl) rfl (by rfl) (by rfl) (by rfl) hr12 ?_
      have HA12 := Lib.hid hA12
      have HG12 := Lib.hid hg12
      clear hr12 hA12 hg12
      refine hK.out _ _ (by (try dsimp only); exact hHeld.trans (but_of_grown HG12.out)) (fun hHeld => ?_)
      clear hK K
      refine wpAnyH_done (by kernel_rfl) ?_ _
      go_wp2_with fail
      go_ret
      exact HA.out.wrote (bthen K8.out (below_drew (Below.refl _ _))) (.inl HG12.out) HA12.out _
    exact AllReadyH.nil
  | true =>
    have hq2 := eq_sums (r := true) HR.out HS.out (by simpa using hok rfl)
    clear hok
    go_upto_region 9 with (first | (refine wpList_loadw (by rfl) 31 _ rfl g6 0 rfl (cellsOf v.root) _ ((tow_at HR.out (range_of H6.out)).root) Try.underlying31 rfl (sum_size HR.out) ?_; go_frame) | (refine wpList_loadw (by rfl) 31 _ rfl g3 0 rfl (cellsOf sm) _ (range_of H36.out) Try.underlying31 rfl (sum_size HS.out) ?_; go_frame) | (go_at_call 10; refine (HTO.out _ K6.out).mono ?_; rintro e w7 ⟨rfl, hb7⟩; have K7 := Lib.hid (bthen K6.out hb7); have H37 := Lib.hid (keep hb7 H36.out); have H67 := Lib.hid (keep hb7 H6.out); clear hb7) | (go_at_call 33; refine (HAD.out _ _ (heap_alloc_new _ _)).mono ?_; rintro e w8 ⟨rfl, hb8⟩; have J8 := Lib.hid (bthen ((Below.refl w7.heap.size w7).alloc (Nat.le_refl _) _) hb8); have K8 := Lib.hid (bthen K7.out (bthen ((Below.refl w7.heap.size w7).alloc (Nat.le_refl _) _) hb8)); clear hb8) | fail)
    obtain ⟨es9, cl9, hmap9⟩ := (HA.out.below K8.out).tMap
    have hv9 := keep K8.out HVB.out
    have CB : Hid (∀ W : World, But w8.heap.size tb w8 W → W.cell? ⟨vb, 0, none⟩ = some (.map (some tb))) := Lib.hid (fun W hW => cell_of_row W vb 0 _ _ _ (hW.heap hv9 (lt_of_block hv9) (ne_of_map hmap9 hv9)))
    have RS : Hid (∀ W : World, But w8.heap.size tb w8 W → W.rangeAt g3 0 (cellsOf sm)) := Lib.hid (fun W hW => by
      have h9 := hW.heap (keep J8.out H37.out) (lt_of_block (keep J8.out H37.out)) (ne_of_map hmap9 (keep J8.out H37.out))
      exact range_of h9)
    have RV : Hid (∀ W : World, But w8.heap.size tb w8 W → TowAt W g6 0 v) := Lib.hid (fun W hW => by
      have h9 := hW.heap (keep J8.out H67.out) (lt_of_block (keep J8.out H67.out)) (ne_of_map hmap9 (keep J8.out H67.out))
      exact tow_at HR.out (range_of h9))
    clear hmap9 hv9
    have C32 : Hid (∀ W : World, But w8.heap.size tb w8 W → W.cell? ⟨g6, 32, none⟩ = some (.int .i64 l)) := Lib.hid (fun W hW => by have h9 := (RV.out W hW).locked; rw [Nat.zero_add, ← HLK.out] at h9; exact h9)
    have C33 : Hid (∀ W : World, But w8.heap.size tb w8 W → W.cell? ⟨g6, 33, none⟩ = some (.int .i64 a)) := Lib.hid (fun W hW => by have h9 := (RV.out W hW).asked; rw [Nat.zero_add, ← HAS.out] at h9; exact h9)
    have C34 : Hid (∀ W : World, But w8.heap.size tb w8 W → W.cell? ⟨g6, 34, none⟩ = some (.int .i64 t)) := Lib.hid (fun W hW => by have h9 := (RV.out W hW).at9; rw [Nat.zero_add, ← HTT.out] at h9; exact h9)
    have SZ := Lib.hid (sum_size HS.out)
    refine wp_region_held_drew (S := fun w' => But w8.heap.size tb w8 w') (by kernel_rfl) ((But.refl _ _ _).drew) (fun hHeld => ?_)
    refine take_at (i := 0) (v := ?_) rfl rfl (by kernel_rfl) (by kernel_rfl) (by kernel_rfl) (fun _ _ _ h => h) (Or.inl ⟨by rfl, ?_⟩) (by assumption) ?_
    rotate_left
    · intro w0 hSw; (try dsimp only at hSw); first | (go_simp; done) | (go_simp; with_reducible rfl)
    simp only [List.setIfInBounds_toArray, List.set_cons_zero, List.set_cons_succ]
    refine take_at (i := 1) (v := ?_) rfl rfl (by kernel_rfl) (by kernel_rfl) (by kernel_rfl) (fun _ _ _ h => h) (Or.inl ⟨by rfl, ?_⟩) (by assumption) ?_
    rotate_left
    · intro w0 hSw; (try dsimp only at hSw); first | (go_simp; done) | (go_simp; with_reducible rfl)
    simp only [List.setIfInBounds_toArray, List.set_cons_zero, List.set_cons_succ]
    refine take_at (i := 2) (v := ?_) rfl rfl (by kernel_rfl) (by kernel_rfl) (by kernel_rfl) (fun _ _ _ h => h) (Or.inl ⟨by rfl, ?_⟩) (by assumption) ?_
    rotate_left
    · intro w0 hSw; (try dsimp only at hSw); first | (go_simp; done) | (go_simp; with_reducible rfl)
    simp only [List.setIfInBounds_toArray, List.set_cons_zero, List.set_cons_succ]
    refine take_at (i := 3) rfl rfl (by kernel_rfl) (by kernel_rfl) (by kernel_rfl) (fun _ _ _ h => h) (yields_cell (b := vb) (o := 0) (by rfl) rfl rfl (fun w0 hSw => CB.out w0 hSw) (fun w0 => Try.isAgg48 w0)) (by assumption) ?_
    simp only [List.setIfInBounds_toArray, List.set_cons_zero, List.set_cons_succ]
    refine take_at (i := 4) (v := ?_) rfl rfl (by kernel_rfl) (by kernel_rfl) (by kernel_rfl) (fun _ _ _ h => h) (Or.inl ⟨by rfl, ?_⟩) (by assumption) ?_
    rotate_left
    · intro w0 hSw; (try dsimp only at hSw); first | (go_simp; done) | (go_simp; with_reducible rfl)
    simp only [List.setIfInBounds_toArray, List.set_cons_zero, List.set_cons_succ]
    refine take_at (i := 5) rfl rfl (by kernel_rfl) (by kernel_rfl) (by kernel_rfl) (fun _ _ _ h => h) (yieldsIf_load_mid (by rfl) _ _ rfl g3 0 rfl (cellsOf sm) _ (fun w0 hSw => RS.out w0 hSw) Try.underlying31 rfl SZ.out) (by assumption) ?_
    simp only [List.setIfInBounds_toArray, List.set_cons_zero, List.set_cons_succ]
    refine take_at (i := 6) (v := ?_) rfl rfl (by kernel_rfl) (by kernel_rfl) (by kernel_rfl) (fun _ _ _ h => h) (Or.inl ⟨by rfl, ?_⟩) (by assumption) ?_
    rotate_left
    · intro w0 hSw; (try dsimp only at hSw); first | (go_simp; done) | (go_simp; with_reducible rfl)
    simp only [List.setIfInBounds_toArray, List.set_cons_zero, List.set_cons_succ]
    refine take_at (i := 7) rfl rfl (by kernel_rfl) (by kernel_rfl) (by kernel_rfl) (fun _ _ _ h => h) (yields_cell (b := g6) (o := 32) (by rfl) rfl rfl (fun w0 hSw => C32.out w0 hSw) (fun w0 => Try.isAgg2 w0)) (by assumption) ?_
    simp only [List.setIfInBounds_toArray, List.set_cons_zero, List.set_cons_succ]
    refine take_at (i := 8) (v := ?_) rfl rfl (by kernel_rfl) (by kernel_rfl) (by kernel_rfl) (fun _ _ _ h => h) (Or.inl ⟨by rfl, ?_⟩) (by assumption) ?_
    rotate_left
    · intro w0 hSw; (try dsimp only at hSw); first | (go_simp; done) | (go_simp; with_reducible rfl)
    simp only [List.setIfInBounds_toArray, List.set_cons_zero, List.set_cons_succ]
    refine take_at (i := 9) (v := ?_) rfl rfl (by kernel_rfl) (by kernel_rfl) (by kernel_rfl) (fun _ _ _ h => h) (Or.inl ⟨by rfl, ?_⟩) (by assumption) ?_
    rotate_left
    · intro w0 hSw; (try dsimp only at hSw); first | (go_simp; done) | (go_simp; with_reducible rfl)
    simp only [List.setIfInBounds_toArray, List.set_cons_zero, List.set_cons_succ]
    refine take_at (i := 10) (v := ?_) rfl rfl (by kernel_rfl) (by kernel_rfl) (by kernel_rfl) (fun _ _ _ h => h) (Or.inl ⟨by rfl, ?_⟩) (by assumption) ?_
    rotate_left
    · intro w0 hSw; (try dsimp only at hSw); first | (go_simp; done) | (go_simp; with_reducible rfl)
    simp only [List.setIfInBounds_toArray, List.set_cons_zero, List.set_cons_succ]
    refine take_at (i := 11) rfl rfl (by kernel_rfl) (by kernel_rfl) (by kernel_rfl) (fun _ _ _ h => h) (yields_cell (b := g6) (o := 33) (by rfl) rfl rfl (fun w0 hSw => C33.out w0 hSw) (fun w0 => Try.isAgg2 w0)) (by assumption) ?_
    simp only [List.setIfInBounds_toArray, List.set_cons_zero, List.set_cons_succ]
    refine take_at (i := 12) (v := ?_) rfl rfl (by kernel_rfl) (by kernel_rfl) (by kernel_rfl) (fun _ _ _ h => h) (Or.inl ⟨by rfl, ?_⟩) (by assumption) ?_
    rotate_left
    · intro w0 hSw; (try dsimp only at hSw); first | (go_simp; done) | (go_simp; with_reducible rfl)
    simp only [List.setIfInBounds_toArray, List.set_cons_zero, List.set_cons_succ]
    refine take_at (i := 13) rfl rfl (by kernel_rfl) (by kernel_rfl) (by kernel_rfl) (fun _ _ _ h => h) (yields_cell (b := g6) (o := 34) (by rfl) rfl rfl (fun w0 hSw => C34.out w0 hSw) (fun w0 => Try.isAgg3 w0)) (by assumption) ?_
    simp only [List.setIfInBounds_toArray, List.set_cons_zero, List.set_cons_succ]
    refine take_at (i := 14) rfl rfl (by kernel_rfl) (by kernel_rfl) (by kernel_rfl) (fun _ _ _ h => h) (yields_build10 (by rfl) rfl (vs := [(0, .agg (cellsOf sm).toArray), (1, .int .i64 (l + m)), (2, .int .i64 a), (3, .int .i64 t)]) (by rfl) (build_tow4 HS.out _ _ _)) (by assumption) ?_
    simp only [List.setIfInBounds_toArray, List.set_cons_zero, List.set_cons_succ]
    refine wpAnyH_ready (rs := [15]) (by kernel_rfl) (by simp) ?_
    refine AllReadyH.cons rfl (fun K hK => ?_) ?_
    · obtain ⟨w12, hr12, hA12, hg12⟩ := HPP.out _ (bthen K8.out (below_drew (Below.refl _ _)))
      refine step_mapUpdate10 (by rfl) rfl (by rfl) (by rfl) (by rfl) hr12 ?_
      have HA12 := Lib.hid hA12
      have HG12 := Lib.hid hg12
      clear hr12 hA12 hg12
      refine hK.out _ _ (by (try dsimp only); exact hHeld.trans (but_of_grown HG12.out)) (fun hHeld => ?_)
      clear hK K
      refine wpAnyH_done (by kernel_rfl) ?_ _
      go_wp2_with fail
      go_ret
      exact HA.out.wrote (bthen K8.out (below_drew (Below.refl _ _))) (.inl HG12.out) HA12.out _
    exact AllReadyH.nil
end Go.Proofs.Ytijanllppbambaa
