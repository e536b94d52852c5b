/- What Open comes to. -/
import Derived.Test.YtjfkhclcjggoeaaDoorVeilClose
namespace Go.Proofs.YtjfkhclcjggoeaaDoor
open Go.RowKit

set_option maxRecDepth 100000 in
theorem run_eq16 (s t : List UInt8) (hs : s.length = 16) (ht : t.length = 16) (W : World) : (Op.equalIn 10000 45 (.agg (cellsOf s).toArray) (.agg (cellsOf t).toArray)).run Tryd.prog W = .ok (decide (s = t)) W := by
  obtain ⟨i0, hi, _⟩ := info_parts Tryd.info5
  have h := run_equalIn_array (P := Tryd.prog) W 9999 (cellsOf s).toArray (cellsOf t).toArray Tryd.underlying45 hi
  rw [Tryd.cells5] at h
  rw [h, run_eqItems_bytes 9998 s t W _ (fun i hi => by rw [List.mem_range] at hi; omega)]
  congr 1
  rw [decide_eq_decide]
  constructor
  · intro h
    exact bytes_eq s t (by omega) (fun i hi => h i (by rw [List.mem_range]; omega))
  · rintro rfl i _
    rfl
theorem no_guard16 : Tryd.prog.eqGuardType Tryd.prog.depth 45 = false := by kernel_rfl
theorem yields_neq16 {ops : Array Oper} {S : World → Prop} {op : Oper} {a : Act} {x y : Operand} {rt : TypeId} {s t : List UInt8} (hw : Region.wanted op (yielded ops a.tmps) = true) (ho : op.op = .binOp .neq 45 x y rt) (hx : a.eval x = .agg (cellsOf s).toArray) (hy : a.eval y = .agg (cellsOf t).toArray) (hs : s.length = 16) (ht : t.length = 16) (b : Bool) (hb : (!decide (s = t)) = b) :
    YieldsIf Tryd.prog ops S op (.bool b) a :=
  .inl ⟨hw, fun w _ => by
    have h : (binOp .neq 45 (.agg (cellsOf s).toArray) (.agg (cellsOf t).toArray)).run Tryd.prog w = .ok (.bool (!decide (s = t))) w := by
      rw [run_neq_struct, run_eq16 s t hs ht]
      rfl
    rw [hb] at h
    have hg : (eqGuard .neq 45 x y (.agg (cellsOf s).toArray) (.agg (cellsOf t).toArray)).run Tryd.prog w = .ok () w := run_eqGuard_agg w .neq 45 x y _ _ no_guard16
    unfold execOp
    simp only [ho, hx, hy, hg, Sem.run_bind, Sem.run_pure, Result.andThen_ok, h]⟩
/-- A cut of bytes, '[A:]', whatever the address. -/
theorem run_bcut_any {a : Option Addr} {n c A : Nat} (hA : A ≤ n) (W : World) : (Instr.sliceAt 24 (.slice a n c) (some (.int .i64 (A : Int))) none none).run Tryd.prog W = .ok (.slice (if c = A then a else a.map (·.add (A * 1))) (n - A) (c - A)) W := by
  have hu : Tryd.prog.underlying 24 = some (.slice (Tryd.prog.elem 24)) := by kernel_rfl
  have hs : (sizeOf (Tryd.prog.elem 24)).run Tryd.prog W = .ok 1 W := by kernel_rfl
  rw [run_sliceAt_slice W _ _ _ _ _ hu, run_slice_l W _ a n c hu .i64 (A : Int) (by omega) (by omega), hs]
  simp [Result.andThen, sliced]
theorem yields_bfrom_any {ops : Array Oper} {S : World → Prop} {op : Oper} {a : Act} {x lo : Operand} {ad : Option Addr} {n c A : Nat} (hw : Region.wanted op (yielded ops a.tmps) = true) (ho : op.op = .slice 24 x (some lo) none none) (hx : a.eval x = .slice ad n c) (hlo : a.eval lo = .int .i64 (A : Int)) (hA : A ≤ n) (v : Value) (hv : .slice (if c = A then ad else ad.map (·.add (A * 1))) (n - A) (c - A) = v) :
    YieldsIf Tryd.prog ops S op v a :=
  .inl ⟨hw, fun w _ => by
    have h := run_bcut_any (a := ad) (n := n) (c := c) hA w
    rw [hv] at h
    unfold execOp
    simp only [ho, hx, hlo, Option.map_some, Option.map_none, Sem.run_bind, h, Result.andThen_ok, Sem.run_pure]⟩
theorem Row.from {w : World} {a : Option Addr} {n c A : Nat} {l : List UInt8} (h : Row w a n c l) (hA : A ≤ n) : Row w (if c = A then a else a.map (·.add (A * 1))) (n - A) (c - A) (l.drop A) := by
  have hnc := h.2.1
  refine h.drop hA (fun e => ?_) (fun hlt b off e => ?_)
  · split at e
    · assumption
    · have : a = none := by cases a with
        | none => rfl
        | some x => cases e
      have := h.2.2.2.1 this
      omega
  · rw [if_neg (by omega), e, Nat.mul_one]
    simp [Addr.add]
theorem row_range {w : World} {b off n c k : Nat} {l : List UInt8} (h : Row w (some ⟨b, off, none⟩) n c l) (hk : k ≤ n) : w.rangeAt b off (cellsOf (l.take k)) := fun j v hv => by
  have hj : j < k := by
    have h1 := (List.getElem?_eq_some_iff.1 hv).1
    rw [cellsOf_len, List.length_take] at h1
    omega
  obtain ⟨b', off', e, _, hc⟩ := h.2.2.2.2 (by omega)
  cases e
  rw [hc j (by omega), ← hv, ← cellsOf_get (by rw [h.1]; omega)]
  simp [cellsOf, hj]
/-- What Open tells of a text that is long enough, and not too long. -/
def OpenIs (w : World) (s l : List UInt8) (n : Nat) (e : Ending) (w' : World) : Prop :=
  Below w.heap.size w w' ∧ ((markB s (coverB s (l.drop 16)) = l.take 16 ∧ ∃ a c, e = .returned (.tuple #[.slice a (n - 16) c, .int .i64 0]) ∧ Row w' a (n - 16) c (coverB s (l.drop 16))) ∨
    (markB s (coverB s (l.drop 16)) ≠ l.take 16 ∧ e = .returned (.tuple #[.slice none 0 0, .int .i64 4])))
set_option linter.unusedSimpArgs false in
set_option maxRecDepth 100000 in
set_option maxHeartbeats 6400000 in
theorem open_short {w : World} {a : Option Addr} {s : List UInt8} {n c : Nat} (hn : n < 16) :
    Calls Tryd.prog 10 #[.agg (cellsOf s).toArray, .slice a n c] w fun e w' => e = .returned (.tuple #[.slice none 0 0, .int .i64 2]) ∧ Below w.heap.size w w' := by
  have f1 : (n : Int) < 16 := by omega
  go_enter Tryd.func10, Tryd.ntmps10
  go_upto_region 1 with (fail)
  have b1 : Below w.heap.size w (w.alloc (.cells (cellsOf s).toArray 23)) := (Below.refl _ _).alloc (Nat.le_refl _) _
  have h1 := heap_alloc_new w (.cells (cellsOf s).toArray 23)
  revert b1 h1
  generalize (w.alloc (.cells (cellsOf s).toArray 23)) = w1
  obtain ⟨q, hq⟩ : ∃ q, q = w.heap.size := ⟨_, rfl⟩
  rw [← hq]
  intro b1 h1
  rw [hq] at b1
  have HB1 := Lib.hid b1
  clear b1 h1 hq
  go_wp2_with fail
  go_ret2
  exact ⟨rfl, HB1.out⟩
set_option linter.unusedSimpArgs false in
set_option maxRecDepth 100000 in
set_option maxHeartbeats 6400000 in
theorem open_long {w : World} {a : Option Addr} {s : List UInt8} {n c : Nat} (hn : 65552 < n) (hm : n ≤ 1000000) :
    Calls Tryd.prog 10 #[.agg (cellsOf s).toArray, .slice a n c] w fun e w' => e = .returned (.tuple #[.slice none 0 0, .int .i64 3]) ∧ Below w.heap.size w w' := by
  have f1 : ¬ (n : Int) < 16 := by omega
  have f2 : (65552 : Int) < (n : Int) := by omega
  go_enter Tryd.func10, Tryd.ntmps10
  go_upto_region 1 with (fail)
  have b1 : Below w.heap.size w (w.alloc (.cells (cellsOf s).toArray 23)) := (Below.refl _ _).alloc (Nat.le_refl _) _
  have h1 := heap_alloc_new w (.cells (cellsOf s).toArray 23)
  revert b1 h1
  generalize (w.alloc (.cells (cellsOf s).toArray 23)) = w1
  obtain ⟨q, hq⟩ : ∃ q, q = w.heap.size := ⟨_, rfl⟩
  rw [← hq]
  intro b1 h1
  rw [hq] at b1
  have HB1 := Lib.hid b1
  clear b1 h1 hq
  go_wp2_with fail
  go_ret2
  exact ⟨rfl, HB1.out⟩
set_option linter.unusedSimpArgs false in
set_option maxRecDepth 100000 in
set_option maxHeartbeats 6400000 in
theorem open_any {w : World} {a : Option Addr} {s l : List UInt8} {n c : Nat} (hs : s.length = 32) (hl : Row w a n c l) (hn16 : 16 ≤ n) (hn : n ≤ 65552) (hk : KsAt w) :
    Calls Tryd.prog 10 #[.agg (cellsOf s).toArray, .slice a n c] w fun e w' => OpenIs w s l n e w' := by
  have f1 : ¬ (n : Int) < 16 := by omega
  have f2 : ¬ (65552 : Int) < (n : Int) := by omega
  have hn0 : n - 16 ≤ 100000 := by omega
  obtain ⟨b, off, rfl, hlb, _⟩ := hl.2.2.2.2 (by omega)
  have SZSL : Hid ((Tryd.prog.info? 23).map (·.size) = some (cellsOf s).length) := Lib.hid (by rw [cellsOf_len, hs]; exact Tryd.size23)
  have HS := Lib.hid hs
  have HK := Lib.hid hk
  have HL := Lib.hid hl
  have hcn := hl.2.1
  have f3 : (16 : Int) ≤ (c : Int) := by omega
  have hcm : c ≤ 9223372036854775807 := by have h9 := hl.2.2.1; unfold maxLen at h9; omega
  clear hs hk hl
  go_enter Tryd.func10, Tryd.ntmps10
  go_upto_region 1 with (fail)
  have b1 : Below w.heap.size w (w.alloc (.cells (cellsOf s).toArray 23)) := (Below.refl _ _).alloc (Nat.le_refl _) _
  have h1 := heap_alloc_new w (.cells (cellsOf s).toArray 23)
  revert b1 h1
  generalize (w.alloc (.cells (cellsOf s).toArray 23)) = w1
  obtain ⟨q, hq⟩ : ∃ q, q = w.heap.size := ⟨_, rfl⟩
  rw [← hq]
  intro b1 h1
  rw [hq] at b1
  have HB1 := Lib.hid b1
  have HQ1 := Lib.hid (range_of h1)
  have hlq := lt_of_block h1
  have HK1 := Lib.hid (HK.out.below b1)
  have HL1 := Lib.hid (HL.out.below b1)
  have HD1 := Lib.hid (HL1.out.from hn16)
  have hlb1 : b < w1.heap.size := Nat.lt_of_lt_of_le hlb b1.size
  clear b1 h1 hq HK HL
  obtain ⟨a2, ha2⟩ : ∃ a2, (if c = 16 then some ⟨b, off, none⟩ else (some ⟨b, off, none⟩ : Option Addr).map (·.add (16 * 1))) = a2 := ⟨_, rfl⟩
  rw [ha2] at HD1
  have HA2 : Hid ((.slice (if c = 16 then some ⟨b, off, none⟩ else (some ⟨b, off, none⟩ : Option Addr).map (·.add (16 * 1))) (n - 16) (c - 16) : Value) = .slice a2 (n - 16) (c - 16)) := Lib.hid (by rw [ha2])
  clear ha2
  go_upto_region 5 with (fail)
  refine wp_region_held_drew (S := fun w' => Below w1.heap.size w1 w') (by kernel_rfl) (below_drew (Below.refl _ _)) (fun hHeld => ?_)
  refine take_at (i := 0) rfl rfl (by kernel_rfl) (by kernel_rfl) (by kernel_rfl) (fun _ _ _ h => h) (yieldsIf_load_mid (by rfl) _ _ rfl q 0 rfl (cellsOf s) _ (fun w0 hSw => rangeAt_below HQ1.out hlq hSw) Tryd.underlying23 rfl SZSL.out) (by assumption) ?_
  simp only [List.setIfInBounds_toArray, List.set_cons_zero, List.set_cons_succ]
  refine take_at (i := 1) (v := ?_) rfl rfl (by kernel_rfl) (by kernel_rfl) (by kernel_rfl) (fun _ _ _ h => h) (Or.inl ⟨by rfl, ?_⟩) (by assumption) ?_
  rotate_left
  · intro w0 hSw; (try dsimp only at hSw); first | (go_simp; done) | (go_simp; with_reducible rfl)
  simp only [List.setIfInBounds_toArray, List.set_cons_zero, List.set_cons_succ]
  refine take_at (i := 2) rfl rfl (by kernel_rfl) (by kernel_rfl) (by kernel_rfl) (fun _ _ _ h => h) (yields_bfrom_any (A := 16) (by rfl) rfl rfl rfl hn16 _ HA2.out) (by assumption) ?_
  simp only [List.setIfInBounds_toArray, List.set_cons_zero, List.set_cons_succ]
  refine wpAnyH_ready (rs := [3]) (by kernel_rfl) (by simp) ?_
  refine AllReadyH.cons rfl (fun K hK => ?_) ?_
  · have HC3 := Lib.hid (veilTurned_any HS.out (HD1.out.below hHeld) hn0 (HK1.out.below hHeld))
    go_simp
    go_wp2_with ((go_at_call 17; (with_reducible refine (HC3.out).mono ?_); rintro e y3 ⟨g, rfl, hgg, hhg, hb⟩; have HGG := Lib.hid hhg; have HXy3 := Lib.hid hb; clear hb hhg hgg))
    refine hK.out _ _ (by (try dsimp only); exact Below.trans hHeld (HXy3.out.mono (Below.size hHeld))) (fun hHeld => ?_)
    clear hK K
    refine take_at (i := 4) (v := ?_) rfl rfl (by kernel_rfl) (by kernel_rfl) (by kernel_rfl) (fun _ _ _ h => h) (Or.inl ⟨by rfl, ?_⟩) (by assumption) ?_
    rotate_left
    · intro w0 hSw; (try dsimp only at hSw); first | (go_simp; done) | (go_simp; with_reducible rfl)
    simp only [List.setIfInBounds_toArray, List.set_cons_zero, List.set_cons_succ]
    refine wpAnyH_done (by kernel_rfl) ?_ _
    have HB3 := Lib.hid (bthen HB1.out (show Below w1.heap.size w1 y3 from hHeld))
    have b13 : Below w1.heap.size w1 y3 := hHeld
    clear hHeld
    obtain ⟨t, ht⟩ : ∃ t, t = coverB s (l.drop 16) := ⟨_, rfl⟩
    have htl : t.length = n - 16 := by rw [ht, coverB_len, HD1.out.1]
    rw [← ht] at HGG
    obtain ⟨m, hm, hml, hmark⟩ : ∃ m, markB s t = m ∧ m.length = 16 ∧ ∀ W : World, Below y3.heap.size y3 W → Calls Tryd.prog 16 #[.agg (cellsOf s).toArray, .slice (some ⟨g, 0, none⟩) (n - 16) (n - 16)] W fun e w' => e = .returned (.agg (cellsOf m).toArray) ∧ Below W.heap.size W w' :=
      ⟨_, rfl, markB_len s t, fun W hW => mark_any HS.out ((row_block HGG.out htl (by omega)).below hW) hn0 ((HK1.out.below b13).below hW)⟩
    obtain ⟨h, hh⟩ : ∃ h, l.take 16 = h := ⟨_, rfl⟩
    have hhl : h.length = 16 := by rw [← hh, List.length_take, HL1.out.1]; omega
    have hrl := row_range (HL1.out.below b13) hn16
    rw [hh] at hrl
    obtain ⟨z, hz⟩ : ∃ z, decide (m = h) = z := ⟨_, rfl⟩
    have HL3 := Lib.hid hrl
    have hlb3 : b < y3.heap.size := Nat.lt_of_lt_of_le hlb1 b13.size
    have HQ3 := Lib.hid (rangeAt_below HQ1.out hlq b13)
    have hlq3 : q < y3.heap.size := Nat.lt_of_lt_of_le hlq b13.size
    have HR3 : Hid (Row y3 (some ⟨g, 0, none⟩) (n - 16) (n - 16) (coverB s (l.drop 16))) := Lib.hid (by rw [← ht]; exact row_block HGG.out htl (by omega))
    have SZH : Hid ((Tryd.prog.info? 45).map (·.size) = some (cellsOf h).length) := Lib.hid (by rw [cellsOf_len, hhl]; exact Tryd.size16)
    have HMM : Hid (markB s (coverB s (l.drop 16)) = m) := Lib.hid (by rw [← ht]; exact hm)
    have HHE := Lib.hid hh
    have HML := Lib.hid hml
    have HHL := Lib.hid hhl
    have HMK := Lib.hid hmark
    have HZ := Lib.hid hz
    have qa := @array16
    clear ht htl hm hml hmark hh hhl hrl hz b13 HGG HD1 HA2 HQ1 HK1 HL1
    go_upto_region 6 with (fail)
    refine wp_region_held_drew (S := fun w' => Below y3.heap.size y3 w') (by kernel_rfl) (below_drew (Below.refl _ _)) (fun hHeld => ?_)
    refine take_at (i := 0) rfl rfl (by kernel_rfl) (by kernel_rfl) (by kernel_rfl) (fun _ _ _ h => h) (yieldsIf_load_mid (by rfl) _ _ rfl q 0 rfl (cellsOf s) _ (fun w0 hSw => rangeAt_below HQ3.out hlq3 hSw) Tryd.underlying23 rfl SZSL.out) (by assumption) ?_
    simp only [List.setIfInBounds_toArray, List.set_cons_zero, List.set_cons_succ]
    refine take_at (i := 1) (v := ?_) rfl rfl (by kernel_rfl) (by kernel_rfl) (by kernel_rfl) (fun _ _ _ h => h) (Or.inl ⟨by rfl, ?_⟩) (by assumption) ?_
    rotate_left
    · intro w0 hSw; (try dsimp only at hSw); first | (go_simp; done) | (go_simp; with_reducible rfl)
    simp only [List.setIfInBounds_toArray, List.set_cons_zero, List.set_cons_succ]
    refine take_at (i := 3) (v := ?_) rfl rfl (by kernel_rfl) (by kernel_rfl) (by kernel_rfl) (fun _ _ _ h => h) (Or.inl ⟨by rfl, ?_⟩) (by assumption) ?_
    rotate_left
    · intro w0 hSw; (try dsimp only at hSw); first | (go_simp; done) | (go_simp; with_reducible rfl)
    simp only [List.setIfInBounds_toArray, List.set_cons_zero, List.set_cons_succ]
    refine take_at (i := 4) (v := ?_) rfl rfl (by kernel_rfl) (by kernel_rfl) (by kernel_rfl) (fun _ _ _ h => h) (Or.inl ⟨by rfl, ?_⟩) (by assumption) ?_
    rotate_left
    · intro w0 hSw; (try dsimp only at hSw); first | (go_simp; done) | (go_simp; with_reducible rfl)
    simp only [List.setIfInBounds_toArray, List.set_cons_zero, List.set_cons_succ]
    refine take_at (i := 5) (v := ?_) rfl rfl (by kernel_rfl) (by kernel_rfl) (by kernel_rfl) (fun _ _ _ h => h) (Or.inl ⟨by rfl, ?_⟩) (by assumption) ?_
    rotate_left
    · intro w0 hSw; (try dsimp only at hSw); first | (go_simp; done) | (go_simp; with_reducible rfl)
    simp only [List.setIfInBounds_toArray, List.set_cons_zero, List.set_cons_succ]
    refine take_at (i := 6) rfl rfl (by kernel_rfl) (by kernel_rfl) (by kernel_rfl) (fun _ _ _ h => h) (yieldsIf_load_mid (by rfl) _ _ rfl b off rfl (cellsOf h) _ (fun w0 hSw => rangeAt_below HL3.out hlb3 hSw) Tryd.underlying45 rfl SZH.out) (by assumption) ?_
    simp only [List.setIfInBounds_toArray, List.set_cons_zero, List.set_cons_succ]
    refine wpAnyH_ready (rs := [2]) (by kernel_rfl) (by simp) ?_
    refine AllReadyH.cons rfl (fun K hK => ?_) ?_
    · have HC2 := Lib.hid (HMK.out _ hHeld)
      go_simp
      go_wp2_with ((go_at_call 16; (with_reducible refine (HC2.out).mono ?_); rintro e y6 ⟨rfl, hb⟩; have HXy6 := Lib.hid hb; clear hb))
      refine hK.out _ _ (by (try dsimp only); exact Below.trans hHeld (HXy6.out.mono (Below.size hHeld))) (fun hHeld => ?_)
      clear hK K
      refine take_at (i := 7) rfl rfl (by kernel_rfl) (by kernel_rfl) (by kernel_rfl) (fun _ _ _ h => h) (yields_neq16 (by rfl) rfl rfl rfl HML.out HHL.out (!z) (by rw [HZ.out])) (by assumption) ?_
      simp only [List.setIfInBounds_toArray, List.set_cons_zero, List.set_cons_succ]
      refine wpAnyH_done (by kernel_rfl) ?_ _
      have HB6 := Lib.hid (bthen HB3.out (show Below y3.heap.size y3 y6 from hHeld))
      have HR6 := Lib.hid (HR3.out.below (show Below y3.heap.size y3 y6 from hHeld))
      clear hHeld
      cases z
      · go_wp2_with fail
        go_ret2
        exact ⟨HB6.out, .inr ⟨by rw [HMM.out, HHE.out]; exact of_decide_eq_false HZ.out, rfl⟩⟩
      · go_wp2_with fail
        go_ret2
        exact ⟨HB6.out, .inl ⟨by rw [HMM.out, HHE.out]; exact of_decide_eq_true HZ.out, _, _, rfl, HR6.out⟩⟩
    exact AllReadyH.nil
  exact AllReadyH.nil
end Go.Proofs.YtjfkhclcjggoeaaDoor
