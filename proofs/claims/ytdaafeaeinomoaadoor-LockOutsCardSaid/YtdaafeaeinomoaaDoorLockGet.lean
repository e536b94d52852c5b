/- What lock.Get comes to: an out is read, whatever the error. -/
import Derived.Test.YtdaafeaeinomoaaDoorOwnWays
namespace Go.Proofs.YtdaafeaeinomoaaDoor
open Go.RowKit

theorem NewB.base {B B' : Nat} {a : Option Addr} (h : NewB B a) (hB : B' ≤ B) : NewB B' a := fun ad e => Nat.le_trans hB (h ad e)
/-- An out that was read. -/
def GotOut (w0 : World) (yb : Nat) (s : List UInt8 × Int) (r : Ending) (w : World) : Prop :=
  ∃ (a : Option Addr) (n c : Nat) (xs : List PWay), r = .returned (.agg #[.int .i64 (outR s).1.1, .slice a n c]) ∧ Ways w a n c xs ∧ (∀ x ∈ xs, KeyTag w x ∧ NewB w0.heap.size x.a) ∧ NewB w0.heap.size a ∧ xs.map PWay.strip = (outR s).1.2 ∧ EyeAt w yb (outR s).2.1 (outR s).2.2 ∧ But w0.heap.size yb w0 w
theorem OutSt.out {w0 w w' : World} {yb g2 g3 n c : Nat} {m : Int} {a : Option Addr} {xs : List PWay} {s : List UInt8 × Int} (h : OutSt w0 yb g2 g3 m a n c xs s w) (hy : yb < w0.heap.size) (h2 : w0.heap.size ≤ g2) (hs : But w.heap.size g2 w w') :
    Ways w' a n c xs ∧ (∀ x ∈ xs, KeyTag w' x ∧ NewB w0.heap.size x.a) ∧ NewB w0.heap.size a ∧ EyeAt w' yb s.1 s.2 ∧ But w0.heap.size yb w0 w' := by
  have hw : ∀ x ∈ xs, WayIn w' x ∧ KeyTag w' x := fun x hx => way_but (h.keys x hx).1.1 (h.keys x hx).1.2 hs (fun _ _ e => by rw [h.res] at e; simp at e)
  have ho : OwnW w' w0.heap.size (.slice a n c) xs := h.own.but hs (fun _ _ e => by rw [h.res] at e; simp at e)
  refine ⟨ho.ways (fun x hx => (hw x hx).1), fun x hx => ⟨(hw x hx).2, (h.keys x hx).2⟩, fun ad e => ?_, h.eye.typed hs h.res (by decide) (by omega), h.but.trans ⟨hs.os, hs.tape, hs.output, hs.size, fun k hk hkp => hs.block k (Nat.lt_of_lt_of_le hk h.but.size) (by omega)⟩⟩
  obtain ⟨_, _, e2, h9⟩ := ho.shape
  cases e2
  exact h9 _ e
theorem two_one (u v : Value) (hu : u.oneCell' = true) (hv : v.oneCell' = true) : (#[u, v] : Array Value).all (·.oneCell') = true :=
  all_oneCell_toArray (cs := [u, v]) (fun x hx => by simp at hx; rcases hx with rfl | rfl <;> assumption)
theorem size_out : (Tryd.prog.info? 38).map (·.size) = some 2 := by kernel_rfl
set_option linter.unusedSimpArgs false in
set_option maxRecDepth 100000 in
set_option maxHeartbeats 12800000 in
theorem lockGet_st {w : World} {yb : Nat} {s : List UInt8 × Int} (h : EyeAt w yb s.1 s.2) (hm : s.1.length ≤ 140737488355328) :
    Calls Tryd.prog 25 #[.pointer (some ⟨yb, 0, none⟩)] w (GotOut w yb s) := by
  have hyb := h.lt
  obtain ⟨s1, s2, s3, s4, m, n, qs, e1, e2, e3, e4, eR⟩ := outR_parts s
  have r1 := upR_range s (m := 1125899906842624) (by omega)
  have r2 := upR_range s1 (m := 16) (by omega)
  rw [e1] at r1
  rw [e2] at r2
  dsimp only at r1 r2
  obtain ⟨N, rfl⟩ : ∃ N : Nat, n = N := ⟨n.toNat, by omega⟩
  rw [Int.toNat_natCast] at e3
  have l2 : s2.1.length ≤ 140737488355328 := by
    have h1 := upR_le s 1125899906842624
    have h2 := upR_le s1 16
    rw [e1] at h1
    rw [e2] at h2
    exact Nat.le_trans h2 (Nat.le_trans h1 hm)
  have HU1 := Lib.hid (fun (W : World) (hW : EyeAt W yb s.1 s.2) => by have h9 := upto_st 1125899906842624 hW; rw [e1] at h9; exact h9)
  have HU2 := Lib.hid (fun (W : World) (hW : EyeAt W yb s1.1 s1.2) => by have h9 := upto_st 16 hW; rw [e2] at h9; exact h9)
  have HE3 := Lib.hid e3
  have HE4 := Lib.hid e4
  have HER := Lib.hid eR
  have H := Lib.hid h
  have HL2 := Lib.hid l2
  have hN : N ≤ 16 := by omega
  have hN63 : (N : Int) ≤ 16 := by omega
  have FM : Hid (Fits m) := Lib.hid ⟨by omega, by omega⟩
  clear e1 e2 e3 e4 eR h hm l2 r1 r2
  go_enter Tryd.func25, Tryd.ntmps25
  go_upto_region 1 with (fail)
  have b1 : Below w.heap.size w (w.alloc (.cells #[.int .i64 0, .slice none 0 0] 38)) := (Below.refl _ _).alloc (Nat.le_refl _) _
  have h1 := heap_alloc_new w (.cells #[.int .i64 0, .slice none 0 0] 38)
  have hsz : (w.alloc (.cells #[.int .i64 0, .slice none 0 0] 38)).heap.size = w.heap.size + 1 := by simp
  revert b1 h1 hsz
  generalize (w.alloc (.cells #[.int .i64 0, .slice none 0 0] 38)) = w1
  intro b1 h1 hsz
  have HB1 := Lib.hid b1
  have H1 := Lib.hid h1
  have HY1 := Lib.hid (H.out.below b1)
  have HSZ := Lib.hid hsz
  clear b1 h1 H hsz
  obtain ⟨g, hg⟩ : ∃ g, g = w.heap.size := ⟨_, rfl⟩
  rw [← hg] at H1 HSZ ⊢
  have HG := Lib.hid hg
  clear hg
  go_wp2_with fail
  refine (HU1.out _ HY1.out).mono ?_
  rintro e w2 ⟨rfl, he2, hb2⟩
  have HB2 := Lib.hid hb2
  have HE2 := Lib.hid he2
  clear he2 hb2 HU1
  go_upto_region 2 with (fail)
  have b3 : Below w2.heap.size w2 (w2.alloc (.cells #[.int .i64 m, .slice none 0 0] 38)) := (Below.refl _ _).alloc (Nat.le_refl _) _
  have h3 := heap_alloc_new w2 (.cells #[.int .i64 m, .slice none 0 0] 38)
  revert b3 h3
  generalize (w2.alloc (.cells #[.int .i64 m, .slice none 0 0] 38)) = w3
  obtain ⟨q, hq⟩ : ∃ q, q = w2.heap.size := ⟨_, rfl⟩
  rw [← hq]
  intro b3 h3
  rw [hq] at b3
  have hg2 : w.heap.size ≤ g := by have := HG.out; omega
  have hsz2 : w1.heap.size ≤ w2.heap.size := HB2.out.size
  have hne : g ≠ q := by have := HG.out; have := HSZ.out; omega
  have hg3 : w.heap.size ≤ q := by have := HG.out; have := HSZ.out; omega
  have OS := Lib.hid (show OutSt w yb g q m none 0 0 [] s1 w3 from by
    have r2 := HB2.out.heap H1.out (lt_of_block H1.out) (by omega)
    refine ⟨OwnW.nil _ _, (fun x hx => by cases hx), (b3.block _ (lt_of_block r2)).trans r2, h3, HE2.out.below b3, ?_⟩
    exact (But.of HB1.out).trans ((HB2.out.mono (by have := HG.out; have := HSZ.out; omega)).trans (But.of (b3.mono (by have := HG.out; have := HSZ.out; omega)))))
  clear b3 h3 hq HB1 HB2 HE2 HY1 H1 HSZ HG hsz2
  go_wp2_with fail
  refine (HU2.out _ OS.out.eye).mono ?_
  rintro e w4 ⟨rfl, he, hb⟩
  have OS := Lib.hid (OS.out.read (s' := s2) hyb hg2 hg3 he hb)
  clear he hb HU2
  go_wp2_with fail
  go_loopw [9] (fun i wr => ∃ (k : Nat) (a : Option Addr) (cc : Nat) (xs : List PWay), k ≤ N ∧ i = .int .i64 k ∧ xs.map PWay.strip = (waysR k s2).1 ∧ OutSt w yb g q m a k cc xs (waysR k s2).2 wr) (fun i _ => N - (intOf i).toNat)
  case atStart => exact ⟨0, none, 0, [], Nat.zero_le _, rfl, rfl, OS.out⟩
  case round =>
    obtain ⟨k, a, cc, xs, hk, rfl, hmap, hOS⟩ := hrel
    have OS := Lib.hid hOS
    have HMAP := Lib.hid hmap
    clear hmap hOS
    by_cases hkn : k < N
    · have f1 : (k : Int) < (N : Int) := by omega
      have f0 : (0 : Int) ≤ (k : Int) := by omega
      have hkl : xs.length = k := by
        have h9 := congrArg List.length HMAP.out
        rw [List.length_map, waysR_len] at h9
        exact h9
      have HKL := Lib.hid hkl
      obtain ⟨st, hst⟩ : ∃ st, (waysR k s2).2 = st := ⟨_, rfl⟩
      rw [hst] at OS
      obtain ⟨y, st', hy⟩ : ∃ y st', wayR st = (y, st') := ⟨_, _, rfl⟩
      have HLE : Hid (st.1.length ≤ 140737488355328) := Lib.hid (by rw [← hst]; exact Nat.le_trans (waysR_le s2 k) HL2.out)
      have NX0 : Hid ((waysR (k + 1) s2).1 = (waysR k s2).1 ++ [y]) := Lib.hid (by rw [waysR, hst, hy])
      have NX1 : Hid ((waysR (k + 1) s2).2 = st') := Lib.hid (by rw [waysR, hst, hy])
      have HW := Lib.hid hy
      clear hkl hst hy
      go_upto_region 4 with (fail)
      refine wp_region_held_drew (S := fun _ => True) (by kernel_rfl) (True.intro) (fun hHeld => ?_)
      refine take_at (i := 0) (v := ?_) rfl rfl (by kernel_rfl) (by kernel_rfl) (by kernel_rfl) (fun _ _ _ h => h) (Or.inl ⟨by rfl, ?_⟩) (by assumption) ?_
      rotate_left
      · intro w0 hSw; (try dsimp only at hSw); first | (go_simp; done) | (go_simp; with_reducible rfl)
      simp only [List.setIfInBounds_toArray, List.set_cons_zero, List.set_cons_succ]
      refine take_at (i := 2) (v := ?_) rfl rfl (by kernel_rfl) (by kernel_rfl) (by kernel_rfl) (fun _ _ _ h => h) (Or.inl ⟨by rfl, ?_⟩) (by assumption) ?_
      rotate_left
      · intro w0 hSw; (try dsimp only at hSw); first | (go_simp; done) | (go_simp; with_reducible rfl)
      simp only [List.setIfInBounds_toArray, List.set_cons_zero, List.set_cons_succ]
      have OS := Lib.hid (OS.out.more (w' := wr.drew) (below_drew (Below.refl _ _)))
      refine wpAnyH_ready (rs := [1, 3]) (by kernel_rfl) (by simp) ?_
      refine AllReadyH.cons rfl (fun K hK => ?_) ?_
      · refine step_cell (d := 12) rfl (by rfl) 36 _ rfl q 1 rfl (.slice a k cc) (two_cell1 OS.out.var) (Tryd.isAgg36 _) ?_
        refine hK.out _ _ (by (try dsimp only); all_goals exact True.intro) (fun hHeld => ?_)
        clear hK K
        refine wpAnyH_ready (rs := [3]) (by kernel_rfl) (by simp) ?_
        refine AllReadyH.cons rfl (fun K hK => ?_) ?_
        · go_simp
          go_wp2_with ((go_at_call 44; (with_reducible refine (getWay_st OS.out.eye HLE.out).mono ?_); rintro e y3a ⟨x, rfl, hxw, hxt, hxn, hxs, he, hb⟩; rw [HW.out] at he hxs; have HXB := Lib.hid (hxn.base OS.out.but.size); have OS := Lib.hid (OS.out.read (s' := st') hyb hg2 hg3 he hb); have HXW := Lib.hid hxw; have HXT := Lib.hid hxt; have HXS := Lib.hid hxs; clear he hb hxw hxt hxn hxs))
          refine hK.out _ _ (by (try dsimp only); all_goals exact True.intro) (fun hHeld => ?_)
          clear hK K
          refine wpAnyH_ready (rs := [4]) (by kernel_rfl) (by simp) ?_
          refine AllReadyH.cons rfl (fun K hK => ?_) ?_
          · refine step_way_gen (d := 15) rfl (by rfl) rfl (by rfl) HXW.out.sum ?_
            intro p y4a hlit hbl
            have OS := Lib.hid (OS.out.more hbl)
            have LIT := Lib.hid hlit
            have HXP := Lib.hid (way_below HXW.out HXT.out hbl)
            clear hlit hbl
            refine hK.out _ _ (by (try dsimp only); all_goals exact True.intro) (fun hHeld => ?_)
            clear hK K
            refine wpAnyH_ready (rs := [5]) (by kernel_rfl) (by simp) ?_
            refine AllReadyH.cons rfl (fun K hK => ?_) ?_
            · refine step_append_w (d := 16) rfl (by rfl) _ _ rfl rfl w.heap.size (.slice a k cc) xs (by rfl) OS.out.own p x (by rfl) LIT.out HXP.out.1.sum (by rw [HKL.out]; omega) OS.out.but.size ?_
              intro a' c' y5 ho hgr
              rw [HKL.out] at ho ⊢
              obtain ⟨hv, hos⟩ := OS.out.grow hyb hg3 hne HXP.out.1 HXP.out.2 HXB.out ho hgr
              have HV := Lib.hid hv
              have OS := Lib.hid hos
              clear hv hos ho hgr
              refine hK.out _ _ (by (try dsimp only); all_goals exact True.intro) (fun hHeld => ?_)
              clear hK K
              refine take_at (i := 6) (v := ?_) rfl rfl (by kernel_rfl) (by kernel_rfl) (by kernel_rfl) (fun _ _ _ h => h) (Or.inl ⟨by rfl, ?_⟩) (by assumption) ?_
              rotate_left
              · intro w0 hSw; (try dsimp only at hSw); first | (go_simp; done) | (go_simp; with_reducible rfl)
              simp only [List.setIfInBounds_toArray, List.set_cons_zero, List.set_cons_succ]
              refine wpAnyH_ready (rs := [7]) (by kernel_rfl) (by simp) ?_
              refine AllReadyH.cons rfl (fun K hK => ?_) ?_
              · refine step_store_cell (by rfl) 36 _ _ rfl q 1 (by rfl) (.slice a' (k + 1) c') (by rfl) (.slice a k cc) (two_cell1 HV.out) (two_free1 HV.out) (by kernel_rfl) rfl ?_
                refine hK.out _ _ (by (try dsimp only); all_goals exact True.intro) (fun hHeld => ?_)
                clear hK K
                refine wpAnyH_done (by kernel_rfl) ?_ _
                clear hHeld HV
                revert OS
                generalize World.setCell y5 _ _ = y7
                intro OS
                have NX : Hid ((xs ++ [x]).map PWay.strip = (waysR (k + 1) s2).1) := Lib.hid (by rw [NX0.out, List.map_append, HMAP.out, List.map_singleton, HXS.out])
                go_wp2_with fail
                go_roundw
                case rel => exact ⟨k + 1, a', c', xs ++ [x], by omega, by go_num, NX.out, by rw [NX1.out]; exact OS.out⟩
                case measure => simp [intOf]; omega
              exact AllReadyH.nil
            exact AllReadyH.nil
          exact AllReadyH.nil
        exact AllReadyH.nil
      refine AllReadyH.cons rfl (fun K hK => ?_) ?_
      · go_simp
        go_wp2_with ((go_at_call 44; (with_reducible refine (getWay_st OS.out.eye HLE.out).mono ?_); rintro e y3b ⟨x, rfl, hxw, hxt, hxn, hxs, he, hb⟩; rw [HW.out] at he hxs; have HXB := Lib.hid (hxn.base OS.out.but.size); have OS := Lib.hid (OS.out.read (s' := st') hyb hg2 hg3 he hb); have HXW := Lib.hid hxw; have HXT := Lib.hid hxt; have HXS := Lib.hid hxs; clear he hb hxw hxt hxn hxs))
        refine hK.out _ _ (by (try dsimp only); all_goals exact True.intro) (fun hHeld => ?_)
        clear hK K
        refine wpAnyH_ready (rs := [1, 4]) (by kernel_rfl) (by simp) ?_
        refine AllReadyH.cons rfl (fun K hK => ?_) ?_
        · refine step_cell (d := 12) rfl (by rfl) 36 _ rfl q 1 rfl (.slice a k cc) (two_cell1 OS.out.var) (Tryd.isAgg36 _) ?_
          refine hK.out _ _ (by (try dsimp only); all_goals exact True.intro) (fun hHeld => ?_)
          clear hK K
          refine wpAnyH_ready (rs := [4]) (by kernel_rfl) (by simp) ?_
          refine AllReadyH.cons rfl (fun K hK => ?_) ?_
          · refine step_way_gen (d := 15) rfl (by rfl) rfl (by rfl) HXW.out.sum ?_
            intro p y4a hlit hbl
            have OS := Lib.hid (OS.out.more hbl)
            have LIT := Lib.hid hlit
            have HXP := Lib.hid (way_below HXW.out HXT.out hbl)
            clear hlit hbl
            refine hK.out _ _ (by (try dsimp only); all_goals exact True.intro) (fun hHeld => ?_)
            clear hK K
            refine wpAnyH_ready (rs := [5]) (by kernel_rfl) (by simp) ?_
            refine AllReadyH.cons rfl (fun K hK => ?_) ?_
            · refine step_append_w (d := 16) rfl (by rfl) _ _ rfl rfl w.heap.size (.slice a k cc) xs (by rfl) OS.out.own p x (by rfl) LIT.out HXP.out.1.sum (by rw [HKL.out]; omega) OS.out.but.size ?_
              intro a' c' y5 ho hgr
              rw [HKL.out] at ho ⊢
              obtain ⟨hv, hos⟩ := OS.out.grow hyb hg3 hne HXP.out.1 HXP.out.2 HXB.out ho hgr
              have HV := Lib.hid hv
              have OS := Lib.hid hos
              clear hv hos ho hgr
              refine hK.out _ _ (by (try dsimp only); all_goals exact True.intro) (fun hHeld => ?_)
              clear hK K
              refine take_at (i := 6) (v := ?_) rfl rfl (by kernel_rfl) (by kernel_rfl) (by kernel_rfl) (fun _ _ _ h => h) (Or.inl ⟨by rfl, ?_⟩) (by assumption) ?_
              rotate_left
              · intro w0 hSw; (try dsimp only at hSw); first | (go_simp; done) | (go_simp; with_reducible rfl)
              simp only [List.setIfInBounds_toArray, List.set_cons_zero, List.set_cons_succ]
              refine wpAnyH_ready (rs := [7]) (by kernel_rfl) (by simp) ?_
              refine AllReadyH.cons rfl (fun K hK => ?_) ?_
              · refine step_store_cell (by rfl) 36 _ _ rfl q 1 (by rfl) (.slice a' (k + 1) c') (by rfl) (.slice a k cc) (two_cell1 HV.out) (two_free1 HV.out) (by kernel_rfl) rfl ?_
                refine hK.out _ _ (by (try dsimp only); all_goals exact True.intro) (fun hHeld => ?_)
                clear hK K
                refine wpAnyH_done (by kernel_rfl) ?_ _
                clear hHeld HV
                revert OS
                generalize World.setCell y5 _ _ = y7
                intro OS
                have NX : Hid ((xs ++ [x]).map PWay.strip = (waysR (k + 1) s2).1) := Lib.hid (by rw [NX0.out, List.map_append, HMAP.out, List.map_singleton, HXS.out])
                go_wp2_with fail
                go_roundw
                case rel => exact ⟨k + 1, a', c', xs ++ [x], by omega, by go_num, NX.out, by rw [NX1.out]; exact OS.out⟩
                case measure => simp [intOf]; omega
              exact AllReadyH.nil
            exact AllReadyH.nil
          exact AllReadyH.nil
        refine AllReadyH.cons rfl (fun K hK => ?_) ?_
        · refine step_way_gen (d := 15) rfl (by rfl) rfl (by rfl) HXW.out.sum ?_
          intro p y4b hlit hbl
          have OS := Lib.hid (OS.out.more hbl)
          have LIT := Lib.hid hlit
          have HXP := Lib.hid (way_below HXW.out HXT.out hbl)
          clear hlit hbl
          refine hK.out _ _ (by (try dsimp only); all_goals exact True.intro) (fun hHeld => ?_)
          clear hK K
          refine wpAnyH_ready (rs := [1]) (by kernel_rfl) (by simp) ?_
          refine AllReadyH.cons rfl (fun K hK => ?_) ?_
          · refine step_cell (d := 12) rfl (by rfl) 36 _ rfl q 1 rfl (.slice a k cc) (two_cell1 OS.out.var) (Tryd.isAgg36 _) ?_
            refine hK.out _ _ (by (try dsimp only); all_goals exact True.intro) (fun hHeld => ?_)
            clear hK K
            refine wpAnyH_ready (rs := [5]) (by kernel_rfl) (by simp) ?_
            refine AllReadyH.cons rfl (fun K hK => ?_) ?_
            · refine step_append_w (d := 16) rfl (by rfl) _ _ rfl rfl w.heap.size (.slice a k cc) xs (by rfl) OS.out.own p x (by rfl) LIT.out HXP.out.1.sum (by rw [HKL.out]; omega) OS.out.but.size ?_
              intro a' c' y5 ho hgr
              rw [HKL.out] at ho ⊢
              obtain ⟨hv, hos⟩ := OS.out.grow hyb hg3 hne HXP.out.1 HXP.out.2 HXB.out ho hgr
              have HV := Lib.hid hv
              have OS := Lib.hid hos
              clear hv hos ho hgr
              refine hK.out _ _ (by (try dsimp only); all_goals exact True.intro) (fun hHeld => ?_)
              clear hK K
              refine take_at (i := 6) (v := ?_) rfl rfl (by kernel_rfl) (by kernel_rfl) (by kernel_rfl) (fun _ _ _ h => h) (Or.inl ⟨by rfl, ?_⟩) (by assumption) ?_
              rotate_left
              · intro w0 hSw; (try dsimp only at hSw); first | (go_simp; done) | (go_simp; with_reducible rfl)
              simp only [List.setIfInBounds_toArray, List.set_cons_zero, List.set_cons_succ]
              refine wpAnyH_ready (rs := [7]) (by kernel_rfl) (by simp) ?_
              refine AllReadyH.cons rfl (fun K hK => ?_) ?_
              · refine step_store_cell (by rfl) 36 _ _ rfl q 1 (by rfl) (.slice a' (k + 1) c') (by rfl) (.slice a k cc) (two_cell1 HV.out) (two_free1 HV.out) (by kernel_rfl) rfl ?_
                refine hK.out _ _ (by (try dsimp only); all_goals exact True.intro) (fun hHeld => ?_)
                clear hK K
                refine wpAnyH_done (by kernel_rfl) ?_ _
                clear hHeld HV
                revert OS
                generalize World.setCell y5 _ _ = y7
                intro OS
                have NX : Hid ((xs ++ [x]).map PWay.strip = (waysR (k + 1) s2).1) := Lib.hid (by rw [NX0.out, List.map_append, HMAP.out, List.map_singleton, HXS.out])
                go_wp2_with fail
                go_roundw
                case rel => exact ⟨k + 1, a', c', xs ++ [x], by omega, by go_num, NX.out, by rw [NX1.out]; exact OS.out⟩
                case measure => simp [intOf]; omega
              exact AllReadyH.nil
            exact AllReadyH.nil
          exact AllReadyH.nil
        exact AllReadyH.nil
      exact AllReadyH.nil
    · obtain rfl : k = N := by omega
      have f1 : ¬ ((k : Int) < (k : Int)) := by omega
      rw [HE3.out] at OS HMAP
      have hn63 : (k : Int) ≤ 16 := by omega
      have HWS := Lib.hid (OS.out.own.ways (fun x hx => (OS.out.keys x hx).1.1))
      have hok : outOk m xs = outOk m qs := by
        have h9 : xs.map PWay.strip = qs := HMAP.out
        rw [← h9, outOk_strip]
      have RV := Lib.hid (range_of (cs := [.int .i64 m, .slice a k cc]) OS.out.var)
      have HR := Lib.hid (lockRightOut_any (m := m) HWS.out)
      rw [hok] at HR
      clear hok
      go_wp2_with (first | (refine wpList_load_mid rfl 38 _ rfl q 0 rfl [.int .i64 m, .slice a k cc] _ RV.out Tryd.underlying38 rfl size_out ?_) | fail)
      refine HR.out.mono ?_
      rintro e w5 ⟨rfl, hb5⟩
      have OS := Lib.hid (OS.out.more hb5)
      clear hb5 HR HWS RV
      have HMP : Hid (xs.map PWay.strip = qs) := Lib.hid HMAP.out
      obtain ⟨ok, hok⟩ : ∃ ok, outOk m qs = ok := ⟨_, rfl⟩
      rw [hok] at HE4 ⊢
      clear hok HMAP HE3 HL2
      have HS4 := Lib.hid size_out
      cases ok
      · have h4 : failR s3 4 = s4 := HE4.out.symm
        have HF := Lib.hid (fun (W : World) (hW : EyeAt W yb s3.1 s3.2) => by have h9 := fail_st 4 hW; rw [h4] at h9; exact h9)
        clear h4 HE4
        go_wp2_with fail
        refine (HF.out _ OS.out.eye).mono ?_
        rintro e w6 ⟨rfl, he, hb⟩
        have OS := Lib.hid (OS.out.read (s' := s4) hyb hg2 hg3 he hb)
        clear he hb HF
        go_wp2_with fail
        refine (err_at OS.out.eye).mono ?_
        rintro e y6 ⟨rfl, rfl⟩
        obtain ⟨ec, hec⟩ : ∃ ec, ec = s4.2 := ⟨_, rfl⟩
        rw [← hec]
        by_cases h0 : ec = 0
        · have hb : (ec != 0) = false := by simp [h0]
          have HR : Hid (outR s = ((m, qs), s4)) := Lib.hid (by rw [HER.out, if_pos (by rw [← hec]; exact h0)])
          have RV := Lib.hid (range_of (cs := [.int .i64 m, .slice a k cc]) OS.out.var)
          clear h0 hec HER
          go_wp2_with (first | (refine wpList_load_mid rfl 38 _ rfl q 0 rfl [.int .i64 m, .slice a k cc] _ RV.out Tryd.underlying38 rfl HS4.out ?_) | (refine wpList_store_row rfl 38 _ _ rfl g #[.int .i64 m, .slice a k cc] rfl rfl 38 #[.int .i64 0, .slice none 0 0] OS.out.res HS4.out rfl (two_one _ _ rfl rfl) ?_) | fail)
          refine bodyPost_ret (results_cell_row rfl _ _ g 38 #[.int .i64 m, .slice a k cc] (0, 0) _ rfl (setRow_heap _ g _ _ 38 _ OS.out.res) Tryd.underlying38 rfl HS4.out) rfl ?_
          obtain ⟨q1, q2, q3, q4, q5⟩ := OS.out.out hyb hg2 (but_setRow _ g #[.int .i64 m, .slice a k cc])
          refine ⟨a, k, cc, xs, ?_, q1, q2, q3, ?_, ?_, q5⟩
          · rw [HR.out]
          · rw [HR.out]
            exact HMP.out
          · rw [HR.out]
            exact q4
        · have hb : (ec != 0) = true := by simp [h0]
          have HR : Hid (outR s = ((0, []), s4)) := Lib.hid (by rw [HER.out, if_neg (by rw [← hec]; exact h0)])
          clear h0 hec HER
          go_wp2_with (first | (refine wpList_store_row rfl 38 _ _ rfl g #[.int .i64 0, .slice none 0 0] rfl rfl 38 #[.int .i64 0, .slice none 0 0] OS.out.res HS4.out rfl (two_one _ _ rfl rfl) ?_) | fail)
          refine bodyPost_ret (results_cell_row rfl _ _ g 38 #[.int .i64 0, .slice none 0 0] (0, 0) _ rfl (setRow_heap _ g _ _ 38 _ OS.out.res) Tryd.underlying38 rfl HS4.out) rfl ?_
          obtain ⟨q1, q2, q3, q4, q5⟩ := OS.out.out hyb hg2 (but_setRow _ g #[.int .i64 0, .slice none 0 0])
          refine ⟨none, 0, 0, [], ?_, Ways.nil _, (fun x hx => by cases hx), (fun ad e => by cases e), ?_, ?_, q5⟩
          · rw [HR.out]
          · rw [HR.out]
            rfl
          · rw [HR.out]
            exact q4
      · have h4 : s3 = s4 := HE4.out.symm
        subst h4
        clear HE4
        go_wp2_with fail
        refine (err_at OS.out.eye).mono ?_
        rintro e y6 ⟨rfl, rfl⟩
        obtain ⟨ec, hec⟩ : ∃ ec, ec = s3.2 := ⟨_, rfl⟩
        rw [← hec]
        by_cases h0 : ec = 0
        · have hb : (ec != 0) = false := by simp [h0]
          have HR : Hid (outR s = ((m, qs), s3)) := Lib.hid (by rw [HER.out, if_pos (by rw [← hec]; exact h0)])
          have RV := Lib.hid (range_of (cs := [.int .i64 m, .slice a k cc]) OS.out.var)
          clear h0 hec HER
          go_wp2_with (first | (refine wpList_load_mid rfl 38 _ rfl q 0 rfl [.int .i64 m, .slice a k cc] _ RV.out Tryd.underlying38 rfl HS4.out ?_) | (refine wpList_store_row rfl 38 _ _ rfl g #[.int .i64 m, .slice a k cc] rfl rfl 38 #[.int .i64 0, .slice none 0 0] OS.out.res HS4.out rfl (two_one _ _ rfl rfl) ?_) | fail)
          refine bodyPost_ret (results_cell_row rfl _ _ g 38 #[.int .i64 m, .slice a k cc] (0, 0) _ rfl (setRow_heap _ g _ _ 38 _ OS.out.res) Tryd.underlying38 rfl HS4.out) rfl ?_
          obtain ⟨q1, q2, q3, q4, q5⟩ := OS.out.out hyb hg2 (but_setRow _ g #[.int .i64 m, .slice a k cc])
          refine ⟨a, k, cc, xs, ?_, q1, q2, q3, ?_, ?_, q5⟩
          · rw [HR.out]
          · rw [HR.out]
            exact HMP.out
          · rw [HR.out]
            exact q4
        · have hb : (ec != 0) = true := by simp [h0]
          have HR : Hid (outR s = ((0, []), s3)) := Lib.hid (by rw [HER.out, if_neg (by rw [← hec]; exact h0)])
          clear h0 hec HER
          go_wp2_with (first | (refine wpList_store_row rfl 38 _ _ rfl g #[.int .i64 0, .slice none 0 0] rfl rfl 38 #[.int .i64 0, .slice none 0 0] OS.out.res HS4.out rfl (two_one _ _ rfl rfl) ?_) | fail)
          refine bodyPost_ret (results_cell_row rfl _ _ g 38 #[.int .i64 0, .slice none 0 0] (0, 0) _ rfl (setRow_heap _ g _ _ 38 _ OS.out.res) Tryd.underlying38 rfl HS4.out) rfl ?_
          obtain ⟨q1, q2, q3, q4, q5⟩ := OS.out.out hyb hg2 (but_setRow _ g #[.int .i64 0, .slice none 0 0])
          refine ⟨none, 0, 0, [], ?_, Ways.nil _, (fun x hx => by cases hx), (fun ad e => by cases e), ?_, ?_, q5⟩
          · rw [HR.out]
          · rw [HR.out]
            rfl
          · rw [HR.out]
            exact q4
end Go.Proofs.YtdaafeaeinomoaaDoor
