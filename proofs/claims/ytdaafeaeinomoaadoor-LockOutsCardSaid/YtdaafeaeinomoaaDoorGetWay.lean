/- What getWay comes to: a way is read, whatever the error. -/
import Derived.Test.YtdaafeaeinomoaaDoorWayVar
import Derived.Test.YtdaafeaeinomoaaDoorCells
namespace Go.Proofs.YtdaafeaeinomoaaDoor
open Go.RowKit

/-- New: no older block holds it. -/
def NewB (B : Nat) (a : Option Addr) : Prop := ∀ ad, a = some ad → B ≤ ad.block
/-- Where a way's keys lie: in a block of numbers. -/
def KeyTag (w : World) (x : PWay) : Prop := 0 < x.n → ∃ b off cs fr, x.a = some ⟨b, off, none⟩ ∧ w.heap[b]? = some (.cells cs 3 fr)
/-- A way that was read. -/
def GotWay (w0 : World) (yb : Nat) (s : List UInt8 × Int) (r : Ending) (w : World) : Prop :=
  ∃ x : PWay, r = .returned (.agg x.cells.toArray) ∧ WayIn w x ∧ KeyTag w x ∧ NewB w0.heap.size x.a ∧ x.strip = (wayR s).1 ∧ EyeAt w yb (wayR s).2.1 (wayR s).2.2 ∧ But w0.heap.size yb w0 w
theorem OwnZ.tag {w : World} {B n c : Nat} {a : Option Addr} {l : List Int} (h : OwnZ w 3 B (.slice a n c) l) : (0 < n → ∃ b off cs fr, a = some ⟨b, off, none⟩ ∧ w.heap[b]? = some (.cells cs 3 fr)) ∧ ∀ ad, a = some ad → B ≤ ad.block := by
  rcases h.1.2 with ⟨hv, h1⟩ | ⟨g, cap, cur, hv, hB, hh, r⟩
  · cases hv
    exact ⟨fun h0 => absurd h0 (by omega), fun ad e => by cases e⟩
  · cases hv
    exact ⟨fun _ => ⟨g, 0, _, _, rfl, hh⟩, fun ad e => by cases e; exact hB⟩
theorem KeysSt.way {w0 w w' : World} {yb g2 g3 : Nat} {x : PWay} {s : List UInt8 × Int} (h : KeysSt w0 yb g2 g3 x s w) (hy : yb < w0.heap.size) (h2 : w0.heap.size ≤ g2) (hs : But w.heap.size g2 w w') (hl : x.h.length = 32) (ha : Fits x.after) (hw : Fits x.wait) :
    WayIn w' x ∧ KeyTag w' x ∧ NewB w0.heap.size x.a ∧ EyeAt w' yb s.1 s.2 ∧ But w0.heap.size yb w0 w' := by
  have ho : OwnZ w' 3 w0.heap.size (.slice x.a x.n x.c) x.ks := by
    refine ⟨⟨h.own.1.1, ?_⟩, h.own.2⟩
    rcases h.own.1.2 with h0 | ⟨g, cap, cur, hv', hB, hh, r⟩
    · exact .inl h0
    · have hg : g ≠ g2 := fun e => by
        have h9 := h.res
        unfold VarW at h9
        rw [← e, hh] at h9
        simp at h9
      exact .inr ⟨g, cap, cur, hv', hB, hs.heap hh (lt_of_block hh) hg, r⟩
  refine ⟨⟨ho.numbers, hl, ha, hw⟩, fun h0 => ?_, fun ad e => ?_, h.eye.typed hs h.res (by decide) (by omega), h.but.trans ⟨hs.os, hs.tape, hs.output, hs.size, fun k hk hkp => hs.block k (Nat.lt_of_lt_of_le hk h.but.size) (by omega)⟩⟩
  · exact ho.tag.1 h0
  · exact ho.tag.2 ad e
set_option linter.unusedSimpArgs false in
set_option maxRecDepth 100000 in
set_option maxHeartbeats 12800000 in
theorem getWay_st {w : World} {yb : Nat} {s : List UInt8 × Int} (h : EyeAt w yb s.1 s.2) (hm : s.1.length ≤ 140737488355328) :
    Calls Tryd.prog 44 #[.pointer (some ⟨yb, 0, none⟩)] w (GotWay w yb s) := by
  have hyb := h.lt
  obtain ⟨s1, s2, s3, s4, s5, n, z4, z5, ks0, hs, e1, e2, e3, e4, e5, eR⟩ := wayR_parts s
  have r1 := upR_range s (m := 16) (by omega)
  have r4 := upR_range s3 (m := 1073741824) (by omega)
  have r5 := upR_range s4 (m := 1073741824) (by omega)
  rw [e1] at r1
  rw [e4] at r4
  rw [e5] at r5
  dsimp only at r1 r4 r5
  obtain ⟨N, rfl⟩ : ∃ N : Nat, n = N := ⟨n.toNat, by omega⟩
  rw [Int.toNat_natCast] at e2
  have hlen := sumR_len s2
  have l2 : s2.1.length ≤ 140737488355328 := by
    have h1 := upR_le s 16
    have h2 := numsR_le 255 s1 N
    rw [e1] at h1
    rw [e2] at h2
    exact Nat.le_trans h2 (Nat.le_trans h1 hm)
  rw [e3] at hlen
  have HU1 := Lib.hid (fun (W : World) (hW : EyeAt W yb s.1 s.2) => by have h9 := upto_st 16 hW; rw [e1] at h9; exact h9)
  have HU4 := Lib.hid (fun (W : World) (hW : EyeAt W yb s3.1 s3.2) => by have h9 := upto_st 1073741824 hW; rw [e4] at h9; exact h9)
  have HU5 := Lib.hid (fun (W : World) (hW : EyeAt W yb s4.1 s4.2) => by have h9 := upto_st 1073741824 hW; rw [e5] at h9; exact h9)
  have HS2 := Lib.hid (fun (W : World) (hW : EyeAt W yb s2.1 s2.2) => by have h9 := sum_st W hW l2; rw [e3] at h9; exact h9)
  have HE2 := Lib.hid e2
  have HER := Lib.hid eR
  have H := Lib.hid h
  have HLEN := Lib.hid hlen
  have hN : N ≤ 16 := by omega
  have hN63 : (N : Int) ≤ 16 := by omega
  have F4 : Hid (Fits z4) := Lib.hid ⟨by omega, by omega⟩
  have F5 : Hid (Fits z5) := Lib.hid ⟨by omega, by omega⟩
  clear e1 e2 e3 e4 e5 eR h hm l2 hlen r1 r4 r5
  go_enter Tryd.func44, Tryd.ntmps44
  go_upto_region 2 with (fail)
  rw [← noWay_is]
  have b1 : Below w.heap.size w ((w.alloc (.cells noWay.cells.toArray 26)).alloc (.cells noWay.cells.toArray 26)) := ((Below.refl _ _).alloc (Nat.le_refl _) _).alloc (by simp) _
  have h2 : VarW ((w.alloc (.cells noWay.cells.toArray 26)).alloc (.cells noWay.cells.toArray 26)) w.heap.size noWay := by
    unfold VarW
    rw [heap_alloc_old _ _ (by simp)]
    exact heap_alloc_new _ _
  have h3 : VarW ((w.alloc (.cells noWay.cells.toArray 26)).alloc (.cells noWay.cells.toArray 26)) (w.heap.size + 1) noWay := heap_alloc_at _ _ _ (by simp)
  revert b1 h2 h3
  generalize ((w.alloc (.cells noWay.cells.toArray 26)).alloc (.cells noWay.cells.toArray 26)) = w1
  intro b1 h2 h3
  have KS := Lib.hid (show KeysSt w yb w.heap.size (w.heap.size + 1) noWay s w1 from ⟨OwnZ.nil _ _ _, h2, h3, H.out.below b1, But.of b1⟩)
  revert KS
  obtain ⟨g, hg⟩ : ∃ g, g = w.heap.size := ⟨_, rfl⟩
  rw [← hg]
  intro KS
  have hg2 : w.heap.size ≤ g := by omega
  have hg3 : w.heap.size ≤ g + 1 := by omega
  have hne : g ≠ g + 1 := by omega
  clear b1 h2 h3 H hg
  go_wp2_with fail
  refine (HU1.out _ KS.out.eye).mono ?_
  rintro e w2 ⟨rfl, he, hb⟩
  have KS := Lib.hid (KS.out.read (s' := s1) hyb hg2 hg3 he hb)
  clear he hb HU1
  go_wp2_with fail
  go_loopw [6] (fun i wr => ∃ (k : Nat) (a : Option Addr) (cc : Nat) (ks : List Int) (st : List UInt8 × Int), k ≤ N ∧ i = .int .i64 k ∧ numsR 255 k s1 = (ks, st) ∧ KeysSt w yb g (g + 1) ⟨a, k, cc, ks, zero32, 0, 0⟩ st wr) (fun i _ => N - (intOf i).toNat)
  case atStart => exact ⟨0, none, 0, [], s1, Nat.zero_le _, rfl, rfl, KS.out⟩
  case round =>
    obtain ⟨k, a, cc, ks, st, hk, rfl, hks, hKS⟩ := hrel
    have KS := Lib.hid hKS
    have HKS := Lib.hid hks
    clear hks hKS
    by_cases hkn : k < N
    · have f1 : (k : Int) < (N : Int) := by omega
      have f0 : (0 : Int) ≤ (k : Int) := by omega
      have hkl : ks.length = k := by
        have h9 := numsR_len 255 s1 k
        rw [HKS.out] at h9
        exact h9
      have HKL := Lib.hid hkl
      obtain ⟨z, st', hu⟩ : ∃ z st', upR st 255 = (z, st') := ⟨_, _, rfl⟩
      have hrz := upR_range st (m := 255) (by omega)
      rw [hu] at hrz
      dsimp only at hrz
      have HFZ : Hid (Fits z) := Lib.hid ⟨by omega, by omega⟩
      have NX : Hid (numsR 255 (k + 1) s1 = (ks ++ [z], st')) := Lib.hid (by rw [numsR, HKS.out, hu])
      have HU := Lib.hid (fun (W : World) (hW : EyeAt W yb st.1 st.2) => by have h9 := upto_st 255 hW; rw [hu] at h9; exact h9)
      clear hkl hrz hu HKS
      go_upto_region 4 with (fail)
      refine wp_region_held_drew (S := fun _ => True) (by kernel_rfl) (True.intro) (fun hHeld => ?_)
      refine take_at (i := 0) (v := ?_) rfl rfl (by kernel_rfl) (by kernel_rfl) (by kernel_rfl) (fun _ _ _ h => h) (Or.inl ⟨by rfl, ?_⟩) (by assumption) ?_
      rotate_left
      · intro w0 hSw; (try dsimp only at hSw); first | (go_simp; done) | (go_simp; with_reducible rfl)
      simp only [List.setIfInBounds_toArray, List.set_cons_zero, List.set_cons_succ]
      refine take_at (i := 2) (v := ?_) rfl rfl (by kernel_rfl) (by kernel_rfl) (by kernel_rfl) (fun _ _ _ h => h) (Or.inl ⟨by rfl, ?_⟩) (by assumption) ?_
      rotate_left
      · intro w0 hSw; (try dsimp only at hSw); first | (go_simp; done) | (go_simp; with_reducible rfl)
      simp only [List.setIfInBounds_toArray, List.set_cons_zero, List.set_cons_succ]
      have KS := Lib.hid (KS.out.more (w' := wr.drew) (below_drew (Below.refl _ _)))
      refine wpAnyH_ready (rs := [1, 3]) (by kernel_rfl) (by simp) ?_
      refine AllReadyH.cons rfl (fun K hK => ?_) ?_
      · refine step_cell (d := 9) rfl (by rfl) 22 _ rfl (g + 1) 0 rfl (.slice a k cc) (by rw [KS.out.var.cell 0]; rfl) (Tryd.isAgg22 _) ?_
        refine hK.out _ _ (by (try dsimp only); all_goals exact True.intro) (fun hHeld => ?_)
        clear hK K
        refine wpAnyH_ready (rs := [3]) (by kernel_rfl) (by simp) ?_
        refine AllReadyH.cons rfl (fun K hK => ?_) ?_
        · go_simp
          go_wp2_with ((go_at_call 43; (with_reducible refine (HU.out _ KS.out.eye).mono ?_); rintro e y3a ⟨rfl, he, hb⟩; have KS := Lib.hid (KS.out.read (s' := st') hyb hg2 hg3 he hb); clear he hb))
          refine hK.out _ _ (by (try dsimp only); all_goals exact True.intro) (fun hHeld => ?_)
          clear hK K
          refine wpAnyH_ready (rs := [4]) (by kernel_rfl) (by simp) ?_
          refine AllReadyH.cons rfl (fun K hK => ?_) ?_
          · refine step_one_gen (d := 12) (y := z) rfl (by rfl) rfl (by rfl) ?_
            intro p y4a hlit hbl
            have KS := Lib.hid (KS.out.more hbl)
            have LIT := Lib.hid (numbers_one hlit HFZ.out)
            clear hlit hbl
            refine hK.out _ _ (by (try dsimp only); all_goals exact True.intro) (fun hHeld => ?_)
            clear hK K
            refine wpAnyH_ready (rs := [5]) (by kernel_rfl) (by simp) ?_
            refine AllReadyH.cons rfl (fun K hK => ?_) ?_
            · refine step_append_z (d := 13) rfl (by rfl) _ _ rfl rfl w.heap.size (.slice a k cc) ks (by rfl) KS.out.own _ 1 1 [z] (by rfl) LIT.out (by rw [HKL.out]; omega) KS.out.but.size ?_
              intro a' c' y5 ho hgr
              rw [HKL.out] at ho ⊢
              obtain ⟨hv, hks⟩ := KS.out.grow hyb hg3 hne ho hgr
              have HV := Lib.hid hv
              have KS := Lib.hid hks
              clear hv hks ho hgr
              refine hK.out _ _ (by (try dsimp only); all_goals exact True.intro) (fun hHeld => ?_)
              clear hK K
              refine take_at (i := 6) (v := ?_) rfl rfl (by kernel_rfl) (by kernel_rfl) (by kernel_rfl) (fun _ _ _ h => h) (Or.inl ⟨by rfl, ?_⟩) (by assumption) ?_
              rotate_left
              · intro w0 hSw; (try dsimp only at hSw); first | (go_simp; done) | (go_simp; with_reducible rfl)
              simp only [List.setIfInBounds_toArray, List.set_cons_zero, List.set_cons_succ]
              refine wpAnyH_ready (rs := [7]) (by kernel_rfl) (by simp) ?_
              refine AllReadyH.cons rfl (fun K hK => ?_) ?_
              · refine step_store_cell (by rfl) 22 _ _ rfl (g + 1) 0 (by rfl) (.slice a' (k + 1) c') (by rfl) (.slice a k cc) (by rw [HV.out.cell 0]; rfl) (HV.out.free 0) (by kernel_rfl) rfl ?_
                refine hK.out _ _ (by (try dsimp only); all_goals exact True.intro) (fun hHeld => ?_)
                clear hK K
                refine wpAnyH_done (by kernel_rfl) ?_ _
                clear hHeld HV
                revert KS
                generalize World.setCell y5 _ _ = y7
                intro KS
                go_wp2_with fail
                go_roundw
                case rel => exact ⟨k + 1, a', c', ks ++ [z], st', by omega, by go_num, NX.out, KS.out⟩
                case measure => simp [intOf]; omega
              exact AllReadyH.nil
            exact AllReadyH.nil
          exact AllReadyH.nil
        exact AllReadyH.nil
      refine AllReadyH.cons rfl (fun K hK => ?_) ?_
      · go_simp
        go_wp2_with ((go_at_call 43; (with_reducible refine (HU.out _ KS.out.eye).mono ?_); rintro e y3b ⟨rfl, he, hb⟩; have KS := Lib.hid (KS.out.read (s' := st') hyb hg2 hg3 he hb); clear he hb))
        refine hK.out _ _ (by (try dsimp only); all_goals exact True.intro) (fun hHeld => ?_)
        clear hK K
        refine wpAnyH_ready (rs := [1, 4]) (by kernel_rfl) (by simp) ?_
        refine AllReadyH.cons rfl (fun K hK => ?_) ?_
        · refine step_cell (d := 9) rfl (by rfl) 22 _ rfl (g + 1) 0 rfl (.slice a k cc) (by rw [KS.out.var.cell 0]; rfl) (Tryd.isAgg22 _) ?_
          refine hK.out _ _ (by (try dsimp only); all_goals exact True.intro) (fun hHeld => ?_)
          clear hK K
          refine wpAnyH_ready (rs := [4]) (by kernel_rfl) (by simp) ?_
          refine AllReadyH.cons rfl (fun K hK => ?_) ?_
          · refine step_one_gen (d := 12) (y := z) rfl (by rfl) rfl (by rfl) ?_
            intro p y4a hlit hbl
            have KS := Lib.hid (KS.out.more hbl)
            have LIT := Lib.hid (numbers_one hlit HFZ.out)
            clear hlit hbl
            refine hK.out _ _ (by (try dsimp only); all_goals exact True.intro) (fun hHeld => ?_)
            clear hK K
            refine wpAnyH_ready (rs := [5]) (by kernel_rfl) (by simp) ?_
            refine AllReadyH.cons rfl (fun K hK => ?_) ?_
            · refine step_append_z (d := 13) rfl (by rfl) _ _ rfl rfl w.heap.size (.slice a k cc) ks (by rfl) KS.out.own _ 1 1 [z] (by rfl) LIT.out (by rw [HKL.out]; omega) KS.out.but.size ?_
              intro a' c' y5 ho hgr
              rw [HKL.out] at ho ⊢
              obtain ⟨hv, hks⟩ := KS.out.grow hyb hg3 hne ho hgr
              have HV := Lib.hid hv
              have KS := Lib.hid hks
              clear hv hks ho hgr
              refine hK.out _ _ (by (try dsimp only); all_goals exact True.intro) (fun hHeld => ?_)
              clear hK K
              refine take_at (i := 6) (v := ?_) rfl rfl (by kernel_rfl) (by kernel_rfl) (by kernel_rfl) (fun _ _ _ h => h) (Or.inl ⟨by rfl, ?_⟩) (by assumption) ?_
              rotate_left
              · intro w0 hSw; (try dsimp only at hSw); first | (go_simp; done) | (go_simp; with_reducible rfl)
              simp only [List.setIfInBounds_toArray, List.set_cons_zero, List.set_cons_succ]
              refine wpAnyH_ready (rs := [7]) (by kernel_rfl) (by simp) ?_
              refine AllReadyH.cons rfl (fun K hK => ?_) ?_
              · refine step_store_cell (by rfl) 22 _ _ rfl (g + 1) 0 (by rfl) (.slice a' (k + 1) c') (by rfl) (.slice a k cc) (by rw [HV.out.cell 0]; rfl) (HV.out.free 0) (by kernel_rfl) rfl ?_
                refine hK.out _ _ (by (try dsimp only); all_goals exact True.intro) (fun hHeld => ?_)
                clear hK K
                refine wpAnyH_done (by kernel_rfl) ?_ _
                clear hHeld HV
                revert KS
                generalize World.setCell y5 _ _ = y7
                intro KS
                go_wp2_with fail
                go_roundw
                case rel => exact ⟨k + 1, a', c', ks ++ [z], st', by omega, by go_num, NX.out, KS.out⟩
                case measure => simp [intOf]; omega
              exact AllReadyH.nil
            exact AllReadyH.nil
          exact AllReadyH.nil
        refine AllReadyH.cons rfl (fun K hK => ?_) ?_
        · refine step_one_gen (d := 12) (y := z) rfl (by rfl) rfl (by rfl) ?_
          intro p y4b hlit hbl
          have KS := Lib.hid (KS.out.more hbl)
          have LIT := Lib.hid (numbers_one hlit HFZ.out)
          clear hlit hbl
          refine hK.out _ _ (by (try dsimp only); all_goals exact True.intro) (fun hHeld => ?_)
          clear hK K
          refine wpAnyH_ready (rs := [1]) (by kernel_rfl) (by simp) ?_
          refine AllReadyH.cons rfl (fun K hK => ?_) ?_
          · refine step_cell (d := 9) rfl (by rfl) 22 _ rfl (g + 1) 0 rfl (.slice a k cc) (by rw [KS.out.var.cell 0]; rfl) (Tryd.isAgg22 _) ?_
            refine hK.out _ _ (by (try dsimp only); all_goals exact True.intro) (fun hHeld => ?_)
            clear hK K
            refine wpAnyH_ready (rs := [5]) (by kernel_rfl) (by simp) ?_
            refine AllReadyH.cons rfl (fun K hK => ?_) ?_
            · refine step_append_z (d := 13) rfl (by rfl) _ _ rfl rfl w.heap.size (.slice a k cc) ks (by rfl) KS.out.own _ 1 1 [z] (by rfl) LIT.out (by rw [HKL.out]; omega) KS.out.but.size ?_
              intro a' c' y5 ho hgr
              rw [HKL.out] at ho ⊢
              obtain ⟨hv, hks⟩ := KS.out.grow hyb hg3 hne ho hgr
              have HV := Lib.hid hv
              have KS := Lib.hid hks
              clear hv hks ho hgr
              refine hK.out _ _ (by (try dsimp only); all_goals exact True.intro) (fun hHeld => ?_)
              clear hK K
              refine take_at (i := 6) (v := ?_) rfl rfl (by kernel_rfl) (by kernel_rfl) (by kernel_rfl) (fun _ _ _ h => h) (Or.inl ⟨by rfl, ?_⟩) (by assumption) ?_
              rotate_left
              · intro w0 hSw; (try dsimp only at hSw); first | (go_simp; done) | (go_simp; with_reducible rfl)
              simp only [List.setIfInBounds_toArray, List.set_cons_zero, List.set_cons_succ]
              refine wpAnyH_ready (rs := [7]) (by kernel_rfl) (by simp) ?_
              refine AllReadyH.cons rfl (fun K hK => ?_) ?_
              · refine step_store_cell (by rfl) 22 _ _ rfl (g + 1) 0 (by rfl) (.slice a' (k + 1) c') (by rfl) (.slice a k cc) (by rw [HV.out.cell 0]; rfl) (HV.out.free 0) (by kernel_rfl) rfl ?_
                refine hK.out _ _ (by (try dsimp only); all_goals exact True.intro) (fun hHeld => ?_)
                clear hK K
                refine wpAnyH_done (by kernel_rfl) ?_ _
                clear hHeld HV
                revert KS
                generalize World.setCell y5 _ _ = y7
                intro KS
                go_wp2_with fail
                go_roundw
                case rel => exact ⟨k + 1, a', c', ks ++ [z], st', by omega, by go_num, NX.out, KS.out⟩
                case measure => simp [intOf]; omega
              exact AllReadyH.nil
            exact AllReadyH.nil
          exact AllReadyH.nil
        exact AllReadyH.nil
      exact AllReadyH.nil
    · obtain rfl : k = N := by omega
      have f1 : ¬ ((k : Int) < (k : Int)) := by omega
      obtain ⟨rfl, rfl⟩ : ks = ks0 ∧ st = s2 := by
        have h9 := HKS.out.symm.trans HE2.out
        cases h9
        exact ⟨rfl, rfl⟩
      have SZ := Lib.hid (size_of HLEN.out)
      go_wp2_with fail
      refine (HS2.out _ KS.out.eye).mono ?_
      rintro e y6 ⟨rfl, he, hb⟩
      have KS := Lib.hid (KS.out.read (s' := s3) hyb hg2 hg3 he hb)
      have TH : Hid (y6.there (g + 1) 1 (cellsOf hs).toArray.size) := Lib.hid (KS.out.var.there zero32_len (by rw [List.size_toArray, cellsOf_len, HLEN.out]; omega))
      clear he hb HS2
      go_upto_region 7 with (refine wpList_store_mid rfl 24 _ _ rfl (g + 1) 1 (cellsOf hs).toArray rfl rfl TH.out SZ.out (all_oneCell_toArray (cellsOf_one hs)) ?_)
      have KS := Lib.hid (KS.out.set hyb hg3 hne (but_setCells (cellsOf hs) 1 y6) (KS.out.var.sum zero32_len HLEN.out) rfl rfl rfl rfl)
      try simp only [List.toList_toArray]
      revert KS
      generalize World.setCells y6 _ _ _ = y7
      intro KS
      clear TH
      try simp only [Act.put]
      go_wp2_with fail
      refine (HU4.out _ KS.out.eye).mono ?_
      rintro e y8 ⟨rfl, he, hb⟩
      have KS := Lib.hid (KS.out.read (s' := s4) hyb hg2 hg3 he hb)
      have c33 : y8.cell? ⟨g + 1, 33, none⟩ = some (.int .i64 0) := by have h9 := way_after HLEN.out KS.out.var.range; rw [Nat.zero_add] at h9; exact h9
      have v33 := KS.out.var.free 33
      clear he hb HU4
      go_upto_region 8 with (fail)
      have KS := Lib.hid (KS.out.set hyb hg3 hne ((But.refl _ (g + 1) _).setCell ⟨g + 1, 33, none⟩ (.inl rfl) (.int .i64 z4)) (KS.out.var.setAfter HLEN.out) rfl rfl rfl rfl)
      clear c33 v33
      revert KS
      generalize World.setCell y8 _ _ = y9
      intro KS
      go_wp2_with fail
      refine (HU5.out _ KS.out.eye).mono ?_
      rintro e y10 ⟨rfl, he, hb⟩
      have KS := Lib.hid (KS.out.read (s' := s5) hyb hg2 hg3 he hb)
      have c34 : y10.cell? ⟨g + 1, 34, none⟩ = some (.int .i64 0) := by have h9 := way_wait HLEN.out KS.out.var.range; rw [Nat.zero_add] at h9; exact h9
      have v34 := KS.out.var.free 34
      clear he hb HU5
      go_upto_region 9 with (fail)
      have KS := Lib.hid (KS.out.set hyb hg3 hne ((But.refl _ (g + 1) _).setCell ⟨g + 1, 34, none⟩ (.inl rfl) (.int .i64 z5)) (KS.out.var.setWait HLEN.out) rfl rfl rfl rfl)
      clear c34 v34
      revert KS
      generalize World.setCell y10 _ _ = y11
      obtain ⟨x, hx⟩ : ∃ x : PWay, x = ⟨a, k, cc, ks, hs, z4, z5⟩ := ⟨_, rfl⟩
      dsimp only
      rw [← hx]
      intro KS
      have hxl : x.h.length = 32 := by rw [hx]; exact HLEN.out
      have hxa : Fits x.after := by rw [hx]; exact F4.out
      have hxw : Fits x.wait := by rw [hx]; exact F5.out
      have hst : x.strip = (wayR s).1 := by rw [HER.out, hx]; rfl
      have HEY : Hid ((wayR s).2 = s5) := Lib.hid (by rw [HER.out])
      have RX := Lib.hid KS.out.var.range
      have SX := Lib.hid (way_size hxl)
      have AX := Lib.hid (way_sizeA hxl)
      have ZX := Lib.hid (way_zero hxl)
      have HXL := Lib.hid hxl
      have HXA := Lib.hid hxa
      have HXW := Lib.hid hxw
      have HST := Lib.hid hst
      clear hx hxl hxa hxw hst HER HE2 HKS
      go_wp2_with (first | (refine wpList_load_mid rfl 26 _ rfl (g + 1) 0 rfl x.cells _ RX.out Tryd.underlying26 rfl SX.out ?_) | (refine wpList_store_row rfl 26 _ _ rfl g x.cells.toArray rfl rfl 26 noWay.cells.toArray KS.out.res AX.out ZX.out (all_oneCell_toArray x.cells_one) ?_) | fail)
      have hfin := KS.out.way hyb hg2 (but_setRow y11 g x.cells.toArray) HXL.out HXA.out HXW.out
      refine bodyPost_ret (results_cell_row rfl _ _ g 26 x.cells.toArray (0, 0) _ rfl (setRow_heap y11 g _ _ 26 _ KS.out.res) Tryd.underlying26 rfl AX.out) rfl ?_
      obtain ⟨q1, q2, q3, q4, q5⟩ := hfin
      exact ⟨x, rfl, q1, q2, q3, HST.out, by rw [HEY.out]; exact q4, q5⟩
end Go.Proofs.YtdaafeaeinomoaaDoor
