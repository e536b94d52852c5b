/- What the first bytes of a key come to. -/
import Derived.Test.YtjfkhclcjggoeaaDoorVeilSpec
import Derived.Test.YtjfkhclcjggoeaaDoorSteps
import Derived.Test.YtjfkhclcjggoeaaDoorMemory
namespace Go.Proofs.YtjfkhclcjggoeaaDoor
open Go.RowKit

/-- A key's bytes under way: the first k of them lie in block g. -/
structure Keying (w0 : World) (s : List UInt8) (n g k : Nat) (W : World) : Prop where
  row : ∃ L, KeyTo s n k L ∧ W.heap[g]? = some (.cells (cellsOf L).toArray 5 (0, 0))
  new : w0.heap.size ≤ g
  below : Below w0.heap.size w0 W
theorem Keying.more {w0 W W' : World} {s : List UInt8} {n g k : Nat} (h : Keying w0 s n g k W) (hb : Below W.heap.size W W') : Keying w0 s n g k W' := by
  obtain ⟨⟨L, h1, h2⟩, h3, h4⟩ := h
  exact ⟨⟨L, h1, keep hb h2⟩, h3, bthen h4 hb⟩
theorem Keying.begun {w0 W : World} {s : List UInt8} {n : Nat} (h : W.ownsRow w0.heap.size 5 1 (.slice (some ⟨w0.heap.size, 0, none⟩) n n) n (madeCells (Value.int .u8 0).cells (n * 1)).toList) (hg : w0.grownBy W none) : Keying w0 s n w0.heap.size 0 W := by
  rcases h.2 with ⟨hv, _⟩ | ⟨g, cap, cur, hv, hB, hh, h1, h2, h3, h4⟩
  · cases hv
  · cases hv
    refine ⟨⟨List.replicate n 0, KeyTo.none s n _ (by simp), ?_⟩, Nat.le_refl _, ⟨hg.os, hg.tape, hg.output, hg.size, fun k hk => hg.block k hk (by simp)⟩⟩
    rw [hh]
    congr 2
    apply Array.toList_inj.1
    rw [List.take_of_length_le (by rw [Array.length_toList, h3]; exact Nat.le_refl _)] at h4
    rw [h4, Nat.mul_one, show (Value.int IntKind.u8 0).cells = #[.int .u8 0] from rfl, toList_madeCells_one]
    simp [cellsOf]
theorem Tryd.zeroSum11 : (Tryd.prog.info? 23).map (fun i => (i.zero, i.size, i.bytes)) = some (some (.agg (cellsOf zero32).toArray), 32, 32) := by kernel_rfl
theorem three_cells {j : Nat} (h : j ≤ 4000) : (cellsOf (three j)).toArray = #[.int .u8 ((j : Int) / 65536), .int .u8 ((j : Int) / 256), .int .u8 ((j : Int) % 256)] := by
  have e0 : ((UInt8.ofNat (j / 65536)).toNat : Int) = (j : Int) / 65536 := by rw [UInt8.toNat_ofNat']; omega
  have e1 : ((UInt8.ofNat (j / 256)).toNat : Int) = (j : Int) / 256 := by rw [UInt8.toNat_ofNat']; omega
  have e2 : ((UInt8.ofNat j).toNat : Int) = (j : Int) % 256 := by rw [UInt8.toNat_ofNat']; omega
  rw [← e0, ← e1, ← e2]
  rfl
/-- A cut of bytes, '[A:]'. -/
theorem run_bcut_from {b off n c A : Nat} (hA : A ≤ n) (hc : A < c) (W : World) : (Instr.sliceAt 24 (.slice (some ⟨b, off, none⟩) n c) (some (.int .i64 (A : Int))) none none).run Tryd.prog W = .ok (.slice (some ⟨b, off + A, none⟩) (n - A) (c - A)) W := by
  have hu : Tryd.prog.underlying 24 = some (.slice (Tryd.prog.elem 24)) := by kernel_rfl
  have hs : (sizeOf (Tryd.prog.elem 24)).run Tryd.prog W = .ok 1 W := by kernel_rfl
  rw [run_sliceAt_slice W _ _ _ _ _ hu, run_slice_l W _ _ n c hu .i64 (A : Int) (by omega) (by omega), hs]
  simp [Result.andThen, sliced, Addr.add, show c ≠ A by omega]
theorem yields_bfrom {ops : Array Oper} {S : World → Prop} {op : Oper} {a : Act} {x lo : Operand} {b off n c A : Nat} (hw : Region.wanted op (yielded ops a.tmps) = true) (ho : op.op = .slice 24 x (some lo) none none) (hx : a.eval x = .slice (some ⟨b, off, none⟩) n c) (hlo : a.eval lo = .int .i64 (A : Int)) (hA : A ≤ n) (hc : A < c) :
    YieldsIf Tryd.prog ops S op (.slice (some ⟨b, off + A, none⟩) (n - A) (c - A)) a :=
  .inl ⟨hw, fun w _ => by
    have h := run_bcut_from (b := b) (off := off) (n := n) hA hc w
    unfold execOp
    simp only [ho, hx, hlo, Option.map_some, Option.map_none, Sem.run_bind, h, Result.andThen_ok, Sem.run_pure]⟩
theorem splice_cells11 (a b : List UInt8) (off : Nat) : splice (cellsOf a) off (cellsOf b) = cellsOf (splice a off b) := by
  simp [splice, cellsOf]
theorem Keying.copied {w0 W W' : World} {s x L : List UInt8} {n g t j m : Nat} (h : Keying w0 s n g t W) (ht : t = 32 * j) (hx : keySum s j = x) (hL : KeyTo s n t L) (hm : m = min 32 (n - t)) (hj : t < n) (hh : W'.heap[g]? = some (.cells (splice (cellsOf L) t (cellsOf (x.take m))).toArray 5 (0, 0))) (hb : But W.heap.size g W W') : Keying w0 s n g (t + 32) W' := by
  subst ht hx
  refine ⟨⟨_, hL.next hm hj, by rw [hh, splice_cells11]⟩, h.new, But.in h.below hb h.new⟩
set_option linter.unusedSimpArgs false in
set_option maxRecDepth 100000 in
set_option maxHeartbeats 6400000 in
theorem veilBytes_any {w : World} {s : List UInt8} {n : Nat} (hs : s.length = 32) (hn : n ≤ 100000) (hk : KsAt w) :
    Calls Tryd.prog 19 #[.agg (cellsOf s).toArray, .int .i64 (n : Int)] w fun e w' => ∃ g, e = .returned (.slice (some ⟨g, 0, none⟩) n n) ∧ w.heap.size ≤ g ∧ w'.heap[g]? = some (.cells (cellsOf (keyB s n)).toArray 5 (0, 0)) ∧ Below w.heap.size w w' := by
  obtain ⟨i0, hi, hz0, hz1, hz2⟩ := info_parts Tryd.info5
  have HI := Lib.hid hi
  have HS := Lib.hid hs
  have HK := Lib.hid hk
  clear hi hs hk
  go_enter Tryd.func19, Tryd.ntmps19
  go_upto_region 1 with (fail)
  have b1 : Below w.heap.size w (w.alloc (.cells (cellsOf s).toArray 23)) := (Below.refl _ _).alloc (Nat.le_refl _) _
  have h1 := heap_alloc_new w (.cells (cellsOf s).toArray 23)
  revert b1 h1
  generalize (w.alloc (.cells (cellsOf s).toArray 23)) = w1
  obtain ⟨q, hq⟩ : ∃ q, q = w.heap.size := ⟨_, rfl⟩
  rw [← hq]
  intro b1 h1
  rw [hq] at b1
  have hlq := lt_of_block h1
  have HB1 := Lib.hid b1
  have HQ1 := Lib.hid h1
  have HK1 := Lib.hid (HK.out.below b1)
  clear b1 h1 hq HK
  go_upto_region 2 with (at_make; refine wpList_make_full _ rfl _ _ 24 rfl w1.heap.size 5 i0 _ 1 Tryd.underlying24 HI.out hz0 hz1 _ _ _ _ n rfl rfl rfl rfl (by rw [hz2]; omega) (by unfold maxLen; omega) (Nat.le_refl _) ?_; intro w2 hown hgrow)
  have HU := Lib.hid (Keying.begun (s := s) hown hgrow)
  clear hown hgrow
  obtain ⟨g, hg⟩ : ∃ g, g = w1.heap.size := ⟨_, rfl⟩
  rw [← hg] at HU ⊢
  have HG := Lib.hid hg
  clear hg hz0 hz1 hz2 HI
  go_wp2_with fail
  go_loopw [6] (fun i wr => ∃ t j : Nat, t = 32 * j ∧ j ≤ 4000 ∧ i = .int .i64 t ∧ Keying w1 s n g t wr) (fun i _ => n + 32 - (intOf i).toNat)
  case atStart => exact ⟨0, 0, rfl, by omega, rfl, HU.out⟩
  case round =>
    obtain ⟨t, j, htj, hj, rfl, hat⟩ := hrel
    have HAT := Lib.hid hat
    have HTJ := Lib.hid htj
    clear hat HU
    by_cases htn : t < n
    · have f1 : (t : Int) < (n : Int) := by omega
      have e1 : (t : Int) / 32 = (j : Int) := by omega
      have f2 : (j : Int) ≤ 4000 := by omega
      clear htj
      go_upto_region 7 with (fail)
      rw [← three_cells hj]
      have b5 : Below wr.heap.size wr (wr.alloc (.cells (cellsOf (three j)).toArray 54)) := (Below.refl _ _).alloc (Nat.le_refl _) _
      have h5 := heap_alloc_new wr (.cells (cellsOf (three j)).toArray 54)
      revert b5 h5
      generalize (wr.alloc (.cells (cellsOf (three j)).toArray 54)) = w5
      obtain ⟨p, hp⟩ : ∃ p, p = wr.heap.size := ⟨_, rfl⟩
      rw [← hp]
      intro b5 h5
      rw [hp] at b5
      clear hp
      have r0 : Row wr (some ⟨q, 0, none⟩) 32 32 s := row_all (keep HAT.out.below HQ1.out) 32 HS.out.symm (by omega)
      have r1 := r0.below b5
      have r2 : Row w5 (some ⟨p, 0, none⟩) 3 3 (three j) := row_all h5 3 rfl (by omega)
      have k5 := (HK1.out.below HAT.out.below).below b5
      obtain ⟨x, hx, hxl, hjoin⟩ : ∃ x, keySum s j = x ∧ x.length = 32 ∧ ∀ (W : World) (gg : Nat), Below w5.heap.size w5 W → W.heap[gg]? = some (.cells #[.slice (some ⟨q, 0, none⟩) 32 32, .slice (some ⟨p, 0, none⟩) 3 3] 24 (0, 0)) →
          Calls Tryd.prog 7 #[.int .u8 51, .slice (some ⟨gg, 0, none⟩) 2 2] W fun e w' => e = .returned (.agg (cellsOf x).toArray) ∧ Below W.heap.size W w' :=
        ⟨_, rfl, keySum_len s j, fun W gg hb hg => join_any 51 51 rfl (rows2_at hg (r1.below hb) (r2.below hb)) (k5.below hb) (parts2_few 51 HS.out (by show 3 ≤ 1000000; omega))⟩
      have HX := Lib.hid hx
      have HXL := Lib.hid hxl
      have HJ := Lib.hid hjoin
      have HA5 := Lib.hid (HAT.out.more b5)
      have SZX : Hid ((Tryd.prog.info? 23).map (·.size) = some (cellsOf x).length) := Lib.hid (by rw [cellsOf_len, hxl]; exact Tryd.size23)
      have ZX : Hid ((cellsOf zero32).length = (cellsOf x).length) := Lib.hid (by rw [cellsOf_len, cellsOf_len, hxl]; rfl)
      clear b5 h5 r0 r1 r2 k5 hx hxl hjoin HAT
      try simp only [Act.put]
      go_cut [9] from 12 to 36 (fun u w' => ∃ p9, u = .pointer (some ⟨p9, 0, none⟩) ∧ w'.heap[p9]? = some (.cells (cellsOf x).toArray 23 (0, 0)) ∧ Below w5.heap.size w5 w')
      case first =>
        refine wp_region_held_drew (S := fun w' => Below w5.heap.size w5 w') (by kernel_rfl) (below_drew (Below.refl _ _)) (fun hHeld => ?_)
        refine take_at (i := 0) (v := ?_) rfl rfl (by kernel_rfl) (by kernel_rfl) (by kernel_rfl) (fun _ _ _ h => h) (Or.inl ⟨by rfl, ?_⟩) (by assumption) ?_
        rotate_left
        · intro w0 hSw; (try dsimp only at hSw); first | (go_simp; done) | (go_simp; with_reducible rfl)
        simp only [List.setIfInBounds_toArray, List.set_cons_zero, List.set_cons_succ]
        refine take_at (i := 1) (v := ?_) rfl rfl (by kernel_rfl) (by kernel_rfl) (by kernel_rfl) (fun _ _ _ h => h) (Or.inl ⟨by rfl, ?_⟩) (by assumption) ?_
        rotate_left
        · intro w0 hSw; (try dsimp only at hSw); first | (go_simp; done) | (go_simp; with_reducible rfl)
        simp only [List.setIfInBounds_toArray, List.set_cons_zero, List.set_cons_succ]
        refine wpAnyH_ready (rs := [2, 4]) (by kernel_rfl) (by simp) ?_
        refine AllReadyH.cons rfl (fun K hK => ?_) ?_
        · refine step_rows2_gen (d := 30) rfl (by rfl) rfl rfl rfl (fun gg y2 hgg hhg hb => ?_)
          have HGG := Lib.hid hhg
          have HXy2 := Lib.hid hb
          clear hhg hgg hb
          refine hK.out _ _ (by (try dsimp only); exact Below.trans hHeld (HXy2.out.mono (Below.size hHeld))) (fun hHeld => ?_)
          clear hK K
          refine wpAnyH_ready (rs := [3, 4]) (by kernel_rfl) (by simp) ?_
          refine AllReadyH.cons rfl (fun K hK => ?_) ?_
          · have HC3 := Lib.hid (HJ.out _ gg hHeld HGG.out)
            go_simp
            go_wp2_with ((go_at_call 7; (with_reducible refine (HC3.out).mono ?_); rintro e y3 ⟨rfl, hb⟩; have HXy3 := Lib.hid hb; clear hb))
            refine hK.out _ _ (by (try dsimp only); exact Below.trans hHeld (HXy3.out.mono (Below.size hHeld))) (fun hHeld => ?_)
            clear hK K
            refine wpAnyH_ready (rs := [4]) (by kernel_rfl) (by simp) ?_
            refine AllReadyH.cons rfl (fun K hK => ?_) ?_
            · refine step_alloc10 (d := 9) rfl (by rfl) 23 rfl (cellsOf zero32).toArray Tryd.zeroSum11 (fun p9 y4 hp9 hh9 hb => ?_)
              have HV9 := Lib.hid hh9
              have HN9 : Hid (w5.heap.size ≤ p9) := Lib.hid (Nat.le_trans (Below.size hHeld) hp9)
              have HXy4 := Lib.hid hb
              clear hh9 hp9 hb
              refine hK.out _ _ (by (try dsimp only); exact Below.trans hHeld (HXy4.out.mono (Below.size hHeld))) (fun hHeld => ?_)
              clear hK K
              refine wpAnyH_ready (rs := [5]) (by kernel_rfl) (by simp) ?_
              refine AllReadyH.cons rfl (fun K hK => ?_) ?_
              · refine step_row10 (by rfl) 23 _ _ rfl p9 (cellsOf x) (by rfl) (by rfl) 23 (cellsOf zero32) HV9.out SZX.out ZX.out (cellsOf_one x) (fun y9 hh9 hb => ?_)
                have HX9 := Lib.hid ((hb.mono (Below.size hHeld)).below HN9.out)
                clear hb HV9 HN9
                refine hK.out _ _ (by (try dsimp only); exact Below.trans hHeld HX9.out) (fun hHeld => ?_)
                clear hK K
                refine wpAnyH_done (by kernel_rfl) ?_ _
                have HP9 := Lib.hid hh9
                have HB9 := Lib.hid (show Below w5.heap.size w5 y9 from hHeld)
                clear hh9 hHeld HGG HX9 HXy2 HXy3 HXy4
                go_wp2_with fail
                go_meet
                exact ⟨p9, rfl, HP9.out, HB9.out⟩
              exact AllReadyH.nil
            exact AllReadyH.nil
          refine AllReadyH.cons rfl (fun K hK => ?_) ?_
          · refine step_alloc10 (d := 9) rfl (by rfl) 23 rfl (cellsOf zero32).toArray Tryd.zeroSum11 (fun p9 y4 hp9 hh9 hb => ?_)
            have HV9 := Lib.hid hh9
            have HN9 : Hid (w5.heap.size ≤ p9) := Lib.hid (Nat.le_trans (Below.size hHeld) hp9)
            have HXy4 := Lib.hid hb
            clear hh9 hp9 hb
            have HGG := Lib.hid (keep HXy4.out HGG.out)
            refine hK.out _ _ (by (try dsimp only); exact Below.trans hHeld (HXy4.out.mono (Below.size hHeld))) (fun hHeld => ?_)
            clear hK K
            refine wpAnyH_ready (rs := [3]) (by kernel_rfl) (by simp) ?_
            refine AllReadyH.cons rfl (fun K hK => ?_) ?_
            · have HC3 := Lib.hid (HJ.out _ gg hHeld HGG.out)
              go_simp
              go_wp2_with ((go_at_call 7; (with_reducible refine (HC3.out).mono ?_); rintro e y3 ⟨rfl, hb⟩; have HXy3 := Lib.hid hb; clear hb))
              have HV9 := Lib.hid (keep HXy3.out HV9.out)
              refine hK.out _ _ (by (try dsimp only); exact Below.trans hHeld (HXy3.out.mono (Below.size hHeld))) (fun hHeld => ?_)
              clear hK K
              refine wpAnyH_ready (rs := [5]) (by kernel_rfl) (by simp) ?_
              refine AllReadyH.cons rfl (fun K hK => ?_) ?_
              · refine step_row10 (by rfl) 23 _ _ rfl p9 (cellsOf x) (by rfl) (by rfl) 23 (cellsOf zero32) HV9.out SZX.out ZX.out (cellsOf_one x) (fun y9 hh9 hb => ?_)
                have HX9 := Lib.hid ((hb.mono (Below.size hHeld)).below HN9.out)
                clear hb HV9 HN9
                refine hK.out _ _ (by (try dsimp only); exact Below.trans hHeld HX9.out) (fun hHeld => ?_)
                clear hK K
                refine wpAnyH_done (by kernel_rfl) ?_ _
                have HP9 := Lib.hid hh9
                have HB9 := Lib.hid (show Below w5.heap.size w5 y9 from hHeld)
                clear hh9 hHeld HGG HX9 HXy2 HXy3 HXy4
                go_wp2_with fail
                go_meet
                exact ⟨p9, rfl, HP9.out, HB9.out⟩
              exact AllReadyH.nil
            exact AllReadyH.nil
          exact AllReadyH.nil
        refine AllReadyH.cons rfl (fun K hK => ?_) ?_
        · refine step_alloc10 (d := 9) rfl (by rfl) 23 rfl (cellsOf zero32).toArray Tryd.zeroSum11 (fun p9 y4 hp9 hh9 hb => ?_)
          have HV9 := Lib.hid hh9
          have HN9 : Hid (w5.heap.size ≤ p9) := Lib.hid (Nat.le_trans (Below.size hHeld) hp9)
          have HXy4 := Lib.hid hb
          clear hh9 hp9 hb
          refine hK.out _ _ (by (try dsimp only); exact Below.trans hHeld (HXy4.out.mono (Below.size hHeld))) (fun hHeld => ?_)
          clear hK K
          refine wpAnyH_ready (rs := [2]) (by kernel_rfl) (by simp) ?_
          refine AllReadyH.cons rfl (fun K hK => ?_) ?_
          · refine step_rows2_gen (d := 30) rfl (by rfl) rfl rfl rfl (fun gg y2 hgg hhg hb => ?_)
            have HGG := Lib.hid hhg
            have HXy2 := Lib.hid hb
            clear hhg hgg hb
            have HV9 := Lib.hid (keep HXy2.out HV9.out)
            refine hK.out _ _ (by (try dsimp only); exact Below.trans hHeld (HXy2.out.mono (Below.size hHeld))) (fun hHeld => ?_)
            clear hK K
            refine wpAnyH_ready (rs := [3]) (by kernel_rfl) (by simp) ?_
            refine AllReadyH.cons rfl (fun K hK => ?_) ?_
            · have HC3 := Lib.hid (HJ.out _ gg hHeld HGG.out)
              go_simp
              go_wp2_with ((go_at_call 7; (with_reducible refine (HC3.out).mono ?_); rintro e y3 ⟨rfl, hb⟩; have HXy3 := Lib.hid hb; clear hb))
              have HV9 := Lib.hid (keep HXy3.out HV9.out)
              refine hK.out _ _ (by (try dsimp only); exact Below.trans hHeld (HXy3.out.mono (Below.size hHeld))) (fun hHeld => ?_)
              clear hK K
              refine wpAnyH_ready (rs := [5]) (by kernel_rfl) (by simp) ?_
              refine AllReadyH.cons rfl (fun K hK => ?_) ?_
              · refine step_row10 (by rfl) 23 _ _ rfl p9 (cellsOf x) (by rfl) (by rfl) 23 (cellsOf zero32) HV9.out SZX.out ZX.out (cellsOf_one x) (fun y9 hh9 hb => ?_)
                have HX9 := Lib.hid ((hb.mono (Below.size hHeld)).below HN9.out)
                clear hb HV9 HN9
                refine hK.out _ _ (by (try dsimp only); exact Below.trans hHeld HX9.out) (fun hHeld => ?_)
                clear hK K
                refine wpAnyH_done (by kernel_rfl) ?_ _
                have HP9 := Lib.hid hh9
                have HB9 := Lib.hid (show Below w5.heap.size w5 y9 from hHeld)
                clear hh9 hHeld HGG HX9 HXy2 HXy3 HXy4
                go_wp2_with fail
                go_meet
                exact ⟨p9, rfl, HP9.out, HB9.out⟩
              exact AllReadyH.nil
            exact AllReadyH.nil
          exact AllReadyH.nil
        exact AllReadyH.nil
      case rest =>
        obtain ⟨p9, rfl, hp9, hb9⟩ := hcut
        have hK9 : Keying w1 s n g t wc.drew := (HA5.out.more hb9).more (below_drew (Below.refl _ _))
        obtain ⟨L, hL, hh⟩ := hK9.row
        obtain ⟨m, hm⟩ : ∃ m, m = min 32 (n - t) := ⟨_, rfl⟩
        have hcl : (cellsOf (x.take m)).length = m := by rw [cellsOf_len, List.length_take, HXL.out]; omega
        have HN9 : Hid ((cellsOf (x.take m)).length = Nat.min 32 (n - t)) := Lib.hid (by rw [hcl]; exact hm)
        have HF9 : Hid (0 + t + (cellsOf (x.take m)).length ≤ (cellsOf L).length) := Lib.hid (by rw [hcl, cellsOf_len, hL.1]; omega)
        have HO9 : Hid (∀ v ∈ cellsOf (x.take m), v.oneCell' = true) := Lib.hid (cellsOf_one _)
        have HP0 : Hid (0 < (cellsOf (x.take m)).length → ∃ ad, (some ⟨p9, 0, none⟩ : Option Addr) = some ad ∧ ∀ j v, (cellsOf (x.take m))[j]? = some v → wc.drew.cell? (ad.add j) = some v) := Lib.hid (fun h0 => by rw [hcl] at h0; exact row_copy (Row.take (row_all (w := wc.drew) (show wc.drew.heap[p9]? = _ from hp9) 32 HXL.out.symm (by omega)) (k := m) (by omega)) (by rw [hcl]; exact h0))
        have HKC : Hid (∀ y : World, y.heap[g]? = some (.cells (splice (cellsOf L) (0 + t) (cellsOf (x.take m))).toArray 5 (0, 0)) → But wc.drew.heap.size g wc.drew y → Keying w1 s n g (t + 32) y) := Lib.hid (fun y h1 h2 => hK9.copied HTJ.out HX.out hL hm htn (by rw [h1, Nat.zero_add]) h2)
        have HHG : Hid (wc.drew.heap[g]? = some (.cells (cellsOf L).toArray 5 (0, 0))) := Lib.hid hh
        clear hK9 hL hh hm hcl hp9 hb9 HA5
        go_upto_region 8 with (fail)
        refine wp_region_held_drew (S := fun _ => True) (by kernel_rfl) (True.intro) (fun hHeld => ?_)
        refine take_at (i := 0) (v := ?_) rfl rfl (by kernel_rfl) (by kernel_rfl) (by kernel_rfl) (fun _ _ _ h => h) (Or.inl ⟨by rfl, ?_⟩) (by assumption) ?_
        rotate_left
        · intro w0 hSw; (try dsimp only at hSw); first | (go_simp; done) | (go_simp; with_reducible rfl)
        simp only [List.setIfInBounds_toArray, List.set_cons_zero, List.set_cons_succ]
        refine take_at (i := 1) (v := ?_) rfl rfl (by kernel_rfl) (by kernel_rfl) (by kernel_rfl) (fun _ _ _ h => h) (Or.inl ⟨by rfl, ?_⟩) (by assumption) ?_
        rotate_left
        · intro w0 hSw; (try dsimp only at hSw); first | (go_simp; done) | (go_simp; with_reducible rfl)
        simp only [List.setIfInBounds_toArray, List.set_cons_zero, List.set_cons_succ]
        refine take_at (i := 2) rfl rfl (by kernel_rfl) (by kernel_rfl) (by kernel_rfl) (fun _ _ _ h => h) (yields_bfrom (by rfl) rfl rfl rfl (Nat.le_of_lt htn) htn) (by assumption) ?_
        simp only [List.setIfInBounds_toArray, List.set_cons_zero, List.set_cons_succ]
        refine take_at (i := 3) (v := ?_) rfl rfl (by kernel_rfl) (by kernel_rfl) (by kernel_rfl) (fun _ _ _ h => h) (Or.inl ⟨by rfl, ?_⟩) (by assumption) ?_
        rotate_left
        · intro w0 hSw; (try dsimp only at hSw); first | (go_simp; done) | (go_simp; with_reducible rfl)
        simp only [List.setIfInBounds_toArray, List.set_cons_zero, List.set_cons_succ]
        refine wpAnyH_ready (rs := [4]) (by kernel_rfl) (by simp) ?_
        refine AllReadyH.cons rfl (fun K hK => ?_) ?_
        · refine step_copy_but rfl (.tmp 34) (.tmp 35) 24 24 rfl 5 Tryd.underlying24 Tryd.size5 _ _ (n - t) (n - t) 32 32 rfl rfl g (0 + t) (cellsOf L) 5 HHG.out (cellsOf (x.take m)) HN9.out (fun h0 => ⟨rfl, HP0.out h0⟩) HF9.out HO9.out (fun y10 hh10 hb10 => ?_)
          have HKN := Lib.hid (HKC.out y10 hh10.out hb10)
          clear hh10 hb10
          refine hK.out _ _ (by (try dsimp only); all_goals exact True.intro) (fun hHeld => ?_)
          clear hK K
          refine wpAnyH_done (by kernel_rfl) ?_ _
          clear hHeld
          go_wp2_with fail
          go_roundw
          case rel => exact ⟨t + 32, j + 1, by have := HTJ.out; omega, by omega, by go_num, HKN.out⟩
          case measure => simp [intOf]; omega
        exact AllReadyH.nil
    · have f1 : ¬ (t : Int) < (n : Int) := by omega
      have hfin : w.heap.size ≤ g ∧ wr.heap[g]? = some (.cells (cellsOf (keyB s n)).toArray 5 (0, 0)) ∧ Below w.heap.size w wr := by
        obtain ⟨⟨L, h1, h2⟩, h3, h4⟩ := HAT.out
        exact ⟨Nat.le_trans HB1.out.size h3, by rw [h2, h1.all (by omega)], bthen HB1.out h4⟩
      have HFIN := Lib.hid hfin
      clear hfin htj
      go_wp2_with fail
      go_ret
      exact ⟨g, rfl, HFIN.out⟩
end Go.Proofs.YtjfkhclcjggoeaaDoor
