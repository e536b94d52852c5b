/- What Close comes to. -/
import Derived.Test.YtjfkhclcjggoeaaDoorVeilMark
import Derived.ArgAppend
namespace Go.Proofs.YtjfkhclcjggoeaaDoor
open Go.RowKit

/-- 'append' of a row to one whose room is all taken. -/
theorem append_full {w : World} (t ty : TypeId) (ht : Tryd.prog.underlying t = some (.slice 5)) {b off k m c : Nat} {ad : Addr} {l q : List UInt8} (hl : Row w (some ⟨b, off, none⟩) k k l) (hq : Row w (some ad) m c q) (hk : k + m ≤ 1000000) :
    ∃ a' c' w', (Builtin.append_ #[t, t] ty #[.slice (some ⟨b, off, none⟩) k k, .slice (some ad) m c]).run Tryd.prog w = .ok (.slice a' (k + m) c') w' ∧ Row w' a' (k + m) c' (l ++ q) ∧ Below w.heap.size w w' := by
  obtain ⟨i0, hi, hz0, hz1, hz2⟩ := info_parts Tryd.info5
  have hnews : ∀ j u, (cellsOf q)[j]? = some u → w.cell? (ad.add j) = some u := fun j u hj => by
    obtain ⟨ad', e, h⟩ := row_copy hq (by have := (List.getElem?_eq_some_iff.1 hj).1; omega)
    cases e
    exact h j u hj
  by_cases h0 : m = 0
  · subst h0
    obtain rfl : q = [] := List.eq_nil_of_length_eq_zero hq.1
    have h := run_append_room_cells (P := Tryd.prog) w t ty 5 i0 ht hi b off k k ad 0 c [] (by simp) (fun j u hj => by simp at hj) (fun u hu => by cases hu) (Nat.le_refl _) (fun j hj => by simp at hj) (fun j hj => by simp at hj)
    exact ⟨_, _, _, h, by rw [List.append_nil]; exact hl, Below.refl _ _⟩
  · obtain ⟨v', w', h1, h2, h3⟩ := run_append_arg_grows (P := Tryd.prog) w t ty 5 i0 _ 1 1 ht hi hz0 hz1 hz2 rfl (by decide) ⟨b, off, none⟩ k k (cellsOf l) (by rw [cellsOf_len, hl.1, Nat.mul_one]) (fun j u hj => by
        obtain ⟨ad', e, h⟩ := row_copy hl (by have := (List.getElem?_eq_some_iff.1 hj).1; omega)
        cases e
        exact h j u hj) ad m c (cellsOf q) (by rw [cellsOf_len, hq.1, Nat.mul_one]) hnews (by omega) (by unfold maxLen; omega) (by omega)
    have hO : Own w' w.heap.size v' (l ++ q) := by
      unfold Own
      rw [cellsOf_append, List.length_append, hl.1, hq.1]
      exact h2
    obtain ⟨a', c', rfl, _⟩ := hO.shape
    have e : (l ++ q).length = k + m := by rw [List.length_append, hl.1, hq.1]
    rw [e] at h1 hO
    exact ⟨a', c', w', h1, hO.row, ⟨h3.os, h3.tape, h3.output, h3.size, fun k hk => h3.block k hk (by simp)⟩⟩
theorem step_append_full {ops : Array Oper} {o : Oper} {tmps : Array Value} {ds : List Deferred} {w : World} {K : Act → World → Prop} {Q : Exit → Act → World → Prop} {E : Prop} {d : Nat} (hd : o.dst = some d) (hw : Region.wanted o (yielded ops tmps) = true) (x y : Operand) (t : TypeId)
    (ho : o.op = .call { callee := .builtin .append, args := #[x, y], argTypes := #[t, t] }) (ht : Tryd.prog.underlying t = some (.slice 5)) {b off k m c : Nat} {ad : Addr} {l q : List UInt8} (hx : Act.eval { tmps := tmps, defers := ds } x = .slice (some ⟨b, off, none⟩) k k) (hy : Act.eval { tmps := tmps, defers := ds } y = .slice (some ad) m c) (hl : Row w (some ⟨b, off, none⟩) k k l) (hq : Row w (some ad) m c q) (hk : k + m ≤ 1000000)
    (h : ∀ a' c' w', Row w' a' (k + m) c' (l ++ q) → Below w.heap.size w w' → K { tmps := tmps.setIfInBounds d (.slice a' (k + m) c'), defers := ds } w') :
    if Region.wanted o (yielded ops tmps) = true then Oper.wp Tryd.prog o { tmps := tmps, defers := ds } w K Q else E := by
  rw [if_pos hw]
  obtain ⟨a', c', w', h1, h2, h3⟩ := append_full t o.type ht hl hq hk
  unfold Oper.wp execOp
  simp only [ho, resolve, invoke, builtin, Sem.run_bind, Sem.run_pure, Result.andThen_ok, List.map_toArray, List.map_cons, List.map_nil, hx, hy, h1]
  show K (Act.put _ o.dst _) _
  rw [hd]
  exact h a' c' w' h2 h3
/-- A row that lies in one block from its beginning on. -/
theorem row_block {w : World} {g n : Nat} {l : List UInt8} {t : TypeId} {fr : Nat × Nat} (hg : w.heap[g]? = some (.cells (cellsOf l).toArray t fr)) (hn : l.length = n) (hm : n ≤ 1000000) : Row w (some ⟨g, 0, none⟩) n n l :=
  row_new hn (Nat.le_refl _) (by unfold maxLen; omega) _ t hg (fun j hj => cellsOf_get (by omega))
set_option linter.unusedSimpArgs false in
set_option maxRecDepth 100000 in
set_option maxHeartbeats 6400000 in
theorem close_long {w : World} {a : Option Addr} {s : List UInt8} {n c : Nat} (hn : 65536 < n) (hm : n ≤ 1000000) :
    Calls Tryd.prog 9 #[.agg (cellsOf s).toArray, .slice a n c] w fun e w' => e = .returned (.tuple #[.slice none 0 0, .int .i64 3]) ∧ Below w.heap.size w w' := by
  have f1 : (65536 : Int) < (n : Int) := by omega
  go_enter Tryd.func9, Tryd.ntmps9
  go_upto_region 1 with (fail)
  have b1 : Below w.heap.size w (w.alloc (.cells (cellsOf s).toArray 23)) := (Below.refl _ _).alloc (Nat.le_refl _) _
  have h1 := heap_alloc_new w (.cells (cellsOf s).toArray 23)
  revert b1 h1
  generalize (w.alloc (.cells (cellsOf s).toArray 23)) = w1
  obtain ⟨q, hq⟩ : ∃ q, q = w.heap.size := ⟨_, rfl⟩
  rw [← hq]
  intro b1 h1
  rw [hq] at b1
  have HB1 := Lib.hid b1
  clear b1 h1 hq
  go_wp2_with fail
  go_ret2
  exact ⟨rfl, HB1.out⟩
set_option linter.unusedSimpArgs false in
set_option maxRecDepth 100000 in
set_option maxHeartbeats 6400000 in
theorem close_any {w : World} {a : Option Addr} {s t : List UInt8} {n c : Nat} (hs : s.length = 32) (ht : Row w a n c t) (hn : n ≤ 65536) (hk : KsAt w) :
    Calls Tryd.prog 9 #[.agg (cellsOf s).toArray, .slice a n c] w fun e w' => ∃ a' c', e = .returned (.tuple #[.slice a' (16 + n) c', .int .i64 0]) ∧ Row w' a' (16 + n) c' (closeB s t) ∧ Below w.heap.size w w' := by
  have f1 : ¬ (65536 : Int) < (n : Int) := by omega
  have hn0 : n ≤ 100000 := by omega
  have hcl : (coverB s t).length = n := by rw [coverB_len, ht.1]
  obtain ⟨m, hm, hml, hmark⟩ : ∃ m, markB s t = m ∧ m.length = 16 ∧ ∀ W : World, Row W a n c t → KsAt W → Calls Tryd.prog 16 #[.agg (cellsOf s).toArray, .slice a n c] W fun e w' => e = .returned (.agg (cellsOf m).toArray) ∧ Below W.heap.size W w' :=
    ⟨_, rfl, markB_len s t, fun W hr hW => mark_any hs hr hn0 hW⟩
  have hres : closeB s t = m ++ coverB s t := by rw [← hm]; rfl
  rw [hres]
  have SZS := Lib.hid (size_of hs)
  have SZSL : Hid ((Tryd.prog.info? 23).map (·.size) = some (cellsOf s).length) := Lib.hid (by rw [cellsOf_len, hs]; exact Tryd.size23)
  have SZM := Lib.hid (size16_of hml)
  have ZM := Lib.hid (zero16_of hml)
  have HML := Lib.hid hml
  have HCL := Lib.hid hcl
  have HMK := Lib.hid hmark
  have HS := Lib.hid hs
  have HK := Lib.hid hk
  have HT := Lib.hid ht
  clear hcl hm hml hmark hs hk ht hres
  go_enter Tryd.func9, Tryd.ntmps9
  go_upto_region 1 with (fail)
  have b1 : Below w.heap.size w (w.alloc (.cells (cellsOf s).toArray 23)) := (Below.refl _ _).alloc (Nat.le_refl _) _
  have h1 := heap_alloc_new w (.cells (cellsOf s).toArray 23)
  revert b1 h1
  generalize (w.alloc (.cells (cellsOf s).toArray 23)) = w1
  obtain ⟨q, hq⟩ : ∃ q, q = w.heap.size := ⟨_, rfl⟩
  rw [← hq]
  intro b1 h1
  rw [hq] at b1
  have HB1 := Lib.hid b1
  have HQ1 := Lib.hid h1
  have HK1 := Lib.hid (HK.out.below b1)
  have HT1 := Lib.hid (HT.out.below b1)
  clear b1 h1 hq HK HT
  go_upto_region 4 with (first | (refine wpList_load_row rfl 23 _ rfl q rfl 23 (cellsOf s).toArray (0, 0) _ HQ1.out Tryd.underlying23 rfl SZS.out ?_) | (go_at_call 16; (with_reducible refine (HMK.out _ HT1.out HK1.out).mono ?_); rintro e w2 ⟨rfl, hb2⟩; have HB2 := Lib.hid hb2; clear hb2) | (refine wpList_store_row rfl 45 _ _ rfl w2.heap.size (cellsOf m).toArray rfl rfl 45 (cellsOf zero16).toArray (heap_alloc_new _ _) SZM.out ZM.out (all_oneCell_toArray (cellsOf_one m)) ?_) | fail)
  rw [← zero16_is]
  have b4 : Below w2.heap.size w2 ((w2.alloc (.cells (cellsOf zero16).toArray 45)).setRow w2.heap.size (cellsOf m).toArray) := But.in ((Below.refl _ _).alloc (Nat.le_refl _) _) (but_setRow _ w2.heap.size _) (Nat.le_refl _)
  have h4 : ((w2.alloc (.cells (cellsOf zero16).toArray 45)).setRow w2.heap.size (cellsOf m).toArray).heap[w2.heap.size]? = some (.cells (cellsOf m).toArray 45 (0, 0)) := setRow_heap _ _ _ _ _ _ (heap_alloc_new _ _)
  revert b4 h4
  generalize ((w2.alloc (.cells (cellsOf zero16).toArray 45)).setRow w2.heap.size (cellsOf m).toArray) = w4
  obtain ⟨p, hp⟩ : ∃ p, p = w2.heap.size := ⟨_, rfl⟩
  rw [← hp]
  intro b4 h4
  rw [hp] at b4
  have b14 := bthen HB2.out b4
  have HQ4 := Lib.hid (range_of (keep b14 HQ1.out))
  have hlq := lt_of_block (keep b14 HQ1.out)
  have HK4 := Lib.hid (HK1.out.below b14)
  have HT4 := Lib.hid (HT1.out.below b14)
  have HR4 : Hid (Row w4 (some ⟨p, 0, none⟩) 16 16 m) := Lib.hid (row_all h4 16 HML.out.symm (by omega))
  have HB4 := Lib.hid (bthen HB1.out b14)
  clear b4 h4 b14 hp HQ1 HK1 HT1 HB1 HB2
  try simp only [Act.put]
  refine wp_region_held_drew (S := fun w' => Below w4.heap.size w4 w') (by kernel_rfl) (below_drew (Below.refl _ _)) (fun hHeld => ?_)
  refine take_at (i := 0) (v := ?_) rfl rfl (by kernel_rfl) (by kernel_rfl) (by kernel_rfl) (fun _ _ _ h => h) (Or.inl ⟨by rfl, ?_⟩) (by assumption) ?_
  rotate_left
  · intro w0 hSw; (try dsimp only at hSw); first | (go_simp; done) | (go_simp; with_reducible rfl)
  simp only [List.setIfInBounds_toArray, List.set_cons_zero, List.set_cons_succ]
  refine take_at (i := 1) rfl rfl (by kernel_rfl) (by kernel_rfl) (by kernel_rfl) (fun _ _ _ h => h) (yieldsIf_load_mid (by rfl) _ _ rfl q 0 rfl (cellsOf s) _ (fun w0 hSw => rangeAt_below HQ4.out hlq hSw) Tryd.underlying23 rfl SZSL.out) (by assumption) ?_
  simp only [List.setIfInBounds_toArray, List.set_cons_zero, List.set_cons_succ]
  refine take_at (i := 2) (v := ?_) rfl rfl (by kernel_rfl) (by kernel_rfl) (by kernel_rfl) (fun _ _ _ h => h) (Or.inl ⟨by rfl, ?_⟩) (by assumption) ?_
  rotate_left
  · intro w0 hSw; (try dsimp only at hSw); first | (go_simp; done) | (go_simp; with_reducible rfl)
  simp only [List.setIfInBounds_toArray, List.set_cons_zero, List.set_cons_succ]
  refine wpAnyH_ready (rs := [3]) (by kernel_rfl) (by simp) ?_
  refine AllReadyH.cons rfl (fun K hK => ?_) ?_
  · have HC3 := Lib.hid (veilTurned_any HS.out (HT4.out.below hHeld) hn0 (HK4.out.below hHeld))
    go_simp
    go_wp2_with ((go_at_call 17; (with_reducible refine (HC3.out).mono ?_); rintro e y3 ⟨g, rfl, hgg, hhg, hb⟩; have HGG := Lib.hid hhg; have HXy3 := Lib.hid hb; clear hb hhg hgg))
    refine hK.out _ _ (by (try dsimp only); exact Below.trans hHeld (HXy3.out.mono (Below.size hHeld))) (fun hHeld => ?_)
    clear hK K
    refine wpAnyH_ready (rs := [4]) (by kernel_rfl) (by simp) ?_
    refine AllReadyH.cons rfl (fun K hK => ?_) ?_
    · refine step_append_full (d := 17) rfl (by rfl) _ _ 24 rfl Tryd.underlying24 rfl rfl (HR4.out.below hHeld) (row_block HGG.out HCL.out (by omega)) (by omega) (fun a5 c5 y5 hr5 hb5 => ?_)
      have HR5 := Lib.hid hr5
      have HX5 := Lib.hid hb5
      clear hr5 hb5
      refine hK.out _ _ (by (try dsimp only); exact Below.trans hHeld (HX5.out.mono (Below.size hHeld))) (fun hHeld => ?_)
      clear hK K
      refine take_at (i := 5) (v := ?_) rfl rfl (by kernel_rfl) (by kernel_rfl) (by kernel_rfl) (fun _ _ _ h => h) (Or.inl ⟨by rfl, ?_⟩) (by assumption) ?_
      rotate_left
      · intro w0 hSw; (try dsimp only at hSw); first | (go_simp; done) | (go_simp; with_reducible rfl)
      simp only [List.setIfInBounds_toArray, List.set_cons_zero, List.set_cons_succ]
      refine take_at (i := 6) (v := ?_) rfl rfl (by kernel_rfl) (by kernel_rfl) (by kernel_rfl) (fun _ _ _ h => h) (Or.inl ⟨by rfl, ?_⟩) (by assumption) ?_
      rotate_left
      · intro w0 hSw; (try dsimp only at hSw); first | (go_simp; done) | (go_simp; with_reducible rfl)
      simp only [List.setIfInBounds_toArray, List.set_cons_zero, List.set_cons_succ]
      refine wpAnyH_done (by kernel_rfl) ?_ _
      have HB5 := Lib.hid (bthen HB4.out (show Below w4.heap.size w4 y5 from hHeld))
      clear hHeld
      go_wp2_with fail
      go_ret2
      exact ⟨a5, c5, rfl, HR5.out, HB5.out⟩
    exact AllReadyH.nil
  exact AllReadyH.nil
end Go.Proofs.YtjfkhclcjggoeaaDoor
