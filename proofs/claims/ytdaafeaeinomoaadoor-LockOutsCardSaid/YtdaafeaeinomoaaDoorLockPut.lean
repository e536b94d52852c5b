/- What lock.Put comes to: an out's bytes are written. -/
import Derived.Test.YtdaafeaeinomoaaDoorLockBytes
import Derived.Test.YtdaafeaeinomoaaDoorTakeAt
namespace Go.Proofs.YtdaafeaeinomoaaDoor
open Go.RowKit

/-- What lies ahead of a pen's own blocks. -/
def OldB (B pb n : Nat) (a : Option Addr) : Prop := 0 < n → ∀ x, a = some x → x.block < B ∧ x.block ≠ pb
theorem Numbers.butO {w w' : World} {B pb n c : Nat} {a : Option Addr} {zs : List Int} (h : Numbers w a n c zs) (ho : OldB B pb n a) (hb : But B pb w w') : Numbers w' a n c zs := by
  obtain ⟨h1, h2, h3, h4, h6, h5⟩ := h
  refine ⟨h1, h2, h3, h4, h6, fun h0 => ?_⟩
  obtain ⟨b, off, rfl, hlt, hc⟩ := h5 h0
  obtain ⟨g1, g2⟩ := ho h0 _ rfl
  exact ⟨b, off, rfl, Nat.lt_of_lt_of_le hlt hb.size, fun j hj => (hb.cell (a := ⟨b, off + j, none⟩) g1 g2).trans (hc j hj)⟩
theorem Numbers.oldB {w : World} {B pb n c : Nat} {a : Option Addr} {zs : List Int} (h : Numbers w a n c zs) (hB : w.heap.size ≤ B) (hp : w.heap.size ≤ pb) : OldB B pb n a := fun h0 x e => by
  obtain ⟨b, off, e2, hlt, _⟩ := h.2.2.2.2.2 h0
  rw [e] at e2
  cases e2
  exact ⟨Nat.lt_of_lt_of_le hlt hB, by show b ≠ pb; omega⟩
def OldWs (B pb n : Nat) (a : Option Addr) (xs : List PWay) : Prop := OldB B pb n a ∧ ∀ x ∈ xs, OldB B pb x.n x.a
theorem Ways.butO {w w' : World} {B pb n c : Nat} {a : Option Addr} {xs : List PWay} (h : Ways w a n c xs) (ho : OldWs B pb n a xs) (hb : But B pb w w') : Ways w' a n c xs := by
  obtain ⟨h1, h2, h3, h4, h6, h5⟩ := h
  refine ⟨h1, h2, h3, h4, fun x hx => ⟨(h6 x hx).keys.butO (ho.2 x hx) hb, (h6 x hx).sum, (h6 x hx).after, (h6 x hx).wait⟩, fun h0 => ?_⟩
  obtain ⟨b, off, rfl, hlt, hc⟩ := h5 h0
  obtain ⟨g1, g2⟩ := ho.1 h0 _ rfl
  exact ⟨b, off, rfl, Nat.lt_of_lt_of_le hlt hb.size, fun j hj i v hv => (hb.cell (a := ⟨b, off + j * 35 + i, none⟩) g1 g2).trans (hc j hj i v hv)⟩
theorem Ways.oldWs {w : World} {B pb n c : Nat} {a : Option Addr} {xs : List PWay} (h : Ways w a n c xs) (hB : w.heap.size ≤ B) (hp : w.heap.size ≤ pb) : OldWs B pb n a xs := by
  refine ⟨fun h0 x e => ?_, fun x hx => (h.2.2.2.2.1 x hx).keys.oldB hB hp⟩
  obtain ⟨b, off, e2, hlt, _⟩ := h.2.2.2.2.2 h0
  rw [e] at e2
  cases e2
  exact ⟨Nat.lt_of_lt_of_le hlt hB, by show b ≠ pb; omega⟩
/-- What a pen's step leaves. -/
def PStep (B pb : Nat) (w w' : World) : Prop := But B pb w w' ∧ Keeps w w'
theorem kept_way {w w' : World} {g : Nat} {x : PWay} {fr : Nat × Nat} (hk : Keeps w w') (h : w.heap[g]? = some (.cells x.cells.toArray 26 fr)) : w'.heap[g]? = some (.cells x.cells.toArray 26 fr) := (hk g _ _ _ h (by decide) (by decide) (by decide)).trans h
theorem kept_int {w w' : World} {g : Nat} {cs : Array Value} {fr : Nat × Nat} (hk : Keeps w w') (h : w.heap[g]? = some (.cells cs 3 fr)) : w'.heap[g]? = some (.cells cs 3 fr) := (hk g _ _ _ h (by decide) (by decide) (by decide)).trans h
theorem kept_out {w w' : World} {g : Nat} {cs : Array Value} {fr : Nat × Nat} (hk : Keeps w w') (h : w.heap[g]? = some (.cells cs 38 fr)) : w'.heap[g]? = some (.cells cs 38 fr) := (hk g _ _ _ h (by decide) (by decide) (by decide)).trans h
theorem lit2 {w : World} {g B pb : Nat} {y z : Int} {fr : Nat × Nat} (h : w.heap[g]? = some (.cells #[.int .i64 y, .int .i64 z] 3 fr)) : ∀ wr, But B pb w wr → Keeps w wr → ∀ j, j < 2 → wr.cell? ⟨g, 0 + j, none⟩ = some (.int .i64 ([y, z].getD j 0)) := fun wr _ hk j hj => by
  rw [Nat.zero_add, cell_of_row _ _ _ _ _ _ (kept_int hk h)]
  rcases (show j = 0 ∨ j = 1 by omega) with rfl | rfl <;> rfl
theorem two_small {y z : Int} (hy : Fits y) (hz : Fits z) : ∀ v ∈ [y, z], v ≤ 9223372036854775807 := fun v hv => by
  simp at hv
  rcases hv with rfl | rfl
  · exact hy.2
  · exact hz.2
theorem pnums_olds {w W : World} {a : Option Addr} {n c B pb : Nat} {zs : List Int} {l : List UInt8} (hi : Numbers w a n c zs) (ho : OldB B pb n a) (hs : But B pb w W) (hp : PenAt W B pb l) (hbz : B ≤ W.heap.size) (hn : n ≤ 1000) (hl : l.length ≤ 1000000) :
    Calls Tryd.prog 20 #[.pointer (some ⟨pb, 0, none⟩), .slice a n c] W fun r w' => r = .returned (.pointer (some ⟨pb, 0, none⟩)) ∧ PenAt w' B pb (l ++ numsB zs) ∧ But B pb W w' ∧ Keeps W w' := by
  by_cases h0 : 0 < n
  · obtain ⟨b, off, rfl, _, _⟩ := hi.2.2.2.2.2 h0
    refine pnums_typed W hi.1 hi.2.1 hi.2.2.1 (fun z hz => (hi.2.2.2.2.1 z hz).2) (fun wr hb _ j hj => ?_) hp hbz hn hl
    obtain ⟨b', off', e, _, hc⟩ := ((hi.butO ho hs).butO ho hb).2.2.2.2.2 h0
    cases e
    exact hc j hj
  · obtain rfl : n = 0 := by omega
    obtain rfl : zs = [] := List.eq_nil_of_length_eq_zero hi.1
    exact pnums_zero W hp
theorem Tryd.zeroInt : (Tryd.prog.info? 3).map (fun i => (i.zero, i.size, i.bytes)) = some (some (.int .i64 0), 1, 8) := by kernel_rfl
/-- A slice literal of two numbers, in a region. -/
theorem step_two_gen {ops : Array Oper} {o : Oper} {tmps : Array Value} {ds : List Deferred} {w : World} {K : Act → World → Prop} {Q : Exit → Act → World → Prop} {E : Prop} {d : Nat} {u v : Operand} {y z : Int} (hd : o.dst = some d) (hw : Region.wanted o (yielded ops tmps) = true) (ho : o.op = .buildSlice 22 2 #[(0, u), (1, v)])
    (hu : Act.eval { tmps := tmps, defers := ds } u = .int .i64 y) (hv : Act.eval { tmps := tmps, defers := ds } v = .int .i64 z)
    (h : ∀ (p : Nat) (w' : World), w.heap.size ≤ p → w'.heap[p]? = some (.cells #[.int .i64 y, .int .i64 z] 3 (0, 0)) → Below w.heap.size w w' → K { tmps := tmps.setIfInBounds d (.slice (some ⟨p, 0, none⟩) 2 2), defers := ds } w') :
    if Region.wanted o (yielded ops tmps) = true then Oper.wp Tryd.prog o { tmps := tmps, defers := ds } w K Q else E := by
  rw [if_pos hw]
  obtain ⟨ie, h1, h2, h3, _⟩ := info_parts Tryd.zeroInt
  have hrun : (Instr.buildSlice 22 2 #[(0, .int .i64 y), (1, .int .i64 z)]).run Tryd.prog w = .ok (.slice (some ⟨w.heap.size, 0, none⟩) 2 2) (w.alloc (.cells #[.int .i64 y, .int .i64 z] 3)) :=
    run_buildSlice w 22 3 2 _ _ ie _ Tryd.underlying22 h1 h2 (by rw [h3]; omega) (by rw [h3]; omega) (by rw [h3]; simp [Instr.fill, Value.cells]; rw [show Array.range 2 = #[0, 1] by rfl]; simp)
  unfold Oper.wp execOp
  simp only [ho, List.map_toArray, List.map_cons, List.map_nil, hu, hv, Sem.run_bind, hrun, Sem.run_pure, Result.andThen_ok]
  show K (Act.put _ o.dst _) _
  rw [hd]
  exact h _ _ (Nat.le_refl _) (heap_alloc_new _ _) ((Below.refl _ _).alloc (Nat.le_refl _) _)
set_option linter.unusedSimpArgs false in
set_option maxRecDepth 100000 in
set_option maxHeartbeats 12800000 in
theorem lockPut_at {w : World} {B pb n c : Nat} {m : Int} {a : Option Addr} {xs : List PWay} {l : List UInt8} (h : Ways w a n c xs) (ho : OldWs B pb n a xs) (hp : PenAt w B pb l) (hbz : B ≤ w.heap.size) (hm : Fits m) (hn : n ≤ 1000) (hks : ∀ x ∈ xs, x.ks.length ≤ 1000) (hl : l.length + (outB m xs).length ≤ 1000000) :
    Calls Tryd.prog 19 #[.pointer (some ⟨pb, 0, none⟩), .agg #[.int .i64 m, .slice a n c]] w fun e w' => e = .returned (.tuple #[]) ∧ PenAt w' B pb (l ++ outB m xs) ∧ But B pb w w' ∧ Keeps w w' := by
  have hn63 : (n : Int) ≤ 9223372036854775807 := by omega
  have b1 : Below w.heap.size w (w.alloc (.cells #[.int .i64 m, .slice a n c] 38)) := (Below.refl _ _).alloc (Nat.le_refl _) _
  have h1 := heap_alloc_new w (.cells #[.int .i64 m, .slice a n c] 38)
  have HE : Hid (outB m xs = numsB [m, (n : Int)] ++ waysB xs) := Lib.hid (by unfold outB; rw [h.1])
  have H := Lib.hid h
  have HO := Lib.hid ho
  have HP1 := Lib.hid (hp.below hbz b1)
  have HM := Lib.hid hm
  have HKS := Lib.hid hks
  have HL := Lib.hid hl
  clear h ho hp hm hks hl
  go_enter Tryd.func19, Tryd.ntmps19
  go_upto_region 1 with (fail)
  revert b1 h1 HP1
  generalize (w.alloc (.cells #[.int .i64 m, .slice a n c] 38)) = w1
  obtain ⟨g, hg⟩ : ∃ g, g = w.heap.size := ⟨_, rfl⟩
  rw [← hg]
  intro b1 h1 HP1
  rw [hg] at b1
  have hbz1 : B ≤ w1.heap.size := Nat.le_trans hbz b1.size
  have c0 : w1.cell? ⟨g, 0, none⟩ = some (.int .i64 m) := by rw [cell_of_row _ _ _ _ _ _ h1]; rfl
  have c1 : w1.cell? ⟨g, 1, none⟩ = some (.slice a n c) := by rw [cell_of_row _ _ _ _ _ _ h1]; rfl
  have HB1 := Lib.hid b1
  have H1 := Lib.hid h1
  clear b1 h1 hg
  go_wp2_with fail
  have b2 : Below w1.heap.size w1 (w1.alloc (.cells #[.int .i64 m, .int .i64 (n : Int)] 3)) := (Below.refl _ _).alloc (Nat.le_refl _) _
  have hz2 : B ≤ (w1.alloc (.cells #[.int .i64 m, .int .i64 (n : Int)] 3)).heap.size := Nat.le_trans hbz1 b2.size
  have HB2 := Lib.hid b2
  have HZ2 := Lib.hid hz2
  have HLL : Hid (l.length ≤ 1000000) := Lib.hid (by have := HL.out; omega)
  clear b2 hz2
  refine (pnums_typed (n := 2) (c := 2) (off := 0) (zs := [m, (n : Int)]) _ rfl (Nat.le_refl _) (by unfold maxLen; omega) (two_small HM.out ⟨by omega, hn63⟩) (lit2 (heap_alloc_new _ _)) (HP1.out.below hbz1 HB2.out) HZ2.out (by omega) HLL.out).mono ?_
  rintro e w3 ⟨rfl, hp3, hb3, hk3⟩
  have HP3 := Lib.hid hp3
  have HB3 := Lib.hid ((But.of (HB1.out.mono hbz)).trans ((But.of (HB2.out.mono hbz1)).trans hb3))
  have HK3 := Lib.hid ((Keeps.below HB1.out).trans ((Keeps.below HB2.out).trans hk3))
  have h3 := kept_out ((Keeps.below HB2.out).trans hk3) H1.out
  have d1 : w3.cell? ⟨g, 1, none⟩ = some (.slice a n c) := by rw [cell_of_row _ _ _ _ _ _ h3]; rfl
  clear c0 c1 hp3 hb3 hk3 h3 HP1 H1 HB1 HB2 HZ2 HM
  go_wp2_with fail
  clear d1
  go_loopw [17] (fun i wr => ∃ k : Nat, k ≤ n ∧ i = .int .i64 k ∧ PenAt wr B pb (l ++ (numsB [m, (n : Int)] ++ waysB (xs.take k))) ∧ But B pb w wr ∧ Keeps w wr) (fun i _ => n - (intOf i).toNat)
  case atStart => exact ⟨0, Nat.zero_le _, rfl, by have h9 := HP3.out; simpa [waysB] using h9, HB3.out, HK3.out⟩
  case round =>
    obtain ⟨k, hk, rfl, hpk, hbk, hkk⟩ := hrel
    have HPK := Lib.hid hpk
    have HBK := Lib.hid hbk
    have HKK := Lib.hid hkk
    have hbzr : B ≤ wr.heap.size := Nat.le_trans hbz hbk.size
    clear hpk hbk hkk HP3 HB3 HK3
    by_cases hkn : k < n
    · have f1 : (k : Int) < (n : Int) := by omega
      have f0 : (0 : Int) ≤ (k : Int) := by omega
      have ft : ((k : Int)).toNat = k := by omega
      have hkl : k < xs.length := by rw [H.out.1]; exact hkn
      have hwr := H.out.butO HO.out HBK.out
      obtain ⟨b1, o1, e1, hltb, hc1⟩ := hwr.2.2.2.2.2 (by omega)
      have hrx := hc1 k hkn
      have hx := hwr.way hkn
      have hxm : xs.getD k noWay ∈ xs := by
        have e : xs.getD k noWay = xs[k] := by simp [List.getD, hkl]
        rw [e]
        exact List.getElem_mem hkl
      have hox := HO.out.2 _ hxm
      have hkx := HKS.out _ hxm
      have hnx := waysB_take xs k hkl
      have hll : (waysB (xs.take k)).length + (wayB (xs.getD k noWay)).length ≤ (waysB xs).length := by
        have e := congrArg List.length hnx
        have e2 : waysB xs = waysB (xs.take (k + 1)) ++ waysB (xs.drop (k + 1)) := by
          have happ : ∀ (u v : List PWay), waysB (u ++ v) = waysB u ++ waysB v := fun u v => by induction u with
            | nil => rfl
            | cons y u ih => simp [waysB, ih]
          rw [← happ, List.take_append_drop]
        have e3 := congrArg List.length e2
        rw [List.length_append] at e e3
        omega
      revert hrx hx hox hkx hnx hll
      generalize xs.getD k noWay = x
      intro hrx hx hox hkx hnx hll
      subst e1
      obtain ⟨P, hP⟩ : ∃ P, P = l ++ (numsB [m, (n : Int)] ++ waysB (xs.take k)) := ⟨_, rfl⟩
      have HNX : Hid (l ++ (numsB [m, (n : Int)] ++ waysB (xs.take (k + 1))) = P ++ wayB x) := Lib.hid (by rw [hnx, hP]; simp only [List.append_assoc])
      have WB : Hid (wayB x = numB (x.n : Int) ++ (numsB x.ks ++ (x.h ++ numsB [x.after, x.wait]))) := Lib.hid (by unfold wayB; rw [hx.keys.1])
      have HLW : Hid (P.length + (wayB x).length ≤ 1000000) := Lib.hid (by
        have h9 := HL.out
        rw [HE.out] at h9
        rw [hP]
        simp only [List.length_append] at h9 ⊢
        omega)
      rw [← hP] at HPK
      have RX := Lib.hid hrx
      have SX := Lib.hid (way_size hx.sum)
      have AX := Lib.hid (way_sizeA hx.sum)
      have ZX := Lib.hid (way_zero hx.sum)
      have SXH := Lib.hid (sumLen hx.sum)
      have HXS := Lib.hid hx.sum
      have HXA := Lib.hid hx.after
      have HXW := Lib.hid hx.wait
      have HX := Lib.hid hx
      have HOX := Lib.hid hox
      have hx1000 : x.n ≤ 1000 := by rw [← hx.keys.1]; exact hkx
      have hx63 : (x.n : Int) ≤ 9223372036854775807 := by omega
      clear hc1 hrx hx hxm hox hkx hnx hll hP hwr hkl H HO HKS
      go_upto_region 5 with (first | (refine wpList_load_mid rfl 26 _ rfl b1 (o1 + k * 35) rfl x.cells _ RX.out Tryd.underlying26 rfl SX.out ?_) | (refine wpList_store_row rfl 26 _ _ rfl wr.heap.size x.cells.toArray rfl rfl 26 noWay.cells.toArray (heap_alloc_new _ _) AX.out ZX.out (all_oneCell_toArray x.cells_one) ?_) | fail)
      rw [← noWay_is, layWay_is]
      have h5 := layWay_heap wr x
      have b5 := layWay_self wr x
      revert h5 b5
      generalize layWay wr x = w5
      obtain ⟨g5, hg5⟩ : ∃ g5, g5 = wr.heap.size := ⟨_, rfl⟩
      rw [← hg5]
      intro h5 b5
      rw [hg5] at b5
      have H5 := Lib.hid h5
      have hbz5 : B ≤ w5.heap.size := Nat.le_trans hbzr b5.size
      have HPEN0 : Hid (PenAt w5.drew B pb P) := Lib.hid ((HPK.out.below hbzr b5).below hbz5 (below_drew (Below.refl _ _)))
      have HKX := Lib.hid (HX.out.keys.below b5)
      have HBW := Lib.hid (HBK.out.trans (But.of (b5.mono hbzr)))
      have HKP := Lib.hid (HKK.out.trans (Keeps.below b5))
      clear h5 b5 hg5 HPK RX
      try simp only [Act.put]
      refine wp_region_held_drew (S := fun w' => PStep B pb w5 w') (by kernel_rfl) (⟨But.of (below_drew (Below.refl _ _)), fun _ _ _ _ _ _ _ _ => rfl⟩) (fun hHeld => ?_)
      refine take_at (i := 0) (v := ?_) rfl rfl (by kernel_rfl) (by kernel_rfl) (by kernel_rfl) (fun _ _ _ h => h) (Or.inl ⟨by rfl, ?_⟩) (by assumption) ?_
      rotate_left
      · intro w0 hSw; (try dsimp only at hSw); first | (go_simp; done) | (go_simp; with_reducible rfl)
      simp only [List.setIfInBounds_toArray, List.set_cons_zero, List.set_cons_succ]
      refine take_at (i := 1) (v := ?_) rfl rfl (by kernel_rfl) (by kernel_rfl) (by kernel_rfl) (fun _ _ _ h => h) (Or.inl ⟨by rfl, ?_⟩) (by assumption) ?_
      rotate_left
      · intro w0 hSw; (try dsimp only at hSw); first | (go_simp; done) | (go_simp; with_reducible rfl)
      simp only [List.setIfInBounds_toArray, List.set_cons_zero, List.set_cons_succ]
      refine take_at (i := 2) rfl rfl (by kernel_rfl) (by kernel_rfl) (by kernel_rfl) (fun _ _ _ h => h) (yields_cell (by rfl) rfl rfl (b := g5) (o := 0) (fun w0 hSw => way_keys (range_of (kept_way hSw.2 H5.out))) Tryd.isAgg22) (by assumption) ?_
      simp only [List.setIfInBounds_toArray, List.set_cons_zero, List.set_cons_succ]
      refine take_at (i := 3) (v := ?_) rfl rfl (by kernel_rfl) (by kernel_rfl) (by kernel_rfl) (fun _ _ _ h => h) (Or.inl ⟨by rfl, ?_⟩) (by assumption) ?_
      rotate_left
      · intro w0 hSw; (try dsimp only at hSw); first | (go_simp; done) | (go_simp; with_reducible rfl)
      simp only [List.setIfInBounds_toArray, List.set_cons_zero, List.set_cons_succ]
      refine take_at (i := 5) (v := ?_) rfl rfl (by kernel_rfl) (by kernel_rfl) (by kernel_rfl) (fun _ _ _ h => h) (Or.inl ⟨by rfl, ?_⟩) (by assumption) ?_
      rotate_left
      · intro w0 hSw; (try dsimp only at hSw); first | (go_simp; done) | (go_simp; with_reducible rfl)
      simp only [List.setIfInBounds_toArray, List.set_cons_zero, List.set_cons_succ]
      refine take_at (i := 6) rfl rfl (by kernel_rfl) (by kernel_rfl) (by kernel_rfl) (fun _ _ _ h => h) (yields_cell (by rfl) rfl rfl (b := g5) (o := 0) (fun w0 hSw => way_keys (range_of (kept_way hSw.2 H5.out))) Tryd.isAgg22) (by assumption) ?_
      simp only [List.setIfInBounds_toArray, List.set_cons_zero, List.set_cons_succ]
      refine take_at (i := 8) (v := ?_) rfl rfl (by kernel_rfl) (by kernel_rfl) (by kernel_rfl) (fun _ _ _ h => h) (Or.inl ⟨by rfl, ?_⟩) (by assumption) ?_
      rotate_left
      · intro w0 hSw; (try dsimp only at hSw); first | (go_simp; done) | (go_simp; with_reducible rfl)
      simp only [List.setIfInBounds_toArray, List.set_cons_zero, List.set_cons_succ]
      refine take_at (i := 9) rfl rfl (by kernel_rfl) (by kernel_rfl) (by kernel_rfl) (fun _ _ _ h => h) (yieldsIf_load_mid (by rfl) _ _ rfl g5 1 rfl (cellsOf x.h) _ (fun w0 hSw => way_sum HXS.out (range_of (kept_way hSw.2 H5.out))) Tryd.underlying24 rfl SXH.out) (by assumption) ?_
      simp only [List.setIfInBounds_toArray, List.set_cons_zero, List.set_cons_succ]
      refine take_at (i := 11) (v := ?_) rfl rfl (by kernel_rfl) (by kernel_rfl) (by kernel_rfl) (fun _ _ _ h => h) (Or.inl ⟨by rfl, ?_⟩) (by assumption) ?_
      rotate_left
      · intro w0 hSw; (try dsimp only at hSw); first | (go_simp; done) | (go_simp; with_reducible rfl)
      simp only [List.setIfInBounds_toArray, List.set_cons_zero, List.set_cons_succ]
      refine take_at (i := 12) rfl rfl (by kernel_rfl) (by kernel_rfl) (by kernel_rfl) (fun _ _ _ h => h) (yields_cell (by rfl) rfl rfl (b := g5) (o := 33) (fun w0 hSw => way_after HXS.out (range_of (kept_way hSw.2 H5.out))) Tryd.isAgg3) (by assumption) ?_
      simp only [List.setIfInBounds_toArray, List.set_cons_zero, List.set_cons_succ]
      refine take_at (i := 13) (v := ?_) rfl rfl (by kernel_rfl) (by kernel_rfl) (by kernel_rfl) (fun _ _ _ h => h) (Or.inl ⟨by rfl, ?_⟩) (by assumption) ?_
      rotate_left
      · intro w0 hSw; (try dsimp only at hSw); first | (go_simp; done) | (go_simp; with_reducible rfl)
      simp only [List.setIfInBounds_toArray, List.set_cons_zero, List.set_cons_succ]
      refine take_at (i := 14) rfl rfl (by kernel_rfl) (by kernel_rfl) (by kernel_rfl) (fun _ _ _ h => h) (yields_cell (by rfl) rfl rfl (b := g5) (o := 34) (fun w0 hSw => way_wait HXS.out (range_of (kept_way hSw.2 H5.out))) Tryd.isAgg3) (by assumption) ?_
      simp only [List.setIfInBounds_toArray, List.set_cons_zero, List.set_cons_succ]
      refine wpAnyH_ready (rs := [4, 15]) (by kernel_rfl) (by simp) ?_
      refine AllReadyH.cons rfl (fun K hK => ?_) ?_
      · have HZw5drew : Hid (B ≤ (w5.drew).heap.size) := Lib.hid (Nat.le_trans hbz5 hHeld.1.size)
        have hHbw5drew : Hid (But B pb w5 (w5.drew)) := Lib.hid hHeld.1
        have HLENw5drew : Hid ((P).length + 0 ≤ P.length + (wayB x).length) := Lib.hid (by rw [WB.out]; simp only [List.length_append]; omega)
        go_simp
        go_wp2_with ((go_at_call 21; (with_reducible refine (pnum_typed (x.n : Int) HPEN0.out HZw5drew.out (by have h0 := HLW.out; have h1 := HLENw5drew.out; omega) hx63).mono ?_); rintro e y4 ⟨rfl, hp, hb, hk⟩; have HPy4 := Lib.hid hp; have HSy4 : Hid (PStep B pb _ y4) := Lib.hid ⟨hb, hk⟩; clear hp hb hk))
        refine hK.out _ _ (by (try dsimp only); exact ⟨hHeld.1.trans HSy4.out.1, hHeld.2.trans HSy4.out.2⟩) (fun hHeld => ?_)
        clear hK K
        refine wpAnyH_ready (rs := [7, 15]) (by kernel_rfl) (by simp) ?_
        refine AllReadyH.cons rfl (fun K hK => ?_) ?_
        · have HZy4 : Hid (B ≤ (y4).heap.size) := Lib.hid (Nat.le_trans hbz5 hHeld.1.size)
          have hHby4 : Hid (But B pb w5 (y4)) := Lib.hid hHeld.1
          have HLENy4 : Hid (((P ++ (numB (x.n : Int)))).length + 0 ≤ P.length + (wayB x).length) := Lib.hid (by rw [WB.out]; simp only [List.length_append]; omega)
          go_simp
          go_wp2_with ((go_at_call 20; (with_reducible refine (pnums_olds HKX.out HOX.out (hHby4.out) HPy4.out HZy4.out hx1000 (by have h0 := HLW.out; have h1 := HLENy4.out; omega)).mono ?_); rintro e y7 ⟨rfl, hp, hb, hk⟩; have HPy7 := Lib.hid hp; have HSy7 : Hid (PStep B pb _ y7) := Lib.hid ⟨hb, hk⟩; clear hp hb hk))
          refine hK.out _ _ (by (try dsimp only); exact ⟨hHeld.1.trans HSy7.out.1, hHeld.2.trans HSy7.out.2⟩) (fun hHeld => ?_)
          clear hK K
          refine wpAnyH_ready (rs := [10, 15]) (by kernel_rfl) (by simp) ?_
          refine AllReadyH.cons rfl (fun K hK => ?_) ?_
          · have HZy7 : Hid (B ≤ (y7).heap.size) := Lib.hid (Nat.le_trans hbz5 hHeld.1.size)
            have hHby7 : Hid (But B pb w5 (y7)) := Lib.hid hHeld.1
            have HLENy7 : Hid ((((P ++ (numB (x.n : Int))) ++ (numsB x.ks))).length + 0 ≤ P.length + (wayB x).length) := Lib.hid (by rw [WB.out]; simp only [List.length_append]; omega)
            go_simp
            go_wp2_with ((go_at_call 22; (with_reducible refine (psum_typed _ HXS.out HPy7.out HZy7.out (by have h0 := HLW.out; have h1 := HLENy7.out; omega)).mono ?_); rintro e y10 ⟨rfl, hp, hb, hk⟩; have HPy10 := Lib.hid hp; have HSy10 : Hid (PStep B pb _ y10) := Lib.hid ⟨hb, hk⟩; clear hp hb hk))
            refine hK.out _ _ (by (try dsimp only); exact ⟨hHeld.1.trans HSy10.out.1, hHeld.2.trans HSy10.out.2⟩) (fun hHeld => ?_)
            clear hK K
            refine wpAnyH_ready (rs := [15]) (by kernel_rfl) (by simp) ?_
            refine AllReadyH.cons rfl (fun K hK => ?_) ?_
            · refine step_two_gen (d := 36) (y := x.after) (z := x.wait) rfl (by rfl) rfl (by rfl) (by rfl) ?_
              intro p z3 hgp hlit hbl
              have LIT := Lib.hid hlit
              have HPz3 := Lib.hid (PenAt.below HPy10.out (Nat.le_trans hbz5 hHeld.1.size) hbl)
              have HSz3 : Hid (PStep B pb _ z3) := Lib.hid ⟨But.of (hbl.mono (Nat.le_trans hbz5 hHeld.1.size)), Keeps.below hbl⟩
              clear hlit hbl hgp
              refine hK.out _ _ (by (try dsimp only); exact ⟨hHeld.1.trans HSz3.out.1, hHeld.2.trans HSz3.out.2⟩) (fun hHeld => ?_)
              clear hK K
              refine wpAnyH_ready (rs := [16]) (by kernel_rfl) (by simp) ?_
              refine AllReadyH.cons rfl (fun K hK => ?_) ?_
              · have HZz3 : Hid (B ≤ (z3).heap.size) := Lib.hid (Nat.le_trans hbz5 hHeld.1.size)
                have hHbz3 : Hid (But B pb w5 (z3)) := Lib.hid hHeld.1
                have HLENz3 : Hid (((((P ++ (numB (x.n : Int))) ++ (numsB x.ks)) ++ x.h)).length + 0 ≤ P.length + (wayB x).length) := Lib.hid (by rw [WB.out]; simp only [List.length_append]; omega)
                go_simp
                go_wp2_with ((go_at_call 20; (with_reducible refine (pnums_typed (n := 2) (c := 2) (off := 0) _ rfl (Nat.le_refl _) (by unfold maxLen; omega) (two_small HXA.out HXW.out) (lit2 LIT.out) HPz3.out HZz3.out (by omega) (by have h0 := HLW.out; have h1 := HLENz3.out; omega)).mono ?_); rintro e y16b ⟨rfl, hp, hb, hk⟩; have HPy16b := Lib.hid hp; have HSy16b : Hid (PStep B pb _ y16b) := Lib.hid ⟨hb, hk⟩; clear hp hb hk))
                refine hK.out _ _ (by (try dsimp only); exact ⟨hHeld.1.trans HSy16b.out.1, hHeld.2.trans HSy16b.out.2⟩) (fun hHeld => ?_)
                clear hK K
                refine wpAnyH_done (by kernel_rfl) ?_ _
                have HS := Lib.hid (show PStep B pb w5 y16b from hHeld)
                clear hHeld
                have HPE : Hid (PenAt y16b B pb (l ++ (numsB [m, (n : Int)] ++ waysB (xs.take (k + 1))))) := Lib.hid (by have h9 := HPy16b.out; rw [HNX.out, WB.out]; simpa only [List.append_assoc] using h9)
                go_wp2_with fail
                go_roundw
                case rel => exact ⟨k + 1, by omega, by go_num, HPE.out, HBW.out.trans HS.out.1, HKP.out.trans HS.out.2⟩
                case measure => simp [intOf]; omega
              exact AllReadyH.nil
            exact AllReadyH.nil
          refine AllReadyH.cons rfl (fun K hK => ?_) ?_
          · refine step_two_gen (d := 36) (y := x.after) (z := x.wait) rfl (by rfl) rfl (by rfl) (by rfl) ?_
            intro p z2 hgp hlit hbl
            have LIT := Lib.hid hlit
            have HPz2 := Lib.hid (PenAt.below HPy7.out (Nat.le_trans hbz5 hHeld.1.size) hbl)
            have HSz2 : Hid (PStep B pb _ z2) := Lib.hid ⟨But.of (hbl.mono (Nat.le_trans hbz5 hHeld.1.size)), Keeps.below hbl⟩
            clear hlit hbl hgp
            refine hK.out _ _ (by (try dsimp only); exact ⟨hHeld.1.trans HSz2.out.1, hHeld.2.trans HSz2.out.2⟩) (fun hHeld => ?_)
            clear hK K
            refine wpAnyH_ready (rs := [10]) (by kernel_rfl) (by simp) ?_
            refine AllReadyH.cons rfl (fun K hK => ?_) ?_
            · have HZz2 : Hid (B ≤ (z2).heap.size) := Lib.hid (Nat.le_trans hbz5 hHeld.1.size)
              have hHbz2 : Hid (But B pb w5 (z2)) := Lib.hid hHeld.1
              have HLENz2 : Hid ((((P ++ (numB (x.n : Int))) ++ (numsB x.ks))).length + 0 ≤ P.length + (wayB x).length) := Lib.hid (by rw [WB.out]; simp only [List.length_append]; omega)
              go_simp
              go_wp2_with ((go_at_call 22; (with_reducible refine (psum_typed _ HXS.out HPz2.out HZz2.out (by have h0 := HLW.out; have h1 := HLENz2.out; omega)).mono ?_); rintro e y10b ⟨rfl, hp, hb, hk⟩; have HPy10b := Lib.hid hp; have HSy10b : Hid (PStep B pb _ y10b) := Lib.hid ⟨hb, hk⟩; clear hp hb hk))
              have LIT0 := LIT.out
              have LIT := Lib.hid (kept_int HSy10b.out.2 LIT0)
              clear LIT0
              refine hK.out _ _ (by (try dsimp only); exact ⟨hHeld.1.trans HSy10b.out.1, hHeld.2.trans HSy10b.out.2⟩) (fun hHeld => ?_)
              clear hK K
              refine wpAnyH_ready (rs := [16]) (by kernel_rfl) (by simp) ?_
              refine AllReadyH.cons rfl (fun K hK => ?_) ?_
              · have HZy10b : Hid (B ≤ (y10b).heap.size) := Lib.hid (Nat.le_trans hbz5 hHeld.1.size)
                have hHby10b : Hid (But B pb w5 (y10b)) := Lib.hid hHeld.1
                have HLENy10b : Hid (((((P ++ (numB (x.n : Int))) ++ (numsB x.ks)) ++ x.h)).length + 0 ≤ P.length + (wayB x).length) := Lib.hid (by rw [WB.out]; simp only [List.length_append]; omega)
                go_simp
                go_wp2_with ((go_at_call 20; (with_reducible refine (pnums_typed (n := 2) (c := 2) (off := 0) _ rfl (Nat.le_refl _) (by unfold maxLen; omega) (two_small HXA.out HXW.out) (lit2 LIT.out) HPy10b.out HZy10b.out (by omega) (by have h0 := HLW.out; have h1 := HLENy10b.out; omega)).mono ?_); rintro e y16b ⟨rfl, hp, hb, hk⟩; have HPy16b := Lib.hid hp; have HSy16b : Hid (PStep B pb _ y16b) := Lib.hid ⟨hb, hk⟩; clear hp hb hk))
                refine hK.out _ _ (by (try dsimp only); exact ⟨hHeld.1.trans HSy16b.out.1, hHeld.2.trans HSy16b.out.2⟩) (fun hHeld => ?_)
                clear hK K
                refine wpAnyH_done (by kernel_rfl) ?_ _
                have HS := Lib.hid (show PStep B pb w5 y16b from hHeld)
                clear hHeld
                have HPE : Hid (PenAt y16b B pb (l ++ (numsB [m, (n : Int)] ++ waysB (xs.take (k + 1))))) := Lib.hid (by have h9 := HPy16b.out; rw [HNX.out, WB.out]; simpa only [List.append_assoc] using h9)
                go_wp2_with fail
                go_roundw
                case rel => exact ⟨k + 1, by omega, by go_num, HPE.out, HBW.out.trans HS.out.1, HKP.out.trans HS.out.2⟩
                case measure => simp [intOf]; omega
              exact AllReadyH.nil
            exact AllReadyH.nil
          exact AllReadyH.nil
        refine AllReadyH.cons rfl (fun K hK => ?_) ?_
        · refine step_two_gen (d := 36) (y := x.after) (z := x.wait) rfl (by rfl) rfl (by rfl) (by rfl) ?_
          intro p z1 hgp hlit hbl
          have LIT := Lib.hid hlit
          have HPz1 := Lib.hid (PenAt.below HPy4.out (Nat.le_trans hbz5 hHeld.1.size) hbl)
          have HSz1 : Hid (PStep B pb _ z1) := Lib.hid ⟨But.of (hbl.mono (Nat.le_trans hbz5 hHeld.1.size)), Keeps.below hbl⟩
          clear hlit hbl hgp
          refine hK.out _ _ (by (try dsimp only); exact ⟨hHeld.1.trans HSz1.out.1, hHeld.2.trans HSz1.out.2⟩) (fun hHeld => ?_)
          clear hK K
          refine wpAnyH_ready (rs := [7]) (by kernel_rfl) (by simp) ?_
          refine AllReadyH.cons rfl (fun K hK => ?_) ?_
          · have HZz1 : Hid (B ≤ (z1).heap.size) := Lib.hid (Nat.le_trans hbz5 hHeld.1.size)
            have hHbz1 : Hid (But B pb w5 (z1)) := Lib.hid hHeld.1
            have HLENz1 : Hid (((P ++ (numB (x.n : Int)))).length + 0 ≤ P.length + (wayB x).length) := Lib.hid (by rw [WB.out]; simp only [List.length_append]; omega)
            go_simp
            go_wp2_with ((go_at_call 20; (with_reducible refine (pnums_olds HKX.out HOX.out (hHbz1.out) HPz1.out HZz1.out hx1000 (by have h0 := HLW.out; have h1 := HLENz1.out; omega)).mono ?_); rintro e y7b ⟨rfl, hp, hb, hk⟩; have HPy7b := Lib.hid hp; have HSy7b : Hid (PStep B pb _ y7b) := Lib.hid ⟨hb, hk⟩; clear hp hb hk))
            have LIT0 := LIT.out
            have LIT := Lib.hid (kept_int HSy7b.out.2 LIT0)
            clear LIT0
            refine hK.out _ _ (by (try dsimp only); exact ⟨hHeld.1.trans HSy7b.out.1, hHeld.2.trans HSy7b.out.2⟩) (fun hHeld => ?_)
            clear hK K
            refine wpAnyH_ready (rs := [10]) (by kernel_rfl) (by simp) ?_
            refine AllReadyH.cons rfl (fun K hK => ?_) ?_
            · have HZy7b : Hid (B ≤ (y7b).heap.size) := Lib.hid (Nat.le_trans hbz5 hHeld.1.size)
              have hHby7b : Hid (But B pb w5 (y7b)) := Lib.hid hHeld.1
              have HLENy7b : Hid ((((P ++ (numB (x.n : Int))) ++ (numsB x.ks))).length + 0 ≤ P.length + (wayB x).length) := Lib.hid (by rw [WB.out]; simp only [List.length_append]; omega)
              go_simp
              go_wp2_with ((go_at_call 22; (with_reducible refine (psum_typed _ HXS.out HPy7b.out HZy7b.out (by have h0 := HLW.out; have h1 := HLENy7b.out; omega)).mono ?_); rintro e y10b ⟨rfl, hp, hb, hk⟩; have HPy10b := Lib.hid hp; have HSy10b : Hid (PStep B pb _ y10b) := Lib.hid ⟨hb, hk⟩; clear hp hb hk))
              have LIT0 := LIT.out
              have LIT := Lib.hid (kept_int HSy10b.out.2 LIT0)
              clear LIT0
              refine hK.out _ _ (by (try dsimp only); exact ⟨hHeld.1.trans HSy10b.out.1, hHeld.2.trans HSy10b.out.2⟩) (fun hHeld => ?_)
              clear hK K
              refine wpAnyH_ready (rs := [16]) (by kernel_rfl) (by simp) ?_
              refine AllReadyH.cons rfl (fun K hK => ?_) ?_
              · have HZy10b : Hid (B ≤ (y10b).heap.size) := Lib.hid (Nat.le_trans hbz5 hHeld.1.size)
                have hHby10b : Hid (But B pb w5 (y10b)) := Lib.hid hHeld.1
                have HLENy10b : Hid (((((P ++ (numB (x.n : Int))) ++ (numsB x.ks)) ++ x.h)).length + 0 ≤ P.length + (wayB x).length) := Lib.hid (by rw [WB.out]; simp only [List.length_append]; omega)
                go_simp
                go_wp2_with ((go_at_call 20; (with_reducible refine (pnums_typed (n := 2) (c := 2) (off := 0) _ rfl (Nat.le_refl _) (by unfold maxLen; omega) (two_small HXA.out HXW.out) (lit2 LIT.out) HPy10b.out HZy10b.out (by omega) (by have h0 := HLW.out; have h1 := HLENy10b.out; omega)).mono ?_); rintro e y16b ⟨rfl, hp, hb, hk⟩; have HPy16b := Lib.hid hp; have HSy16b : Hid (PStep B pb _ y16b) := Lib.hid ⟨hb, hk⟩; clear hp hb hk))
                refine hK.out _ _ (by (try dsimp only); exact ⟨hHeld.1.trans HSy16b.out.1, hHeld.2.trans HSy16b.out.2⟩) (fun hHeld => ?_)
                clear hK K
                refine wpAnyH_done (by kernel_rfl) ?_ _
                have HS := Lib.hid (show PStep B pb w5 y16b from hHeld)
                clear hHeld
                have HPE : Hid (PenAt y16b B pb (l ++ (numsB [m, (n : Int)] ++ waysB (xs.take (k + 1))))) := Lib.hid (by have h9 := HPy16b.out; rw [HNX.out, WB.out]; simpa only [List.append_assoc] using h9)
                go_wp2_with fail
                go_roundw
                case rel => exact ⟨k + 1, by omega, by go_num, HPE.out, HBW.out.trans HS.out.1, HKP.out.trans HS.out.2⟩
                case measure => simp [intOf]; omega
              exact AllReadyH.nil
            exact AllReadyH.nil
          exact AllReadyH.nil
        exact AllReadyH.nil
      refine AllReadyH.cons rfl (fun K hK => ?_) ?_
      · refine step_two_gen (d := 36) (y := x.after) (z := x.wait) rfl (by rfl) rfl (by rfl) (by rfl) ?_
        intro p z0 hgp hlit hbl
        have LIT := Lib.hid hlit
        have HPz0 := Lib.hid (PenAt.below HPEN0.out (Nat.le_trans hbz5 hHeld.1.size) hbl)
        have HSz0 : Hid (PStep B pb _ z0) := Lib.hid ⟨But.of (hbl.mono (Nat.le_trans hbz5 hHeld.1.size)), Keeps.below hbl⟩
        clear hlit hbl hgp
        refine hK.out _ _ (by (try dsimp only); exact ⟨hHeld.1.trans HSz0.out.1, hHeld.2.trans HSz0.out.2⟩) (fun hHeld => ?_)
        clear hK K
        refine wpAnyH_ready (rs := [4]) (by kernel_rfl) (by simp) ?_
        refine AllReadyH.cons rfl (fun K hK => ?_) ?_
        · have HZz0 : Hid (B ≤ (z0).heap.size) := Lib.hid (Nat.le_trans hbz5 hHeld.1.size)
          have hHbz0 : Hid (But B pb w5 (z0)) := Lib.hid hHeld.1
          have HLENz0 : Hid ((P).length + 0 ≤ P.length + (wayB x).length) := Lib.hid (by rw [WB.out]; simp only [List.length_append]; omega)
          go_simp
          go_wp2_with ((go_at_call 21; (with_reducible refine (pnum_typed (x.n : Int) HPz0.out HZz0.out (by have h0 := HLW.out; have h1 := HLENz0.out; omega) hx63).mono ?_); rintro e y4b ⟨rfl, hp, hb, hk⟩; have HPy4b := Lib.hid hp; have HSy4b : Hid (PStep B pb _ y4b) := Lib.hid ⟨hb, hk⟩; clear hp hb hk))
          have LIT0 := LIT.out
          have LIT := Lib.hid (kept_int HSy4b.out.2 LIT0)
          clear LIT0
          refine hK.out _ _ (by (try dsimp only); exact ⟨hHeld.1.trans HSy4b.out.1, hHeld.2.trans HSy4b.out.2⟩) (fun hHeld => ?_)
          clear hK K
          refine wpAnyH_ready (rs := [7]) (by kernel_rfl) (by simp) ?_
          refine AllReadyH.cons rfl (fun K hK => ?_) ?_
          · have HZy4b : Hid (B ≤ (y4b).heap.size) := Lib.hid (Nat.le_trans hbz5 hHeld.1.size)
            have hHby4b : Hid (But B pb w5 (y4b)) := Lib.hid hHeld.1
            have HLENy4b : Hid (((P ++ (numB (x.n : Int)))).length + 0 ≤ P.length + (wayB x).length) := Lib.hid (by rw [WB.out]; simp only [List.length_append]; omega)
            go_simp
            go_wp2_with ((go_at_call 20; (with_reducible refine (pnums_olds HKX.out HOX.out (hHby4b.out) HPy4b.out HZy4b.out hx1000 (by have h0 := HLW.out; have h1 := HLENy4b.out; omega)).mono ?_); rintro e y7b ⟨rfl, hp, hb, hk⟩; have HPy7b := Lib.hid hp; have HSy7b : Hid (PStep B pb _ y7b) := Lib.hid ⟨hb, hk⟩; clear hp hb hk))
            have LIT0 := LIT.out
            have LIT := Lib.hid (kept_int HSy7b.out.2 LIT0)
            clear LIT0
            refine hK.out _ _ (by (try dsimp only); exact ⟨hHeld.1.trans HSy7b.out.1, hHeld.2.trans HSy7b.out.2⟩) (fun hHeld => ?_)
            clear hK K
            refine wpAnyH_ready (rs := [10]) (by kernel_rfl) (by simp) ?_
            refine AllReadyH.cons rfl (fun K hK => ?_) ?_
            · have HZy7b : Hid (B ≤ (y7b).heap.size) := Lib.hid (Nat.le_trans hbz5 hHeld.1.size)
              have hHby7b : Hid (But B pb w5 (y7b)) := Lib.hid hHeld.1
              have HLENy7b : Hid ((((P ++ (numB (x.n : Int))) ++ (numsB x.ks))).length + 0 ≤ P.length + (wayB x).length) := Lib.hid (by rw [WB.out]; simp only [List.length_append]; omega)
              go_simp
              go_wp2_with ((go_at_call 22; (with_reducible refine (psum_typed _ HXS.out HPy7b.out HZy7b.out (by have h0 := HLW.out; have h1 := HLENy7b.out; omega)).mono ?_); rintro e y10b ⟨rfl, hp, hb, hk⟩; have HPy10b := Lib.hid hp; have HSy10b : Hid (PStep B pb _ y10b) := Lib.hid ⟨hb, hk⟩; clear hp hb hk))
              have LIT0 := LIT.out
              have LIT := Lib.hid (kept_int HSy10b.out.2 LIT0)
              clear LIT0
              refine hK.out _ _ (by (try dsimp only); exact ⟨hHeld.1.trans HSy10b.out.1, hHeld.2.trans HSy10b.out.2⟩) (fun hHeld => ?_)
              clear hK K
              refine wpAnyH_ready (rs := [16]) (by kernel_rfl) (by simp) ?_
              refine AllReadyH.cons rfl (fun K hK => ?_) ?_
              · have HZy10b : Hid (B ≤ (y10b).heap.size) := Lib.hid (Nat.le_trans hbz5 hHeld.1.size)
                have hHby10b : Hid (But B pb w5 (y10b)) := Lib.hid hHeld.1
                have HLENy10b : Hid (((((P ++ (numB (x.n : Int))) ++ (numsB x.ks)) ++ x.h)).length + 0 ≤ P.length + (wayB x).length) := Lib.hid (by rw [WB.out]; simp only [List.length_append]; omega)
                go_simp
                go_wp2_with ((go_at_call 20; (with_reducible refine (pnums_typed (n := 2) (c := 2) (off := 0) _ rfl (Nat.le_refl _) (by unfold maxLen; omega) (two_small HXA.out HXW.out) (lit2 LIT.out) HPy10b.out HZy10b.out (by omega) (by have h0 := HLW.out; have h1 := HLENy10b.out; omega)).mono ?_); rintro e y16b ⟨rfl, hp, hb, hk⟩; have HPy16b := Lib.hid hp; have HSy16b : Hid (PStep B pb _ y16b) := Lib.hid ⟨hb, hk⟩; clear hp hb hk))
                refine hK.out _ _ (by (try dsimp only); exact ⟨hHeld.1.trans HSy16b.out.1, hHeld.2.trans HSy16b.out.2⟩) (fun hHeld => ?_)
                clear hK K
                refine wpAnyH_done (by kernel_rfl) ?_ _
                have HS := Lib.hid (show PStep B pb w5 y16b from hHeld)
                clear hHeld
                have HPE : Hid (PenAt y16b B pb (l ++ (numsB [m, (n : Int)] ++ waysB (xs.take (k + 1))))) := Lib.hid (by have h9 := HPy16b.out; rw [HNX.out, WB.out]; simpa only [List.append_assoc] using h9)
                go_wp2_with fail
                go_roundw
                case rel => exact ⟨k + 1, by omega, by go_num, HPE.out, HBW.out.trans HS.out.1, HKP.out.trans HS.out.2⟩
                case measure => simp [intOf]; omega
              exact AllReadyH.nil
            exact AllReadyH.nil
          exact AllReadyH.nil
        exact AllReadyH.nil
      exact AllReadyH.nil
    · obtain rfl : k = n := by omega
      have f1 : ¬ ((k : Int) < (k : Int)) := by omega
      have htk : xs.take k = xs := List.take_of_length_le (by rw [H.out.1]; exact Nat.le_refl _)
      have HPE : Hid (PenAt wr B pb (l ++ outB m xs)) := Lib.hid (by rw [HE.out]; have h9 := HPK.out; rw [htk] at h9; exact h9)
      clear htk
      go_wp2
      go_end0
      exact ⟨rfl, HPE.out, HBK.out, HKK.out⟩
end Go.Proofs.YtdaafeaeinomoaaDoor
