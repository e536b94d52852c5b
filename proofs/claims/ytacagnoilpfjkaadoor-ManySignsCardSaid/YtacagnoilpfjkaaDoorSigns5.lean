/- The walk of ManySigns. -/
import Derived.Test.YtacagnoilpfjkaaDoorAwake5
import Derived.Test.YtacagnoilpfjkaaDoorLeaves5
import Derived.Test.YtacagnoilpfjkaaDoorCut
import Derived.Test.YtacagnoilpfjkaaDoorKeep
namespace Go.Proofs.YtacagnoilpfjkaaDoor
open Go.RowKit

theorem Tryd.zeroByte : (Tryd.prog.info? 5).map (fun i => (i.zero, i.size, i.bytes)) = some (some (.int .u8 0), 1, 1) := by kernel_rfl
/-- A slice literal of one byte, in a region. -/
theorem step_byte1_gen {ops : Array Oper} {o : Oper} {tmps : Array Value} {ds : List Deferred} {w : World} {K : Act → World → Prop} {Q : Exit → Act → World → Prop} {E : Prop} {d : Nat} {x : Operand} {b : UInt8} {z : Int} (hd : o.dst = some d) (hw : Region.wanted o (yielded ops tmps) = true) (ho : o.op = .buildSlice 37 1 #[(0, x)])
    (hx : Act.eval { tmps := tmps, defers := ds } x = .int .u8 z) (hz : ((b.toNat : Nat) : Int) = z)
    (h : ∀ (p : Nat) (w' : World), w.heap.size ≤ p → Row w' (some ⟨p, 0, none⟩) 1 1 [b] → Below w.heap.size w w' → K { tmps := tmps.setIfInBounds d (.slice (some ⟨p, 0, none⟩) 1 1), defers := ds } w') :
    if Region.wanted o (yielded ops tmps) = true then Oper.wp Tryd.prog o { tmps := tmps, defers := ds } w K Q else E := by
  rw [if_pos hw]
  obtain ⟨ie, h1, h2, h3, _⟩ := info_parts Tryd.zeroByte
  have hrun : (Instr.buildSlice 37 1 #[(0, .int .u8 z)]).run Tryd.prog w = .ok (.slice (some ⟨w.heap.size, 0, none⟩) 1 1) (w.alloc (.cells #[.int .u8 z] 5)) :=
    run_buildSlice w 37 5 1 _ _ ie _ Tryd.underlying37 h1 h2 (by rw [h3]; omega) (by rw [h3]; omega) (by rw [h3]; simp [Instr.fill, Value.cells]; rw [show Array.range 1 = #[0] by rfl]; simp)
  unfold Oper.wp execOp
  simp only [ho, List.map_toArray, List.map_cons, List.map_nil, hx, Sem.run_bind, hrun, Sem.run_pure, Result.andThen_ok]
  show K (Act.put _ o.dst _) _
  rw [hd]
  refine h _ _ (Nat.le_refl _) (row_all (l := [b]) (t := 5) (fr := (0, 0)) ?_ 1 rfl (by omega)) ((Below.refl _ _).alloc (Nat.le_refl _) _)
  rw [show (cellsOf [b]).toArray = #[.int .u8 z] by rw [← hz]; rfl]
  exact heap_alloc_new _ _
/-- A slice literal of two slices of bytes, in a region. -/
theorem step_rows2_gen {ops : Array Oper} {o : Oper} {tmps : Array Value} {ds : List Deferred} {w : World} {K : Act → World → Prop} {Q : Exit → Act → World → Prop} {E : Prop} {d : Nat} {x y : Operand} {a1 a2 : Option Addr} {n1 n2 c1 c2 : Nat} (hd : o.dst = some d) (hw : Region.wanted o (yielded ops tmps) = true) (ho : o.op = .buildSlice 36 2 #[(0, x), (1, y)])
    (hx : Act.eval { tmps := tmps, defers := ds } x = .slice a1 n1 c1) (hy : Act.eval { tmps := tmps, defers := ds } y = .slice a2 n2 c2)
    (h : ∀ (p : Nat) (w' : World), w.heap.size ≤ p → w'.heap[p]? = some (.cells #[.slice a1 n1 c1, .slice a2 n2 c2] 37 (0, 0)) → Below w.heap.size w w' → K { tmps := tmps.setIfInBounds d (.slice (some ⟨p, 0, none⟩) 2 2), defers := ds } w') :
    if Region.wanted o (yielded ops tmps) = true then Oper.wp Tryd.prog o { tmps := tmps, defers := ds } w K Q else E := by
  rw [if_pos hw]
  obtain ⟨ie, h1, h2, h3, _⟩ := info_parts Tryd.zeroRow
  have hrun : (Instr.buildSlice 36 2 #[(0, .slice a1 n1 c1), (1, .slice a2 n2 c2)]).run Tryd.prog w = .ok (.slice (some ⟨w.heap.size, 0, none⟩) 2 2) (w.alloc (.cells #[.slice a1 n1 c1, .slice a2 n2 c2] 37)) :=
    run_buildSlice w 36 37 2 _ _ ie _ Tryd.underlying36 h1 h2 (by rw [h3]; omega) (by rw [h3]; omega) (by rw [h3]; simp [Instr.fill, Value.cells]; rw [show Array.range 2 = #[0, 1] by rfl]; simp)
  unfold Oper.wp execOp
  simp only [ho, List.map_toArray, List.map_cons, List.map_nil, hx, hy, Sem.run_bind, hrun, Sem.run_pure, Result.andThen_ok]
  show K (Act.put _ o.dst _) _
  rw [hd]
  exact h _ _ (Nat.le_refl _) (heap_alloc_new _ _) ((Below.refl _ _).alloc (Nat.le_refl _) _)
/-- 'string(b)', carried out. -/
theorem step_conv {ops : Array Oper} {o : Oper} {tmps : Array Value} {ds : List Deferred} {w : World} {K : Act → World → Prop} {Q : Exit → Act → World → Prop} {E : Prop} {d : Nat} {x : Operand} {a : Option Addr} {n c : Nat} {l : List UInt8} {bs : ByteArray} (hd : o.dst = some d) (hw : Region.wanted o (yielded ops tmps) = true) (ho : o.op = .convert 37 9 x)
    (hx : Act.eval { tmps := tmps, defers := ds } x = .slice a n c) (hb : (⟨l.toArray⟩ : ByteArray) = bs) (hr : Row w a n c l)
    (h : K { tmps := tmps.setIfInBounds d (.string bs), defers := ds } w) :
    if Region.wanted o (yielded ops tmps) = true then Oper.wp Tryd.prog o { tmps := tmps, defers := ds } w K Q else E := by
  rw [if_pos hw]
  have hc := conv_row hr
  rw [hb] at hc
  unfold Oper.wp execOp
  simp only [ho, hx, Sem.run_bind, hc, Result.andThen_ok, Sem.run_pure]
  show K (Act.put _ o.dst _) _
  rw [hd]
  exact h
set_option linter.unusedSimpArgs false in
set_option maxRecDepth 100000 in
set_option maxHeartbeats 25600000 in
theorem signs5_few {w : World} {s : List UInt8} {a : Option Addr} {m c : Nat} (n : Int) (hk : KsAt w) (h : 4 < n ∨ n < 1) :
    Calls Tryd.prog 4 #[.agg (cellsOf s).toArray, .int .i64 n, .slice a m c] w fun e w' => e = .returned (.bool true) ∧ Below w.heap.size w w' := by
  have haw : ∀ (W : World), KsAt W → Calls Tryd.prog 6 #[] W fun e w' => e = .returned (.bool true) ∧ Below W.heap.size W w' := fun W hW => awake5_any hW
  have HK := Lib.hid hk
  have HAW := Lib.hid haw
  have hh : 4 < n ∨ (¬ 4 < n ∧ n < 1) := by omega
  clear hk haw h
  rcases hh with d1 | ⟨d1, d2⟩
  all_goals
    go_enter Tryd.func4, Tryd.ntmps4
    go_upto_region 1 with (fail)
    have b1 : Below w.heap.size w (w.alloc (.cells (cellsOf s).toArray 23)) := (Below.refl _ _).alloc (Nat.le_refl _) _
    have h1' : (w.alloc (.cells (cellsOf s).toArray 23)).heap[w.heap.size]? = some (.cells (cellsOf s).toArray 23 (0, 0)) := heap_alloc_new _ _
    revert b1 h1'
    generalize (w.alloc (.cells (cellsOf s).toArray 23)) = w1
    obtain ⟨q, hq⟩ : ∃ q, q = w.heap.size := ⟨_, rfl⟩
    rw [← hq]
    intro b1 h1'
    rw [hq] at b1
    have HB1 := Lib.hid b1
    have HQ1 := Lib.hid h1'
    have HK1 := Lib.hid (HK.out.below b1)
    clear b1 h1' hq
    go_wp2_with fail
    refine (HAW.out _ HK1.out).mono ?_
    rintro e w2 ⟨rfl, hb2⟩
    have HB2 := Lib.hid (HB1.out.trans (hb2.mono HB1.out.size))
    clear hb2
    go_wp2_with fail
    go_ret
    exact ⟨rfl, HB2.out⟩
set_option linter.unusedSimpArgs false in
set_option maxRecDepth 100000 in
set_option maxHeartbeats 25600000 in
theorem signs5_in {w : World} {s : List UInt8} {a : Option Addr} {m c : Nat} {ps : List (List UInt8)} (n : Nat) (hs : s.length = 32) (h : Rows2 w a m c ps) (hk : KsAt w) (h1 : 1 ≤ n) (h4 : n ≤ 4) :
    Calls Tryd.prog 4 #[.agg (cellsOf s).toArray, .int .i64 (n : Int), .slice a m c] w fun e w' => e = .returned (.bool true) ∧ Below w.heap.size w w' := by
  have haw : ∀ (W : World), KsAt W → Calls Tryd.prog 6 #[] W fun e w' => e = .returned (.bool true) ∧ Below W.heap.size W w' := fun W hW => awake5_any hW
  have hnew : ∀ W : World, KsAt W → Calls Tryd.prog 7 #[.agg (cellsOf s).toArray, .int .i64 (n : Int)] W fun e w' => ∃ k, e = .returned (.tuple #[.pointer (some ⟨k, 0, none⟩), .int .i64 0]) ∧ W.heap.size ≤ k ∧ KeyAt w' k s (leafKeys s n) 0 ∧ Below W.heap.size W w' := fun W hW => new_yes n h1 (by omega) hs hW
  have hlv : ∀ W : World, KsAt W → Calls Tryd.prog 10 #[.agg (cellsOf s).toArray, .int .i64 (n : Int)] W fun e w' => ∃ a c, e = .returned (.slice a n c) ∧ Sums w' a n c (leafKeys s n) ∧ Below W.heap.size W w' ∧ ∀ x, a = some x → W.heap.size ≤ x.block := fun W hW => leaves5_new n (by omega) hs hW
  have hlen := leafKeys_len s n
  obtain ⟨R, hrl, hmr, hverR⟩ : ∃ R : List UInt8, R.length = 32 ∧ (∀ (W : World) (a : Option Addr) (c : Nat), Sums W a n c (leafKeys s n) → KsAt W → Calls Tryd.prog 9 #[.slice a n c] W fun e w' => e = .returned (.agg (cellsOf R).toArray) ∧ Below W.heap.size W w') ∧
      (∀ (j : Nat), j < n → ∀ (W : World) (a b : Option Addr) (m' c m2 c2 : Nat) (T : List UInt8), m' ≤ 1000000 → Row W a m' c T → Row W b m2 c2 (sig5 s n j T) → KsAt W → Calls Tryd.prog 24 #[.agg (cellsOf R).toArray, .slice a m' c, .slice b m2 c2] W fun e w' => e = .returned (.bool true) ∧ Below W.heap.size W w') :=
    ⟨_, rootSum_len _, fun W a c h hW => root_any h hW (by omega), fun j hj W a b m' c m2 c2 T hm' h1 h2 hW => verify5_any hj (by omega) h1 hm' h2 hW⟩
  have hstep : ∀ (j : Nat) (T : List UInt8), j < n → ∃ (x : List UInt8) (P : List (List UInt8)) (O N : List UInt8), x.length = 32 ∧ P.length ≤ 6 ∧ (∀ t ∈ P, t.length = 32) ∧ O.length = 4096 ∧ N = numsB [(j : Int), (n : Int), ((P.length : Nat) : Int)] ∧ 0 < N.length ∧ N.length ≤ 27 ∧ sig5 s n j T = N ++ flat32 P ++ (numB ((4096 : Nat) : Int) ++ O) ∧
      (∀ (W : World) (la : Option Addr) (lc : Nat), Sums W la n lc (leafKeys s n) → KsAt W → Calls Tryd.prog 16 #[.int .i64 (j : Int), .slice la n lc] W fun e w' => PathIs W P e w') ∧
      (∀ W : World, KsAt W → Calls Tryd.prog 25 #[.agg (cellsOf s).toArray, .int .i64 (j : Int)] W fun e w' => e = .returned (.agg (cellsOf x).toArray) ∧ Below W.heap.size W w') ∧
      (∀ (W : World) (q g b : Nat), KsAt W → Row W (some ⟨q, 0, none⟩) 32 32 s → Row W (some ⟨b, 0, none⟩) 1 1 [UInt8.ofNat j] → W.heap[g]? = some (.cells #[.slice (some ⟨q, 0, none⟩) 32 32, .slice (some ⟨b, 0, none⟩) 1 1] 37 (0, 0)) → Calls Tryd.prog 21 #[.int .u8 21, .slice (some ⟨g, 0, none⟩) 2 2] W fun e w' => e = .returned (.agg (cellsOf x).toArray) ∧ Below W.heap.size W w') ∧
      (∀ (W : World) (a : Option Addr) (m' c : Nat), m' ≤ 1000000 → Row W a m' c T → KsAt W → Calls Tryd.prog 20 #[.agg (cellsOf x).toArray, .slice a m' c] W fun e w' => SignedNew W O e w') := fun j T hj => by
    have h6 := path5_few s n j hj (by omega)
    refine ⟨leafSeed s j, pathOf pairSum j ((leafKeys s n).map leafSum), sigOf (leafSeed s j) T, _, leafSeed_len _ _, h6, ?_, sigOf_len _ _, rfl, ?_, numsB_len _, ?_, fun W la lc h1 hW => path_in j hj (by omega) h1 hW, fun W hW => seed_at j hs hW, fun W q g b hW h1 h2 hg => join_any 21 21 rfl (rows2_at hg h1 h2) hW ?_, fun W a m' c hm' h1 hW => sign_new (leafSeed_len _ _) h1 hm' hW⟩
    · exact path_all _ j (fun t ht => by obtain ⟨x, _, rfl⟩ := List.mem_map.1 ht; exact leafSum_len x)
    · have := numB_len (j : Int)
      simp only [numsB, List.length_append]
      omega
    · unfold sig5 packed
      rw [sigOf_len]
    · unfold partsOf partOf
      simp only [List.flatMap_cons, List.flatMap_nil, List.length_cons, List.length_append, four_len, List.length_nil, hs]
      omega
  have hleaf : ∀ (j : Nat) (T : List UInt8), j < n → ∀ (W : World) (b : Option Addr) (m2 c2 : Nat), Row W b m2 c2 (sig5 s n j T) → Calls Tryd.prog 23 #[.slice b m2 c2] W fun e w' => e = .returned (.int .i64 (j : Int)) ∧ Below W.heap.size W w' := fun j T hj W b m2 c2 hr => leaf5_any hj (by omega) hr
  have hsg : ∀ (j : Nat) (T : List UInt8), j < n → ∀ (W : World) (k : Nat) (a : Option Addr) (m' c : Nat), m' ≤ 1000000 → KeyAt W k s (leafKeys s n) j → Row W a m' c T → KsAt W → Calls Tryd.prog 15 #[.pointer (some ⟨k, 0, none⟩), .slice a m' c] W fun e w' => ∃ (a : Option Addr) (m c : Nat), e = .returned (.tuple #[.slice a m c, .int .i64 0]) ∧ Row w' a m c (sig5 s n j T) ∧ KeyAt w' k s (leafKeys s n) (j + 1) ∧ But W.heap.size k W w' := fun j T hj W k a m' c hm' h1 h2 hW => sign5_at h1 hj h2 hm' hW
  obtain ⟨ls, hls⟩ : ∃ ls, ls = leafKeys s n := ⟨_, rfl⟩
  obtain ⟨sig, hsigd⟩ : ∃ sig : Nat → List UInt8 → List UInt8, sig = sig5 s n := ⟨_, rfl⟩
  rw [← hls] at hnew hlv hlen hmr hstep hsg
  rw [← hsigd] at hverR hstep hleaf hsg
  have SZ := Lib.hid (size_of hs)
  have SZL : Hid ((Tryd.prog.info? 23).map (·.size) = some (cellsOf s).length) := Lib.hid (by rw [cellsOf_len, hs]; exact Tryd.size23)
  have SZR := Lib.hid (size_of hrl)
  have HZR := Lib.hid (zero_of hrl)
  have SZRL : Hid ((Tryd.prog.info? 23).map (·.size) = some (cellsOf R).length) := Lib.hid (by rw [cellsOf_len, hrl]; exact Tryd.size23)
  have HS := Lib.hid hs
  have HK := Lib.hid hk
  have HPS := Lib.hid h
  have HAW := Lib.hid haw
  have HNEW := Lib.hid hnew
  have HLV := Lib.hid hlv
  have HMR := Lib.hid hmr
  have HVR := Lib.hid hverR
  have HSTEP := Lib.hid hstep
  have HLEAF := Lib.hid hleaf
  have HSG := Lib.hid hsg
  have HLEN := Lib.hid hlen
  have c1 : ¬ (4 < (n : Int)) := by omega
  have c2 : ¬ ((n : Int) < 1) := by omega
  have hu := Tryd.underlying23
  clear hs hk h haw hnew hlv hmr hverR hstep hleaf hsg hlen hls hsigd hrl
  go_enter Tryd.func4, Tryd.ntmps4
  go_upto_region 1 with (fail)
  have b1 : Below w.heap.size w (w.alloc (.cells (cellsOf s).toArray 23)) := (Below.refl _ _).alloc (Nat.le_refl _) _
  have h1' : (w.alloc (.cells (cellsOf s).toArray 23)).heap[w.heap.size]? = some (.cells (cellsOf s).toArray 23 (0, 0)) := heap_alloc_new _ _
  revert b1 h1'
  generalize (w.alloc (.cells (cellsOf s).toArray 23)) = w1
  obtain ⟨q, hq⟩ : ∃ q, q = w.heap.size := ⟨_, rfl⟩
  rw [← hq]
  intro b1 h1'
  rw [hq] at b1
  have HB1 := Lib.hid b1
  have HQ1 := Lib.hid h1'
  have HK1 := Lib.hid (HK.out.below b1)
  clear b1 h1' hq
  go_wp2_with (first | (refine wpList_load_row rfl 23 _ rfl q rfl 23 (cellsOf s).toArray (0, 0) _ HQ1.out Tryd.underlying23 rfl SZ.out ?_) | fail)
  refine (HNEW.out _ HK1.out).mono ?_
  rintro e w3 ⟨k, rfl, hnk, hkey, hb3⟩
  have HKEY := Lib.hid hkey
  have hqk : q ≠ k := by have := lt_of_block HQ1.out; omega
  have HNK := Lib.hid (Nat.le_trans HB1.out.size hnk)
  have HB3 := Lib.hid (HB1.out.trans (hb3.mono HB1.out.size))
  have HQ3 := Lib.hid ((hb3.block _ (lt_of_block HQ1.out)).trans HQ1.out)
  have hltk := hkey.lt
  clear hkey hnk hb3
  go_wp2_with (first | (refine wpList_load_row rfl 23 _ rfl q rfl 23 (cellsOf s).toArray (0, 0) _ HQ3.out Tryd.underlying23 rfl SZ.out ?_) | fail)
  refine (HLV.out _ (HK.out.below HB3.out)).mono ?_
  rintro e w4 ⟨la, lc, rfl, hls, hb4, hfr⟩
  have HOFF := Lib.hid (show Off k la n from fun _ b off e => by have := hfr _ e; simp at this; omega)
  have HLS := Lib.hid hls
  have HKEY4 := Lib.hid (HKEY.out.below hb4)
  have HQ4 := Lib.hid ((hb4.block _ (lt_of_block HQ3.out)).trans HQ3.out)
  have HB4 := Lib.hid (HB3.out.trans (hb4.mono HB3.out.size))
  have hltk4 := HKEY4.out.lt
  clear hls hb4 hfr
  go_wp2_with fail
  refine (HMR.out _ la lc HLS.out (HK.out.below HB4.out)).mono ?_
  rintro e w5 ⟨rfl, hb5⟩
  have hlk5 : k < w5.heap.size := Nat.lt_of_lt_of_le hltk4 hb5.size
  have HKEY5 := Lib.hid (HKEY4.out.below hb5)
  have HLS5 := Lib.hid (HLS.out.below hb5)
  have HQ5 := Lib.hid ((hb5.block _ (lt_of_block HQ4.out)).trans HQ4.out)
  have HB5 := Lib.hid (HB4.out.trans (hb5.mono HB4.out.size))
  clear hb5
  go_upto_region 8 with (refine wpList_store_row rfl 23 _ _ rfl w5.heap.size (cellsOf R).toArray rfl rfl 23 (cellsOf zero32).toArray (heap_alloc_new _ _) SZR.out HZR.out (all_oneCell_toArray (cellsOf_one R)) ?_)
  rw [← zero32_is, laySum_is]
  have h6 := laySum_heap w5 R
  have b6 := laySum_self w5 R
  revert h6 b6
  generalize laySum w5 R = w6
  obtain ⟨g, hg⟩ : ∃ g, g = w5.heap.size := ⟨_, rfl⟩
  rw [← hg]
  intro h6 b6
  have hgk : g ≠ k := by omega
  rw [hg] at b6
  have HR6 := Lib.hid h6
  have HKEY6 := Lib.hid (HKEY5.out.below b6)
  have HLS6 := Lib.hid (HLS5.out.below b6)
  have HQ6 := Lib.hid ((b6.block _ (lt_of_block HQ5.out)).trans HQ5.out)
  have HB6 := Lib.hid (HB5.out.trans (b6.mono HB5.out.size))
  clear h6 b6 hg hltk hltk4 hlk5 HKEY HKEY4 HKEY5 HLS HLS5 HQ3 HQ4 HQ5 HB3 HB4 HB5 HQ1
  try simp only [Act.put]
  go_wp2_with fail
  go_loopw [11] (fun x wr => ∃ j : Nat, j ≤ 6 ∧ x = .int .i64 j ∧ KeyAt wr k s ls (min j n) ∧ But w6.heap.size k w6 wr) (fun x _ => 6 - (intOf x).toNat)
  case atStart => exact ⟨0, by omega, rfl, by rw [Nat.zero_min]; exact HKEY6.out, But.refl _ _ _⟩
  case round =>
    obtain ⟨j, hj, rfl, hkey, hbut⟩ := hrel
    have HBT := Lib.hid hbut
    have HBW := Lib.hid (HB6.out.trans ((hbut.mono HB6.out.size).below HNK.out))
    have HKW := Lib.hid (HK.out.below HBW.out)
    have HKEY := Lib.hid hkey
    clear hkey hbut HKEY6
    by_cases hjm : j < m
    · have f1 : (j : Int) < (m : Int) := by omega
      have f0 : (0 : Int) ≤ (j : Int) := by omega
      have ft : ((j : Int)).toNat = j := by omega
      by_cases hj6 : j < 6
      · have f2 : (j : Int) < 6 := by omega
        obtain ⟨tb, toff, rfl, htl, hcells⟩ := HPS.out.2.2.2.2 (by omega)
        obtain ⟨aj, nj, cj, hc, hrow⟩ := hcells j hjm
        have hcw := (HBW.out.cell (p := ⟨tb, toff + j, none⟩) htl).trans hc
        have hcut := cut_any (hrow.below HBW.out)
        obtain ⟨T, hT⟩ : ∃ T, T = (ps.getD j []).take 200 := ⟨_, rfl⟩
        obtain ⟨M, hM, hM2⟩ : ∃ M, M = min nj 200 ∧ M ≤ 1000000 := ⟨_, rfl, by omega⟩
        rw [← hT, ← hM] at hcut
        have HCUT := Lib.hid hcut
        have HT0 : Hid (Row w aj M cj T) := Lib.hid (by
          rw [hT, hM, show (ps.getD j []).take 200 = (ps.getD j []).take (min nj 200) by rw [← hrow.1, List.take_eq_take_iff]; omega]
          exact hrow.take (by omega))
        clear hc hrow hcut hT hM hcells
        go_upto_region 12 with (go_at_call 14; (with_reducible refine (HCUT.out).mono ?_); rintro e w' ⟨rfl, hrow, rfl⟩; have HT := Lib.hid hrow; clear hrow)
        try simp only [Act.put]
        by_cases hjn : j < n
        · have d1 : ¬ ((n : Int) ≤ (j : Int)) := by omega
          have hmin : min j n = j := by omega
          have hmin2 : min (j + 1) n = j + 1 := by omega
          rw [hmin] at HKEY
          have HMIN := Lib.hid hmin2
          obtain ⟨x, P, O, N, hxl, hPl, hPa, hO, hN, hN0, hN27, hsig, hpath, hseed, hjoin, hsign⟩ := HSTEP.out j T hjn
          have hleaf := HLEAF.out j T hjn
          have hver := HVR.out j hjn
          have hsg := HSG.out j T hjn
          obtain ⟨B, hB⟩ : ∃ B, B = sig j T := ⟨_, rfl⟩
          have hver' : ∀ (W : World) (a b : Option Addr) (m' c m2 c2 : Nat), m' ≤ 1000000 → Row W a m' c T → Row W b m2 c2 B → KsAt W → Calls Tryd.prog 24 #[.agg (cellsOf R).toArray, .slice a m' c, .slice b m2 c2] W fun e w' => e = .returned (.bool true) ∧ Below W.heap.size W w' := fun W a b m' c m2 c2 h0 h1 h2 hW => hver W a b m' c m2 c2 T h0 h1 (by rw [← hB]; exact h2) hW
          rw [← hB] at hsig hleaf hsg
          obtain ⟨bs, hbs⟩ : ∃ bs, (⟨B.toArray⟩ : ByteArray) = bs := ⟨_, rfl⟩
          obtain ⟨D, hD⟩ : ∃ D, D = P.length := ⟨_, rfl⟩
          rw [← hD] at hN hPl
          have hx8 : (#[.int .u8 (j : Int)] : Array Value) = (cellsOf [UInt8.ofNat j]).toArray := by
            rw [← one_cells, show (((UInt8.ofNat j).toNat : Nat) : Int) = (j : Int) by rw [UInt8.toNat_ofNat']; omega]
          have HX8 := Lib.hid hx8
          have HB8 : Hid ((((UInt8.ofNat j).toNat : Nat) : Int) = IntKind.u8.wrap (j : Int)) := Lib.hid (by rw [UInt8.toNat_ofNat', show IntKind.u8.wrap (j : Int) = (j : Int) % 256 from rfl]; omega)
          have iw : IntKind.i64.wrap ((j : Int) + 1) = (j : Int) + 1 := IntWalk.i64_in _ (by omega)
          have HXL := Lib.hid hxl
          have HOL := Lib.hid hO
          have HN := Lib.hid hN
          have HN0 := Lib.hid hN0
          have HSIGE := Lib.hid hsig
          have HPATH := Lib.hid hpath
          have HSEED := Lib.hid hseed
          have HJ := Lib.hid hjoin
          have HSIGN := Lib.hid hsign
          have HLF := Lib.hid hleaf
          have HVE := Lib.hid hver'
          have HSGN := Lib.hid hsg
          have HBS := Lib.hid hbs
          have HDP := Lib.hid hD
          have HPS2 := Lib.hid (show ∀ i : Nat, i < D → ∃ t : List UInt8, t = P.getD i [] ∧ t.length = 32 ∧ flat32 (P.take (i + 1)) = flat32 (P.take i) ++ t ∧ (flat32 (P.take i)).length ≤ 192 from fun i hi => by
            have hi' : i < P.length := by omega
            refine ⟨_, rfl, ?_, flat32_take P i hi', ?_⟩
            · rw [List.getD_eq_getElem?_getD, List.getElem?_eq_getElem hi']
              exact hPa _ (List.getElem_mem hi')
            · rw [flat32_len (fun s hs => hPa s (List.mem_of_mem_take hs))]
              have := List.length_take_le i P
              omega)
          have HPALL : Hid ((flat32 P).length ≤ 192) := Lib.hid (by rw [flat32_len hPa]; omega)
          have HPTK : Hid (P.take D = P) := Lib.hid (List.take_of_length_le (by omega))
          clear hx8 hxl hO hN hN0 hsig hpath hseed hjoin hsign hleaf hver hver' hsg hbs hD hPa hB hmin hmin2
          go_wp2_with fail
          refine (HSGN.out _ k aj M cj hM2 HKEY.out HT.out HKW.out).mono ?_
          rintro e w7 ⟨sa, sm, sc, rfl, hsig, hkey7, hbut7⟩
          have HKEY7 := Lib.hid hkey7
          have HSIG7 := Lib.hid hsig
          have HBT7 := Lib.hid (HBT.out.trans (hbut7.mono HBT.out.size))
          have HBW7 := Lib.hid (HBW.out.trans ((hbut7.mono HBW.out.size).below HNK.out))
          have HLS7 := Lib.hid (HLS6.out.but HBT7.out HOFF.out)
          have HQ7 := Lib.hid (HBT7.out.heap HQ6.out (lt_of_block HQ6.out) hqk)
          have HR7 := Lib.hid (HBT7.out.heap HR6.out (lt_of_block HR6.out) hgk)
          clear hkey7 hsig hbut7 HKEY
          clear HT
          go_wp2_with fail
          refine (HPATH.out _ la lc HLS7.out (HK.out.below HBW7.out)).mono ?_
          rintro e w8 ⟨pa, pc, rfl, hsp, hb8⟩
          rw [← HDP.out] at hsp
          rw [← HDP.out]
          have HSP := Lib.hid hsp
          have HB8' := Lib.hid hb8
          have HBW8 := Lib.hid (HBW7.out.trans (hb8.mono HBW7.out.size))
          clear hsp hb8
          go_upto_region 18 with (fail)
          have b9 : Below w8.heap.size w8 (w8.alloc (.cells #[.pointer none, .int .i64 0] 45)) := (Below.refl _ _).alloc (Nat.le_refl _) _
          have h9 := heap_alloc_new w8 (.cells #[.pointer none, .int .i64 0] 45)
          revert b9 h9
          generalize (w8.alloc (.cells #[.pointer none, .int .i64 0] 45)) = w9
          obtain ⟨pb, hpb⟩ : ∃ pb, pb = w8.heap.size := ⟨_, rfl⟩
          rw [← hpb]
          intro b9 h9
          rw [hpb] at b9
          have hnew : w8.heap.size ≤ pb := by omega
          have HB9 := Lib.hid b9
          have H9 := Lib.hid h9
          clear b9 h9 hpb
          try simp only [Act.put]
          go_wp2_with fail
          have b10 : Below w9.heap.size w9 (w9.alloc (.cells #[.int .i64 (j : Int), .int .i64 (n : Int), .int .i64 (D : Int)] 3)) := (Below.refl _ _).alloc (Nat.le_refl _) _
          refine (penned_nums (w0 := w8) ((b10.block _ (lt_of_block H9.out)).trans H9.out) hnew (HB9.out.trans (b10.mono HB9.out.size)) (heap_alloc_new _ _) (by have := lt_of_block H9.out; omega) (by omega) (by omega) (by omega)).mono ?_
          rintro e w10 ⟨rfl, hpen, _⟩
          rw [← HN.out] at hpen
          have HPEN := Lib.hid hpen
          clear b10 hpen
          go_wp2_with fail
          go_loopw [18] (fun y wi => ∃ i : Nat, i ≤ D ∧ y = .int .i64 i ∧ Penned w8 pb (N ++ flat32 (P.take i)) wi) (fun y _ => D - (intOf y).toNat)
          case atStart => exact ⟨0, Nat.zero_le _, rfl, by rw [List.take_zero, show flat32 [] = [] from rfl, List.append_nil]; exact HPEN.out⟩
          case round =>
            obtain ⟨i, hi, rfl, hpen⟩ := hrel
            clear HPEN
            by_cases hid : i < D
            · have g1 : (i : Int) < (D : Int) := by omega
              have g0 : (0 : Int) ≤ (i : Int) := by omega
              have gt : ((i : Int)).toNat = i := by omega
              obtain ⟨t, hte, htl', hnx, hln⟩ := HPS2.out i hid
              obtain ⟨b5, off, rfl, hlt5, hcells5⟩ := HSP.out.2.2.2.2.2 (by omega)
              have hr := rangeAt_below (hcells5 i hid) hlt5 hpen.below
              rw [← hte] at hr
              have SZT : Hid ((Tryd.prog.info? 23).map (·.size) = some (cellsOf t).length) := Lib.hid (by rw [cellsOf_len, htl']; exact Tryd.size23)
              have HRT := Lib.hid hr
              have HTL := Lib.hid htl'
              have HNX := Lib.hid hnx
              have HLN : Hid ((N ++ flat32 (P.take i)).length ≤ 1000000) := Lib.hid (by rw [List.length_append]; omega)
              have HPI := Lib.hid hpen
              clear hte htl' hnx hln hcells5 hr hpen
              go_wp2_with (first | (refine wpList_load_mid rfl 23 _ rfl b5 (off + i * 32) rfl (cellsOf t) _ HRT.out Tryd.underlying23 rfl SZT.out ?_) | fail)
              refine (penned_sum HPI.out HTL.out HLN.out).mono ?_
              rintro e w11 ⟨rfl, hp11, _⟩
              rw [List.append_assoc, ← HNX.out] at hp11
              have HP11 := Lib.hid hp11
              clear hp11
              go_wp2_with fail
              go_roundw
              case rel => first | exact ⟨i + 1, by omega, by go_num, HP11.out⟩ | ((repeat apply Exists.intro); exact ⟨⟨i + 1, by omega, by go_num, HP11.out⟩, rfl⟩)
              case measure => simp [intOf]; omega
            · have g1 : ¬ ((i : Int) < (D : Int)) := by omega
              obtain rfl : i = D := by omega
              rw [HPTK.out] at hpen
              have HPI := Lib.hid hpen
              have HBI := Lib.hid (HBW8.out.trans (hpen.below.mono HBW8.out.size))
              have HB7I := Lib.hid (HB8'.out.trans (hpen.below.mono HB8'.out.size))
              have HQI := Lib.hid ((HB7I.out.block _ (lt_of_block HQ7.out)).trans HQ7.out)
              clear hpen
              go_wp2_with fail
              rw [HX8.out]
              have b2 : Below wr.heap.size wr ((wr.alloc (.cells (cellsOf [UInt8.ofNat j]).toArray 5)).alloc (.cells #[.slice (some ⟨q, 0, none⟩) 32 32, .slice (some ⟨wr.heap.size, 0, none⟩) 1 1] 37)) := ((Below.refl _ _).alloc (Nat.le_refl _) _).alloc (by simp) _
              have h2 : ((wr.alloc (.cells (cellsOf [UInt8.ofNat j]).toArray 5)).alloc (.cells #[.slice (some ⟨q, 0, none⟩) 32 32, .slice (some ⟨wr.heap.size, 0, none⟩) 1 1] 37)).heap[wr.heap.size]? = some (.cells (cellsOf [UInt8.ofNat j]).toArray 5 (0, 0)) := by
                rw [heap_alloc_old _ _ (by simp), heap_alloc_new]
              have h3 : ((wr.alloc (.cells (cellsOf [UInt8.ofNat j]).toArray 5)).alloc (.cells #[.slice (some ⟨q, 0, none⟩) 32 32, .slice (some ⟨wr.heap.size, 0, none⟩) 1 1] 37)).heap[wr.heap.size + 1]? = some (.cells #[.slice (some ⟨q, 0, none⟩) 32 32, .slice (some ⟨wr.heap.size, 0, none⟩) 1 1] 37 (0, 0)) := heap_alloc_at _ _ _ (by simp)
              have r1 : Row ((wr.alloc (.cells (cellsOf [UInt8.ofNat j]).toArray 5)).alloc (.cells #[.slice (some ⟨q, 0, none⟩) 32 32, .slice (some ⟨wr.heap.size, 0, none⟩) 1 1] 37)) (some ⟨q, 0, none⟩) 32 32 s := row_all ((b2.block _ (lt_of_block HQI.out)).trans HQI.out) 32 HS.out.symm (by omega)
              have hcall := HJ.out _ q _ _ (HK.out.below (HBI.out.trans (b2.mono HBI.out.size))) r1 (row_all h2 1 rfl (by omega)) h3
              have HB2 := Lib.hid b2
              clear b2 h2 h3 r1
              refine hcall.mono ?_
              rintro e w12 ⟨rfl, hb12⟩
              have HB12 := Lib.hid (HB2.out.trans (hb12.mono HB2.out.size))
              clear hb12 hcall HB2
              go_wp2_with fail
              have hb12w := HBI.out.trans (HB12.out.mono HBI.out.size)
              refine (HSIGN.out _ aj M cj hM2 (HT0.out.below hb12w) (HK.out.below hb12w)).mono ?_
              rintro e w13 ⟨oa, oc, rfl, hr13, hb13, hn13⟩
              have HR13 := Lib.hid hr13
              have HN13 : Hid (∀ x, oa = some x → wr.heap.size ≤ x.block) := Lib.hid (fun x e => Nat.le_trans HB12.out.size (hn13 x e))
              have HB13 := Lib.hid (HB12.out.trans (hb13.mono HB12.out.size))
              have HLN : Hid (0 < (N ++ flat32 P).length ∧ (N ++ flat32 P).length ≤ 1000000) := Lib.hid (by have h1 := HPALL.out; have h2 := HN0.out; rw [List.length_append]; omega)
              clear hr13 hb13 hn13 hb12w
              go_wp2_with fail
              refine (penned_text_new HPI.out HB13.out HR13.out HN13.out HLN.out.1 (by omega) (by omega) HLN.out.2).mono ?_
              rintro e w14 ⟨rfl, hp14⟩
              rw [HOL.out, ← HSIGE.out] at hp14
              have HP14 := Lib.hid hp14
              have HB7E := Lib.hid (HB8'.out.trans (hp14.below.mono HB8'.out.size))
              have HKY := Lib.hid (HKEY7.out.below HB7E.out)
              have HSG14 := Lib.hid (HSIG7.out.below HB7E.out)
              have HB14 := Lib.hid (HBW7.out.trans (HB7E.out.mono HBW7.out.size))
              have HT14 := Lib.hid (HT0.out.below HB14.out)
              have HK14 := Lib.hid (HK.out.below HB14.out)
              have hq14 := (HB7E.out.block _ (lt_of_block HQ7.out)).trans HQ7.out
              have hg14 := (HB7E.out.block _ (lt_of_block HR7.out)).trans HR7.out
              have HBT14 := Lib.hid (HBT7.out.trans (But.of (HB7E.out.mono HBT7.out.size)))
              have HQ14 := Lib.hid hq14
              have HQR := Lib.hid (range_of hq14)
              have HGR := Lib.hid (range_of hg14)
              have hltq := lt_of_block hq14
              have hltg := lt_of_block hg14
              have HBL : Hid (B.length ≤ 1000000) := Lib.hid (by have h1 := HPALL.out; have h2 := HOL.out; have h3 := numB_len ((4096 : Nat) : Int); rw [HSIGE.out, List.length_append, List.length_append, List.length_append]; omega)
              clear hp14 hq14 hg14 HPI HB12 HB13 HR13 HN13 HLN HQI HB7I HBI
              go_upto_region 24 with (fail)
              try simp only [Act.put]
              refine wp_region_held_drew (S := fun w' => Below w14.heap.size w14 w') (by kernel_rfl) (below_drew (Below.refl _ _)) (fun hHeld => ?_)
              refine take_at (i := 0) (v := ?_) rfl rfl (by kernel_rfl) (by kernel_rfl) (by kernel_rfl) (fun _ _ _ h => h) (Or.inl ⟨by rfl, ?_⟩) (by assumption) ?_
              rotate_left
              · intro w0 hSw; (try dsimp only at hSw); first | (go_simp; done) | (go_simp; with_reducible rfl)
              simp only [List.setIfInBounds_toArray, List.set_cons_zero, List.set_cons_succ]
              refine take_at (i := 1) (v := ?_) rfl rfl (by kernel_rfl) (by kernel_rfl) (by kernel_rfl) (fun _ _ _ h => h) (Or.inl ⟨by rfl, ?_⟩) (by assumption) ?_
              rotate_left
              · intro w0 hSw; (try dsimp only at hSw); first | (go_simp; done) | (go_simp; with_reducible rfl)
              simp only [List.setIfInBounds_toArray, List.set_cons_zero, List.set_cons_succ]
              refine take_at (i := 2) (v := ?_) rfl rfl (by kernel_rfl) (by kernel_rfl) (by kernel_rfl) (fun _ _ _ h => h) (Or.inl ⟨by rfl, ?_⟩) (by assumption) ?_
              rotate_left
              · intro w0 hSw; (try dsimp only at hSw); first | (go_simp; done) | (go_simp; with_reducible rfl)
              simp only [List.setIfInBounds_toArray, List.set_cons_zero, List.set_cons_succ]
              refine take_at (i := 3) (v := ?_) rfl rfl (by kernel_rfl) (by kernel_rfl) (by kernel_rfl) (fun _ _ _ h => h) (Or.inl ⟨by rfl, ?_⟩) (by assumption) ?_
              rotate_left
              · intro w0 hSw; (try dsimp only at hSw); first | (go_simp; done) | (go_simp; with_reducible rfl)
              simp only [List.setIfInBounds_toArray, List.set_cons_zero, List.set_cons_succ]
              refine take_at (i := 4) rfl rfl (by kernel_rfl) (by kernel_rfl) (by kernel_rfl) (fun _ _ _ h => h) (yields_conv (by rfl) rfl rfl HBS.out (fun w0 hSw => HSG14.out.below hSw)) (by assumption) ?_
              simp only [List.setIfInBounds_toArray, List.set_cons_zero, List.set_cons_succ]
              refine wpAnyH_ready (rs := [5]) (by kernel_rfl) (by simp) ?_
              refine AllReadyH.cons rfl (fun K hK => ?_) ?_
              · have HH5 := Lib.hid hHeld
                go_simp
                go_wp2_with ((go_at_call 22; (with_reducible refine (penned_bytes (HP14.out.more HH5.out) HBL.out).mono ?_); rintro e x5 ⟨ba, bn, bc, rfl, hr5, hb5⟩; have HC5 := Lib.hid hb5; have HR5 := Lib.hid hr5; clear hb5 hr5))
                refine hK.out _ _ (by (try dsimp only); exact HH5.out.trans (HC5.out.mono HH5.out.size)) (fun hHeld => ?_)
                clear hK K
                refine wpAnyH_ready (rs := [6]) (by kernel_rfl) (by simp) ?_
                refine AllReadyH.cons rfl (fun K hK => ?_) ?_
                · refine step_conv (d := 117) rfl (by rfl) rfl rfl HBS.out HR5.out ?_
                  refine hK.out _ _ (by (try dsimp only); exact hHeld) (fun hHeld => ?_)
                  clear hK K
                  refine take_at (i := 7) (v := ?_) rfl rfl (by kernel_rfl) (by kernel_rfl) (by kernel_rfl) (fun _ _ _ h => h) (Or.inl ⟨by rfl, ?_⟩) (by assumption) ?_
                  rotate_left
                  · intro w0 hSw; (try dsimp only at hSw); first | (go_simp; done) | (go_simp; with_reducible rfl)
                  simp only [List.setIfInBounds_toArray, List.set_cons_zero, List.set_cons_succ]
                  refine take_at (i := 8) (v := ?_) rfl rfl (by kernel_rfl) (by kernel_rfl) (by kernel_rfl) (fun _ _ _ h => h) (Or.inl ⟨by rfl, ?_⟩) (by assumption) ?_
                  rotate_left
                  · intro w0 hSw; (try dsimp only at hSw); first | (go_simp; done) | (go_simp; with_reducible rfl)
                  simp only [List.setIfInBounds_toArray, List.set_cons_zero, List.set_cons_succ]
                  refine take_at (i := 9) (v := ?_) rfl rfl (by kernel_rfl) (by kernel_rfl) (by kernel_rfl) (fun _ _ _ h => h) (Or.inl ⟨by rfl, ?_⟩) (by assumption) ?_
                  rotate_left
                  · intro w0 hSw; (try dsimp only at hSw); first | (go_simp; done) | (go_simp; with_reducible rfl)
                  simp only [List.setIfInBounds_toArray, List.set_cons_zero, List.set_cons_succ]
                  refine take_at (i := 10) (v := ?_) rfl rfl (by kernel_rfl) (by kernel_rfl) (by kernel_rfl) (fun _ _ _ h => h) (Or.inl ⟨by rfl, ?_⟩) (by assumption) ?_
                  rotate_left
                  · intro w0 hSw; (try dsimp only at hSw); first | (go_simp; done) | (go_simp; with_reducible rfl)
                  simp only [List.setIfInBounds_toArray, List.set_cons_zero, List.set_cons_succ]
                  refine take_at (i := 12) (v := ?_) rfl rfl (by kernel_rfl) (by kernel_rfl) (by kernel_rfl) (fun _ _ _ h => h) (Or.inl ⟨by rfl, ?_⟩) (by assumption) ?_
                  rotate_left
                  · intro w0 hSw; (try dsimp only at hSw); first | (go_simp; done) | (go_simp; with_reducible rfl)
                  simp only [List.setIfInBounds_toArray, List.set_cons_zero, List.set_cons_succ]
                  refine wpAnyH_ready (rs := [11]) (by kernel_rfl) (by simp) ?_
                  refine AllReadyH.cons rfl (fun K hK => ?_) ?_
                  · have HH11 := Lib.hid hHeld
                    go_simp
                    go_wp2_with ((go_at_call 23; (with_reducible refine (HLF.out _ sa sm sc (HSG14.out.below HH11.out)).mono ?_); rintro e x11 ⟨rfl, hb11⟩; have HC11 := Lib.hid hb11; clear hb11))
                    refine hK.out _ _ (by (try dsimp only); exact HH11.out.trans (HC11.out.mono HH11.out.size)) (fun hHeld => ?_)
                    clear hK K
                    refine take_at (i := 13) (v := ?_) rfl rfl (by kernel_rfl) (by kernel_rfl) (by kernel_rfl) (fun _ _ _ h => h) (Or.inl ⟨by rfl, ?_⟩) (by assumption) ?_
                    rotate_left
                    · intro w0 hSw; (try dsimp only at hSw); first | (go_simp; done) | (go_simp; with_reducible rfl)
                    simp only [List.setIfInBounds_toArray, List.set_cons_zero, List.set_cons_succ]
                    refine take_at (i := 14) (v := ?_) rfl rfl (by kernel_rfl) (by kernel_rfl) (by kernel_rfl) (fun _ _ _ h => h) (Or.inl ⟨by rfl, ?_⟩) (by assumption) ?_
                    rotate_left
                    · intro w0 hSw; (try dsimp only at hSw); first | (go_simp; done) | (go_simp; with_reducible rfl)
                    simp only [List.setIfInBounds_toArray, List.set_cons_zero, List.set_cons_succ]
                    refine take_at (i := 15) (v := ?_) rfl rfl (by kernel_rfl) (by kernel_rfl) (by kernel_rfl) (fun _ _ _ h => h) (Or.inl ⟨by rfl, ?_⟩) (by assumption) ?_
                    rotate_left
                    · intro w0 hSw; (try dsimp only at hSw); first | (go_simp; done) | (go_simp; with_reducible rfl)
                    simp only [List.setIfInBounds_toArray, List.set_cons_zero, List.set_cons_succ]
                    refine take_at (i := 16) rfl rfl (by kernel_rfl) (by kernel_rfl) (by kernel_rfl) (fun _ _ _ h => h) (yieldsIf_load_mid (by rfl) _ _ rfl g 0 rfl (cellsOf R) _ (fun w0 hSw => rangeAt_below HGR.out hltg hSw) Tryd.underlying23 rfl SZRL.out) (by assumption) ?_
                    simp only [List.setIfInBounds_toArray, List.set_cons_zero, List.set_cons_succ]
                    refine take_at (i := 17) (v := ?_) rfl rfl (by kernel_rfl) (by kernel_rfl) (by kernel_rfl) (fun _ _ _ h => h) (Or.inl ⟨by rfl, ?_⟩) (by assumption) ?_
                    rotate_left
                    · intro w0 hSw; (try dsimp only at hSw); first | (go_simp; done) | (go_simp; with_reducible rfl)
                    simp only [List.setIfInBounds_toArray, List.set_cons_zero, List.set_cons_succ]
                    refine take_at (i := 18) (v := ?_) rfl rfl (by kernel_rfl) (by kernel_rfl) (by kernel_rfl) (fun _ _ _ h => h) (Or.inl ⟨by rfl, ?_⟩) (by assumption) ?_
                    rotate_left
                    · intro w0 hSw; (try dsimp only at hSw); first | (go_simp; done) | (go_simp; with_reducible rfl)
                    simp only [List.setIfInBounds_toArray, List.set_cons_zero, List.set_cons_succ]
                    refine wpAnyH_ready (rs := [19]) (by kernel_rfl) (by simp) ?_
                    refine AllReadyH.cons rfl (fun K hK => ?_) ?_
                    · have HH19 := Lib.hid hHeld
                      go_simp
                      go_wp2_with ((go_at_call 24; (with_reducible refine (HVE.out _ aj sa M cj sm sc hM2 (HT14.out.below HH19.out) (HSG14.out.below HH19.out) (HK14.out.below HH19.out)).mono ?_); rintro e x19 ⟨rfl, hb19⟩; have HC19 := Lib.hid hb19; clear hb19))
                      refine hK.out _ _ (by (try dsimp only); exact HH19.out.trans (HC19.out.mono HH19.out.size)) (fun hHeld => ?_)
                      clear hK K
                      refine take_at (i := 20) (v := ?_) rfl rfl (by kernel_rfl) (by kernel_rfl) (by kernel_rfl) (fun _ _ _ h => h) (Or.inl ⟨by rfl, ?_⟩) (by assumption) ?_
                      rotate_left
                      · intro w0 hSw; (try dsimp only at hSw); first | (go_simp; done) | (go_simp; with_reducible rfl)
                      simp only [List.setIfInBounds_toArray, List.set_cons_zero, List.set_cons_succ]
                      refine take_at (i := 21) (v := ?_) rfl rfl (by kernel_rfl) (by kernel_rfl) (by kernel_rfl) (fun _ _ _ h => h) (Or.inl ⟨by rfl, ?_⟩) (by assumption) ?_
                      rotate_left
                      · intro w0 hSw; (try dsimp only at hSw); first | (go_simp; done) | (go_simp; with_reducible rfl)
                      simp only [List.setIfInBounds_toArray, List.set_cons_zero, List.set_cons_succ]
                      refine take_at (i := 22) (v := ?_) rfl rfl (by kernel_rfl) (by kernel_rfl) (by kernel_rfl) (fun _ _ _ h => h) (Or.inl ⟨by rfl, ?_⟩) (by assumption) ?_
                      rotate_left
                      · intro w0 hSw; (try dsimp only at hSw); first | (go_simp; done) | (go_simp; with_reducible rfl)
                      simp only [List.setIfInBounds_toArray, List.set_cons_zero, List.set_cons_succ]
                      refine take_at (i := 23) (v := ?_) rfl rfl (by kernel_rfl) (by kernel_rfl) (by kernel_rfl) (fun _ _ _ h => h) (Or.inl ⟨by rfl, ?_⟩) (by assumption) ?_
                      rotate_left
                      · intro w0 hSw; (try dsimp only at hSw); first | (go_simp; done) | (go_simp; with_reducible rfl)
                      simp only [List.setIfInBounds_toArray, List.set_cons_zero, List.set_cons_succ]
                      refine take_at (i := 25) (v := ?_) rfl rfl (by kernel_rfl) (by kernel_rfl) (by kernel_rfl) (fun _ _ _ h => h) (Or.inl ⟨by rfl, ?_⟩) (by assumption) ?_
                      rotate_left
                      · intro w0 hSw; (try dsimp only at hSw); first | (go_simp; done) | (go_simp; with_reducible rfl)
                      simp only [List.setIfInBounds_toArray, List.set_cons_zero, List.set_cons_succ]
                      refine take_at (i := 26) (v := ?_) rfl rfl (by kernel_rfl) (by kernel_rfl) (by kernel_rfl) (fun _ _ _ h => h) (Or.inl ⟨by rfl, ?_⟩) (by assumption) ?_
                      rotate_left
                      · intro w0 hSw; (try dsimp only at hSw); first | (go_simp; done) | (go_simp; with_reducible rfl)
                      simp only [List.setIfInBounds_toArray, List.set_cons_zero, List.set_cons_succ]
                      refine wpAnyH_ready (rs := [24]) (by kernel_rfl) (by simp) ?_
                      refine AllReadyH.cons rfl (fun K hK => ?_) ?_
                      · have HH24 := Lib.hid hHeld
                        go_simp
                        go_wp2_with ((go_at_call 12; (with_reducible refine (next_at (HKY.out.below HH24.out)).mono ?_); rintro e x24 ⟨rfl, rfl⟩))
                        refine hK.out _ _ (by (try dsimp only); exact HH24.out) (fun hHeld => ?_)
                        clear hK K
                        refine take_at (i := 27) (v := ?_) rfl rfl (by kernel_rfl) (by kernel_rfl) (by kernel_rfl) (fun _ _ _ h => h) (Or.inl ⟨by rfl, ?_⟩) (by assumption) ?_
                        rotate_left
                        · intro w0 hSw; (try dsimp only at hSw); first | (go_simp; done) | (go_simp; with_reducible rfl)
                        simp only [List.setIfInBounds_toArray, List.set_cons_zero, List.set_cons_succ]
                        refine take_at (i := 28) (v := ?_) rfl rfl (by kernel_rfl) (by kernel_rfl) (by kernel_rfl) (fun _ _ _ h => h) (Or.inl ⟨by rfl, ?_⟩) (by assumption) ?_
                        rotate_left
                        · intro w0 hSw; (try dsimp only at hSw); first | (go_simp; done) | (go_simp; with_reducible rfl)
                        simp only [List.setIfInBounds_toArray, List.set_cons_zero, List.set_cons_succ]
                        refine take_at (i := 29) (v := ?_) rfl rfl (by kernel_rfl) (by kernel_rfl) (by kernel_rfl) (fun _ _ _ h => h) (Or.inl ⟨by rfl, ?_⟩) (by assumption) ?_
                        rotate_left
                        · intro w0 hSw; (try dsimp only at hSw); first | (go_simp; done) | (go_simp; with_reducible rfl)
                        simp only [List.setIfInBounds_toArray, List.set_cons_zero, List.set_cons_succ]
                        refine take_at (i := 30) rfl rfl (by kernel_rfl) (by kernel_rfl) (by kernel_rfl) (fun _ _ _ h => h) (yieldsIf_load_mid (by rfl) _ _ rfl q 0 rfl (cellsOf s) _ (fun w0 hSw => rangeAt_below HQR.out hltq hSw) Tryd.underlying23 rfl SZL.out) (by assumption) ?_
                        simp only [List.setIfInBounds_toArray, List.set_cons_zero, List.set_cons_succ]
                        refine take_at (i := 31) (v := ?_) rfl rfl (by kernel_rfl) (by kernel_rfl) (by kernel_rfl) (fun _ _ _ h => h) (Or.inl ⟨by rfl, ?_⟩) (by assumption) ?_
                        rotate_left
                        · intro w0 hSw; (try dsimp only at hSw); first | (go_simp; done) | (go_simp; with_reducible rfl)
                        simp only [List.setIfInBounds_toArray, List.set_cons_zero, List.set_cons_succ]
                        refine take_at (i := 33) (v := ?_) rfl rfl (by kernel_rfl) (by kernel_rfl) (by kernel_rfl) (fun _ _ _ h => h) (Or.inl ⟨by rfl, ?_⟩) (by assumption) ?_
                        rotate_left
                        · intro w0 hSw; (try dsimp only at hSw); first | (go_simp; done) | (go_simp; with_reducible rfl)
                        simp only [List.setIfInBounds_toArray, List.set_cons_zero, List.set_cons_succ]
                        refine take_at (i := 34) (v := ?_) rfl rfl (by kernel_rfl) (by kernel_rfl) (by kernel_rfl) (fun _ _ _ h => h) (Or.inl ⟨by rfl, ?_⟩) (by assumption) ?_
                        rotate_left
                        · intro w0 hSw; (try dsimp only at hSw); first | (go_simp; done) | (go_simp; with_reducible rfl)
                        simp only [List.setIfInBounds_toArray, List.set_cons_zero, List.set_cons_succ]
                        refine take_at (i := 35) (v := ?_) rfl rfl (by kernel_rfl) (by kernel_rfl) (by kernel_rfl) (fun _ _ _ h => h) (Or.inl ⟨by rfl, ?_⟩) (by assumption) ?_
                        rotate_left
                        · intro w0 hSw; (try dsimp only at hSw); first | (go_simp; done) | (go_simp; with_reducible rfl)
                        simp only [List.setIfInBounds_toArray, List.set_cons_zero, List.set_cons_succ]
                        refine wpAnyH_ready (rs := [32, 36]) (by kernel_rfl) (by simp) ?_
                        refine AllReadyH.cons rfl (fun K hK => ?_) ?_
                        · have HH32 := Lib.hid hHeld
                          go_simp
                          go_wp2_with ((go_at_call 25; (with_reducible refine (HSEED.out _ (HK14.out.below HH32.out)).mono ?_); rintro e x32 ⟨rfl, hb32⟩; have HC32 := Lib.hid hb32; clear hb32))
                          refine hK.out _ _ (by (try dsimp only); exact HH32.out.trans (HC32.out.mono HH32.out.size)) (fun hHeld => ?_)
                          clear hK K
                          refine wpAnyH_ready (rs := [36]) (by kernel_rfl) (by simp) ?_
                          refine AllReadyH.cons rfl (fun K hK => ?_) ?_
                          · have HH36 := Lib.hid hHeld
                            refine step_byte1_gen (d := 147) rfl (by rfl) rfl rfl HB8.out ?_
                            intro p36 x36 _ hr36 hb36
                            have HC36 := Lib.hid hb36
                            have HR36 := Lib.hid hr36
                            clear hb36 hr36
                            refine hK.out _ _ (by (try dsimp only); exact HH36.out.trans (HC36.out.mono HH36.out.size)) (fun hHeld => ?_)
                            clear hK K
                            refine wpAnyH_ready (rs := [37]) (by kernel_rfl) (by simp) ?_
                            refine AllReadyH.cons rfl (fun K hK => ?_) ?_
                            · have HH37 := Lib.hid hHeld
                              refine step_rows2_gen (d := 148) rfl (by rfl) rfl rfl rfl ?_
                              intro p37 x37 _ hr37 hb37
                              have HC37 := Lib.hid hb37
                              have HR37 := Lib.hid hr37
                              have HB1 := Lib.hid (HR36.out.below hb37)
                              clear hb37 hr37
                              refine hK.out _ _ (by (try dsimp only); exact HH37.out.trans (HC37.out.mono HH37.out.size)) (fun hHeld => ?_)
                              clear hK K
                              refine wpAnyH_ready (rs := [38]) (by kernel_rfl) (by simp) ?_
                              refine AllReadyH.cons rfl (fun K hK => ?_) ?_
                              · have HH38 := Lib.hid hHeld
                                have hrq := row_all ((Below.block HH38.out _ hltq).trans HQ14.out) 32 HS.out.symm (by omega)
                                have hcall := HJ.out _ q _ _ (HK14.out.below HH38.out) hrq HB1.out HR37.out
                                have HCALL := Lib.hid hcall
                                clear hcall hrq
                                go_simp
                                go_wp2_with ((go_at_call 21; (with_reducible refine HCALL.out.mono ?_); rintro e x38 ⟨rfl, hb38⟩; have HC38 := Lib.hid hb38; clear hb38))
                                refine hK.out _ _ (by (try dsimp only); exact HH38.out.trans (HC38.out.mono HH38.out.size)) (fun hHeld => ?_)
                                clear hK K
                                refine take_at (i := 39) rfl rfl (by kernel_rfl) (by kernel_rfl) (by kernel_rfl) (fun _ _ _ h => h) (yields_neq (by rfl) rfl rfl rfl HXL.out HXL.out false (by simp)) (by assumption) ?_
                                simp only [List.setIfInBounds_toArray, List.set_cons_zero, List.set_cons_succ]
                                refine take_at (i := 40) (v := ?_) rfl rfl (by kernel_rfl) (by kernel_rfl) (by kernel_rfl) (fun _ _ _ h => h) (Or.inl ⟨by rfl, ?_⟩) (by assumption) ?_
                                rotate_left
                                · intro w0 hSw; (try dsimp only at hSw); first | (go_simp; done) | (go_simp; with_reducible rfl)
                                simp only [List.setIfInBounds_toArray, List.set_cons_zero, List.set_cons_succ]
                                refine wpAnyH_done (by kernel_rfl) ?_ _
                                have hb15 : Below w14.heap.size w14 _ := hHeld
                                have HB15 := Lib.hid hb15
                                have HKY15 := Lib.hid (HKY.out.below hb15)
                                have HBT15 := Lib.hid (HBT14.out.trans (But.of (hb15.mono HBT14.out.size)))
                                clear hHeld hb15
                                go_wp2_with fail
                                go_roundw
                                case rel => first | exact ⟨j + 1, by omega, by go_num, by rw [HMIN.out]; exact HKY15.out, HBT15.out⟩ | ((repeat apply Exists.intro); exact ⟨⟨j + 1, by omega, by go_num, by rw [HMIN.out]; exact HKY15.out, HBT15.out⟩, rfl⟩)
                                case measure => simp [intOf]; omega
                              exact AllReadyH.nil
                            exact AllReadyH.nil
                          exact AllReadyH.nil
                        refine AllReadyH.cons rfl (fun K hK => ?_) ?_
                        · have HH36 := Lib.hid hHeld
                          refine step_byte1_gen (d := 147) rfl (by rfl) rfl rfl HB8.out ?_
                          intro p36 x36 _ hr36 hb36
                          have HC36 := Lib.hid hb36
                          have HR36 := Lib.hid hr36
                          clear hb36 hr36
                          refine hK.out _ _ (by (try dsimp only); exact HH36.out.trans (HC36.out.mono HH36.out.size)) (fun hHeld => ?_)
                          clear hK K
                          refine wpAnyH_ready (rs := [32, 37]) (by kernel_rfl) (by simp) ?_
                          refine AllReadyH.cons rfl (fun K hK => ?_) ?_
                          · have HH32 := Lib.hid hHeld
                            go_simp
                            go_wp2_with ((go_at_call 25; (with_reducible refine (HSEED.out _ (HK14.out.below HH32.out)).mono ?_); rintro e x32 ⟨rfl, hb32⟩; have HC32 := Lib.hid hb32; clear hb32))
                            refine hK.out _ _ (by (try dsimp only); exact HH32.out.trans (HC32.out.mono HH32.out.size)) (fun hHeld => ?_)
                            clear hK K
                            refine wpAnyH_ready (rs := [37]) (by kernel_rfl) (by simp) ?_
                            refine AllReadyH.cons rfl (fun K hK => ?_) ?_
                            · have HH37 := Lib.hid hHeld
                              refine step_rows2_gen (d := 148) rfl (by rfl) rfl rfl rfl ?_
                              intro p37 x37 _ hr37 hb37
                              have HC37 := Lib.hid hb37
                              have HR37 := Lib.hid hr37
                              have HB1 := Lib.hid ((Lib.hid (HR36.out.below HC32.out)).out.below hb37)
                              clear hb37 hr37
                              refine hK.out _ _ (by (try dsimp only); exact HH37.out.trans (HC37.out.mono HH37.out.size)) (fun hHeld => ?_)
                              clear hK K
                              refine wpAnyH_ready (rs := [38]) (by kernel_rfl) (by simp) ?_
                              refine AllReadyH.cons rfl (fun K hK => ?_) ?_
                              · have HH38 := Lib.hid hHeld
                                have hrq := row_all ((Below.block HH38.out _ hltq).trans HQ14.out) 32 HS.out.symm (by omega)
                                have hcall := HJ.out _ q _ _ (HK14.out.below HH38.out) hrq HB1.out HR37.out
                                have HCALL := Lib.hid hcall
                                clear hcall hrq
                                go_simp
                                go_wp2_with ((go_at_call 21; (with_reducible refine HCALL.out.mono ?_); rintro e x38 ⟨rfl, hb38⟩; have HC38 := Lib.hid hb38; clear hb38))
                                refine hK.out _ _ (by (try dsimp only); exact HH38.out.trans (HC38.out.mono HH38.out.size)) (fun hHeld => ?_)
                                clear hK K
                                refine take_at (i := 39) rfl rfl (by kernel_rfl) (by kernel_rfl) (by kernel_rfl) (fun _ _ _ h => h) (yields_neq (by rfl) rfl rfl rfl HXL.out HXL.out false (by simp)) (by assumption) ?_
                                simp only [List.setIfInBounds_toArray, List.set_cons_zero, List.set_cons_succ]
                                refine take_at (i := 40) (v := ?_) rfl rfl (by kernel_rfl) (by kernel_rfl) (by kernel_rfl) (fun _ _ _ h => h) (Or.inl ⟨by rfl, ?_⟩) (by assumption) ?_
                                rotate_left
                                · intro w0 hSw; (try dsimp only at hSw); first | (go_simp; done) | (go_simp; with_reducible rfl)
                                simp only [List.setIfInBounds_toArray, List.set_cons_zero, List.set_cons_succ]
                                refine wpAnyH_done (by kernel_rfl) ?_ _
                                have hb15 : Below w14.heap.size w14 _ := hHeld
                                have HB15 := Lib.hid hb15
                                have HKY15 := Lib.hid (HKY.out.below hb15)
                                have HBT15 := Lib.hid (HBT14.out.trans (But.of (hb15.mono HBT14.out.size)))
                                clear hHeld hb15
                                go_wp2_with fail
                                go_roundw
                                case rel => first | exact ⟨j + 1, by omega, by go_num, by rw [HMIN.out]; exact HKY15.out, HBT15.out⟩ | ((repeat apply Exists.intro); exact ⟨⟨j + 1, by omega, by go_num, by rw [HMIN.out]; exact HKY15.out, HBT15.out⟩, rfl⟩)
                                case measure => simp [intOf]; omega
                              exact AllReadyH.nil
                            exact AllReadyH.nil
                          refine AllReadyH.cons rfl (fun K hK => ?_) ?_
                          · have HH37 := Lib.hid hHeld
                            refine step_rows2_gen (d := 148) rfl (by rfl) rfl rfl rfl ?_
                            intro p37 x37 _ hr37 hb37
                            have HC37 := Lib.hid hb37
                            have HR37 := Lib.hid hr37
                            have HB1 := Lib.hid (HR36.out.below hb37)
                            clear hb37 hr37
                            refine hK.out _ _ (by (try dsimp only); exact HH37.out.trans (HC37.out.mono HH37.out.size)) (fun hHeld => ?_)
                            clear hK K
                            refine wpAnyH_ready (rs := [32]) (by kernel_rfl) (by simp) ?_
                            refine AllReadyH.cons rfl (fun K hK => ?_) ?_
                            · have HH32 := Lib.hid hHeld
                              go_simp
                              go_wp2_with ((go_at_call 25; (with_reducible refine (HSEED.out _ (HK14.out.below HH32.out)).mono ?_); rintro e x32 ⟨rfl, hb32⟩; have HC32 := Lib.hid hb32; clear hb32))
                              refine hK.out _ _ (by (try dsimp only); exact HH32.out.trans (HC32.out.mono HH32.out.size)) (fun hHeld => ?_)
                              clear hK K
                              refine wpAnyH_ready (rs := [38]) (by kernel_rfl) (by simp) ?_
                              refine AllReadyH.cons rfl (fun K hK => ?_) ?_
                              · have HH38 := Lib.hid hHeld
                                have hrq := row_all ((Below.block HH38.out _ hltq).trans HQ14.out) 32 HS.out.symm (by omega)
                                have hcall := HJ.out _ q _ _ (HK14.out.below HH38.out) hrq (HB1.out.below HC32.out) ((HC32.out.block _ (lt_of_block HR37.out)).trans HR37.out)
                                have HCALL := Lib.hid hcall
                                clear hcall hrq
                                go_simp
                                go_wp2_with ((go_at_call 21; (with_reducible refine HCALL.out.mono ?_); rintro e x38 ⟨rfl, hb38⟩; have HC38 := Lib.hid hb38; clear hb38))
                                refine hK.out _ _ (by (try dsimp only); exact HH38.out.trans (HC38.out.mono HH38.out.size)) (fun hHeld => ?_)
                                clear hK K
                                refine take_at (i := 39) rfl rfl (by kernel_rfl) (by kernel_rfl) (by kernel_rfl) (fun _ _ _ h => h) (yields_neq (by rfl) rfl rfl rfl HXL.out HXL.out false (by simp)) (by assumption) ?_
                                simp only [List.setIfInBounds_toArray, List.set_cons_zero, List.set_cons_succ]
                                refine take_at (i := 40) (v := ?_) rfl rfl (by kernel_rfl) (by kernel_rfl) (by kernel_rfl) (fun _ _ _ h => h) (Or.inl ⟨by rfl, ?_⟩) (by assumption) ?_
                                rotate_left
                                · intro w0 hSw; (try dsimp only at hSw); first | (go_simp; done) | (go_simp; with_reducible rfl)
                                simp only [List.setIfInBounds_toArray, List.set_cons_zero, List.set_cons_succ]
                                refine wpAnyH_done (by kernel_rfl) ?_ _
                                have hb15 : Below w14.heap.size w14 _ := hHeld
                                have HB15 := Lib.hid hb15
                                have HKY15 := Lib.hid (HKY.out.below hb15)
                                have HBT15 := Lib.hid (HBT14.out.trans (But.of (hb15.mono HBT14.out.size)))
                                clear hHeld hb15
                                go_wp2_with fail
                                go_roundw
                                case rel => first | exact ⟨j + 1, by omega, by go_num, by rw [HMIN.out]; exact HKY15.out, HBT15.out⟩ | ((repeat apply Exists.intro); exact ⟨⟨j + 1, by omega, by go_num, by rw [HMIN.out]; exact HKY15.out, HBT15.out⟩, rfl⟩)
                                case measure => simp [intOf]; omega
                              exact AllReadyH.nil
                            exact AllReadyH.nil
                          exact AllReadyH.nil
                        exact AllReadyH.nil
                      exact AllReadyH.nil
                    exact AllReadyH.nil
                  exact AllReadyH.nil
                exact AllReadyH.nil
              exact AllReadyH.nil
        · have d1 : (n : Int) ≤ (j : Int) := by omega
          have hmin : min j n = n := by omega
          have hmin2 : min (j + 1) n = n := by omega
          rw [hmin] at HKEY
          have HMIN := Lib.hid hmin2
          clear hmin hmin2
          go_wp2_with fail
          refine (sign5_used HKEY.out HLEN.out).mono ?_
          rintro e w7 ⟨rfl, hb7⟩
          have HKEY7 := Lib.hid (HKEY.out.below hb7)
          have HBT7 := Lib.hid (HBT.out.trans (But.of (hb7.mono HBT.out.size)))
          clear hb7 HKEY
          go_wp2_with fail
          refine (left_at HKEY7.out (Nat.le_of_eq HLEN.out.symm) 0 (by rw [HLEN.out]; omega)).mono ?_
          rintro e w8 ⟨rfl, hb8⟩
          have HKEY8 := Lib.hid (HKEY7.out.below hb8)
          have HBT8 := Lib.hid (HBT7.out.trans (But.of (hb8.mono HBT7.out.size)))
          clear hb8
          go_wp2_with fail
          go_roundw
          case rel => exact ⟨j + 1, by omega, by go_num, by rw [HMIN.out]; exact HKEY8.out, HBT8.out⟩
          case measure => simp [intOf]; omega
      · have f2 : ¬ ((j : Int) < 6) := by omega
        go_wp2_with fail
        refine (HAW.out _ HKW.out).mono ?_
        rintro e w7 ⟨rfl, hb7⟩
        have HB7 := Lib.hid (HBW.out.trans (hb7.mono HBW.out.size))
        clear hb7
        go_wp2_with fail
        go_ret
        exact ⟨rfl, HB7.out⟩
    · have f1 : ¬ ((j : Int) < (m : Int)) := by omega
      go_wp2_with fail
      refine (HAW.out _ HKW.out).mono ?_
      rintro e w7 ⟨rfl, hb7⟩
      have HB7 := Lib.hid (HBW.out.trans (hb7.mono HBW.out.size))
      clear hb7
      go_wp2_with fail
      go_ret
      exact ⟨rfl, HB7.out⟩
theorem signs5_walk {w : World} {s : List UInt8} {a : Option Addr} {m c : Nat} {ps : List (List UInt8)} (n : Int) (hs : s.length = 32) (h : Rows2 w a m c ps) (hk : KsAt w) :
    Calls Tryd.prog 4 #[.agg (cellsOf s).toArray, .int .i64 n, .slice a m c] w fun e w' => e = .returned (.bool true) ∧ Below w.heap.size w w' := by
  by_cases h1 : 4 < n ∨ n < 1
  · exact signs5_few n hk h1
  · obtain ⟨N, rfl⟩ : ∃ N : Nat, n = N := ⟨n.toNat, by omega⟩
    exact signs5_in N hs h hk (by omega) (by omega)
end Go.Proofs.YtacagnoilpfjkaaDoor
