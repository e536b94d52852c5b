/- The leaves of chapter 5, plainly; and that each leaf's path leads to their root. No program is named. A key of chapter 5 in memory, and what Left, Next, Skip come to. What Seed comes to: a leaf's seed. Laws for a key's cells: a literal of a key, a new variable with a row, a new slice of sums, in a region. No function of the program is named. What New and Root come to: a key of so many leaves; its root. What Root of a key comes to. What the bytes of a signature of chapter 5 are, and that 'bytes' tells them. What Sign of a key comes to. What read comes to, of bytes that are a signature's. What Leaf and Verify come to, of a signature. -/
import Derived.Test.YtfccmiohnjhkoaaDoorMerkle
import Derived.Test.YtfccmiohnjhkoaaDoorLamport
import Derived.Test.YtfccmiohnjhkoaaDoorWire
import Derived.Test.YtfccmiohnjhkoaaDoorSha
import Derived.Test.YtfccmiohnjhkoaaDoorMemory
namespace Go.Proofs.YtfccmiohnjhkoaaDoor

def leafSeed (seed : List UInt8) (i : Nat) : List UInt8 := sumOf (partsOf 21 [seed, [UInt8.ofNat i]])
theorem leafSeed_len (seed : List UInt8) (i : Nat) : (leafSeed seed i).length = 32 := sumOf_len _
def leafKey (seed : List UInt8) (i : Nat) : List UInt8 := keyOf (leafSeed seed i)
theorem leafKey_len (seed : List UInt8) (i : Nat) : (leafKey seed i).length = 32 := keyOf_len _
def leafKeys (seed : List UInt8) (n : Nat) : List (List UInt8) := (List.range n).map (leafKey seed)
theorem leafKeys_len (seed : List UInt8) (n : Nat) : (leafKeys seed n).length = n := by simp [leafKeys]
theorem leafKeys_succ (seed : List UInt8) (n : Nat) : leafKeys seed (n + 1) = leafKeys seed n ++ [leafKey seed n] := by
  unfold leafKeys
  rw [List.range_succ, List.map_append]
  rfl
theorem leafKeys_get (seed : List UInt8) (n i : Nat) (h : i < n) : (leafKeys seed n).getD i [] = leafKey seed i := by
  unfold leafKeys
  rw [List.getD, List.getElem?_map, List.getElem?_range h]
  rfl
/-- Any place's path leads to the root. -/
theorem path_leads (l : List (List UInt8)) (i : Nat) (hi : i < l.length) (hl : l.length ≤ 4096) : ascend pairSum 12 (leafSum (l.getD i [])) i l.length (pathOf pairSum i (l.map leafSum)) = some (rootSum l) := by
  have hm : (l.map leafSum).length = l.length := List.length_map _
  have h := ascend_way (f := pairSum) 12 (l.map leafSum) i (by omega) (by rw [hm]; exact hl)
  rw [way_path pairSum (l.map leafSum) i 12 (by omega) (by rw [hm]; exact hl), hm] at h
  have e : (l.map leafSum).getD i default = leafSum (l.getD i []) := by
    simp only [List.getD, List.getElem?_map]
    rw [List.getElem?_eq_getElem hi]
    rfl
  rw [e] at h
  rw [h]
  unfold rootSum
  rw [if_neg (by simp; intro e; rw [e] at hi; exact absurd hi (by simp))]
end Go.Proofs.YtfccmiohnjhkoaaDoor
namespace Go.Proofs.YtfccmiohnjhkoaaDoor
open Go.RowKit

/-- A key's cells. -/
def keyRow (s : List UInt8) (g n i : Nat) : List Value := cellsOf s ++ [.slice (some ⟨g, 0, none⟩) n n, .int .i64 (i : Int)]
theorem keyRow_len {s : List UInt8} (g n i : Nat) (hs : s.length = 32) : (keyRow s g n i).length = 34 := by simp [keyRow, cellsOf_len, hs]
theorem keyRow_left {s : List UInt8} (g n i : Nat) (hs : s.length = 32) : (keyRow s g n i)[32]? = some (.slice (some ⟨g, 0, none⟩) n n) := by
  unfold keyRow
  rw [List.getElem?_append_right (by rw [cellsOf_len, hs]; omega), cellsOf_len, hs]
  rfl
theorem keyRow_next {s : List UInt8} (g n i : Nat) (hs : s.length = 32) : (keyRow s g n i)[33]? = some (.int .i64 (i : Int)) := by
  unfold keyRow
  rw [List.getElem?_append_right (by rw [cellsOf_len, hs]; omega), cellsOf_len, hs]
  rfl
theorem keyRow_set {s : List UInt8} (g n i j : Nat) (hs : s.length = 32) : (keyRow s g n i).set 33 (.int .i64 (j : Int)) = keyRow s g n j := by
  unfold keyRow
  rw [List.set_append_right _ _ (by rw [cellsOf_len, hs]; omega), cellsOf_len, hs]
  rfl
/-- A key: its seed, its leaves, and which one is next. -/
structure KeyAt (w : World) (k : Nat) (s : List UInt8) (ls : List (List UInt8)) (i : Nat) : Prop where

  mem : ∃ g, w.heap[k]? = some (.cells (keyRow s g ls.length i).toArray 50 (0, 0)) ∧ g ≠ k ∧ Sums w (some ⟨g, 0, none⟩) ls.length ls.length ls
  seed : s.length = 32
  few : ls.length ≤ 64
  one : 0 < ls.length
theorem KeyAt.below {w w' : World} {k i : Nat} {s : List UInt8} {ls : List (List UInt8)} (h : KeyAt w k s ls i) (hb : Below w.heap.size w w') : KeyAt w' k s ls i := by
  obtain ⟨⟨g, h1, h2, h3⟩, hs, hf, ho⟩ := h
  exact ⟨⟨g, (hb.block _ (lt_of_block h1)).trans h1, h2, h3.below hb⟩, hs, hf, ho⟩
theorem KeyAt.lt {w : World} {k i : Nat} {s : List UInt8} {ls : List (List UInt8)} (h : KeyAt w k s ls i) : k < w.heap.size := by
  obtain ⟨⟨g, h1, _⟩, _⟩ := h
  exact lt_of_block h1
/-- What the walks want of it. -/
theorem KeyAt.cells {w : World} {k i : Nat} {s : List UInt8} {ls : List (List UInt8)} (h : KeyAt w k s ls i) : ∃ g, w.cell? ⟨k, 32, none⟩ = some (.slice (some ⟨g, 0, none⟩) ls.length ls.length) ∧ w.cell? ⟨k, 33, none⟩ = some (.int .i64 (i : Int)) ∧
    w.frozen? ⟨k, 33, none⟩ = false ∧ w.rangeAt k 0 (cellsOf s) ∧ Sums w (some ⟨g, 0, none⟩) ls.length ls.length ls ∧ ∀ j : Nat, KeyAt (w.setCell ⟨k, 33, none⟩ (.int .i64 (j : Int))) k s ls j := by
  obtain ⟨⟨g, h1, h2, h3⟩, hs, hf, ho⟩ := h
  refine ⟨g, ?_, ?_, frozen_of_row _ _ _ _ _ h1, ?_, h3, fun j => ⟨⟨g, ?_, h2, ?_⟩, hs, hf, ho⟩⟩
  · rw [cell_of_row _ _ _ _ _ _ h1, List.getElem?_toArray, keyRow_left _ _ _ hs]
  · rw [cell_of_row _ _ _ _ _ _ h1, List.getElem?_toArray, keyRow_next _ _ _ hs]
  · intro j v hv
    have hj := (List.getElem?_eq_some_iff.1 hv).1
    rw [Nat.zero_add, cell_of_row _ _ _ _ _ _ h1, List.getElem?_toArray, keyRow, List.getElem?_append_left hj, hv]
  · rw [heap_setCell_same _ _ _ _ _ _ h1]
    simp only [List.setIfInBounds_toArray, keyRow_set _ _ _ _ hs]
  · exact h3.but ((But.refl _ k _).setCell _ (.inl rfl) _) (fun _ b off e => by cases e; exact h2)

/-! ### Left, Next, Skip -/
theorem left_nil (w : World) : Calls Tryd.prog 37 #[.pointer none] w fun e w' => e = .returned (.int .i64 0) ∧ w = w' := by
  go_enter Tryd.func37, Tryd.ntmps37
  go_wp2
  go_ret
  exact ⟨rfl, rfl⟩
theorem next_nil (w : World) : Calls Tryd.prog 8 #[.pointer none] w fun e w' => e = .returned (.int .i64 0) ∧ w = w' := by
  go_enter Tryd.func8, Tryd.ntmps8
  go_wp2
  go_ret
  exact ⟨rfl, rfl⟩
theorem next_at {w : World} {k i : Nat} {s : List UInt8} {ls : List (List UInt8)} (h : KeyAt w k s ls i) : Calls Tryd.prog 8 #[.pointer (some ⟨k, 0, none⟩)] w fun e w' => e = .returned (.int .i64 (i : Int)) ∧ w = w' := by
  obtain ⟨g, _, c2, _⟩ := h.cells
  clear h
  go_enter Tryd.func8, Tryd.ntmps8
  go_wp2
  go_ret
  exact ⟨rfl, rfl⟩
theorem below_drewN {B : Nat} {w w' : World} (h : Below B w w') (n : Nat) : Below B w (w'.drewN n) := ⟨h.os, h.tape, h.output, h.size, h.block⟩
theorem left_at {w : World} {k i : Nat} {s : List UInt8} {ls : List (List UInt8)} (h : KeyAt w k s ls i) (hi : i ≤ ls.length) (m : Nat) (hm : ls.length - i = m) : Calls Tryd.prog 37 #[.pointer (some ⟨k, 0, none⟩)] w fun e w' => e = .returned (.int .i64 (m : Int)) ∧ Below w.heap.size w w' := by
  obtain ⟨g, c1, c2, _⟩ := h.cells
  have hf := h.few
  clear h
  obtain ⟨n, hn⟩ : ∃ n, n = ls.length := ⟨_, rfl⟩
  rw [← hn] at c1 hf hi hm
  have d1 : (n : Int) - (i : Int) = (m : Int) := by omega
  clear hn
  go_enter Tryd.func37, Tryd.ntmps37
  go_upto_region 3 with (fail)
  go_quiet (fail)
  go_wp2
  go_ret
  exact ⟨rfl, below_drewN (Below.refl _ _) _⟩
end Go.Proofs.YtfccmiohnjhkoaaDoor
namespace Go.Proofs.YtfccmiohnjhkoaaDoor
open Go.RowKit

theorem one_cells (x : UInt8) : #[.int .u8 ((x.toNat : Nat) : Int)] = (cellsOf [x]).toArray := rfl
set_option maxRecDepth 100000 in
set_option maxHeartbeats 1600000 in
theorem seed_any {w : World} {s : List UInt8} (p : Int) (x : UInt8) (hx : ((x.toNat : Nat) : Int) = p % 256) (hs : s.length = 32) (hk : KsAt w) :
    Calls Tryd.prog 18 #[.agg (cellsOf s).toArray, .int .i64 p] w fun e w' => e = .returned (.agg (cellsOf (sumOf (partsOf 21 [s, [x]]))).toArray) ∧ Below w.heap.size w w' := by
  have HK := Lib.hid hk
  have HX := Lib.hid hx
  have HS := Lib.hid hs
  have hu := Tryd.underlying23
  clear hk hx hs
  go_enter Tryd.func18, Tryd.ntmps18
  go_wp2_with fail
  rw [← zero32_is, ← HX.out, one_cells]
  have b1 : Below w.heap.size w (((w.alloc (.cells (cellsOf s).toArray 23)).alloc (.cells (cellsOf zero32).toArray 23)).alloc (.cells (cellsOf [x]).toArray 78)) := (((Below.refl _ _).alloc (Nat.le_refl _) _).alloc (by simp) _).alloc (by simp; omega) _
  have h1 : (((w.alloc (.cells (cellsOf s).toArray 23)).alloc (.cells (cellsOf zero32).toArray 23)).alloc (.cells (cellsOf [x]).toArray 78)).heap[w.heap.size]? = some (.cells (cellsOf s).toArray 23 (0, 0)) := by
    rw [heap_alloc_old _ _ (by simp; omega), heap_alloc_old _ _ (by simp), heap_alloc_new]
  have h2 : (((w.alloc (.cells (cellsOf s).toArray 23)).alloc (.cells (cellsOf zero32).toArray 23)).alloc (.cells (cellsOf [x]).toArray 78)).heap[w.heap.size + 1]? = some (.cells (cellsOf zero32).toArray 23 (0, 0)) := by
    rw [heap_alloc_old _ _ (by simp)]
    exact heap_alloc_at _ _ _ (by simp)
  have h3 : (((w.alloc (.cells (cellsOf s).toArray 23)).alloc (.cells (cellsOf zero32).toArray 23)).alloc (.cells (cellsOf [x]).toArray 78)).heap[w.heap.size + 1 + 1]? = some (.cells (cellsOf [x]).toArray 78 (0, 0)) := heap_alloc_at _ _ _ (by simp)
  revert b1 h1 h2 h3
  generalize (((w.alloc (.cells (cellsOf s).toArray 23)).alloc (.cells (cellsOf zero32).toArray 23)).alloc (.cells (cellsOf [x]).toArray 78)) = w3
  obtain ⟨g, hg⟩ : ∃ g, g = w.heap.size := ⟨_, rfl⟩
  rw [← hg]
  intro b1 h1 h2 h3
  rw [hg] at b1
  have HG := Lib.hid hg
  have HB1 := Lib.hid b1
  have H1 := Lib.hid h1
  have H2 := Lib.hid h2
  have H3 := Lib.hid h3
  obtain ⟨cs, hcs⟩ : ∃ cs, cs = cellsOf (sumOf (partsOf 21 [s, [x]])) := ⟨_, rfl⟩
  have hcl : cs.length = 32 := by rw [hcs, cellsOf_len]; exact sumOf_len _
  have hone : ∀ v ∈ cs, v.oneCell' = true := by rw [hcs]; exact cellsOf_one _
  have hsz : (Tryd.prog.info? 23).map (·.size) = some cs.length := by rw [hcl]; exact Tryd.size23
  have HCS := Lib.hid hcs
  have HSZ := Lib.hid hsz
  have HJ : Hid (∀ (W : World) (gg : Nat), Below w3.heap.size w3 W → W.heap[gg]? = some (.cells #[.slice (some ⟨g, 0, none⟩) 32 32, .slice (some ⟨g + 1 + 1, 0, none⟩) 1 1] 32 (0, 0)) → Calls Tryd.prog 36 #[.int .u8 21, .slice (some ⟨gg, 0, none⟩) 2 2] W fun e w' => e = .returned (.agg cs.toArray) ∧ Below w3.heap.size w3 w') := Lib.hid (fun W gg hb hgg => by
    have r1 : Row W (some ⟨g, 0, none⟩) 32 32 s := row_all ((hb.block _ (lt_of_block H1.out)).trans H1.out) 32 HS.out.symm (by omega)
    have r2 : Row W (some ⟨g + 1 + 1, 0, none⟩) 1 1 [x] := row_all ((hb.block _ (lt_of_block H3.out)).trans H3.out) 1 rfl (by omega)
    have hlen : (partsOf 21 [s, [x]]).length ≤ 1125899906842624 := by
      unfold partsOf partOf
      simp only [List.flatMap_cons, List.flatMap_nil, List.length_cons, List.length_append, four_len, List.length_nil, HS.out]
      omega
    refine (join_any 21 21 rfl (rows2_at hgg r1 r2) ((HK.out.below HB1.out).below hb) hlen).mono fun e w' ⟨e1, e2⟩ => ⟨by rw [e1, hcs], hb.trans (e2.mono hb.size)⟩)
  have ht3 : w3.drew.there (g + 1) 0 32 := there_of (w := w3.drew) h2 rfl
  have ht4 : ∀ w' : World, Below w3.heap.size w3 w' → w'.there (g + 1) 0 32 := fun w' hb => there_of ((hb.block _ (lt_of_block h2)).trans h2) rfl
  have HT4 := Lib.hid ht4
  clear b1 h1 h2 h3 hg hcs ht4 hsz
  have hsz := HSZ.out
  go_region_held (fun w' => w'.there (g + 1) 0 32)
    (first | exact ht3 | exact ht5 | go_keep_ranges)
    ((go_at_call 36; (with_reducible refine (HJ.out _ _ ?_ ?_).mono ?_); (exact below_drew ((Below.refl _ _).alloc (Nat.le_refl _) _)); (exact heap_alloc_new _ _); rintro e w5 ⟨rfl, hb5⟩; have ht5 := HT4.out w5 hb5; have HB5 := Lib.hid hb5; clear hb5))
  all_goals
    go_wp2_with fail
    have hbe : Below w.heap.size w (w5.setCells (g + 1) 0 cs) := below_setCells (by rw [HG.out]; omega) cs 0 w5 (HB1.out.trans (HB5.out.mono HB1.out.size))
    refine bodyPost_ret (results_cell_range rfl _ _ (g + 1) cs _ rfl ?_ Tryd.underlying23 rfl HSZ.out) rfl ⟨by rw [HCS.out], hbe⟩
    exact World.rangeAt_setCells_same w5 (g + 1) 0 cs (by rw [hcl]; exact ht5)
theorem seed_at {w : World} {s : List UInt8} (i : Nat) (hs : s.length = 32) (hk : KsAt w) :
    Calls Tryd.prog 18 #[.agg (cellsOf s).toArray, .int .i64 (i : Int)] w fun e w' => e = .returned (.agg (cellsOf (leafSeed s i)).toArray) ∧ Below w.heap.size w w' :=
  seed_any (i : Int) (UInt8.ofNat i) (by rw [UInt8.toNat_ofNat']; omega) hs hk
end Go.Proofs.YtfccmiohnjhkoaaDoor
namespace Go.Proofs.YtfccmiohnjhkoaaDoor
open Go.RowKit

def zeroKey : List Value := cellsOf zero32 ++ [.slice none 0 0, .int .i64 0]
theorem Tryd.zeroKey : (Tryd.prog.info? 50).map (fun i => (i.zero, i.size, i.bytes)) = some (some (.agg zeroKey.toArray), 34, 64) := by kernel_rfl
theorem Tryd.keyFields : ∃ fs, Tryd.prog.underlying 50 = some (.struct fs) ∧ ∀ w : World, ((fs.mapM fun (f : Field) => do pure (f.offset, ← sizeOf f.type)) : Sem (Array (Nat × Nat))).run Tryd.prog w = .ok #[(0, 32), (32, 1), (33, 1)] w := by
  exact ⟨_, Tryd.underlying50, fun w => by kernel_rfl⟩
theorem fill_key (s : List UInt8) (hs : s.length = 32) (v : Value) (hv : v.cells = #[v]) : Instr.fill ((#[(0, 32), (32, 1), (33, 1)] : Array (Nat × Nat))[·]?) zeroKey.toArray [(0, .agg (cellsOf s).toArray), (1, v)] = some (cellsOf s ++ [v, .int .i64 0]).toArray := by
  have hl : (cellsOf s).length = 32 := by rw [cellsOf_len, hs]
  have hz : zeroKey.length = 34 := rfl
  obtain ⟨g1, g2⟩ := Great.foldl_set 0 (cellsOf s) 0 zeroKey.toArray
  have e1 : (cellsOf s).toArray.zipIdx.foldl (fun cs (x : Value × Nat) => cs.setIfInBounds (0 + x.2) x.1) zeroKey.toArray = (((cellsOf s).zipIdx 0).foldl (fun cs (x : Value × Nat) => cs.setIfInBounds (0 + x.2) x.1) zeroKey.toArray) := by
    rw [← Array.foldl_toList, Array.toList_zipIdx]
  obtain ⟨M, hM⟩ : ∃ M, M = (((cellsOf s).zipIdx 0).foldl (fun cs (x : Value × Nat) => cs.setIfInBounds (0 + x.2) x.1) zeroKey.toArray) := ⟨_, rfl⟩
  rw [← hM] at g1 g2 e1
  have hsz : M.size = 34 := by rw [g1]; rfl
  unfold Instr.fill
  simp only [show (#[(0, 32), (32, 1), (33, 1)] : Array (Nat × Nat))[0]? = some (0, 32) from rfl]
  rw [if_neg (by simp only [Value.cells, List.size_toArray, hl, hz]; decide)]
  rw [show (Value.agg (cellsOf s).toArray).cells = (cellsOf s).toArray from rfl, e1]
  unfold Instr.fill
  simp only [show (#[(0, 32), (32, 1), (33, 1)] : Array (Nat × Nat))[1]? = some (32, 1) from rfl]
  rw [if_neg (by rw [hv, hsz]; simp), hv]
  unfold Instr.fill
  congr 1
  apply Array.ext_getElem?
  intro k
  show (M.setIfInBounds (32 + 0) v)[k]? = _
  rw [Array.getElem?_setIfInBounds, hsz, g2 k, show (cellsOf s ++ [v, Value.int IntKind.i64 0]).toArray[k]? = (cellsOf s ++ [v, Value.int IntKind.i64 0])[k]? by simp]
  by_cases h1 : k < 32
  · rw [if_neg (by omega), if_pos (by simp only [List.size_toArray, hz]; omega), List.getElem?_append_left (by omega)]
    rfl
  · rw [List.getElem?_append_right (by omega), hl]
    by_cases h2 : k = 32
    · subst h2
      rw [if_pos (by omega), if_pos (by omega)]
      rfl
    · rw [if_neg (by omega), if_neg (by omega), List.getElem?_toArray]
      unfold zeroKey
      rw [List.getElem?_append_right (by rw [cellsOf_len]; show 32 ≤ k; omega), show (cellsOf zero32).length = 32 from rfl]
      obtain ⟨d, rfl⟩ : ∃ d, k = d + 33 := ⟨k - 33, by omega⟩
      rw [show d + 33 - 32 = d + 1 by omega]
      rfl
theorem run_build_key (s : List UInt8) (hs : s.length = 32) (g n : Nat) (w : World) : (Instr.build 50 #[(0, .agg (cellsOf s).toArray), (1, .slice (some ⟨g, 0, none⟩) n n)]).run Tryd.prog w = .ok (.agg (keyRow s g n 0).toArray) w := by
  obtain ⟨ie, h1, h2, h3, _⟩ := info_parts Tryd.zeroKey
  obtain ⟨fs, hu, hm⟩ := Tryd.keyFields
  have hf := fill_key s hs (.slice (some ⟨g, 0, none⟩) n n) rfl
  have hz : (zeroValue 50).run Tryd.prog w = .ok (.agg zeroKey.toArray) w := by simp [zeroValue, typeInfo, h1, h2]
  unfold Instr.build
  simp only [Sem.run_bind, hz, Result.andThen_ok, run_underlying hu, hm w]
  rw [show (Value.agg zeroKey.toArray).cells = zeroKey.toArray from rfl]
  simp only [hf]
  rfl
section
variable {ops : Array Oper} {S : World → Prop} {op : Oper} {a : Act}
theorem yields_key {x y : Operand} {s : List UInt8} {g n : Nat} (hw : Region.wanted op (yielded ops a.tmps) = true) (ho : op.op = .build 50 #[(0, x), (1, y)]) (hx : a.eval x = .agg (cellsOf s).toArray) (hy : a.eval y = .slice (some ⟨g, 0, none⟩) n n) (hs : s.length = 32) :
    YieldsIf Tryd.prog ops S op (.agg (keyRow s g n 0).toArray) a :=
  .inl ⟨hw, fun w _ => by
    have h := run_build_key s hs g n w
    unfold execOp
    simp only [ho, List.map_toArray, List.map_cons, List.map_nil, hx, hy, Sem.run_bind, h, Result.andThen_ok, Sem.run_pure]⟩
end
/-- A new variable with a row, in a region. -/
theorem step_box {P : Program} {ops : Array Oper} {o : Oper} {tmps : Array Value} {ds : List Deferred} {w : World} {K : Act → World → Prop} {Q : Exit → Act → World → Prop} {E : Prop} {d : Nat} (hd : o.dst = some d) (hw : Region.wanted o (yielded ops tmps) = true) (ty : TypeId) (x : Operand) (ho : o.op = .box ty x) (cs : Array Value)
    (hx : (Act.eval { tmps := tmps, defers := ds } x) = .agg cs)
    (h : ∀ p y, w.heap.size ≤ p → y.heap[p]? = some (.cells cs ty (0, 0)) → Below w.heap.size w y → K { tmps := tmps.setIfInBounds d (.pointer (some ⟨p, 0, none⟩)), defers := ds } y) :
    if Region.wanted o (yielded ops tmps) = true then Oper.wp P o { tmps := tmps, defers := ds } w K Q else E := by
  rw [if_pos hw]
  have hrun : (Instr.box ty (.agg cs)).run P w = .ok (.pointer (some ⟨w.heap.size, 0, none⟩)) (w.alloc (.cells cs ty)) := by
    simp [Instr.box, newVar, newRow, Value.cells]
  unfold Oper.wp execOp
  simp only [ho, hx, Sem.run_bind, hrun, Sem.run_pure, Result.andThen_ok]
  show K (Act.put _ o.dst _) _
  rw [hd]
  exact h _ _ (Nat.le_refl _) (heap_alloc_new _ _) ((Below.refl _ _).alloc (Nat.le_refl _) _)
/-- A new slice of so many sums, all zero, in a region. -/
theorem step_make_sums {ops : Array Oper} {o : Oper} {tmps : Array Value} {ds : List Deferred} {w : World} {K : Act → World → Prop} {Q : Exit → Act → World → Prop} {E : Prop} {d : Nat} (hd : o.dst = some d) (hw : Region.wanted o (yielded ops tmps) = true) (x y : Operand) (ho : o.op = .makeSlice 48 x y) (n : Nat) (hn : n ≤ 100000)
    (hx : (Act.eval { tmps := tmps, defers := ds } x) = .int .i64 (n : Int)) (hy : (Act.eval { tmps := tmps, defers := ds } y) = .int .i64 (n : Int)) (B : Nat) (hB : B ≤ w.heap.size)
    (h : ∀ g z, w.heap.size ≤ g → OwnS z B (.slice (some ⟨g, 0, none⟩) n n) (List.replicate n zero32) → Below w.heap.size w z → K { tmps := tmps.setIfInBounds d (.slice (some ⟨g, 0, none⟩) n n), defers := ds } z) :
    if Region.wanted o (yielded ops tmps) = true then Oper.wp Tryd.prog o { tmps := tmps, defers := ds } w K Q else E := by
  rw [if_pos hw]
  obtain ⟨ie, i1, i2, i3, i4⟩ := info_parts sum_zero
  obtain ⟨z, hrun, h1, h2⟩ := run_makeSlice_full (P := Tryd.prog) (w := w) B 48 23 ie _ 32 Tryd.underlying48 i1 i2 i3 .i64 .i64 n (by omega) (by rw [i4]; omega) (by unfold maxLen; omega) hB
  unfold Oper.wp execOp
  simp only [ho, hx, hy, Sem.run_bind, hrun, Sem.run_pure, Result.andThen_ok]
  show K (Act.put _ o.dst _) _
  rw [hd]
  exact h _ _ (Nat.le_refl _) (made_own h1) ⟨h2.os, h2.tape, h2.output, h2.size, fun k hk => h2.block k hk (by simp)⟩
end Go.Proofs.YtfccmiohnjhkoaaDoor
namespace Go.Proofs.YtfccmiohnjhkoaaDoor
open Go.RowKit

theorem new_no {w : World} {s : List UInt8} (n : Int) (h : n < 1 ∨ 64 < n) : Calls Tryd.prog 5 #[.agg (cellsOf s).toArray, .int .i64 n] w fun e w' => e = .returned (.tuple #[.pointer none, .int .i64 1]) ∧ Below w.heap.size w w' := by
  have b1 : Below w.heap.size w (w.alloc (.cells (cellsOf s).toArray 23)) := (Below.refl _ _).alloc (Nat.le_refl _) _
  have HB := Lib.hid b1
  clear b1
  by_cases h1 : n < 1
  · clear h
    go_enter Tryd.func5, Tryd.ntmps5
    go_wp2_with fail
    go_ret2
    exact ⟨rfl, HB.out⟩
  · have h2 : 64 < n := by omega
    clear h
    go_enter Tryd.func5, Tryd.ntmps5
    go_wp2_with fail
    go_ret2
    exact ⟨rfl, HB.out⟩
/-- A key under way: so many leaves are laid. -/
structure Making (w0 : World) (s : List UInt8) (n g k j : Nat) (w : World) : Prop where
  holds : Holds w0 g n (soFar (leafKeys s n) n j) w
  key : w.heap[k]? = some (.cells (keyRow s g n 0).toArray 50 (0, 0))
  apart : g ≠ k
  new : w0.heap.size ≤ k
theorem Making.more {w0 w w' : World} {s : List UInt8} {n g k j : Nat} (h : Making w0 s n g k j w) (hb : Below w.heap.size w w') : Making w0 s n g k j w' :=
  ⟨h.holds.more hb, (hb.block _ (lt_of_block h.key)).trans h.key, h.apart, h.new⟩
theorem Making.step {w0 w : World} {s t : List UInt8} {n g k j : Nat} (h : Making w0 s n g k j w) (hj : j < n) (ht : (leafKeys s n).getD j [] = t) (hl : t.length = 32) : Making w0 s n g k (j + 1) (w.setCells g (j * 32) (cellsOf t)) := by
  have h1 := h.holds.step hj hl
  rw [soFar_step _ _ _ (leafKeys_len s n) hj t ht] at h1
  exact ⟨h1, (h.holds.own.store hj hl).2.heap h.key (lt_of_block h.key) (fun e => h.apart e.symm), h.apart, h.new⟩
theorem Making.done {w0 w : World} {s : List UInt8} {n g k : Nat} (h : Making w0 s n g k n w) (hs : s.length = 32) (h1 : 0 < n) (h2 : n ≤ 64) : KeyAt w k s (leafKeys s n) 0 := by
  have hl := leafKeys_len s n
  have e : soFar (leafKeys s n) n n = leafKeys s n := by unfold soFar; rw [Nat.sub_self, List.take_of_length_le (by omega)]; simp
  have ho := h.holds.own
  rw [e] at ho
  refine ⟨⟨g, by rw [hl]; exact h.key, h.apart, by rw [hl]; exact ho.sums⟩, hs, by omega, by omega⟩
/-- What stays while a leaf is made. -/
structure Near (w0 : World) (s : List UInt8) (n g k : Nat) (w : World) : Prop where
  below : Below w0.heap.size w0 w
  key : w.heap[k]? = some (.cells (keyRow s g n 0).toArray 50 (0, 0))
theorem Near.more {w0 w w' : World} {s : List UInt8} {n g k : Nat} (h : Near w0 s n g k w) (hb : Below w.heap.size w w') : Near w0 s n g k w' :=
  ⟨h.below.trans (hb.mono h.below.size), (hb.block _ (lt_of_block h.key)).trans h.key⟩
theorem Near.drew {w0 w : World} {s : List UInt8} {n g k : Nat} (h : Near w0 s n g k w) : Near w0 s n g k w.drew := ⟨below_drew h.below, h.key⟩
theorem Making.near {w0 w : World} {s : List UInt8} {n g k j : Nat} (h : Making w0 s n g k j w) : Near w0 s n g k w := ⟨h.holds.below, h.key⟩
theorem made_cell {w : World} {s : List UInt8} {g n k : Nat} (hs : s.length = 32) (h : w.heap[k]? = some (.cells (keyRow s g n 0).toArray 50 (0, 0))) : w.cell? ⟨k, 32, none⟩ = some (.slice (some ⟨g, 0, none⟩) n n) := by
  rw [cell_of_row _ _ _ _ _ _ h, List.getElem?_toArray, keyRow_left _ _ _ hs]
set_option linter.unusedSimpArgs false in
set_option maxRecDepth 100000 in
set_option maxHeartbeats 3200000 in
theorem new_yes {w : World} {s : List UInt8} (n : Nat) (h1 : 1 ≤ n) (h2 : n ≤ 64) (hs : s.length = 32) (hk : KsAt w) : Calls Tryd.prog 5 #[.agg (cellsOf s).toArray, .int .i64 (n : Int)] w fun e w' =>
    ∃ k, e = .returned (.tuple #[.pointer (some ⟨k, 0, none⟩), .int .i64 0]) ∧ w.heap.size ≤ k ∧ KeyAt w' k s (leafKeys s n) 0 ∧ Below w.heap.size w w' := by
  have d1 : ¬ ((n : Int) < 1) := by omega
  have d2 : ¬ (64 < (n : Int)) := by omega
  have hstep : ∀ j : Nat, j < n → ∃ x y : List UInt8, (leafKeys s n).getD j [] = y ∧ x.length = 32 ∧ y.length = 32 ∧
      (∀ W : World, KsAt W → Calls Tryd.prog 18 #[.agg (cellsOf s).toArray, .int .i64 (j : Int)] W fun e w' => e = .returned (.agg (cellsOf x).toArray) ∧ Below W.heap.size W w') ∧
      (∀ W : World, KsAt W → Calls Tryd.prog 17 #[.agg (cellsOf x).toArray] W fun e w' => e = .returned (.agg (cellsOf y).toArray) ∧ Below W.heap.size W w') := fun j hj =>
    ⟨leafSeed s j, leafKey s j, leafKeys_get s n j hj, leafSeed_len _ _, leafKey_len _ _, fun W hW => seed_at j hs hW, fun W hW => public_any (leafSeed_len _ _) hW⟩
  have SZ := Lib.hid (size_of hs)
  have SZL : Hid ((Tryd.prog.info? 23).map (·.size) = some (cellsOf s).length) := Lib.hid (by rw [cellsOf_len, hs]; exact Tryd.size23)
  have HS := Lib.hid hs
  have HK := Lib.hid hk
  have HST := Lib.hid hstep
  clear hs hk hstep
  go_enter Tryd.func5, Tryd.ntmps5
  go_upto_region 1 with (fail)
  have b1 : Below w.heap.size w (w.alloc (.cells (cellsOf s).toArray 23)) := (Below.refl _ _).alloc (Nat.le_refl _) _
  have h1' : (w.alloc (.cells (cellsOf s).toArray 23)).heap[w.heap.size]? = some (.cells (cellsOf s).toArray 23 (0, 0)) := heap_alloc_new _ _
  revert b1 h1'
  generalize (w.alloc (.cells (cellsOf s).toArray 23)) = w1
  obtain ⟨q, hq⟩ : ∃ q, q = w.heap.size := ⟨_, rfl⟩
  rw [← hq]
  intro b1 h1'
  rw [hq] at b1
  have HB1 := Lib.hid b1
  have HQ1 := Lib.hid h1'
  have HQ := Lib.hid (range_of h1')
  have hltq := lt_of_block h1'
  clear b1 h1' hq
  go_upto_region 3 with (fail)
  refine wp_region_held_drew (S := fun w' => Below w1.heap.size w1 w') (by kernel_rfl) (below_drew (Below.refl _ _)) (fun hHeld => ?_)
  refine take_at (i := 0) rfl rfl (by kernel_rfl) (by kernel_rfl) (by kernel_rfl) (fun _ _ _ h => h) (yieldsIf_load_mid (by rfl) _ _ rfl q 0 rfl (cellsOf s) _ (fun w0 hSw => rangeAt_below HQ.out hltq hSw) Tryd.underlying23 rfl SZL.out) (by assumption) ?_
  simp only [List.setIfInBounds_toArray, List.set_cons_zero, List.set_cons_succ]
  refine take_at (i := 1) (v := ?_) rfl rfl (by kernel_rfl) (by kernel_rfl) (by kernel_rfl) (fun _ _ _ h => h) (Or.inl ⟨by rfl, ?_⟩) (by assumption) ?_
  rotate_left
  · intro w0 hSw; (try dsimp only at hSw); first | (go_simp; done) | (go_simp; with_reducible rfl)
  simp only [List.setIfInBounds_toArray, List.set_cons_zero, List.set_cons_succ]
  refine wpAnyH_ready (rs := [2]) (by kernel_rfl) (by simp) ?_
  refine AllReadyH.cons rfl (fun K hK => ?_) ?_
  · refine step_make_sums (d := 16) rfl (by rfl) _ _ rfl n (by omega) rfl rfl w1.heap.size (Below.size hHeld) ?_
    intro g z hg hz hb2
    have HG := Lib.hid hg
    have HZ := Lib.hid hz
    have HB2 := Lib.hid (Below.trans hHeld (hb2.mono (Below.size hHeld)))
    have HGZ := Lib.hid ((hz.lt g rfl).2)
    clear hg hz hb2
    refine hK.out _ _ (by (try dsimp only); exact HB2.out) (fun hHeld => ?_)
    clear hK K
    refine take_at (i := 3) rfl rfl (by kernel_rfl) (by kernel_rfl) (by kernel_rfl) (fun _ _ _ h => h) (yields_key (by rfl) rfl rfl rfl HS.out) (by assumption) ?_
    simp only [List.setIfInBounds_toArray, List.set_cons_zero, List.set_cons_succ]
    refine wpAnyH_ready (rs := [4]) (by kernel_rfl) (by simp) ?_
    refine AllReadyH.cons rfl (fun K hK => ?_) ?_
    · refine step_box (d := 18) rfl (by rfl) 50 _ rfl _ rfl ?_
      intro k y hk hy hb4
      have HKK := Lib.hid hk
      have HY := Lib.hid hy
      have HZ4 := Lib.hid (HZ.out.below hb4)
      have HB4 := Lib.hid (HB2.out.trans (hb4.mono HB2.out.size))
      clear hk hy hb4
      refine hK.out _ _ (by (try dsimp only); exact HB4.out) (fun hHeld => ?_)
      clear hK K
      refine take_at (i := 5) (v := ?_) rfl rfl (by kernel_rfl) (by kernel_rfl) (by kernel_rfl) (fun _ _ _ h => h) (Or.inl ⟨by rfl, ?_⟩) (by assumption) ?_
      rotate_left
      · intro w0 hSw; (try dsimp only at hSw); first | (go_simp; done) | (go_simp; with_reducible rfl)
      simp only [List.setIfInBounds_toArray, List.set_cons_zero, List.set_cons_succ]
      refine wpAnyH_done (by kernel_rfl) ?_ _
      have hm : Making w1 s n g k 0 y := ⟨⟨by unfold soFar; rw [List.take_zero, List.nil_append, Nat.sub_zero]; exact HZ4.out, HB4.out⟩, HY.out, by have := HGZ.out; have := HKK.out; omega, Nat.le_trans HB2.out.size HKK.out⟩
      have HM := Lib.hid hm
      clear hm hHeld
      go_wp2_with fail
      go_loopw [20, 7] (fun i p wr => ∃ j : Nat, j ≤ n ∧ i = .int .i64 j ∧ Making w1 s n g k j wr) (fun i _ _ => n - (intOf i).toNat)
      case atStart => exact ⟨0, Nat.zero_le _, rfl, HM.out⟩
      case round =>
        obtain ⟨j, hj, rfl, hat⟩ := hrel
        have HAT := Lib.hid hat
        clear hat HM HZ4 HY HZ
        by_cases hjn : j < n
        · have f1 : (j : Int) < (n : Int) := by omega
          obtain ⟨x, t, hgt, hxl, htl, hseed, hpub⟩ := HST.out j hjn
          have HGT := Lib.hid hgt
          have HTL := Lib.hid htl
          have HSEED := Lib.hid hseed
          have HPUB := Lib.hid hpub
          have SZT := Lib.hid (size_of htl)
          clear hgt hxl htl hseed hpub
          have f0 : (0 : Int) ≤ (j : Int) := by omega
          have ft : ((j : Int)).toNat = j := by omega
          have HKW := Lib.hid (HK.out.below HB1.out)
          go_upto_region 7 with (fail)
          refine wp_region_held_drew (S := Near w1 s n g k) (by kernel_rfl) (HAT.out.near.drew) (fun hHeld => ?_)
          refine take_at (i := 0) (v := ?_) rfl rfl (by kernel_rfl) (by kernel_rfl) (by kernel_rfl) (fun _ _ _ h => h) (Or.inl ⟨by rfl, ?_⟩) (by assumption) ?_
          rotate_left
          · intro w0 hSw; (try dsimp only at hSw); first | (go_simp; done) | (go_simp; with_reducible rfl)
          simp only [List.setIfInBounds_toArray, List.set_cons_zero, List.set_cons_succ]
          refine take_at (i := 1) (v := ?_) rfl rfl (by kernel_rfl) (by kernel_rfl) (by kernel_rfl) (fun _ _ _ h => h) (Or.inl ⟨by rfl, ?_⟩) (by assumption) ?_
          rotate_left
          · intro w0 hSw; (try dsimp only at hSw); first | (go_simp; done) | (go_simp; with_reducible rfl)
          simp only [List.setIfInBounds_toArray, List.set_cons_zero, List.set_cons_succ]
          refine take_at (i := 2) (v := ?_) rfl rfl (by kernel_rfl) (by kernel_rfl) (by kernel_rfl) (fun _ _ _ h => h) (Or.inl ⟨by rfl, ?_⟩) (by assumption) ?_
          rotate_left
          · intro w0 hSw; (try dsimp only at hSw); first | (go_simp; done) | (go_simp; with_reducible rfl)
          simp only [List.setIfInBounds_toArray, List.set_cons_zero, List.set_cons_succ]
          refine take_at (i := 3) (v := .slice (some ⟨g, 0, none⟩) n n) rfl rfl (by kernel_rfl) (by kernel_rfl) (by kernel_rfl) (fun _ _ _ h => h) (yields_cell (by rfl) rfl rfl (fun w0 hSw => made_cell HS.out hSw.key) (fun _ => by kernel_rfl)) (by assumption) ?_
          simp only [List.setIfInBounds_toArray, List.set_cons_zero, List.set_cons_succ]
          refine take_at (i := 4) (v := ?_) rfl rfl (by kernel_rfl) (by kernel_rfl) (by kernel_rfl) (fun _ _ _ h => h) (Or.inl ⟨by rfl, ?_⟩) (by assumption) ?_
          rotate_left
          · intro w0 hSw; (try dsimp only at hSw); first | (go_simp; done) | (go_simp; with_reducible rfl)
          simp only [List.setIfInBounds_toArray, List.set_cons_zero, List.set_cons_succ]
          refine take_at (i := 5) rfl rfl (by kernel_rfl) (by kernel_rfl) (by kernel_rfl) (fun _ _ _ h => h) (yieldsIf_load_mid (by rfl) _ _ rfl q 0 rfl (cellsOf s) _ (fun w0 hSw => rangeAt_below HQ.out hltq hSw.below) Tryd.underlying23 rfl SZL.out) (by assumption) ?_
          simp only [List.setIfInBounds_toArray, List.set_cons_zero, List.set_cons_succ]
          refine take_at (i := 6) (v := ?_) rfl rfl (by kernel_rfl) (by kernel_rfl) (by kernel_rfl) (fun _ _ _ h => h) (Or.inl ⟨by rfl, ?_⟩) (by assumption) ?_
          rotate_left
          · intro w0 hSw; (try dsimp only at hSw); first | (go_simp; done) | (go_simp; with_reducible rfl)
          simp only [List.setIfInBounds_toArray, List.set_cons_zero, List.set_cons_succ]
          refine wpAnyH_ready (rs := [7]) (by kernel_rfl) (by simp) ?_
          refine AllReadyH.cons rfl (fun K hK => ?_) ?_
          · have HH := Lib.hid hHeld
            go_simp
            go_wp2_with ((go_at_call 18; (with_reducible refine (HSEED.out _ (HKW.out.below HH.out.below)).mono ?_); rintro e w5 ⟨rfl, hb5⟩; have HB5 := Lib.hid hb5; clear hb5))
            refine hK.out _ _ (by (try dsimp only); exact HH.out.more HB5.out) (fun hHeld => ?_)
            clear hK K
            refine wpAnyH_ready (rs := [8]) (by kernel_rfl) (by simp) ?_
            refine AllReadyH.cons rfl (fun K hK => ?_) ?_
            · have HH := Lib.hid hHeld
              go_simp
              go_wp2_with ((go_at_call 17; (with_reducible refine (HPUB.out _ (HKW.out.below HH.out.below)).mono ?_); rintro e w6 ⟨rfl, hb6⟩; have HB6 := Lib.hid hb6; clear hb6))
              refine hK.out _ _ (by (try dsimp only); exact HH.out.more HB6.out) (fun hHeld => ?_)
              clear hK K
              refine take_at (i := 9) (v := ?_) rfl rfl (by kernel_rfl) (by kernel_rfl) (by kernel_rfl) (fun _ _ _ h => h) (Or.inl ⟨by rfl, ?_⟩) (by assumption) ?_
              rotate_left
              · intro w0 hSw; (try dsimp only at hSw); first | (go_simp; done) | (go_simp; with_reducible rfl)
              simp only [List.setIfInBounds_toArray, List.set_cons_zero, List.set_cons_succ]
              refine wpAnyH_ready (rs := [10]) (by kernel_rfl) (by simp) ?_
              refine AllReadyH.cons rfl (fun K hK => ?_) ?_
              · have h5 := HAT.out.more (((below_drew (Below.refl wr.heap.size wr)).trans HB5.out).trans (HB6.out.mono HB5.out.size))
                have th5 : w6.there g (j * 32) (cellsOf t).toArray.size := by rw [List.size_toArray, cellsOf_len, HTL.out]; exact h5.holds.own.there hjn
                have h6 := h5.step hjn HGT.out HTL.out
                have H6 := Lib.hid h6
                clear h5 h6
                rw [if_pos (by rfl)]
                refine wp_store_mid 23 _ _ rfl g (j * 32) (cellsOf t).toArray rfl rfl th5 SZT.out (all_oneCell_toArray (cellsOf_one t)) ?_
                refine hK.out _ _ (by (try dsimp only); exact H6.out.near) (fun hHeld => ?_)
                clear hK K
                refine wpAnyH_done (by kernel_rfl) ?_ _
                go_wp2_with fail
                go_roundw
                case rel => exact ⟨j + 1, by omega, by go_num, H6.out⟩
                case measure => simp [intOf]; omega
              exact AllReadyH.nil
            exact AllReadyH.nil
          exact AllReadyH.nil
        · have f1 : ¬ ((j : Int) < (n : Int)) := by omega
          obtain rfl : j = n := by omega
          go_wp2_with fail
          go_ret2
          exact ⟨k, rfl, Nat.le_trans HB1.out.size HAT.out.new, HAT.out.done HS.out (by omega) (by omega), HB1.out.trans (HAT.out.holds.below.mono HB1.out.size)⟩
    exact AllReadyH.nil
  exact AllReadyH.nil
end Go.Proofs.YtfccmiohnjhkoaaDoor
namespace Go.Proofs.YtfccmiohnjhkoaaDoor
open Go.RowKit

set_option linter.unusedSimpArgs false in
set_option maxRecDepth 100000 in
set_option maxHeartbeats 1600000 in
theorem keyroot_nil (w : World) : Calls Tryd.prog 10 #[.pointer none] w fun e w' => e = .returned (.agg (cellsOf zero32).toArray) ∧ Below w.heap.size w w' := by
  have SZ := Lib.hid (size_of (d := zero32) rfl)
  have HZ := Lib.hid (zero_of (d := zero32) rfl)
  go_enter Tryd.func10, Tryd.ntmps10
  go_upto_region 1 with (fail)
  rw [← zero32_is]
  have b1 : Below w.heap.size w (w.alloc (.cells (cellsOf zero32).toArray 23)) := (Below.refl _ _).alloc (Nat.le_refl _) _
  have h1 : (w.alloc (.cells (cellsOf zero32).toArray 23)).heap[w.heap.size]? = some (.cells (cellsOf zero32).toArray 23 (0, 0)) := heap_alloc_new _ _
  revert b1 h1
  generalize (w.alloc (.cells (cellsOf zero32).toArray 23)) = w1
  obtain ⟨g, hg⟩ : ∃ g, g = w.heap.size := ⟨_, rfl⟩
  rw [← hg]
  intro b1 h1
  rw [hg] at b1
  have HB1 := Lib.hid b1
  have H1 := Lib.hid h1
  have HG := Lib.hid hg
  clear b1 h1 hg
  go_wp2_with (refine wpList_store_row rfl 23 _ _ rfl g (cellsOf zero32).toArray rfl rfl 23 (cellsOf zero32).toArray H1.out SZ.out HZ.out (all_oneCell_toArray (cellsOf_one zero32)) ?_)
  refine bodyPost_ret (results_cell_row rfl _ _ g 23 (cellsOf zero32).toArray (0, 0) _ rfl (setRow_heap w1 g _ _ 23 _ H1.out) Tryd.underlying23 rfl SZ.out) rfl ⟨rfl, ?_⟩
  exact HB1.out.trans (((but_setRow _ g _).mono HB1.out.size).below (by rw [HG.out]; omega))
set_option linter.unusedSimpArgs false in
set_option maxRecDepth 100000 in
set_option maxHeartbeats 1600000 in
theorem keyroot_at {w : World} {k i : Nat} {s : List UInt8} {ls : List (List UInt8)} (h : KeyAt w k s ls i) (hk : KsAt w) : Calls Tryd.prog 10 #[.pointer (some ⟨k, 0, none⟩)] w fun e w' => e = .returned (.agg (cellsOf (rootSum ls)).toArray) ∧ Below w.heap.size w w' := by
  have hf := h.few
  obtain ⟨g, c1, _, _, _, hsum, _⟩ := h.cells
  have hltk := h.lt
  obtain ⟨r, hr, hrl, hroot⟩ : ∃ r, rootSum ls = r ∧ r.length = 32 ∧ ∀ W : World, Sums W (some ⟨g, 0, none⟩) ls.length ls.length ls → KsAt W → Calls Tryd.prog 21 #[.slice (some ⟨g, 0, none⟩) ls.length ls.length] W fun e w' => e = .returned (.agg (cellsOf r).toArray) ∧ Below W.heap.size W w' :=
    ⟨_, rfl, rootSum_len _, fun W h1 h2 => root_any h1 h2 (by omega)⟩
  rw [hr]
  obtain ⟨n, hn⟩ : ∃ n, n = ls.length := ⟨_, rfl⟩
  rw [← hn] at c1 hsum hroot hf
  have SZ := Lib.hid (size_of hrl)
  have HZ := Lib.hid (zero_of hrl)
  have HK := Lib.hid hk
  have HSUM := Lib.hid hsum
  have HR := Lib.hid hroot
  clear hr hrl hroot hsum h hk hn
  go_enter Tryd.func10, Tryd.ntmps10
  go_upto_region 1 with (fail)
  rw [← zero32_is]
  have b1 : Below w.heap.size w (w.alloc (.cells (cellsOf zero32).toArray 23)) := (Below.refl _ _).alloc (Nat.le_refl _) _
  have h1 : (w.alloc (.cells (cellsOf zero32).toArray 23)).heap[w.heap.size]? = some (.cells (cellsOf zero32).toArray 23 (0, 0)) := heap_alloc_new _ _
  have c2 := (b1.cell (p := ⟨k, 32, none⟩) hltk).trans c1
  revert b1 h1 c2
  generalize (w.alloc (.cells (cellsOf zero32).toArray 23)) = w1
  obtain ⟨q, hq⟩ : ∃ q, q = w.heap.size := ⟨_, rfl⟩
  rw [← hq]
  intro b1 h1 c2
  rw [hq] at b1
  have HB1 := Lib.hid b1
  have H1 := Lib.hid h1
  have HQ := Lib.hid hq
  clear b1 h1 hq c1
  go_wp2_with fail
  refine (HR.out _ (HSUM.out.below HB1.out) (HK.out.below HB1.out)).mono ?_
  rintro e w2 ⟨rfl, hb2⟩
  have HB2 := Lib.hid (HB1.out.trans (hb2.mono HB1.out.size))
  have H2 := Lib.hid ((hb2.block _ (lt_of_block H1.out)).trans H1.out)
  clear hb2
  go_wp2_with (refine wpList_store_row rfl 23 _ _ rfl q (cellsOf r).toArray rfl rfl 23 (cellsOf zero32).toArray H2.out SZ.out HZ.out (all_oneCell_toArray (cellsOf_one r)) ?_)
  refine bodyPost_ret (results_cell_row rfl _ _ q 23 (cellsOf r).toArray (0, 0) _ rfl (setRow_heap w2 q _ _ 23 _ H2.out) Tryd.underlying23 rfl SZ.out) rfl ⟨rfl, ?_⟩
  exact HB2.out.trans (((but_setRow _ q _).mono HB2.out.size).below (by rw [HQ.out]; omega))
end Go.Proofs.YtfccmiohnjhkoaaDoor
namespace Go.Proofs.YtfccmiohnjhkoaaDoor
open Go.RowKit

/-- A signature's bytes. -/
def packed (i n : Nat) (path : List (List UInt8)) (once : List UInt8) : List UInt8 := numsB [(i : Int), (n : Int), (path.length : Int)] ++ flat32 path ++ (numB (once.length : Nat) ++ once)
theorem flat32_len : ∀ {ls : List (List UInt8)}, (∀ s ∈ ls, s.length = 32) → (flat32 ls).length = ls.length * 32
  | [], _ => rfl
  | s :: ls, h => by
    have ih := flat32_len (ls := ls) (fun t ht => h t (by simp [ht]))
    have hs := h s (by simp)
    rw [flat32_cons, List.length_append, ih, hs, List.length_cons, Nat.add_mul]
    omega
theorem ints3 {w : World} {g : Nat} {x y z : Int} {t : TypeId} {fr : Nat × Nat} (h : w.heap[g]? = some (.cells #[.int .i64 x, .int .i64 y, .int .i64 z] t fr)) (hx : x ≤ 9223372036854775807) (hy : y ≤ 9223372036854775807) (hz : z ≤ 9223372036854775807) : Ints w (some ⟨g, 0, none⟩) 3 3 [x, y, z] := by
  refine ⟨rfl, Nat.le_refl _, by unfold maxLen; omega, fun v hv => ?_, fun _ => ⟨g, 0, rfl, lt_of_block h, fun j hj => ?_⟩⟩
  · simp at hv
    rcases hv with rfl | rfl | rfl <;> assumption
  · rw [Nat.zero_add, cell_of_row _ _ _ _ _ _ h]
    rcases (show j = 0 ∨ j = 1 ∨ j = 2 by omega) with rfl | rfl | rfl <;> rfl
theorem four_cell {w : World} {g : Nat} {x0 x1 x2 x3 : Value} {t : TypeId} {fr : Nat × Nat} (j : Nat) (h : w.heap[g]? = some (.cells #[x0, x1, x2, x3] t fr)) : w.cell? ⟨g, j, none⟩ = [x0, x1, x2, x3][j]? := by
  rw [cell_of_row _ _ _ _ _ _ h]
  simp
/-- A pen of the call's own, and all that was there as it was. -/
structure Penned (w0 : World) (pb : Nat) (l : List UInt8) (w : World) : Prop where
  pen : PenAt w w0.heap.size pb l
  new : w0.heap.size ≤ pb
  below : Below w0.heap.size w0 w
theorem Penned.more {w0 w w' : World} {pb : Nat} {l : List UInt8} (h : Penned w0 pb l w) (hb : Below w.heap.size w w') : Penned w0 pb l w' :=
  ⟨h.pen.below h.below.size hb, h.new, h.below.trans (hb.mono h.below.size)⟩
theorem Penned.step {w0 w w' : World} {pb : Nat} {l m : List UInt8} (h : Penned w0 pb l w) (hp : PenAt w' w0.heap.size pb m) (hb : But w0.heap.size pb w w') : Penned w0 pb m w' :=
  ⟨hp, h.new, h.below.trans (hb.below h.new)⟩
/-- Numbers in a new block, by a pen that has written nothing. -/
theorem penned_nums {w0 w : World} {pb g : Nat} {x y z : Int} {t : TypeId} {fr : Nat × Nat} (h : w.heap[pb]? = some (.cells #[.pointer none, .int .i64 0] 64 (0, 0))) (h0 : w0.heap.size ≤ pb) (hb : Below w0.heap.size w0 w)
    (hg : w.heap[g]? = some (.cells #[.int .i64 x, .int .i64 y, .int .i64 z] t fr)) (hne : g ≠ pb) (hx : x ≤ 9223372036854775807) (hy : y ≤ 9223372036854775807) (hz : z ≤ 9223372036854775807) :
    Calls Tryd.prog 41 #[.pointer (some ⟨pb, 0, none⟩), .slice (some ⟨g, 0, none⟩) 3 3] w fun r w' => r = .returned (.pointer (some ⟨pb, 0, none⟩)) ∧ Penned w0 pb (numsB [x, y, z]) w' ∧ But w.heap.size pb w w' := by
  refine (pnums_at (B := w.heap.size) w (ints3 hg hx hy hz) (.inl ⟨h, rfl⟩) (Nat.le_refl _) (fun _ a e => by cases e; exact ⟨lt_of_block hg, hne⟩) (by omega) (by simp)).mono fun r w' ⟨e, h1, h2⟩ => ⟨e, ⟨by simpa using h1.base hb.size, h0, hb.trans ((h2.mono hb.size).below h0)⟩, h2⟩
theorem penned_sum {w0 w : World} {pb : Nat} {l s : List UInt8} (h : Penned w0 pb l w) (hs : s.length = 32) (hl : l.length ≤ 1000000) :
    Calls Tryd.prog 26 #[.pointer (some ⟨pb, 0, none⟩), .agg (cellsOf s).toArray] w fun r w' => r = .returned (.pointer (some ⟨pb, 0, none⟩)) ∧ Penned w0 pb (l ++ s) w' ∧ But w0.heap.size pb w w' :=
  (psum_at w hs h.pen h.below.size hl).mono fun _ _ ⟨e, h1, h2⟩ => ⟨e, h.step h1 h2, h2⟩
theorem penned_text {w0 w : World} {pb : Nat} {l q : List UInt8} {a : Option Addr} {n c : Nat} (h : Penned w0 pb l w) (hq : Row w0 a n c q) (hn : n ≤ 1000000) (hl : l.length ≤ 1000000) :
    Calls Tryd.prog 32 #[.pointer (some ⟨pb, 0, none⟩), .slice a n c] w fun r w' => r = .returned (.pointer (some ⟨pb, 0, none⟩)) ∧ Penned w0 pb (l ++ (numB (q.length : Nat) ++ q)) w' ∧ But w0.heap.size pb w w' :=
  (ptext_at w (hq.below h.below) h.pen h.below.size (fun h0 x e => by obtain ⟨b, off, e', hlt, _⟩ := hq.2.2.2.2 h0; rw [e] at e'; cases e'; exact hlt) hn hl).mono fun _ _ ⟨e, h1, h2⟩ => ⟨e, h.step h1 h2, h2⟩
theorem penned_bytes {w0 w : World} {pb : Nat} {l : List UInt8} (h : Penned w0 pb l w) (hl : l.length ≤ 1000000) :
    Calls Tryd.prog 27 #[.pointer (some ⟨pb, 0, none⟩)] w fun r w' => ∃ a n c, r = .returned (.slice a n c) ∧ Row w' a n c l ∧ Below w.heap.size w w' :=
  (bytes_any h.pen (by omega)).mono fun _ _ ⟨a, n, c, e, h1, _, h2⟩ => ⟨a, n, c, e, h1, h2⟩
/-- What 'bytes' tells: a row that reads as the bytes. -/
def Tells5 (w : World) (l : List UInt8) (e : Ending) (w' : World) : Prop := ∃ (a : Option Addr) (n c : Nat), e = .returned (.slice a n c) ∧ Row w' a n c l ∧ Below w.heap.size w w'
set_option linter.unusedSimpArgs false in
set_option maxRecDepth 100000 in
set_option maxHeartbeats 3200000 in
theorem bytes5_any {w : World} {i n m c L k : Nat} {a b : Option Addr} {path : List (List UInt8)} {once : List UInt8} (hi : i ≤ 100000) (hn : n ≤ 100000) (hp : Sums w a m c path) (hm : m ≤ 1000) (ho : Row w b L k once) (hL : L ≤ 100000) :
    Calls Tryd.prog 40 #[.agg #[.int .i64 (i : Int), .int .i64 (n : Int), .slice a m c, .slice b L k]] w fun e w' => Tells5 w (packed i n path once) e w' := by
  obtain ⟨N, hN, hNl⟩ : ∃ N, N = numsB [(i : Int), (n : Int), (m : Int)] ∧ N.length ≤ 27 := ⟨_, rfl, numsB_len _⟩
  have hpk : packed i n path once = N ++ flat32 path ++ (numB (L : Nat) ++ once) := by unfold packed; rw [hN, hp.len, ho.1]
  have hstep : ∀ j : Nat, j < m → ∃ s : List UInt8, s = path.getD j [] ∧ s.length = 32 ∧ flat32 (path.take (j + 1)) = flat32 (path.take j) ++ s ∧ (flat32 (path.take j)).length ≤ 100000 := fun j hj =>
    ⟨_, rfl, hp.each hj, flat32_take path j (by rw [hp.len]; exact hj), by
      rw [flat32_len (fun s hs => hp.2.2.2.2.1 s (List.mem_of_mem_take hs))]
      have := List.length_take_le j path
      omega⟩
  have hall : (flat32 path).length ≤ 100000 := by
    rw [flat32_len (fun s hs => hp.2.2.2.2.1 s hs), hp.len]
    omega
  rw [hpk]
  have HP := Lib.hid hp
  have HO := Lib.hid ho
  have HN := Lib.hid hN
  have HST := Lib.hid hstep
  have HALL := Lib.hid hall
  clear hN hp ho hpk hstep hall
  go_enter Tryd.func40, Tryd.ntmps40
  go_upto_region 2 with (fail)
  have b0 : Below w.heap.size w (w.alloc (.cells #[.int .i64 (i : Int), .int .i64 (n : Int), .slice a m c, .slice b L k] 56)) := (Below.refl _ _).alloc (Nat.le_refl _) _
  have h0 := heap_alloc_new w (.cells #[.int .i64 (i : Int), .int .i64 (n : Int), .slice a m c, .slice b L k] 56)
  have hsz : (w.alloc (.cells #[.int .i64 (i : Int), .int .i64 (n : Int), .slice a m c, .slice b L k] 56)).heap.size = w.heap.size + 1 := by simp
  rw [← hsz]
  revert b0 h0 hsz
  generalize (w.alloc (.cells #[.int .i64 (i : Int), .int .i64 (n : Int), .slice a m c, .slice b L k] 56)) = v0
  generalize hp : w.heap.size = p
  intro b0 h0 hsz
  have HB0 := Lib.hid (show Below w.heap.size w v0 by rw [hp]; exact b0)
  have H0 := Lib.hid h0
  have HP0 := Lib.hid (HP.out.below HB0.out)
  have HO0 := Lib.hid (HO.out.below HB0.out)
  have hlt0 := lt_of_block h0
  clear hsz b0 hp h0
  have b1 : Below v0.heap.size v0 (v0.alloc (.cells #[.pointer none, .int .i64 0] 64)) := (Below.refl _ _).alloc (Nat.le_refl _) _
  have h2 := heap_alloc_new v0 (.cells #[.pointer none, .int .i64 0] 64)
  revert b1 h2
  generalize (v0.alloc (.cells #[.pointer none, .int .i64 0] 64)) = w1
  generalize hq : v0.heap.size = q
  intro b1 h2
  have hnew : v0.heap.size ≤ q := by omega
  have HB1 := Lib.hid (show Below v0.heap.size v0 w1 by rw [hq]; exact b1)
  have h1 := (HB1.out.block _ (lt_of_block H0.out)).trans H0.out
  have c0 := four_cell 0 h1
  have c1 := four_cell 1 h1
  have c2 := four_cell 2 h1
  have H2 := Lib.hid h2
  clear b1 h1 h2 hq
  go_wp2_with fail
  have b2 : Below w1.heap.size w1 (w1.alloc (.cells #[.int .i64 (i : Int), .int .i64 (n : Int), .int .i64 (m : Int)] 3)) := (Below.refl _ _).alloc (Nat.le_refl _) _
  refine (penned_nums (w0 := v0) ((b2.block _ (lt_of_block H2.out)).trans H2.out) hnew (HB1.out.trans (b2.mono HB1.out.size)) (heap_alloc_new _ _) (by have := lt_of_block H2.out; omega) (by omega) (by omega) (by omega)).mono ?_
  rintro e w2 ⟨rfl, hpen, _⟩
  rw [← HN.out] at hpen
  have HPEN := Lib.hid hpen
  clear b2 hpen c0 c1 c2
  have c2 := four_cell 2 ((HPEN.out.below.block _ hlt0).trans H0.out)
  go_upto_region 4 with (fail)
  go_loopw [18] (fun x wr => ∃ j : Nat, j ≤ m ∧ x = .int .i64 j ∧ Penned v0 q (N ++ flat32 (path.take j)) wr) (fun x _ => m - (intOf x).toNat)
  case atStart => exact ⟨0, Nat.zero_le _, rfl, by rw [List.take_zero, show flat32 [] = [] from rfl, List.append_nil]; exact HPEN.out⟩
  case round =>
    obtain ⟨j, hj, rfl, hpen⟩ := hrel
    have HPJ := Lib.hid hpen
    clear hpen c2 HPEN
    by_cases hjm : j < m
    · have f1 : (j : Int) < (m : Int) := by omega
      have f0 : (0 : Int) ≤ (j : Int) := by omega
      have ft : ((j : Int)).toNat = j := by omega
      obtain ⟨s, hs, hsl, hnext, hlen⟩ := HST.out j hjm
      obtain ⟨b5, off, rfl, hlt, hcells⟩ := HP0.out.2.2.2.2.2 (by omega)
      have hr := rangeAt_below (hcells j hjm) hlt HPJ.out.below
      rw [← hs] at hr
      have SZS : Hid ((Tryd.prog.info? 23).map (·.size) = some (cellsOf s).length) := Lib.hid (by rw [cellsOf_len, hsl]; exact Tryd.size23)
      have SZ := Lib.hid (size_of hsl)
      have HZ := Lib.hid (zero_of hsl)
      have HR := Lib.hid hr
      have HSL := Lib.hid hsl
      have HNX := Lib.hid hnext
      have HLN : Hid ((N ++ flat32 (path.take j)).length ≤ 1000000) := Lib.hid (by rw [List.length_append]; omega)
      clear hs hsl hcells hr hnext hlen
      go_upto_region 6 with (first | (refine wpList_load_mid rfl 23 _ rfl b5 (off + j * 32) rfl (cellsOf s) _ HR.out Tryd.underlying23 rfl SZS.out ?_) | (refine wpList_store_row rfl 23 _ _ rfl wr.heap.size (cellsOf s).toArray rfl rfl 23 (cellsOf zero32).toArray (heap_alloc_new _ _) SZ.out HZ.out (all_oneCell_toArray (cellsOf_one s)) ?_) | fail)
      rw [← zero32_is, laySum_is]
      have hp5 := HPJ.out.more (laySum_self wr s)
      have h5 := laySum_heap wr s
      revert hp5 h5
      generalize laySum wr s = w5
      generalize wr.heap.size = q5
      intro hp5 h5
      have HP5 := Lib.hid hp5
      have H5 := Lib.hid h5
      clear hp5 h5
      try simp only [Act.put]
      go_wp2_with (first | (refine wpList_load_row rfl 23 _ rfl q5 rfl 23 (cellsOf s).toArray (0, 0) _ H5.out Tryd.underlying23 rfl SZ.out ?_) | fail)
      refine (penned_sum HP5.out HSL.out HLN.out).mono ?_
      rintro e w6 ⟨rfl, hp6, _⟩
      rw [List.append_assoc, ← HNX.out] at hp6
      have HP6 := Lib.hid hp6
      clear hp6
      go_wp2_with fail
      go_roundw
      case rel => exact ⟨j + 1, by omega, by go_num, HP6.out⟩
      case measure => simp [intOf]; omega
    · have f1 : ¬ ((j : Int) < (m : Int)) := by omega
      have hj' : j = m := by omega
      have htk : path.take j = path := List.take_of_length_le (by rw [HP.out.len]; omega)
      rw [htk] at HPJ
      have c3 := four_cell 3 ((HPJ.out.below.block _ hlt0).trans H0.out)
      have HLN : Hid ((N ++ flat32 path).length ≤ 1000000) := Lib.hid (by have := HALL.out; rw [List.length_append]; omega)
      have HLT : Hid ((N ++ flat32 path ++ (numB (L : Nat) ++ once)).length ≤ 1000000) := Lib.hid (by
        have h1 := HALL.out
        have h2 := numB_len (L : Nat)
        have h3 := HO.out.1
        rw [List.length_append, List.length_append, List.length_append]
        omega)
      clear htk hj'
      go_wp2_with fail
      refine (penned_text HPJ.out HO0.out (by omega) HLN.out).mono ?_
      rintro e w6 ⟨rfl, hp6, _⟩
      rw [HO.out.1] at hp6
      have HP6 := Lib.hid hp6
      clear hp6 c3
      go_wp2_with fail
      refine (penned_bytes HP6.out HLT.out).mono ?_
      rintro e w7 ⟨a7, n7, c7, rfl, hr7, hb7⟩
      have HR7 := Lib.hid hr7
      have HB7 := Lib.hid (HB0.out.trans ((HP6.out.below.trans (hb7.mono HP6.out.below.size)).mono HB0.out.size))
      clear hr7 hb7
      go_wp2_with fail
      go_ret
      exact ⟨a7, n7, c7, rfl, HR7.out, HB7.out⟩
end Go.Proofs.YtfccmiohnjhkoaaDoor
namespace Go.Proofs.YtfccmiohnjhkoaaDoor
open Go.RowKit

/-- A new variable, its zero value known, in a region. -/
theorem step_alloc_any {P : Program} {ops : Array Oper} {o : Oper} {tmps : Array Value} {ds : List Deferred} {w : World} {K : Act → World → Prop} {Q : Exit → Act → World → Prop} {E : Prop} {d : Nat} (hd : o.dst = some d) (hw : Region.wanted o (yielded ops tmps) = true) (ty : TypeId) (ho : o.op = .alloc ty) (cs : Array Value)
    {sz by' : Nat} (hi : (P.info? ty).map (fun i => (i.zero, i.size, i.bytes)) = some (some (.agg cs), sz, by'))
    (h : ∀ p y, w.heap.size ≤ p → y.heap[p]? = some (.cells cs ty (0, 0)) → Below w.heap.size w y → K { tmps := tmps.setIfInBounds d (.pointer (some ⟨p, 0, none⟩)), defers := ds } y) :
    if Region.wanted o (yielded ops tmps) = true then Oper.wp P o { tmps := tmps, defers := ds } w K Q else E := by
  rw [if_pos hw]
  obtain ⟨ie, h1, h2, h3, _⟩ := info_parts hi
  have hrun : (Instr.alloc ty true (.tuple #[])).run P w = .ok (.pointer (some ⟨w.heap.size, 0, none⟩)) (w.alloc (.cells cs ty)) := by
    simp [Instr.alloc, zeroValue, typeInfo, h1, h2, newVar, newRow, Value.cells]
  unfold Oper.wp execOp
  simp only [ho, Sem.run_bind, hrun, Sem.run_pure, Result.andThen_ok]
  show K (Act.put _ o.dst _) _
  rw [hd]
  exact h _ _ (Nat.le_refl _) (heap_alloc_new _ _) ((Below.refl _ _).alloc (Nat.le_refl _) _)
theorem Tryd.zeroSig : (Tryd.prog.info? 56).map (fun i => (i.zero, i.size, i.bytes)) = some (some (.agg #[.int .i64 0, .int .i64 0, .slice none 0 0, .slice none 0 0]), 4, 64) := by kernel_rfl
theorem sign5_nil {a : Option Addr} {m c : Nat} (w : World) : Calls Tryd.prog 19 #[.pointer none, .slice a m c] w fun e w' => e = .returned (.tuple #[.slice none 0 0, .int .i64 15]) ∧ w = w' := by
  go_enter Tryd.func19, Tryd.ntmps19
  go_wp2_with (go_at_call 37; refine (left_nil _).mono ?_; rintro e w' ⟨rfl, rfl⟩)
  go_ret2
  exact ⟨rfl, rfl⟩
theorem sign5_used {w : World} {k i m c : Nat} {s : List UInt8} {ls : List (List UInt8)} {a : Option Addr} (h : KeyAt w k s ls i) (hi : ls.length = i) : Calls Tryd.prog 19 #[.pointer (some ⟨k, 0, none⟩), .slice a m c] w fun e w' => e = .returned (.tuple #[.slice none 0 0, .int .i64 15]) ∧ Below w.heap.size w w' := by
  have H := Lib.hid h
  clear h
  go_enter Tryd.func19, Tryd.ntmps19
  go_wp2_with (go_at_call 37; refine (left_at H.out (by omega) 0 (by omega)).mono ?_; rintro e w' ⟨rfl, hb⟩; have HB := Lib.hid hb; clear hb)
  go_ret2
  exact ⟨rfl, HB.out⟩
/-- The signature's bytes of a text by a leaf. -/
def sig5 (s : List UInt8) (n i : Nat) (l : List UInt8) : List UInt8 := packed i n (pathOf pairSum i ((leafKeys s n).map leafSum)) (sigOf (leafSeed s i) l)
def Signed5 (w : World) (k : Nat) (s : List UInt8) (n i : Nat) (l : List UInt8) (e : Ending) (w' : World) : Prop :=
  ∃ (a : Option Addr) (m c : Nat), e = .returned (.tuple #[.slice a m c, .int .i64 0]) ∧ Row w' a m c (sig5 s n i l) ∧ KeyAt w' k s (leafKeys s n) (i + 1) ∧ But w.heap.size k w w'
theorem way_few {α : Type} (f : α → α → α) : ∀ (k i : Nat) (l : List α), (way f k i l).length ≤ k
  | 0, i, l => by simp [way]
  | k + 1, i, l => by
    have ih := way_few f k i l
    rw [way_up, List.length_append]
    have : ((tier f k l)[beside (i / 2 ^ k)]?.toList).length ≤ 1 := by cases (tier f k l)[beside (i / 2 ^ k)]? <;> simp
    omega
theorem noBytes_four {w : World} {b : Nat} {x0 x1 x2 x3 : Value} {t : TypeId} {fr : Nat × Nat} (h : w.heap[b]? = some (.cells #[x0, x1, x2, x3] t fr)) (h0 : ∀ n, x0 ≠ .int .u8 n) (h1 : ∀ n, x1 ≠ .int .u8 n) (h2 : ∀ n, x2 ≠ .int .u8 n) (h3 : ∀ n, x3 ≠ .int .u8 n) : NoBytes w b := by
  intro off n hc
  rw [cell_of_row _ _ _ _ _ _ h] at hc
  match off, hc with
  | 0, hc => exact h0 n (Option.some.inj hc)
  | 1, hc => exact h1 n (Option.some.inj hc)
  | 2, hc => exact h2 n (Option.some.inj hc)
  | 3, hc => exact h3 n (Option.some.inj hc)
  | k + 4, hc => simp at hc
theorem four_all {x0 x1 x2 x3 : Value} (h0 : x0.oneCell' = true) (h1 : x1.oneCell' = true) (h2 : x2.oneCell' = true) (h3 : x3.oneCell' = true) : (#[x0, x1, x2, x3] : Array Value).all (·.oneCell') = true :=
  all_oneCell_toArray (cs := [x0, x1, x2, x3]) (fun v hv => by simp at hv; rcases hv with rfl | rfl | rfl | rfl <;> assumption)
theorem path5_few (s : List UInt8) (n i : Nat) (hi : i < n) (hn : n ≤ 64) : (pathOf pairSum i ((leafKeys s n).map leafSum)).length ≤ 6 := by
  have hl : ((leafKeys s n).map leafSum).length = n := by rw [List.length_map, leafKeys_len]
  rw [← way_path pairSum _ i 6 (by rw [hl]; exact hi) (by rw [hl]; omega)]
  exact way_few _ _ _ _
set_option linter.unusedSimpArgs false in
set_option maxRecDepth 100000 in
set_option maxHeartbeats 3200000 in
theorem sign5_at {w : World} {k i n m c : Nat} {s l : List UInt8} {a : Option Addr} (h : KeyAt w k s (leafKeys s n) i) (hi : i < n) (hr : Row w a m c l) (hm : m ≤ 1000000) (hk : KsAt w) :
    Calls Tryd.prog 19 #[.pointer (some ⟨k, 0, none⟩), .slice a m c] w fun e w' => Signed5 w k s n i l e w' := by
  have hs := h.seed
  have hn : n ≤ 64 := by have := h.few; rw [leafKeys_len] at this; exact this
  have hlen := leafKeys_len s n
  obtain ⟨P, hP, hPl, hpath⟩ : ∃ P, P = pathOf pairSum i ((leafKeys s n).map leafSum) ∧ P.length ≤ 6 ∧ ∀ (W : World) (g : Nat), Sums W (some ⟨g, 0, none⟩) n n (leafKeys s n) → KsAt W → Calls Tryd.prog 38 #[.int .i64 (i : Int), .slice (some ⟨g, 0, none⟩) n n] W fun e w' => PathNew W P e w' :=
    ⟨_, rfl, path5_few s n i hi hn, fun W g h1 h2 => path_new i hi (by omega) h1 h2⟩
  obtain ⟨x, hx, hseed⟩ : ∃ x, x.length = 32 ∧ (x = leafSeed s i ∧ ∀ W : World, KsAt W → Calls Tryd.prog 18 #[.agg (cellsOf s).toArray, .int .i64 (i : Int)] W fun e w' => e = .returned (.agg (cellsOf x).toArray) ∧ Below W.heap.size W w') :=
    ⟨_, leafSeed_len s i, rfl, fun W hW => seed_at i hs hW⟩
  obtain ⟨hxe, hseed⟩ := hseed
  obtain ⟨O, hO, hsign⟩ : ∃ O, O = sigOf (leafSeed s i) l ∧ ∀ W : World, Row W a m c l → KsAt W → Calls Tryd.prog 39 #[.agg (cellsOf x).toArray, .slice a m c] W fun e w' => SignedNew W O e w' :=
    ⟨_, rfl, fun W h1 h2 => by rw [← hxe]; exact sign_new hx h1 hm h2⟩
  obtain ⟨M, hM⟩ : ∃ M, M = P.length := ⟨_, rfl⟩
  have he : sig5 s n i l = packed i n P O := by rw [hP, hO]; rfl
  obtain ⟨B, hB, hbytes⟩ : ∃ B, B = sig5 s n i l ∧ ∀ (W : World) (ap ab : Option Addr) (cp cb : Nat), Sums W ap M cp P → Row W ab 4096 cb O → Calls Tryd.prog 40 #[.agg #[.int .i64 (i : Int), .int .i64 (n : Int), .slice ap M cp, .slice ab 4096 cb]] W fun e w' => Tells5 W B e w' :=
    ⟨_, rfl, fun W ap ab cp cb h1 h2 => by rw [he]; exact bytes5_any (by omega) (by omega) h1 (by omega) h2 (by omega)⟩
  have hlf : ∀ W : World, KeyAt W k s (leafKeys s n) i → Calls Tryd.prog 37 #[.pointer (some ⟨k, 0, none⟩)] W fun e w' => e = .returned (.int .i64 ((n - i : Nat) : Int)) ∧ Below W.heap.size W w' := fun W hW => left_at hW (by omega) (n - i) (by omega)
  obtain ⟨d, hd, hd0⟩ : ∃ d, d = n - i ∧ 0 < d := ⟨_, rfl, by omega⟩
  rw [← hd] at hlf
  have d1 : ¬ ((d : Int) = 0) := by omega
  have iw : IntKind.i64.wrap ((i : Int) + 1) = (i : Int) + 1 := IntWalk.i64_in _ (by omega)
  have SZL : Hid ((Tryd.prog.info? 23).map (·.size) = some (cellsOf s).length) := Lib.hid (by rw [cellsOf_len, hs]; exact Tryd.size23)
  have HKEY := Lib.hid h
  have HR := Lib.hid hr
  have HK := Lib.hid hk
  have HPATH := Lib.hid hpath
  have HSEED := Lib.hid hseed
  have HSIGN := Lib.hid hsign
  have HBYTES := Lib.hid hbytes
  have HLF := Lib.hid hlf
  have HBB := Lib.hid hB
  have HLEN := Lib.hid hlen
  have HMM := Lib.hid hM
  clear h hr hk hpath hseed hsign hbytes hlf hB hs hP hPl hx hxe hO he hd hd0 hlen hM
  go_enter Tryd.func19, Tryd.ntmps19
  go_wp2_with fail
  refine (HLF.out _ HKEY.out).mono ?_
  rintro e w1 ⟨rfl, hb1⟩
  have HK1 := Lib.hid (HKEY.out.below hb1)
  have HB1 := Lib.hid hb1
  obtain ⟨g, c1, c2, _, _, hsum, _⟩ := HK1.out.cells
  rw [HLEN.out] at c1 hsum
  have HSUM := Lib.hid hsum
  clear hb1 hsum
  go_wp2_with fail
  refine (HPATH.out _ g HSUM.out (HK.out.below HB1.out)).mono ?_
  rintro e w2 ⟨ap, cp, rfl, hsp, hb2, hnew2⟩
  have hlt1 := HK1.out.lt
  have HOFF := Lib.hid (show Off k ap M from fun _ b off e => by have := hnew2 _ e; simp at this; omega)
  rw [← HMM.out] at hsp
  have HSP := Lib.hid hsp
  have HB2 := Lib.hid (HB1.out.trans (hb2.mono HB1.out.size))
  have HK2 := Lib.hid (HK1.out.below hb2)
  have hltk := HK2.out.lt
  obtain ⟨g', c3, c4, f4, hrange, _, hset⟩ := HK2.out.cells
  rw [HLEN.out] at c3
  have HC3 := Lib.hid c3
  have HRNG := Lib.hid hrange
  have HKS := Lib.hid (HK.out.below HB2.out)
  have HR2 := Lib.hid (HR.out.below HB2.out)
  rw [← HMM.out]
  clear hsp hb2 c1 c2 c3 hrange hset c4 f4 hnew2 hlt1
  go_upto_region 5 with (fail)
  try simp only [Act.put]
  go_cut [9] from 26 to 42 (fun u w' => ∃ (p : Nat) (ab : Option Addr) (cb : Nat), u = .pointer (some ⟨p, 0, none⟩) ∧ w'.heap[p]? = some (.cells #[.int .i64 (i : Int), .int .i64 (n : Int), .slice ap M cp, .slice ab 4096 cb] 56 (0, 0)) ∧ Row w' ab 4096 cb O ∧ Below w2.heap.size w2 w' ∧ ∀ x, ab = some x → w2.heap.size ≤ x.block)
  case first =>
    refine wp_region_held_drew (S := fun w' => Below w2.heap.size w2 w') (by kernel_rfl) (below_drew (Below.refl _ _)) (fun hHeld => ?_)
    refine take_at (i := 0) (v := ?_) rfl rfl (by kernel_rfl) (by kernel_rfl) (by kernel_rfl) (fun _ _ _ h => h) (Or.inl ⟨by rfl, ?_⟩) (by assumption) ?_
    rotate_left
    · intro w0 hSw; (try dsimp only at hSw); first | (go_simp; done) | (go_simp; with_reducible rfl)
    simp only [List.setIfInBounds_toArray, List.set_cons_zero, List.set_cons_succ]
    refine take_at (i := 1) (v := ?_) rfl rfl (by kernel_rfl) (by kernel_rfl) (by kernel_rfl) (fun _ _ _ h => h) (Or.inl ⟨by rfl, ?_⟩) (by assumption) ?_
    rotate_left
    · intro w0 hSw; (try dsimp only at hSw); first | (go_simp; done) | (go_simp; with_reducible rfl)
    simp only [List.setIfInBounds_toArray, List.set_cons_zero, List.set_cons_succ]
    refine take_at (i := 2) (v := ?_) rfl rfl (by kernel_rfl) (by kernel_rfl) (by kernel_rfl) (fun _ _ _ h => h) (Or.inl ⟨by rfl, ?_⟩) (by assumption) ?_
    rotate_left
    · intro w0 hSw; (try dsimp only at hSw); first | (go_simp; done) | (go_simp; with_reducible rfl)
    simp only [List.setIfInBounds_toArray, List.set_cons_zero, List.set_cons_succ]
    refine take_at (i := 3) (v := ?_) rfl rfl (by kernel_rfl) (by kernel_rfl) (by kernel_rfl) (fun _ _ _ h => h) (Or.inl ⟨by rfl, ?_⟩) (by assumption) ?_
    rotate_left
    · intro w0 hSw; (try dsimp only at hSw); first | (go_simp; done) | (go_simp; with_reducible rfl)
    simp only [List.setIfInBounds_toArray, List.set_cons_zero, List.set_cons_succ]
    refine take_at (i := 4) (v := .slice (some ⟨g', 0, none⟩) n n) rfl rfl (by kernel_rfl) (by kernel_rfl) (by kernel_rfl) (fun _ _ _ h => h) (yields_cell (by rfl) rfl rfl (fun w0 hSw => (Below.cell hSw (p := ⟨k, 32, none⟩) hltk).trans HC3.out) (fun _ => by kernel_rfl)) (by assumption) ?_
    simp only [List.setIfInBounds_toArray, List.set_cons_zero, List.set_cons_succ]
    refine take_at (i := 5) (v := ?_) rfl rfl (by kernel_rfl) (by kernel_rfl) (by kernel_rfl) (fun _ _ _ h => h) (Or.inl ⟨by rfl, ?_⟩) (by assumption) ?_
    rotate_left
    · intro w0 hSw; (try dsimp only at hSw); first | (go_simp; done) | (go_simp; with_reducible rfl)
    simp only [List.setIfInBounds_toArray, List.set_cons_zero, List.set_cons_succ]
    refine take_at (i := 6) (v := ?_) rfl rfl (by kernel_rfl) (by kernel_rfl) (by kernel_rfl) (fun _ _ _ h => h) (Or.inl ⟨by rfl, ?_⟩) (by assumption) ?_
    rotate_left
    · intro w0 hSw; (try dsimp only at hSw); first | (go_simp; done) | (go_simp; with_reducible rfl)
    simp only [List.setIfInBounds_toArray, List.set_cons_zero, List.set_cons_succ]
    refine take_at (i := 7) (v := ?_) rfl rfl (by kernel_rfl) (by kernel_rfl) (by kernel_rfl) (fun _ _ _ h => h) (Or.inl ⟨by rfl, ?_⟩) (by assumption) ?_
    rotate_left
    · intro w0 hSw; (try dsimp only at hSw); first | (go_simp; done) | (go_simp; with_reducible rfl)
    simp only [List.setIfInBounds_toArray, List.set_cons_zero, List.set_cons_succ]
    refine take_at (i := 8) (v := ?_) rfl rfl (by kernel_rfl) (by kernel_rfl) (by kernel_rfl) (fun _ _ _ h => h) (Or.inl ⟨by rfl, ?_⟩) (by assumption) ?_
    rotate_left
    · intro w0 hSw; (try dsimp only at hSw); first | (go_simp; done) | (go_simp; with_reducible rfl)
    simp only [List.setIfInBounds_toArray, List.set_cons_zero, List.set_cons_succ]
    refine take_at (i := 9) (v := ?_) rfl rfl (by kernel_rfl) (by kernel_rfl) (by kernel_rfl) (fun _ _ _ h => h) (Or.inl ⟨by rfl, ?_⟩) (by assumption) ?_
    rotate_left
    · intro w0 hSw; (try dsimp only at hSw); first | (go_simp; done) | (go_simp; with_reducible rfl)
    simp only [List.setIfInBounds_toArray, List.set_cons_zero, List.set_cons_succ]
    refine take_at (i := 10) rfl rfl (by kernel_rfl) (by kernel_rfl) (by kernel_rfl) (fun _ _ _ h => h) (yieldsIf_load_mid (by rfl) _ _ rfl k 0 rfl (cellsOf s) _ (fun w0 hSw => rangeAt_below HRNG.out hltk hSw) Tryd.underlying23 rfl SZL.out) (by assumption) ?_
    simp only [List.setIfInBounds_toArray, List.set_cons_zero, List.set_cons_succ]
    refine take_at (i := 11) (v := ?_) rfl rfl (by kernel_rfl) (by kernel_rfl) (by kernel_rfl) (fun _ _ _ h => h) (Or.inl ⟨by rfl, ?_⟩) (by assumption) ?_
    rotate_left
    · intro w0 hSw; (try dsimp only at hSw); first | (go_simp; done) | (go_simp; with_reducible rfl)
    simp only [List.setIfInBounds_toArray, List.set_cons_zero, List.set_cons_succ]
    refine take_at (i := 13) (v := ?_) rfl rfl (by kernel_rfl) (by kernel_rfl) (by kernel_rfl) (fun _ _ _ h => h) (Or.inl ⟨by rfl, ?_⟩) (by assumption) ?_
    rotate_left
    · intro w0 hSw; (try dsimp only at hSw); first | (go_simp; done) | (go_simp; with_reducible rfl)
    simp only [List.setIfInBounds_toArray, List.set_cons_zero, List.set_cons_succ]
    refine wpAnyH_ready (rs := [12, 16]) (by kernel_rfl) (by simp) ?_
    refine AllReadyH.cons rfl (fun K hK => ?_) ?_
    · go_simp
      go_wp2_with ((go_at_call 18; (with_reducible refine (HSEED.out _ (HKS.out.below hHeld)).mono ?_); rintro e w5 ⟨rfl, hb5⟩; have HB5 := Lib.hid hb5; clear hb5))
      refine hK.out _ _ (by (try dsimp only); exact Below.trans hHeld (HB5.out.mono (Below.size hHeld))) (fun hHeld => ?_)
      clear hK K
      refine wpAnyH_ready (rs := [14, 16]) (by kernel_rfl) (by simp) ?_
      refine AllReadyH.cons rfl (fun K hK => ?_) ?_
      · have HH := Lib.hid hHeld
        go_simp
        go_wp2_with ((go_at_call 39; (with_reducible refine (HSIGN.out _ (HR2.out.below HH.out) (HKS.out.below HH.out)).mono ?_); rintro e w6 ⟨ab, cb, rfl, hr6, hb6, hn6⟩; have HB6 := Lib.hid hb6; have HR6 := Lib.hid hr6; have HN6 : Hid (∀ x, ab = some x → w2.heap.size ≤ x.block) := Lib.hid (fun x e => Nat.le_trans (Below.size HH.out) (hn6 x e)); clear hb6 hr6 hn6))
        refine hK.out _ _ (by (try dsimp only); exact Below.trans HH.out (HB6.out.mono (Below.size HH.out))) (fun hHeld => ?_)
        clear hK K
        refine take_at (i := 15) (v := ?_) rfl rfl (by kernel_rfl) (by kernel_rfl) (by kernel_rfl) (fun _ _ _ h => h) (Or.inl ⟨by rfl, ?_⟩) (by assumption) ?_
        rotate_left
        · intro w0 hSw; (try dsimp only at hSw); first | (go_simp; done) | (go_simp; with_reducible rfl)
        simp only [List.setIfInBounds_toArray, List.set_cons_zero, List.set_cons_succ]
        refine wpAnyH_ready (rs := [16]) (by kernel_rfl) (by simp) ?_
        refine AllReadyH.cons rfl (fun K hK => ?_) ?_
        · refine step_alloc_any (d := 9) rfl (by rfl) 56 rfl #[.int .i64 0, .int .i64 0, .slice none 0 0, .slice none 0 0] Tryd.zeroSig ?_
          intro p y hg hz hb
          have HY := Lib.hid hz
          have HBY := Lib.hid hb
          have HGE : Hid (w2.heap.size ≤ p) := Lib.hid (Nat.le_trans (Below.size hHeld) hg)
          clear hg hz hb
          refine hK.out _ _ (by (try dsimp only); exact Below.trans hHeld (HBY.out.mono (Below.size hHeld))) (fun hHeld => ?_)
          clear hK K
          refine wpAnyH_ready (rs := [17]) (by kernel_rfl) (by simp) ?_
          refine AllReadyH.cons rfl (fun K hK => ?_) ?_
          · have hy : y.heap[p]? = some (.cells #[.int .i64 0, .int .i64 0, .slice none 0 0, .slice none 0 0] 56 (0, 0)) := HY.out
            have hrow : Row (y.setRow p #[.int .i64 (i : Int), .int .i64 (n : Int), .slice ap M cp, .slice ab 4096 cb]) ab 4096 cb O := (HR6.out.below HBY.out).butN (but_setRow _ p _) (noBytes_four hy (fun _ h => by cases h) (fun _ h => by cases h) (fun _ h => by cases h) (fun _ h => by cases h))
            have hheap := setRow_heap y p _ #[.int .i64 (i : Int), .int .i64 (n : Int), .slice ap M cp, .slice ab 4096 cb] 56 _ hy
            have hbl : Below w2.heap.size w2 (y.setRow p #[.int .i64 (i : Int), .int .i64 (n : Int), .slice ap M cp, .slice ab 4096 cb]) := Below.trans hHeld (((but_setRow y p _).mono (Below.size hHeld)).below HGE.out)
            have HROW := Lib.hid hrow
            have HHEAP := Lib.hid hheap
            have HBL := Lib.hid hbl
            clear hrow hheap hbl
            rw [if_pos (by rfl)]
            refine wp_store_row 56 _ _ rfl p #[.int .i64 (i : Int), .int .i64 (n : Int), .slice ap M cp, .slice ab 4096 cb] rfl rfl 56 #[.int .i64 0, .int .i64 0, .slice none 0 0, .slice none 0 0] hy (by kernel_rfl) rfl (four_all rfl rfl rfl rfl) ?_
            refine hK.out _ _ (by (try dsimp only); exact HBL.out) (fun hHeld => ?_)
            clear hK K
            refine wpAnyH_done (by kernel_rfl) ?_ _
            clear hHeld
            go_wp2_with fail
            go_meet
            exact ⟨p, ab, cb, rfl, HHEAP.out, HROW.out, HBL.out, HN6.out⟩
          exact AllReadyH.nil
        exact AllReadyH.nil
      refine AllReadyH.cons rfl (fun K hK => ?_) ?_
      · refine step_alloc_any (d := 9) rfl (by rfl) 56 rfl #[.int .i64 0, .int .i64 0, .slice none 0 0, .slice none 0 0] Tryd.zeroSig ?_
        intro p y hg hz hb
        have HY := Lib.hid hz
        have HBY := Lib.hid hb
        have HGE : Hid (w2.heap.size ≤ p) := Lib.hid (Nat.le_trans (Below.size hHeld) hg)
        clear hg hz hb
        refine hK.out _ _ (by (try dsimp only); exact Below.trans hHeld (HBY.out.mono (Below.size hHeld))) (fun hHeld => ?_)
        clear hK K
        refine wpAnyH_ready (rs := [14]) (by kernel_rfl) (by simp) ?_
        refine AllReadyH.cons rfl (fun K hK => ?_) ?_
        · have HH := Lib.hid hHeld
          go_simp
          go_wp2_with ((go_at_call 39; (with_reducible refine (HSIGN.out _ (HR2.out.below HH.out) (HKS.out.below HH.out)).mono ?_); rintro e w6 ⟨ab, cb, rfl, hr6, hb6, hn6⟩; have HB6 := Lib.hid hb6; have HR6 := Lib.hid hr6; have HN6 : Hid (∀ x, ab = some x → w2.heap.size ≤ x.block) := Lib.hid (fun x e => Nat.le_trans (Below.size HH.out) (hn6 x e)); clear hb6 hr6 hn6))
          refine hK.out _ _ (by (try dsimp only); exact Below.trans HH.out (HB6.out.mono (Below.size HH.out))) (fun hHeld => ?_)
          clear hK K
          refine take_at (i := 15) (v := ?_) rfl rfl (by kernel_rfl) (by kernel_rfl) (by kernel_rfl) (fun _ _ _ h => h) (Or.inl ⟨by rfl, ?_⟩) (by assumption) ?_
          rotate_left
          · intro w0 hSw; (try dsimp only at hSw); first | (go_simp; done) | (go_simp; with_reducible rfl)
          simp only [List.setIfInBounds_toArray, List.set_cons_zero, List.set_cons_succ]
          refine wpAnyH_ready (rs := [17]) (by kernel_rfl) (by simp) ?_
          refine AllReadyH.cons rfl (fun K hK => ?_) ?_
          · have hy : w6.heap[p]? = some (.cells #[.int .i64 0, .int .i64 0, .slice none 0 0, .slice none 0 0] 56 (0, 0)) := by have h := HY.out; exact (HB6.out.block _ (lt_of_block h)).trans h
            have hrow : Row (w6.setRow p #[.int .i64 (i : Int), .int .i64 (n : Int), .slice ap M cp, .slice ab 4096 cb]) ab 4096 cb O := (HR6.out).butN (but_setRow _ p _) (noBytes_four hy (fun _ h => by cases h) (fun _ h => by cases h) (fun _ h => by cases h) (fun _ h => by cases h))
            have hheap := setRow_heap w6 p _ #[.int .i64 (i : Int), .int .i64 (n : Int), .slice ap M cp, .slice ab 4096 cb] 56 _ hy
            have hbl : Below w2.heap.size w2 (w6.setRow p #[.int .i64 (i : Int), .int .i64 (n : Int), .slice ap M cp, .slice ab 4096 cb]) := Below.trans hHeld (((but_setRow w6 p _).mono (Below.size hHeld)).below HGE.out)
            have HROW := Lib.hid hrow
            have HHEAP := Lib.hid hheap
            have HBL := Lib.hid hbl
            clear hrow hheap hbl
            rw [if_pos (by rfl)]
            refine wp_store_row 56 _ _ rfl p #[.int .i64 (i : Int), .int .i64 (n : Int), .slice ap M cp, .slice ab 4096 cb] rfl rfl 56 #[.int .i64 0, .int .i64 0, .slice none 0 0, .slice none 0 0] hy (by kernel_rfl) rfl (four_all rfl rfl rfl rfl) ?_
            refine hK.out _ _ (by (try dsimp only); exact HBL.out) (fun hHeld => ?_)
            clear hK K
            refine wpAnyH_done (by kernel_rfl) ?_ _
            clear hHeld
            go_wp2_with fail
            go_meet
            exact ⟨p, ab, cb, rfl, HHEAP.out, HROW.out, HBL.out, HN6.out⟩
          exact AllReadyH.nil
        exact AllReadyH.nil
      exact AllReadyH.nil
    refine AllReadyH.cons rfl (fun K hK => ?_) ?_
    · refine step_alloc_any (d := 9) rfl (by rfl) 56 rfl #[.int .i64 0, .int .i64 0, .slice none 0 0, .slice none 0 0] Tryd.zeroSig ?_
      intro p y hg hz hb
      have HY := Lib.hid hz
      have HBY := Lib.hid hb
      have HGE : Hid (w2.heap.size ≤ p) := Lib.hid (Nat.le_trans (Below.size hHeld) hg)
      clear hg hz hb
      refine hK.out _ _ (by (try dsimp only); exact Below.trans hHeld (HBY.out.mono (Below.size hHeld))) (fun hHeld => ?_)
      clear hK K
      refine wpAnyH_ready (rs := [12]) (by kernel_rfl) (by simp) ?_
      refine AllReadyH.cons rfl (fun K hK => ?_) ?_
      · go_simp
        go_wp2_with ((go_at_call 18; (with_reducible refine (HSEED.out _ (HKS.out.below hHeld)).mono ?_); rintro e w5 ⟨rfl, hb5⟩; have HB5 := Lib.hid hb5; clear hb5))
        refine hK.out _ _ (by (try dsimp only); exact Below.trans hHeld (HB5.out.mono (Below.size hHeld))) (fun hHeld => ?_)
        clear hK K
        refine wpAnyH_ready (rs := [14]) (by kernel_rfl) (by simp) ?_
        refine AllReadyH.cons rfl (fun K hK => ?_) ?_
        · have HH := Lib.hid hHeld
          go_simp
          go_wp2_with ((go_at_call 39; (with_reducible refine (HSIGN.out _ (HR2.out.below HH.out) (HKS.out.below HH.out)).mono ?_); rintro e w6 ⟨ab, cb, rfl, hr6, hb6, hn6⟩; have HB6 := Lib.hid hb6; have HR6 := Lib.hid hr6; have HN6 : Hid (∀ x, ab = some x → w2.heap.size ≤ x.block) := Lib.hid (fun x e => Nat.le_trans (Below.size HH.out) (hn6 x e)); clear hb6 hr6 hn6))
          refine hK.out _ _ (by (try dsimp only); exact Below.trans HH.out (HB6.out.mono (Below.size HH.out))) (fun hHeld => ?_)
          clear hK K
          refine take_at (i := 15) (v := ?_) rfl rfl (by kernel_rfl) (by kernel_rfl) (by kernel_rfl) (fun _ _ _ h => h) (Or.inl ⟨by rfl, ?_⟩) (by assumption) ?_
          rotate_left
          · intro w0 hSw; (try dsimp only at hSw); first | (go_simp; done) | (go_simp; with_reducible rfl)
          simp only [List.setIfInBounds_toArray, List.set_cons_zero, List.set_cons_succ]
          refine wpAnyH_ready (rs := [17]) (by kernel_rfl) (by simp) ?_
          refine AllReadyH.cons rfl (fun K hK => ?_) ?_
          · have hy : w6.heap[p]? = some (.cells #[.int .i64 0, .int .i64 0, .slice none 0 0, .slice none 0 0] 56 (0, 0)) := by have h := HY.out; have h := (HB5.out.block _ (lt_of_block h)).trans h; exact (HB6.out.block _ (lt_of_block h)).trans h
            have hrow : Row (w6.setRow p #[.int .i64 (i : Int), .int .i64 (n : Int), .slice ap M cp, .slice ab 4096 cb]) ab 4096 cb O := (HR6.out).butN (but_setRow _ p _) (noBytes_four hy (fun _ h => by cases h) (fun _ h => by cases h) (fun _ h => by cases h) (fun _ h => by cases h))
            have hheap := setRow_heap w6 p _ #[.int .i64 (i : Int), .int .i64 (n : Int), .slice ap M cp, .slice ab 4096 cb] 56 _ hy
            have hbl : Below w2.heap.size w2 (w6.setRow p #[.int .i64 (i : Int), .int .i64 (n : Int), .slice ap M cp, .slice ab 4096 cb]) := Below.trans hHeld (((but_setRow w6 p _).mono (Below.size hHeld)).below HGE.out)
            have HROW := Lib.hid hrow
            have HHEAP := Lib.hid hheap
            have HBL := Lib.hid hbl
            clear hrow hheap hbl
            rw [if_pos (by rfl)]
            refine wp_store_row 56 _ _ rfl p #[.int .i64 (i : Int), .int .i64 (n : Int), .slice ap M cp, .slice ab 4096 cb] rfl rfl 56 #[.int .i64 0, .int .i64 0, .slice none 0 0, .slice none 0 0] hy (by kernel_rfl) rfl (four_all rfl rfl rfl rfl) ?_
            refine hK.out _ _ (by (try dsimp only); exact HBL.out) (fun hHeld => ?_)
            clear hK K
            refine wpAnyH_done (by kernel_rfl) ?_ _
            clear hHeld
            go_wp2_with fail
            go_meet
            exact ⟨p, ab, cb, rfl, HHEAP.out, HROW.out, HBL.out, HN6.out⟩
          exact AllReadyH.nil
        exact AllReadyH.nil
      exact AllReadyH.nil
    exact AllReadyH.nil
  case rest =>
    obtain ⟨p, ab, cb, rfl, hp, hrow, hbl, hnew⟩ := hcut
    have HKC := Lib.hid (HK2.out.below hbl)
    have hpk : p ≠ k := by
      obtain ⟨⟨g0, hk0, _⟩, _⟩ := HKC.out
      intro e
      subst e
      rw [hk0] at hp
      simp at hp
    obtain ⟨g3, _, c4, f4, _, _, hset⟩ := HKC.out.cells
    have HSET := Lib.hid (hset (i + 1))
    have HP := Lib.hid hp
    have HROW := Lib.hid hrow
    have HOB := Lib.hid (show Off k ab 4096 from fun _ b off e => by have := hnew _ e; simp at this; omega)
    have HBC := Lib.hid (HB2.out.trans (hbl.mono HB2.out.size))
    have HSPC := Lib.hid (HSP.out.below hbl)
    clear hp hrow hbl hnew hset
    go_upto_region 7 with (fail)
    have ei : ((i : Int) + 1) = ((i + 1 : Nat) : Int) := by omega
    rw [ei]
    have hb6 : But wc.heap.size k wc (wc.setCell ⟨k, 33, none⟩ (.int .i64 ((i + 1 : Nat) : Int))) := (But.refl _ k _).setCell _ (.inl rfl) _
    have hk6 := HSET.out
    revert hb6 hk6
    generalize (wc.setCell ⟨k, 33, none⟩ (.int .i64 ((i + 1 : Nat) : Int))) = wd
    intro hb6 hk6
    have HK6 := Lib.hid hk6
    have HP6 := Lib.hid (hb6.heap HP.out (lt_of_block HP.out) hpk)
    have HR6 := Lib.hid (HROW.out.but hb6 HOB.out)
    have HS6 := Lib.hid (HSPC.out.but hb6 HOFF.out)
    have HB6 := Lib.hid ((But.of (p := k) HBC.out).trans (hb6.mono HBC.out.size))
    clear hb6 hk6 c4 f4 HSET ei
    go_wp2_with (first | (refine wpList_load_row rfl 56 _ rfl p rfl 56 _ (0, 0) _ HP6.out Tryd.underlying56 rfl (by kernel_rfl) ?_) | fail)
    refine (HBYTES.out _ ap ab cp cb HS6.out HR6.out).mono ?_
    rintro e w7 ⟨a7, n7, c7, rfl, hr7, hb7⟩
    rw [HBB.out] at hr7
    have HR7 := Lib.hid hr7
    have HK7 := Lib.hid (HK6.out.below hb7)
    have HB7 := Lib.hid (HB6.out.trans (But.of (hb7.mono HB6.out.size)))
    clear hr7 hb7
    go_wp2_with fail
    go_ret2
    exact ⟨a7, n7, c7, rfl, HR7.out, HK7.out, HB7.out⟩
end Go.Proofs.YtfccmiohnjhkoaaDoor
namespace Go.Proofs.YtfccmiohnjhkoaaDoor
open Go.RowKit

theorem step_build1_gen {ops : Array Oper} {o : Oper} {tmps : Array Value} {ds : List Deferred} {w : World} {K : Act → World → Prop} {Q : Exit → Act → World → Prop} {E : Prop} {d : Nat} {s : List UInt8} (hd : o.dst = some d) (x : Operand) (hw : Region.wanted o (yielded ops tmps) = true)
    (ho : o.op = .buildSlice 48 1 #[(0, x)]) (hx : (Act.eval { tmps := tmps, defers := ds } x) = .agg (cellsOf s).toArray) (hs : s.length = 32)
    (h : ∀ g y, w.heap.size ≤ g → Sums y (some ⟨g, 0, none⟩) 1 1 [s] → Below w.heap.size w y → K { tmps := tmps.setIfInBounds d (.slice (some ⟨g, 0, none⟩) 1 1), defers := ds } y) :
    if Region.wanted o (yielded ops tmps) = true then Oper.wp Tryd.prog o { tmps := tmps, defers := ds } w K Q else E := by
  have hl := own_lit (w := w) (B := 0) [s] (by simp [hs]) (Nat.zero_le _) 1 rfl (by omega)
  rw [seqCells_single] at hl
  refine step_build1 x hw ho hx hs ?_
  show K (Act.put _ o.dst _) _
  rw [hd]
  exact h _ _ (Nat.le_refl _) hl.sums ((Below.refl _ _).alloc (Nat.le_refl _) _)
theorem step_append_gen {ops : Array Oper} {o : Oper} {tmps : Array Value} {ds : List Deferred} {w : World} {K : Act → World → Prop} {Q : Exit → Act → World → Prop} {E : Prop} {d : Nat} (hd : o.dst = some d) (hw : Region.wanted o (yielded ops tmps) = true) (x y : Operand)
    (ho : o.op = .call { callee := .builtin .append, args := #[x, y], argTypes := #[48, 48] }) (hty : o.type = 48) (B : Nat) (v : Value) (ls : List (List UInt8)) (hx : (Act.eval { tmps := tmps, defers := ds } x) = v) (h : OwnS w B v ls) (ad : Option Addr) (m c : Nat) (q : List (List UInt8)) (hy : (Act.eval { tmps := tmps, defers := ds } y) = .slice ad m c) (hq : Sums w ad m c q) (hb : ls.length + m ≤ 1000000) (hbase : B ≤ w.heap.size)
    (hk : ∀ u w', OwnS w' B u (ls ++ q) → w.grownBy w' v.ownBlock → K { tmps := tmps.setIfInBounds d u, defers := ds } w') :
    if Region.wanted o (yielded ops tmps) = true then Oper.wp Tryd.prog o { tmps := tmps, defers := ds } w K Q else E := by
  refine step_append_sums hw x y ho hty B v ls ls.length rfl hx h ad m c q hy hq hb hbase (fun a' c' w' h1 h2 => ?_)
  show K (Act.put _ o.dst _) _
  rw [hd]
  exact hk _ _ h1 h2
theorem OwnS.own_type {w : World} {B k : Nat} {v : Value} {ls : List (List UInt8)} (h : OwnS w B v ls) (hk : v.ownBlock = some k) : ∃ cur : Array Value, w.heap[k]? = some (.cells cur 23 (0, 0)) := by
  rcases h.1.2 with ⟨rfl, _⟩ | ⟨g, cap, cur, rfl, _, hh, _⟩
  · cases hk
  · cases hk
    exact ⟨cur, hh⟩
theorem OwnS.apart {w : World} {B b : Nat} {v : Value} {ls : List (List UInt8)} {cs : Array Value} {t : TypeId} {fr : Nat × Nat} (h : OwnS w B v ls) (hb : w.heap[b]? = some (.cells cs t fr)) (ht : t ≠ 23) : v.ownBlock ≠ some b := fun e => by
  obtain ⟨cur, hc⟩ := h.own_type e
  rw [hc] at hb
  simp at hb
  exact ht hb.2.1.symm
theorem OwnS.one {w : World} {B : Nat} {v : Value} {ls : List (List UInt8)} (h : OwnS w B v ls) : v.oneCell' = true := by
  obtain ⟨a, c, rfl, _⟩ := h.shape
  rfl
theorem OwnS.but {w w' : World} {B p : Nat} {v : Value} {ls : List (List UInt8)} (h : OwnS w B v ls) (hb : But w.heap.size p w w') (hp : v.ownBlock ≠ some p) : OwnS w' B v ls :=
  ⟨World.ownsRow.kept h.1 (row := some p) ⟨hb.os, hb.tape, hb.output, hb.size, fun k hk hne => hb.block k hk (fun e => hne (by rw [e]))⟩ (.inr hp), h.2⟩
/-- A signature under way: so many sums of its path are read. -/
structure Reading (w0 : World) (yb p i n : Nat) (v : Value) (ls : List (List UInt8)) (rest : List UInt8) (W : World) : Prop where
  eye : EyeAt W yb rest 0
  sig : W.heap[p]? = some (.cells #[.int .i64 (i : Int), .int .i64 (n : Int), v, .slice none 0 0] 56 (0, 0))
  own : OwnS W w0.heap.size v ls
  below : Below w0.heap.size w0 W
  newY : w0.heap.size ≤ yb
  newP : w0.heap.size ≤ p
theorem Reading.more {w0 W W' : World} {yb p i n : Nat} {v : Value} {ls : List (List UInt8)} {rest : List UInt8} (h : Reading w0 yb p i n v ls rest W) (hb : Below W.heap.size W W') : Reading w0 yb p i n v ls rest W' :=
  ⟨h.eye.below hb, (hb.block _ (lt_of_block h.sig)).trans h.sig, h.own.below hb, h.below.trans (hb.mono h.below.size), h.newY, h.newP⟩
theorem Reading.drew {w0 W : World} {yb p i n : Nat} {v : Value} {ls : List (List UInt8)} {rest : List UInt8} (h : Reading w0 yb p i n v ls rest W) : Reading w0 yb p i n v ls rest W.drew := h.more (below_drew (Below.refl _ _))
theorem eye_ne {W : World} {yb p : Nat} {rest : List UInt8} {e : Int} {cs : Array Value} {t : TypeId} {fr : Nat × Nat} (h : EyeAt W yb rest e) (hp : W.heap[p]? = some (.cells cs t fr)) (ht : t ≠ 93) : yb ≠ p := fun e => by
  obtain ⟨a, m, c, h1, _⟩ := h
  subst e
  rw [h1] at hp
  simp at hp
  exact ht hp.2.1.symm
theorem Reading.eyed {w0 W W' : World} {yb p i n : Nat} {v : Value} {ls : List (List UInt8)} {rest rest' : List UInt8} (h : Reading w0 yb p i n v ls rest W) (he : EyeAt W' yb rest' 0) (hb : But W.heap.size yb W W') : Reading w0 yb p i n v ls rest' W' := by
  refine ⟨he, hb.heap h.sig (lt_of_block h.sig) (fun e => eye_ne h.eye h.sig (by decide) e.symm), h.own.but hb ?_, h.below.trans ((hb.mono h.below.size).below h.newY), h.newY, h.newP⟩
  obtain ⟨a, m, c, h1, _⟩ := h.eye
  exact h.own.apart h1 (by decide)
/-- A sum more is joined, and laid. -/
theorem Reading.grown {w0 W W' : World} {yb p i n : Nat} {u v : Value} {ls ls' : List (List UInt8)} {rest : List UInt8} (h : Reading w0 yb p i n v ls rest W) (ho : OwnS W' w0.heap.size u ls') (hg : W.grownBy W' v.ownBlock) :
    Below w0.heap.size w0 W' ∧ W'.cell? ⟨p, 2, none⟩ = some v ∧ W'.frozen? ⟨p, 2, none⟩ = false ∧ Reading w0 yb p i n u ls' rest (W'.setCell ⟨p, 2, none⟩ u) := by
  have hsig : W'.heap[p]? = some (.cells #[.int .i64 (i : Int), .int .i64 (n : Int), v, .slice none 0 0] 56 (0, 0)) := (hg.block p (lt_of_block h.sig) (fun e => h.own.apart h.sig (by decide) e.symm)).trans h.sig
  have hbl : Below w0.heap.size w0 W' := h.own.grows hg h.below.size |> fun hb => h.below.trans ⟨hb.os, hb.tape, hb.output, hb.size, hb.block⟩
  have hbp : But W'.heap.size p W' (W'.setCell ⟨p, 2, none⟩ u) := (But.refl _ p _).setCell _ (.inl rfl) _
  have heye : EyeAt W' yb rest 0 := by
    cases e : v.ownBlock with
    | none => exact h.eye.below ⟨hg.os, hg.tape, hg.output, hg.size, fun k hk => hg.block k hk (by rw [e]; simp)⟩
    | some q =>
      obtain ⟨cur, hc⟩ := h.own.own_type e
      exact h.eye.typed (p := q) ⟨hg.os, hg.tape, hg.output, hg.size, fun k hk hne => hg.block k hk (by rw [e]; simpa using hne)⟩ hc (by decide) (eye_ne h.eye hc (by decide))
  refine ⟨hbl, by rw [cell_of_row _ _ _ _ _ _ hsig]; rfl, frozen_of_row _ _ _ _ _ hsig, ⟨heye.typed hbp hsig (by decide) (eye_ne heye hsig (by decide)), ?_, ho.but hbp (ho.apart hsig (by decide)), hbl.trans ((hbp.mono hbl.size).below h.newP), h.newY, h.newP⟩⟩
  rw [heap_setCell_same _ _ _ _ _ _ hsig]
  rfl
theorem Reading.set0 {w0 W : World} {yb p i n : Nat} {v : Value} {ls : List (List UInt8)} {rest : List UInt8} (j : Nat) (h : Reading w0 yb p i n v ls rest W) : Reading w0 yb p j n v ls rest (W.setCell ⟨p, 0, none⟩ (.int .i64 (j : Int))) := by
  have hbp : But W.heap.size p W (W.setCell ⟨p, 0, none⟩ (.int .i64 (j : Int))) := (But.refl _ p _).setCell _ (.inl rfl) _
  refine ⟨h.eye.typed hbp h.sig (by decide) (eye_ne h.eye h.sig (by decide)), ?_, h.own.but hbp (h.own.apart h.sig (by decide)), h.below.trans ((hbp.mono h.below.size).below h.newP), h.newY, h.newP⟩
  rw [heap_setCell_same _ _ _ _ _ _ h.sig]
  rfl
theorem Reading.set1 {w0 W : World} {yb p i n : Nat} {v : Value} {ls : List (List UInt8)} {rest : List UInt8} (j : Nat) (h : Reading w0 yb p i n v ls rest W) : Reading w0 yb p i j v ls rest (W.setCell ⟨p, 1, none⟩ (.int .i64 (j : Int))) := by
  have hbp : But W.heap.size p W (W.setCell ⟨p, 1, none⟩ (.int .i64 (j : Int))) := (But.refl _ p _).setCell _ (.inl rfl) _
  refine ⟨h.eye.typed hbp h.sig (by decide) (eye_ne h.eye h.sig (by decide)), ?_, h.own.but hbp (h.own.apart h.sig (by decide)), h.below.trans ((hbp.mono h.below.size).below h.newP), h.newY, h.newP⟩
  rw [heap_setCell_same _ _ _ _ _ _ h.sig]
  rfl
theorem Reading.cell {w0 W : World} {yb p i n : Nat} {v : Value} {ls : List (List UInt8)} {rest : List UInt8} (h : Reading w0 yb p i n v ls rest W) : W.cell? ⟨p, 0, none⟩ = some (.int .i64 (i : Int)) ∧ W.cell? ⟨p, 1, none⟩ = some (.int .i64 (n : Int)) ∧ W.cell? ⟨p, 2, none⟩ = some v ∧ W.cell? ⟨p, 3, none⟩ = some (.slice none 0 0) ∧ ∀ j, W.frozen? ⟨p, j, none⟩ = false :=
  ⟨by rw [cell_of_row _ _ _ _ _ _ h.sig]; rfl, by rw [cell_of_row _ _ _ _ _ _ h.sig]; rfl, by rw [cell_of_row _ _ _ _ _ _ h.sig]; rfl, by rw [cell_of_row _ _ _ _ _ _ h.sig]; rfl, fun j => frozen_of_row _ _ _ _ _ h.sig⟩
theorem upto_packed {yb : Nat} {t : List UInt8} (z : Nat) (M : Int) (hM : (z : Int) ≤ M) (hz : (z : Int) ≤ 9223372036854775807) {W : World} (h : EyeAt W yb (numB (z : Int) ++ t) 0) : Calls Tryd.prog 44 #[.pointer (some ⟨yb, 0, none⟩), .int .i64 M] W fun r w' => r = .returned (.int .i64 (z : Int)) ∧ EyeAt w' yb t 0 ∧ But W.heap.size yb W w' := by
  have hu := upto_first M h
  rw [uptoOf_numB (z : Int) t M (by omega) hz hM] at hu
  have e : (numB (z : Int) ++ t).drop (numB (z : Int)).length = t := by simp
  simp only [e] at hu
  exact hu
theorem sum_packed {yb : Nat} {s t : List UInt8} (hs : s.length = 32) (ht : t.length ≤ 1000000) {W : World} (h : EyeAt W yb (s ++ t) 0) : Calls Tryd.prog 45 #[.pointer (some ⟨yb, 0, none⟩)] W fun r w' => r = .returned (.agg (cellsOf s).toArray) ∧ EyeAt w' yb t 0 ∧ But W.heap.size yb W w' := by
  have hu := sum_first W h (by rw [List.length_append]; omega)
  rw [rawOf_more s t hs] at hu
  have e : sumCells s = cellsOf s := by unfold sumCells; rw [if_pos hs]
  simp only [e] at hu
  exact hu
theorem text_packed {yb : Nat} {q : List UInt8} (M : Int) (hM : (q.length : Int) ≤ M) (hq : q.length ≤ 1000000) {W : World} (h : EyeAt W yb (numB (q.length : Nat) ++ q) 0) : Calls Tryd.prog 29 #[.pointer (some ⟨yb, 0, none⟩), .int .i64 M] W fun r w' => ∃ a c, r = .returned (.slice a q.length c) ∧ Row w' a q.length c q ∧ (∀ x, a = some x → W.heap.size ≤ x.block) ∧ EyeAt w' yb [] 0 ∧ But W.heap.size yb W w' := by
  have hl := numB_len (q.length : Nat)
  have hu := text_first M h (by rw [List.length_append]; omega)
  have e := textOf_any q [] M hM (by omega)
  rw [List.append_nil] at e
  rw [e] at hu
  refine hu.mono fun r w' ⟨a, n, c, h1, h2, h3, h4, h5⟩ => ?_
  obtain rfl := h2.1
  exact ⟨a, c, h1, h2, h3, h4, h5⟩
/-- What read tells of them. -/
def ReadIs (w : World) (i n : Nat) (path : List (List UInt8)) (once : List UInt8) (e : Ending) (w' : World) : Prop :=
  ∃ (ap ab : Option Addr) (cp cb : Nat), e = .returned (.tuple #[.agg #[.int .i64 (i : Int), .int .i64 (n : Int), .slice ap path.length cp, .slice ab 4096 cb], .bool true]) ∧ Sums w' ap path.length cp path ∧ Row w' ab 4096 cb once ∧ Below w.heap.size w w'
set_option linter.unusedSimpArgs false in
set_option maxRecDepth 100000 in
set_option maxHeartbeats 3200000 in
theorem read_packed {w : World} {a : Option Addr} {m c i n : Nat} {path : List (List UInt8)} {once : List UInt8} (hi : i ≤ 64) (hn : n ≤ 64) (hp : path.length ≤ 8) (hps : ∀ s ∈ path, s.length = 32) (ho : once.length = 4096) (hr : Row w a m c (packed i n path once)) :
    Calls Tryd.prog 22 #[.slice a m c] w fun e w' => ReadIs w i n path once e w' := by
  obtain ⟨k, hk⟩ : ∃ k, k = path.length := ⟨_, rfl⟩
  obtain ⟨T, hT, hTl⟩ : ∃ T, T = numB (once.length : Nat) ++ once ∧ T.length ≤ 5000 := ⟨_, rfl, by rw [List.length_append, ho]; have := numB_len ((4096 : Nat) : Int); omega⟩
  have hfl := flat32_len hps
  have epk : packed i n path once = numB ((i : Nat) : Int) ++ (numB ((n : Nat) : Int) ++ (numB ((k : Nat) : Int) ++ (flat32 path ++ T))) := by
    unfold packed numsB numsB numsB numsB
    rw [hT, hk]
    simp [List.append_assoc]
  obtain ⟨L3, hL3⟩ : ∃ L3, L3 = flat32 path ++ T := ⟨_, rfl⟩
  obtain ⟨L2, hL2⟩ : ∃ L2, L2 = numB ((k : Nat) : Int) ++ L3 := ⟨_, rfl⟩
  obtain ⟨L1, hL1⟩ : ∃ L1, L1 = numB ((n : Nat) : Int) ++ L2 := ⟨_, rfl⟩
  obtain ⟨L0, hL0⟩ : ∃ L0, L0 = numB ((i : Nat) : Int) ++ L1 := ⟨_, rfl⟩
  rw [epk, ← hL3, ← hL2, ← hL1, ← hL0] at hr
  have hm : m ≤ 6000 := by
    rw [← hr.1, hL0, hL1, hL2, hL3]
    have h1 := numB_len (i : Int)
    have h2 := numB_len (n : Int)
    have h3 := numB_len (k : Int)
    simp only [List.length_append]
    omega
  have u1 : ∀ (W : World) (yb : Nat), EyeAt W yb L0 0 → Calls Tryd.prog 44 #[.pointer (some ⟨yb, 0, none⟩), .int .i64 64] W fun r w' => r = .returned (.int .i64 (i : Int)) ∧ EyeAt w' yb L1 0 ∧ But W.heap.size yb W w' := fun W yb h => upto_packed i 64 (by omega) (by omega) (by rw [← hL0]; exact h)
  have u2 : ∀ (W : World) (yb : Nat), EyeAt W yb L1 0 → Calls Tryd.prog 44 #[.pointer (some ⟨yb, 0, none⟩), .int .i64 64] W fun r w' => r = .returned (.int .i64 (n : Int)) ∧ EyeAt w' yb L2 0 ∧ But W.heap.size yb W w' := fun W yb h => upto_packed n 64 (by omega) (by omega) (by rw [← hL1]; exact h)
  have u3 : ∀ (W : World) (yb : Nat), EyeAt W yb L2 0 → Calls Tryd.prog 44 #[.pointer (some ⟨yb, 0, none⟩), .int .i64 8] W fun r w' => r = .returned (.int .i64 (k : Int)) ∧ EyeAt w' yb L3 0 ∧ But W.heap.size yb W w' := fun W yb h => upto_packed k 8 (by omega) (by omega) (by rw [← hL2]; exact h)
  have u5 : ∀ (W : World) (yb : Nat), EyeAt W yb T 0 → Calls Tryd.prog 29 #[.pointer (some ⟨yb, 0, none⟩), .int .i64 4096] W fun r w' => ∃ a c, r = .returned (.slice a 4096 c) ∧ Row w' a 4096 c once ∧ (∀ x, a = some x → W.heap.size ≤ x.block) ∧ EyeAt w' yb [] 0 ∧ But W.heap.size yb W w' := fun W yb h => by
    rw [hT] at h
    have := text_packed 4096 (by omega) (by omega) h
    rw [ho] at this
    exact this
  have hstep : ∀ j : Nat, j < k → ∃ s l' : List UInt8, s.length = 32 ∧ flat32 (path.drop (j + 1)) ++ T = l' ∧ path.take (j + 1) = path.take j ++ [s] ∧
      (∀ (W : World) (yb : Nat), EyeAt W yb (flat32 (path.drop j) ++ T) 0 → Calls Tryd.prog 45 #[.pointer (some ⟨yb, 0, none⟩)] W fun r w' => r = .returned (.agg (cellsOf s).toArray) ∧ EyeAt w' yb l' 0 ∧ But W.heap.size yb W w') := fun j hj => by
    have hj' : j < path.length := by omega
    have hs : (path.getD j []).length = 32 := by
      rw [List.getD_eq_getElem?_getD, List.getElem?_eq_getElem hj']
      exact hps _ (List.getElem_mem hj')
    refine ⟨path.getD j [], _, hs, rfl, by rw [List.take_succ_eq_append_getElem hj']; simp [List.getD, hj'], fun W yb h => ?_⟩
    rw [flat32_drop path j hj', List.append_assoc] at h
    refine sum_packed hs ?_ h
    have h1 := flat32_len (ls := path.drop (j + 1)) (fun s hs => hps s (List.mem_of_mem_drop hs))
    have h2 : (path.drop (j + 1)).length ≤ path.length := by simp
    rw [List.length_append]
    omega
  have hend : flat32 (path.drop k) ++ T = T := by rw [hk]; simp [flat32]
  have hbeg : flat32 (path.drop 0) ++ T = L3 := by rw [hL3]; rfl
  have htk : path.take k = path := List.take_of_length_le (by omega)
  have HR := Lib.hid hr
  have HU1 := Lib.hid u1
  have HU2 := Lib.hid u2
  have HU3 := Lib.hid u3
  have HU5 := Lib.hid u5
  have HST := Lib.hid hstep
  have HEND := Lib.hid hend
  have HBEG := Lib.hid hbeg
  have HTK := Lib.hid htk
  have HKP := Lib.hid hk
  have hk8 : k ≤ 8 := by omega
  clear hr u1 u2 u3 u5 hstep hend hbeg htk hk hT hTl hfl epk hL0 hL1 hL2 hL3 hi hn hp hps ho
  go_enter Tryd.func22, Tryd.ntmps22
  go_upto_region 1 with (fail)
  have b0 : Below w.heap.size w (w.alloc (.cells #[.int .i64 0, .int .i64 0, .slice none 0 0, .slice none 0 0] 56)) := (Below.refl _ _).alloc (Nat.le_refl _) _
  have h0 := heap_alloc_new w (.cells #[.int .i64 0, .int .i64 0, .slice none 0 0, .slice none 0 0] 56)
  revert b0 h0
  generalize (w.alloc (.cells #[.int .i64 0, .int .i64 0, .slice none 0 0, .slice none 0 0] 56)) = w0
  generalize hr0 : w.heap.size = r0
  intro b0 h0
  have HB0 := Lib.hid (show Below w.heap.size w w0 by rw [hr0]; exact b0)
  have H0 := Lib.hid h0
  have HR0 := Lib.hid hr0
  clear b0 h0 hr0
  go_wp2_with fail
  refine (look_any (HR.out.below HB0.out) (by omega)).mono ?_
  rintro e w1 ⟨yb, rfl, hyb, heye, hb1⟩
  have HB1 := Lib.hid hb1
  have HEYE := Lib.hid heye
  have HYB := Lib.hid hyb
  clear hb1 heye hyb
  go_upto_region 3 with (fail)
  have hrd : Reading w0 yb w1.heap.size 0 0 (.slice none 0 0) [] L0 (w1.alloc (.cells #[.int .i64 0, .int .i64 0, .slice none 0 0, .slice none 0 0] 56)) :=
    have b : Below w1.heap.size w1 (w1.alloc (.cells #[.int .i64 0, .int .i64 0, .slice none 0 0, .slice none 0 0] 56)) := (Below.refl _ _).alloc (Nat.le_refl _) _
    ⟨HEYE.out.below b, heap_alloc_new _ _, OwnS.nil _ _, HB1.out.trans (b.mono HB1.out.size), HYB.out, HB1.out.size⟩
  revert hrd
  generalize (w1.alloc (.cells #[.int .i64 0, .int .i64 0, .slice none 0 0, .slice none 0 0] 56)) = w2
  generalize w1.heap.size = p
  intro hrd
  have HRD2 := Lib.hid hrd
  clear hrd HEYE HB1
  go_wp2_with fail
  refine (HU1.out _ yb HRD2.out.eye).mono ?_
  rintro e w3 ⟨rfl, he3, hb3⟩
  have HRD3 := Lib.hid (HRD2.out.eyed he3 hb3)
  obtain ⟨c0, _, _, _, f⟩ := HRD3.out.cell
  have f0 := f 0
  clear he3 hb3 f
  go_upto_region 4 with (fail)
  have hrd := HRD3.out.set0 i
  revert hrd
  generalize w3.setCell ⟨p, 0, none⟩ (.int .i64 (i : Int)) = w4
  intro hrd
  have HRD4 := Lib.hid hrd
  clear hrd c0 f0
  go_wp2_with fail
  refine (HU2.out _ yb HRD4.out.eye).mono ?_
  rintro e w5 ⟨rfl, he5, hb5⟩
  have HRD5 := Lib.hid (HRD4.out.eyed he5 hb5)
  obtain ⟨_, c1, _, _, f⟩ := HRD5.out.cell
  have f1 := f 1
  clear he5 hb5 f
  go_upto_region 5 with (fail)
  have hrd := HRD5.out.set1 n
  revert hrd
  generalize w5.setCell ⟨p, 1, none⟩ (.int .i64 (n : Int)) = w6
  intro hrd
  have HRD6 := Lib.hid hrd
  clear hrd c1 f1
  go_wp2_with fail
  refine (HU3.out _ yb HRD6.out.eye).mono ?_
  rintro e w7 ⟨rfl, he7, hb7⟩
  have HRD7 := Lib.hid (HRD6.out.eyed he7 hb7)
  clear he7 hb7 HRD2 HRD3 HRD4 HRD5 HRD6
  go_wp2_with fail
  go_loopw [16] (fun x wr => ∃ (j : Nat) (v : Value), j ≤ k ∧ x = .int .i64 j ∧ Reading w0 yb p i n v (path.take j) (flat32 (path.drop j) ++ T) wr) (fun x _ => k - (intOf x).toNat)
  case atStart => exact ⟨0, _, Nat.zero_le _, rfl, by rw [HBEG.out]; exact HRD7.out⟩
  case round =>
    obtain ⟨j, v, hj, rfl, hrd⟩ := hrel
    clear HRD7
    by_cases hjk : j < k
    · have d1 : (j : Int) < (k : Int) := by omega
      obtain ⟨s, l', hsl, hl', hnext, hsum⟩ := HST.out j hjk
      have hlt : (path.take j).length + 1 ≤ 1000000 := by rw [List.length_take]; omega
      obtain ⟨done, hdone⟩ : ∃ done, done = path.take j := ⟨_, rfl⟩
      obtain ⟨l, hll⟩ : ∃ l, l = flat32 (path.drop j) ++ T := ⟨_, rfl⟩
      rw [← hdone] at hrd hnext hlt
      rw [← hll] at hrd hsum
      have HR0' := Lib.hid hrd.drew
      have HSL := Lib.hid hsl
      have HSUM := Lib.hid hsum
      have HLT := Lib.hid hlt
      have HNX := Lib.hid hnext
      have HL := Lib.hid hl'
      clear hrd hsl hl' hnext hsum hlt hdone hll
      go_upto_region 7 with (fail)
      refine wp_region_held_drew (S := fun w' => Below w0.heap.size w0 w') (by kernel_rfl) (HR0'.out.below) (fun hHeld => ?_)
      refine take_at (i := 0) (v := ?_) rfl rfl (by kernel_rfl) (by kernel_rfl) (by kernel_rfl) (fun _ _ _ h => h) (Or.inl ⟨by rfl, ?_⟩) (by assumption) ?_
      rotate_left
      · intro w0 hSw; (try dsimp only at hSw); first | (go_simp; done) | (go_simp; with_reducible rfl)
      simp only [List.setIfInBounds_toArray, List.set_cons_zero, List.set_cons_succ]
      refine take_at (i := 2) (v := ?_) rfl rfl (by kernel_rfl) (by kernel_rfl) (by kernel_rfl) (fun _ _ _ h => h) (Or.inl ⟨by rfl, ?_⟩) (by assumption) ?_
      rotate_left
      · intro w0 hSw; (try dsimp only at hSw); first | (go_simp; done) | (go_simp; with_reducible rfl)
      simp only [List.setIfInBounds_toArray, List.set_cons_zero, List.set_cons_succ]
      refine wpAnyH_ready (rs := [1, 3]) (by kernel_rfl) (by simp) ?_
      refine AllReadyH.cons rfl (fun K hK => ?_) ?_
      · refine step_cell (d := 19) rfl (by rfl) 48 _ rfl p 2 rfl v HR0'.out.cell.2.2.1 (by kernel_rfl) ?_
        refine hK.out _ _ (by (try dsimp only); exact hHeld) (fun hHeld => ?_)
        clear hK K
        refine wpAnyH_ready (rs := [3]) (by kernel_rfl) (by simp) ?_
        refine AllReadyH.cons rfl (fun K hK => ?_) ?_
        · go_simp
          go_wp2_with ((go_at_call 45; (with_reducible refine (HSUM.out _ yb HR0'.out.eye).mono ?_); rintro e x3 ⟨rfl, he3, hb3⟩; have HR3 := Lib.hid (HR0'.out.eyed he3 hb3); clear he3 hb3))
          refine hK.out _ _ (by (try dsimp only); exact HR3.out.below) (fun hHeld => ?_)
          clear hK K
          refine wpAnyH_ready (rs := [4]) (by kernel_rfl) (by simp) ?_
          refine AllReadyH.cons rfl (fun K hK => ?_) ?_
          · refine step_build1_gen (d := 22) rfl _ (by rfl) rfl rfl HSL.out ?_
            intro g x4 _ hs4 hb4
            have HS4 := Lib.hid hs4
            have HR4 := Lib.hid (HR3.out.more hb4)
            clear hs4 hb4
            refine hK.out _ _ (by (try dsimp only); exact HR4.out.below) (fun hHeld => ?_)
            clear hK K
            refine wpAnyH_ready (rs := [5]) (by kernel_rfl) (by simp) ?_
            refine AllReadyH.cons rfl (fun K hK => ?_) ?_
            · refine step_append_gen (d := 23) rfl (by rfl) _ _ rfl rfl w0.heap.size v done rfl HR4.out.own _ 1 1 [s] rfl HS4.out HLT.out HR4.out.below.size ?_
              intro u x5 ho5 hg5
              have HX5 := Lib.hid (HR4.out.grown ho5 hg5)
              have HO5 := Lib.hid ho5.one
              clear ho5 hg5
              refine hK.out _ _ (by (try dsimp only); exact HX5.out.1) (fun hHeld => ?_)
              clear hK K
              refine take_at (i := 6) (v := ?_) rfl rfl (by kernel_rfl) (by kernel_rfl) (by kernel_rfl) (fun _ _ _ h => h) (Or.inl ⟨by rfl, ?_⟩) (by assumption) ?_
              rotate_left
              · intro w0 hSw; (try dsimp only at hSw); first | (go_simp; done) | (go_simp; with_reducible rfl)
              simp only [List.setIfInBounds_toArray, List.set_cons_zero, List.set_cons_succ]
              refine wpAnyH_ready (rs := [7]) (by kernel_rfl) (by simp) ?_
              refine AllReadyH.cons rfl (fun K hK => ?_) ?_
              · refine step_store_cell (by rfl) 48 _ _ rfl p 2 rfl u rfl v HX5.out.2.1 HX5.out.2.2.1 (by kernel_rfl) HO5.out ?_
                refine hK.out _ _ (by (try dsimp only); exact HX5.out.2.2.2.below) (fun hHeld => ?_)
                clear hK K
                refine wpAnyH_done (by kernel_rfl) ?_ _
                have HR7 := Lib.hid HX5.out.2.2.2
                clear hHeld
                go_wp2_with fail
                go_roundw
                case rel => exact ⟨j + 1, u, by omega, by go_num, by rw [HNX.out, HL.out]; exact HR7.out⟩
                case measure => simp [intOf]; omega
              exact AllReadyH.nil
            exact AllReadyH.nil
          exact AllReadyH.nil
        exact AllReadyH.nil
      refine AllReadyH.cons rfl (fun K hK => ?_) ?_
      · go_simp
        go_wp2_with ((go_at_call 45; (with_reducible refine (HSUM.out _ yb HR0'.out.eye).mono ?_); rintro e x3 ⟨rfl, he3, hb3⟩; have HR3 := Lib.hid (HR0'.out.eyed he3 hb3); clear he3 hb3))
        refine hK.out _ _ (by (try dsimp only); exact HR3.out.below) (fun hHeld => ?_)
        clear hK K
        refine wpAnyH_ready (rs := [1, 4]) (by kernel_rfl) (by simp) ?_
        refine AllReadyH.cons rfl (fun K hK => ?_) ?_
        · refine step_cell (d := 19) rfl (by rfl) 48 _ rfl p 2 rfl v HR3.out.cell.2.2.1 (by kernel_rfl) ?_
          refine hK.out _ _ (by (try dsimp only); exact hHeld) (fun hHeld => ?_)
          clear hK K
          refine wpAnyH_ready (rs := [4]) (by kernel_rfl) (by simp) ?_
          refine AllReadyH.cons rfl (fun K hK => ?_) ?_
          · refine step_build1_gen (d := 22) rfl _ (by rfl) rfl rfl HSL.out ?_
            intro g x4 _ hs4 hb4
            have HS4 := Lib.hid hs4
            have HR4 := Lib.hid (HR3.out.more hb4)
            clear hs4 hb4
            refine hK.out _ _ (by (try dsimp only); exact HR4.out.below) (fun hHeld => ?_)
            clear hK K
            refine wpAnyH_ready (rs := [5]) (by kernel_rfl) (by simp) ?_
            refine AllReadyH.cons rfl (fun K hK => ?_) ?_
            · refine step_append_gen (d := 23) rfl (by rfl) _ _ rfl rfl w0.heap.size v done rfl HR4.out.own _ 1 1 [s] rfl HS4.out HLT.out HR4.out.below.size ?_
              intro u x5 ho5 hg5
              have HX5 := Lib.hid (HR4.out.grown ho5 hg5)
              have HO5 := Lib.hid ho5.one
              clear ho5 hg5
              refine hK.out _ _ (by (try dsimp only); exact HX5.out.1) (fun hHeld => ?_)
              clear hK K
              refine take_at (i := 6) (v := ?_) rfl rfl (by kernel_rfl) (by kernel_rfl) (by kernel_rfl) (fun _ _ _ h => h) (Or.inl ⟨by rfl, ?_⟩) (by assumption) ?_
              rotate_left
              · intro w0 hSw; (try dsimp only at hSw); first | (go_simp; done) | (go_simp; with_reducible rfl)
              simp only [List.setIfInBounds_toArray, List.set_cons_zero, List.set_cons_succ]
              refine wpAnyH_ready (rs := [7]) (by kernel_rfl) (by simp) ?_
              refine AllReadyH.cons rfl (fun K hK => ?_) ?_
              · refine step_store_cell (by rfl) 48 _ _ rfl p 2 rfl u rfl v HX5.out.2.1 HX5.out.2.2.1 (by kernel_rfl) HO5.out ?_
                refine hK.out _ _ (by (try dsimp only); exact HX5.out.2.2.2.below) (fun hHeld => ?_)
                clear hK K
                refine wpAnyH_done (by kernel_rfl) ?_ _
                have HR7 := Lib.hid HX5.out.2.2.2
                clear hHeld
                go_wp2_with fail
                go_roundw
                case rel => exact ⟨j + 1, u, by omega, by go_num, by rw [HNX.out, HL.out]; exact HR7.out⟩
                case measure => simp [intOf]; omega
              exact AllReadyH.nil
            exact AllReadyH.nil
          exact AllReadyH.nil
        refine AllReadyH.cons rfl (fun K hK => ?_) ?_
        · refine step_build1_gen (d := 22) rfl _ (by rfl) rfl rfl HSL.out ?_
          intro g x4 _ hs4 hb4
          have HS4 := Lib.hid hs4
          have HR4 := Lib.hid (HR3.out.more hb4)
          clear hs4 hb4
          refine hK.out _ _ (by (try dsimp only); exact HR4.out.below) (fun hHeld => ?_)
          clear hK K
          refine wpAnyH_ready (rs := [1]) (by kernel_rfl) (by simp) ?_
          refine AllReadyH.cons rfl (fun K hK => ?_) ?_
          · refine step_cell (d := 19) rfl (by rfl) 48 _ rfl p 2 rfl v HR4.out.cell.2.2.1 (by kernel_rfl) ?_
            refine hK.out _ _ (by (try dsimp only); exact hHeld) (fun hHeld => ?_)
            clear hK K
            refine wpAnyH_ready (rs := [5]) (by kernel_rfl) (by simp) ?_
            refine AllReadyH.cons rfl (fun K hK => ?_) ?_
            · refine step_append_gen (d := 23) rfl (by rfl) _ _ rfl rfl w0.heap.size v done rfl HR4.out.own _ 1 1 [s] rfl HS4.out HLT.out HR4.out.below.size ?_
              intro u x5 ho5 hg5
              have HX5 := Lib.hid (HR4.out.grown ho5 hg5)
              have HO5 := Lib.hid ho5.one
              clear ho5 hg5
              refine hK.out _ _ (by (try dsimp only); exact HX5.out.1) (fun hHeld => ?_)
              clear hK K
              refine take_at (i := 6) (v := ?_) rfl rfl (by kernel_rfl) (by kernel_rfl) (by kernel_rfl) (fun _ _ _ h => h) (Or.inl ⟨by rfl, ?_⟩) (by assumption) ?_
              rotate_left
              · intro w0 hSw; (try dsimp only at hSw); first | (go_simp; done) | (go_simp; with_reducible rfl)
              simp only [List.setIfInBounds_toArray, List.set_cons_zero, List.set_cons_succ]
              refine wpAnyH_ready (rs := [7]) (by kernel_rfl) (by simp) ?_
              refine AllReadyH.cons rfl (fun K hK => ?_) ?_
              · refine step_store_cell (by rfl) 48 _ _ rfl p 2 rfl u rfl v HX5.out.2.1 HX5.out.2.2.1 (by kernel_rfl) HO5.out ?_
                refine hK.out _ _ (by (try dsimp only); exact HX5.out.2.2.2.below) (fun hHeld => ?_)
                clear hK K
                refine wpAnyH_done (by kernel_rfl) ?_ _
                have HR7 := Lib.hid HX5.out.2.2.2
                clear hHeld
                go_wp2_with fail
                go_roundw
                case rel => exact ⟨j + 1, u, by omega, by go_num, by rw [HNX.out, HL.out]; exact HR7.out⟩
                case measure => simp [intOf]; omega
              exact AllReadyH.nil
            exact AllReadyH.nil
          exact AllReadyH.nil
        exact AllReadyH.nil
      exact AllReadyH.nil
    · have d1 : ¬ ((j : Int) < (k : Int)) := by omega
      obtain rfl : j = k := by omega
      rw [HEND.out, HTK.out] at hrd
      have HRD := Lib.hid hrd
      clear hrd
      go_wp2_with fail
      refine (HU5.out _ yb HRD.out.eye).mono ?_
      rintro e x1 ⟨ab, cb, rfl, hrow, hfresh, he, hb⟩
      have HR1 := Lib.hid (HRD.out.eyed he hb)
      have HROW := Lib.hid hrow
      have HFR : Hid (∀ x, ab = some x → w0.heap.size ≤ x.block) := Lib.hid (fun x e => Nat.le_trans HRD.out.below.size (hfresh x e))
      obtain ⟨_, _, _, c3, f⟩ := HR1.out.cell
      have f3 := f 3
      clear hrow hfresh he hb f
      go_upto_region 10 with (fail)
      obtain ⟨ap, cp, rfl, hap⟩ := HR1.out.own.shape
      rw [← HKP.out] at HR1
      have hb2 : But x1.heap.size p x1 (x1.setCell ⟨p, 3, none⟩ (.slice ab 4096 cb)) := (But.refl _ p _).setCell _ (.inl rfl) _
      have hsig : (x1.setCell ⟨p, 3, none⟩ (.slice ab 4096 cb)).heap[p]? = some (.cells #[.int .i64 (i : Int), .int .i64 (n : Int), .slice ap j cp, .slice ab 4096 cb] 56 (0, 0)) := by rw [heap_setCell_same _ _ _ _ _ _ HR1.out.sig]; rfl
      have he2 := HR1.out.eye.typed hb2 HR1.out.sig (by decide) (eye_ne HR1.out.eye HR1.out.sig (by decide))
      have hr2 := HROW.out.butN hb2 (noBytes_four HR1.out.sig (fun _ h => by cases h) (fun _ h => by cases h) (fun _ h => by cases h) (fun _ h => by cases h))
      have ho2 := HR1.out.own.but hb2 (HR1.out.own.apart HR1.out.sig (by decide))
      have hbl : Below w0.heap.size w0 (x1.setCell ⟨p, 3, none⟩ (.slice ab 4096 cb)) := HR1.out.below.trans ((hb2.mono HR1.out.below.size).below HR1.out.newP)
      revert hsig he2 hr2 ho2 hbl
      generalize x1.setCell ⟨p, 3, none⟩ (.slice ab 4096 cb) = x2
      intro hsig he2 hr2 ho2 hbl
      have HSIG := Lib.hid hsig
      have HE2 := Lib.hid he2
      have HR2 := Lib.hid hr2
      have HO2 := Lib.hid ho2
      have HBL := Lib.hid hbl
      have HAP := Lib.hid hap
      have HRR := Lib.hid ((hbl.block _ (lt_of_block H0.out)).trans H0.out)
      clear hb2 hsig he2 hr2 ho2 hbl hap c3 f3 HR1 HROW HRD
      go_wp2_with (first | (go_at_call 30; refine (done_all HE2.out).mono ?_; rintro r w' ⟨rfl, rfl⟩) | (refine wpList_load_row rfl 56 _ rfl p rfl 56 _ (0, 0) _ HSIG.out Tryd.underlying56 rfl (by kernel_rfl) ?_) | (refine wpList_store_row rfl 56 _ _ rfl r0 #[.int .i64 (i : Int), .int .i64 (n : Int), .slice ap j cp, .slice ab 4096 cb] rfl rfl 56 _ HRR.out (by kernel_rfl) rfl (four_all rfl rfl rfl rfl) ?_))
      have hb3 := but_setRow x2 r0 #[.int .i64 (i : Int), .int .i64 (n : Int), .slice ap j cp, .slice ab 4096 cb]
      have hlt0 : r0 < w0.heap.size := lt_of_block H0.out
      refine bodyPost_ret (results_cell_then rfl _ _ r0 56 #[.int .i64 (i : Int), .int .i64 (n : Int), .slice ap j cp, .slice ab 4096 cb] (0, 0) _ (.bool true) rfl rfl (setRow_heap x2 r0 _ _ 56 _ HRR.out) Tryd.underlying56 rfl (by kernel_rfl)) rfl ⟨ap, ab, cp, cb, by rw [← HKP.out], ?_, ?_, ?_⟩
      · rw [← HKP.out]
        exact HO2.out.sums.but hb3 (fun _ b off e => by have := HAP.out _ e; simp at this; omega)
      · exact HR2.out.but hb3 (fun _ b off e => by have := HFR.out _ e; simp at this; omega)
      · exact HB0.out.trans ((HBL.out.mono HB0.out.size).trans ((hb3.mono (Nat.le_trans HB0.out.size HBL.out.size)).below (by rw [HR0.out]; exact Nat.le_refl _)))
end Go.Proofs.YtfccmiohnjhkoaaDoor
namespace Go.Proofs.YtfccmiohnjhkoaaDoor
open Go.RowKit

theorem up_all : ∀ l : List (List UInt8), (∀ t ∈ l, t.length = 32) → ∀ t ∈ up pairSum l, t.length = 32
  | [], _, t, ht => by cases ht
  | [a], h, t, ht => h t ht
  | a :: b :: l, h, t, ht => by
    rcases List.mem_cons.1 (show t ∈ pairSum a b :: up pairSum l from ht) with rfl | ht
    · exact pairSum_len _ _
    · exact up_all l (fun t ht => h t (by simp [ht])) t ht
theorem tier_all : ∀ (k : Nat) (l : List (List UInt8)), (∀ t ∈ l, t.length = 32) → ∀ t ∈ tier pairSum k l, t.length = 32
  | 0, l, h => h
  | k + 1, l, h => by
    rw [tier_up]
    exact up_all _ (tier_all k l h)
theorem way_all (l : List (List UInt8)) (i : Nat) (h : ∀ t ∈ l, t.length = 32) : ∀ k, ∀ t ∈ way pairSum k i l, t.length = 32
  | 0, t, ht => by cases ht
  | k + 1, t, ht => by
    rw [way_up] at ht
    rcases List.mem_append.1 ht with ht | ht
    · exact way_all l i h k t ht
    · rw [Option.mem_toList] at ht
      exact tier_all k l h t (List.mem_of_getElem? ht)
theorem path_all (l : List (List UInt8)) (i : Nat) (h : ∀ t ∈ l, t.length = 32) : ∀ t ∈ pathOf pairSum i l, t.length = 32 := way_all l i h l.length
theorem laid_below (w : World) (cs cs' : Array Value) (t : TypeId) : Below w.heap.size w ((w.alloc (.cells cs t)).setRow w.heap.size cs') := by
  have b : Below w.heap.size w (w.alloc (.cells cs t)) := (Below.refl _ _).alloc (Nat.le_refl _) _
  exact b.trans (((but_setRow _ w.heap.size cs').mono b.size).below (Nat.le_refl _))
theorem sig5_read {w : World} {a : Option Addr} {m c i n : Nat} {s l : List UInt8} (hi : i < n) (hn : n ≤ 64) (hr : Row w a m c (sig5 s n i l)) :
    Calls Tryd.prog 22 #[.slice a m c] w fun e w' => ReadIs w i n (pathOf pairSum i ((leafKeys s n).map leafSum)) (sigOf (leafSeed s i) l) e w' := by
  have h6 := path5_few s n i hi hn
  refine read_packed (by omega) hn (by omega) (fun t ht => ?_) (sigOf_len _ _) hr
  exact path_all _ i (fun t ht => by obtain ⟨x, _, rfl⟩ := List.mem_map.1 ht; exact leafSum_len x) t ht
set_option linter.unusedSimpArgs false in
set_option maxRecDepth 100000 in
set_option maxHeartbeats 3200000 in
theorem verify5_any {w : World} {a b : Option Addr} {m c m' c' i n : Nat} {s l : List UInt8} (hi : i < n) (hn : n ≤ 64) (ht : Row w a m c l) (hm : m ≤ 1000000) (hr : Row w b m' c' (sig5 s n i l)) (hk : KsAt w) :
    Calls Tryd.prog 12 #[.agg (cellsOf (rootSum (leafKeys s n))).toArray, .slice a m c, .slice b m' c'] w fun e w' => e = .returned (.bool true) ∧ Below w.heap.size w w' := by
  obtain ⟨R, hRl, hR⟩ : ∃ R, R.length = 32 ∧ rootSum (leafKeys s n) = R := ⟨_, rootSum_len _, rfl⟩
  obtain ⟨Kf, hKl, P, O, hread, hback, hcheck⟩ : ∃ Kf : List UInt8, Kf.length = 32 ∧ ∃ (P : List (List UInt8)) (O : List UInt8), (∀ W : World, Row W b m' c' (sig5 s n i l) → Calls Tryd.prog 22 #[.slice b m' c'] W fun e w' => ReadIs W i n P O e w') ∧
      (∀ (W : World) (ab : Option Addr) (cb : Nat), Row W a m c l → Row W ab 4096 cb O → KsAt W → Calls Tryd.prog 23 #[.slice a m c, .slice ab 4096 cb] W fun e w' => e = .returned (.tuple #[.agg (cellsOf Kf).toArray, .int .i64 0]) ∧ Below W.heap.size W w') ∧
      (∀ (W : World) (ap : Option Addr) (cp : Nat), Sums W ap P.length cp P → KsAt W → Calls Tryd.prog 24 #[.agg (cellsOf R).toArray, .agg (cellsOf Kf).toArray, .int .i64 (i : Int), .int .i64 (n : Int), .slice ap P.length cp] W fun e w' => e = .returned (.bool true) ∧ Below W.heap.size W w') := by
    refine ⟨leafKey s i, leafKey_len _ _, _, _, fun W h => sig5_read hi hn h, fun W ab cb h1 h2 hW => ?_, fun W ap cp h1 hW => ?_⟩
    · have h := back_in h1 hm h2 hW
      rw [back_sig] at h
      exact h
    · have h := check_in (r := R) (s := leafKey s i) i n hi (by omega) hRl (leafKey_len _ _) h1 hW
      have e := path_leads (leafKeys s n) i (by rw [leafKeys_len]; exact hi) (by rw [leafKeys_len]; omega)
      rw [leafKeys_get s n i hi, leafKeys_len, hR] at e
      rw [e] at h
      have e2 : decide (some R = some R) = true := decide_eq_true rfl
      rw [e2] at h
      exact h
  obtain ⟨M, hM⟩ : ∃ M, M = P.length := ⟨_, rfl⟩
  rw [← hM] at hcheck
  rw [hR]
  have SZR := Lib.hid (size_of hRl)
  have SZK := Lib.hid (size_of hKl)
  have HZK := Lib.hid (zero_of hKl)
  have HRD := Lib.hid hread
  have HBK := Lib.hid hback
  have HCK := Lib.hid hcheck
  have HM := Lib.hid hM
  have HT := Lib.hid ht
  have HS := Lib.hid hr
  have HK := Lib.hid hk
  clear hread hback hcheck hr ht hk hM hR hRl hKl hi hn hm
  go_enter Tryd.func12, Tryd.ntmps12
  go_upto_region 1 with (fail)
  have b1 : Below w.heap.size w (w.alloc (.cells (cellsOf R).toArray 23)) := (Below.refl _ _).alloc (Nat.le_refl _) _
  have h1 : (w.alloc (.cells (cellsOf R).toArray 23)).heap[w.heap.size]? = some (.cells (cellsOf R).toArray 23 (0, 0)) := heap_alloc_new _ _
  revert b1 h1
  generalize (w.alloc (.cells (cellsOf R).toArray 23)) = w1
  obtain ⟨g, hg⟩ : ∃ g, g = w.heap.size := ⟨_, rfl⟩
  rw [← hg]
  intro b1 h1
  rw [hg] at b1
  have HB1 := Lib.hid b1
  have H1 := Lib.hid h1
  clear b1 h1 hg
  go_wp2_with fail
  refine (HRD.out _ (HS.out.below HB1.out)).mono ?_
  rintro e w2 ⟨ap, ab, cp, cb, rfl, hsp, hsr, hb2⟩
  rw [← HM.out] at hsp
  rw [← HM.out]
  have HB2 := Lib.hid (HB1.out.trans (hb2.mono HB1.out.size))
  have H2 := Lib.hid ((hb2.block _ (lt_of_block H1.out)).trans H1.out)
  have HSP := Lib.hid hsp
  have HSR := Lib.hid hsr
  clear hb2 hsp hsr
  go_upto_region 2 with (refine wpList_store_row rfl 56 _ _ rfl w2.heap.size #[.int .i64 (i : Int), .int .i64 (n : Int), .slice ap M cp, .slice ab 4096 cb] rfl rfl 56 _ (heap_alloc_new _ _) (by kernel_rfl) rfl (four_all rfl rfl rfl rfl) ?_)
  have h3 := setRow_heap (w2.alloc (.cells #[.int .i64 0, .int .i64 0, .slice none 0 0, .slice none 0 0] 56)) w2.heap.size _ #[.int .i64 (i : Int), .int .i64 (n : Int), .slice ap M cp, .slice ab 4096 cb] 56 _ (heap_alloc_new _ _)
  have b3 := laid_below w2 #[.int .i64 0, .int .i64 0, .slice none 0 0, .slice none 0 0] #[.int .i64 (i : Int), .int .i64 (n : Int), .slice ap M cp, .slice ab 4096 cb] 56
  revert h3 b3
  generalize ((w2.alloc (.cells #[.int .i64 0, .int .i64 0, .slice none 0 0, .slice none 0 0] 56)).setRow w2.heap.size #[.int .i64 (i : Int), .int .i64 (n : Int), .slice ap M cp, .slice ab 4096 cb]) = w3
  obtain ⟨p, hp⟩ : ∃ p, p = w2.heap.size := ⟨_, rfl⟩
  rw [← hp]
  intro h3 b3
  rw [hp] at b3
  have h4 := (b3.block _ (lt_of_block H2.out)).trans H2.out
  have HB3 := Lib.hid (HB2.out.trans (b3.mono HB2.out.size))
  have HSP3 := Lib.hid (HSP.out.below b3)
  have HSR3 := Lib.hid (HSR.out.below b3)
  have H4 := Lib.hid h4
  have H3 := Lib.hid h3
  have hlt3 := lt_of_block h3
  have c3 : w3.cell? ⟨p, 3, none⟩ = some (.slice ab 4096 cb) := four_cell 3 h3
  clear h3 b3 h4 hp
  go_wp2_with fail
  refine (HBK.out _ ab cb (HT.out.below HB3.out) HSR3.out (HK.out.below HB3.out)).mono ?_
  rintro e w4 ⟨rfl, hb4⟩
  have HB4 := Lib.hid (HB3.out.trans (hb4.mono HB3.out.size))
  have HSP4 := Lib.hid (HSP3.out.below hb4)
  have HS4 := Lib.hid ((hb4.block _ hlt3).trans H3.out)
  have HR4 := Lib.hid ((hb4.block _ (lt_of_block H4.out)).trans H4.out)
  clear hb4 c3
  go_upto_region 5 with (refine wpList_store_row rfl 23 _ _ rfl w4.heap.size (cellsOf Kf).toArray rfl rfl 23 (cellsOf zero32).toArray (heap_alloc_new _ _) SZK.out HZK.out (all_oneCell_toArray (cellsOf_one Kf)) ?_)
  rw [← zero32_is, laySum_is]
  have h5 := laySum_heap w4 Kf
  have b5 := laySum_self w4 Kf
  have h6 := (b5.block _ (lt_of_block HS4.out)).trans HS4.out
  have h7 := (b5.block _ (lt_of_block HR4.out)).trans HR4.out
  revert h5 b5 h6 h7
  generalize laySum w4 Kf = w5
  intro h5 b5 h6 h7
  have HB5 := Lib.hid (HB4.out.trans (b5.mono HB4.out.size))
  have HSP5 := Lib.hid (HSP4.out.below b5)
  have H5 := Lib.hid h5
  have H7 := Lib.hid h7
  have c0 : w5.cell? ⟨p, 0, none⟩ = some (.int .i64 (i : Int)) := four_cell 0 h6
  have c1 : w5.cell? ⟨p, 1, none⟩ = some (.int .i64 (n : Int)) := four_cell 1 h6
  have c2 : w5.cell? ⟨p, 2, none⟩ = some (.slice ap M cp) := four_cell 2 h6
  clear h5 b5 h6 h7
  generalize w4.heap.size = q at *
  try simp only [Act.put]
  go_wp2_with (first | (refine wpList_load_wanted (by rfl) 23 _ rfl q rfl 23 (cellsOf Kf).toArray (0, 0) _ H5.out Tryd.underlying23 rfl SZK.out ?_) | (refine wpList_load_wanted (by rfl) 23 _ rfl g rfl 23 (cellsOf R).toArray (0, 0) _ H7.out Tryd.underlying23 rfl SZR.out ?_) | fail)
  refine (HCK.out _ ap cp HSP5.out (HK.out.below HB5.out)).mono ?_
  rintro e w6 ⟨rfl, hb6⟩
  have HB6 := Lib.hid (HB5.out.trans (hb6.mono HB5.out.size))
  clear hb6
  go_wp2_with fail
  go_ret
  exact ⟨rfl, HB6.out⟩
end Go.Proofs.YtfccmiohnjhkoaaDoor
