/- What the small parts of package block come to: isHeight, Right, Path, Has. What block.Make comes to. -/
import Derived.Test.YtlnenkmcegadmaaDoorBlk
import Derived.Test.YtlnenkmcegadmaaDoorMerkle
namespace Go.Proofs.YtlnenkmcegadmaaDoor
open Go.RowKit

set_option linter.unusedSimpArgs false in
set_option maxRecDepth 100000 in
set_option maxHeartbeats 6400000 in
theorem isHeight_any (z : Int) (w : World) : Calls Tryd.prog 21 #[.int .i64 z] w fun e w' => e = .returned (.bool (decide (0 ≤ z) && decide (z ≤ 1073741824))) ∧ w = w' := by
  by_cases h0 : 0 ≤ z
  · by_cases h1 : z ≤ 1073741824
    · have e : (decide (0 ≤ z) && decide (z ≤ 1073741824)) = true := by simp [h0, h1]
      rw [e]
      go_enter Tryd.func21, Tryd.ntmps21
      go_wp2
      go_ret
      exact ⟨rfl, rfl⟩
    · have e : (decide (0 ≤ z) && decide (z ≤ 1073741824)) = false := by simp [h1]
      rw [e]
      go_enter Tryd.func21, Tryd.ntmps21
      go_wp2
      go_ret
      exact ⟨rfl, rfl⟩
  · have e : (decide (0 ≤ z) && decide (z ≤ 1073741824)) = false := by simp [h0]
    rw [e]
    go_enter Tryd.func21, Tryd.ntmps21
    go_wp2
    go_ret
    exact ⟨rfl, rfl⟩
theorem isHeight_yes {z : Int} (h0 : 0 ≤ z) (h1 : z ≤ 1073741824) (w : World) : Calls Tryd.prog 21 #[.int .i64 z] w fun e w' => e = .returned (.bool true) ∧ w = w' := by
  have h9 := isHeight_any z w
  rw [show (decide (0 ≤ z) && decide (z ≤ 1073741824)) = true by simp [h0, h1]] at h9
  exact h9
theorem isHeight_no {z : Int} (h : ¬ (0 ≤ z ∧ z ≤ 1073741824)) (w : World) : Calls Tryd.prog 21 #[.int .i64 z] w fun e w' => e = .returned (.bool false) ∧ w = w' := by
  have h9 := isHeight_any z w
  rw [show (decide (0 ≤ z) && decide (z ≤ 1073741824)) = false by simp; omega] at h9
  exact h9
/-- What is checked. -/
def checkV (r s : List UInt8) (i n : Int) (p : List (List UInt8)) : Bool := if 4096 < n ∨ i < 0 ∨ n ≤ i then false else decide (ascend pairSum 12 (leafSum s) i.toNat n.toNat p = some r)
theorem check_all19 {w : World} {r s : List UInt8} {a : Option Addr} {k c : Nat} {p : List (List UInt8)} (i n : Int) (hr : r.length = 32) (hs : s.length = 32) (h : Sums w a k c p) (hk : KsAt w) :
    Calls Tryd.prog 19 #[.agg (cellsOf r).toArray, .agg (cellsOf s).toArray, .int .i64 i, .int .i64 n, .slice a k c] w fun e w' => e = .returned (.bool (checkV r s i n p)) ∧ Below w.heap.size w w' := by
  unfold checkV
  by_cases h0 : 4096 < n ∨ i < 0 ∨ n ≤ i
  · rw [if_pos h0]
    exact check_out i n h0
  · rw [if_neg h0]
    obtain ⟨j, rfl⟩ : ∃ j : Nat, i = (j : Int) := ⟨i.toNat, by omega⟩
    obtain ⟨m, rfl⟩ : ∃ m : Nat, n = (m : Int) := ⟨n.toNat, by omega⟩
    exact check_in j m (by omega) (by omega) hr hs h hk
/-- What stands beside the way to a place, and whether there is such a place. -/
def pathQ (ls : List (List UInt8)) (i : Int) : List (List UInt8) := if i < 0 ∨ (ls.length : Int) ≤ i then [] else pathOf pairSum i.toNat (ls.map leafSum)
def pathB (ls : List (List UInt8)) (i : Int) : Bool := if i < 0 ∨ (ls.length : Int) ≤ i then false else true
/-- A path is told, in new blocks. -/
def PathTold (w : World) (ls : List (List UInt8)) (i : Int) (e : Ending) (w' : World) : Prop := ∃ a n c, e = .returned (.tuple #[.slice a n c, .bool (pathB ls i)]) ∧ Sums w' a n c (pathQ ls i) ∧ Below w.heap.size w w'
theorem path_all19 {w : World} {a : Option Addr} {n c : Nat} {ls : List (List UInt8)} (i : Int) (hn : n ≤ 100000) (h : Sums w a n c ls) (hk : KsAt w) : Calls Tryd.prog 18 #[.int .i64 i, .slice a n c] w (PathTold w ls i) := by
  unfold PathTold pathQ pathB
  by_cases h0 : i < 0 ∨ (ls.length : Int) ≤ i
  · rw [if_pos h0, if_pos h0]
    refine (path_out i (by rw [h.len] at h0; exact h0)).mono ?_
    rintro e w' ⟨rfl, hb⟩
    exact ⟨none, 0, 0, rfl, Sums.nil _, hb⟩
  · rw [if_neg h0, if_neg h0]
    rw [h.len] at h0
    obtain ⟨j, rfl⟩ : ∃ j : Nat, i = (j : Int) := ⟨i.toNat, by omega⟩
    refine (path_new j (by omega) hn h hk).mono ?_
    rintro e w' ⟨a', c', rfl, h1, h2, _⟩
    exact ⟨a', _, c', rfl, h1, h2⟩
theorem way_len19 (row : List (List UInt8)) : ∀ (k i : Nat), (way pairSum k i row).length ≤ k := by
  intro k
  induction k generalizing row with
  | zero => intro i; exact Nat.le_refl _
  | succ k ih =>
    intro i
    show (row[beside i]?.toList ++ way pairSum k (i / 2) (up pairSum row)).length ≤ k + 1
    rw [List.length_append]
    have h1 := ih (up pairSum row) (i / 2)
    have h2 : row[beside i]?.toList.length ≤ 1 := by cases row[beside i]? <;> simp
    omega
theorem pathQ_len19 {ls : List (List UInt8)} {i : Int} (hn : ls.length ≤ 4096) : (pathQ ls i).length ≤ 1000000 := by
  unfold pathQ
  by_cases h0 : i < 0 ∨ (ls.length : Int) ≤ i
  · rw [if_pos h0]
    show 0 ≤ 1000000
    omega
  · rw [if_neg h0]
    have hml : (ls.map leafSum).length = ls.length := List.length_map _
    have e12 := way_path pairSum (ls.map leafSum) i.toNat 12 (by rw [hml]; omega) (by rw [hml]; omega)
    rw [← e12]
    have := way_len19 (ls.map leafSum) 12 i.toNat
    omega
/-- The path of a place leads to the root. -/
theorem path_leads19 {ls : List (List UInt8)} {i : Nat} (hi : i < ls.length) (hn : ls.length ≤ 4096) {r : List UInt8} (hr : rootSum ls = r) : checkV r (ls.getD i []) (i : Int) (ls.length : Int) (pathQ ls (i : Int)) = true := by
  have hml : (ls.map leafSum).length = ls.length := List.length_map _
  have e12 := way_path pairSum (ls.map leafSum) i 12 (by rw [hml]; exact hi) (by rw [hml]; omega)
  have ha := ascend_way pairSum 12 (ls.map leafSum) i (by rw [hml]; exact hi) (by rw [hml]; omega)
  have hg : (ls.map leafSum).getD i default = leafSum (ls.getD i []) := by simp [List.getD, hi]
  have hrs : rootSum ls = top pairSum (ls.map leafSum) := by
    unfold rootSum
    rw [if_neg]
    intro h1
    rw [List.isEmpty_iff] at h1
    subst h1
    simp at hi
  rw [hg, hml, e12, ← hrs, hr] at ha
  unfold checkV pathQ
  rw [if_neg (by omega), if_neg (by omega), Int.toNat_natCast, Int.toNat_natCast]
  simpa using ha
set_option linter.unusedSimpArgs false in
set_option maxRecDepth 100000 in
set_option maxHeartbeats 6400000 in
theorem has_any {w : World} {h : PHead} {s : List UInt8} {a : Option Addr} {k c : Nat} {p : List (List UInt8)} (hh : HeadIn h) (hs : s.length = 32) (i : Int) (hp : Sums w a k c p) (hk : KsAt w) :
    Calls Tryd.prog 16 #[.agg h.cells.toArray, .agg (cellsOf s).toArray, .int .i64 i, .slice a k c] w fun e w' => e = .returned (.bool (checkV h.root s i h.many p)) ∧ Below w.heap.size w w' := by
  have b2 : Below w.heap.size w ((w.alloc (.cells h.cells.toArray 25)).alloc (.cells (cellsOf s).toArray 23)) := ((Below.refl _ _).alloc (Nat.le_refl _) _).alloc (by simp) _
  have h1 : ((w.alloc (.cells h.cells.toArray 25)).alloc (.cells (cellsOf s).toArray 23)).heap[w.heap.size]? = some (.cells h.cells.toArray 25 (0, 0)) := by
    rw [heap_alloc_old _ _ (by simp), heap_alloc_new]
  have h2 : ((w.alloc (.cells h.cells.toArray 25)).alloc (.cells (cellsOf s).toArray 23)).heap[w.heap.size + 1]? = some (.cells (cellsOf s).toArray 23 (0, 0)) := heap_alloc_at _ _ _ (by simp)
  have hc := fun (W : World) (hW : Below w.heap.size w W) => check_all19 (r := h.root) (s := s) i h.many hh.root hs (hp.below hW) (hk.below hW)
  have HAT := head_at hh.ahead hh.root (range_of h1)
  have RR := Lib.hid HAT.root
  have cm := HAT.many
  rw [Nat.zero_add] at cm
  have RS := Lib.hid (range_of h2)
  have SR := Lib.hid (sumLen19 hh.root)
  have SS := Lib.hid (sumLen19 hs)
  have HB := Lib.hid b2
  have HC := Lib.hid hc
  clear b2 h1 h2 hc HAT hh hs hp hk
  go_enter Tryd.func16, Tryd.ntmps16
  go_upto_region 1 with (fail)
  revert cm RR RS HB
  generalize ((w.alloc (.cells h.cells.toArray 25)).alloc (.cells (cellsOf s).toArray 23)) = w2
  obtain ⟨g, hg⟩ : ∃ g, g = w.heap.size := ⟨_, rfl⟩
  obtain ⟨g2, hg2⟩ : ∃ g, g = w.heap.size + 1 := ⟨_, rfl⟩
  rw [← hg2, ← hg]
  intro RR cm RS HB
  rw [hg] at HB
  clear hg hg2
  go_wp2_with (first
    | (refine wpList_load_mid rfl 23 _ rfl g (33) rfl (cellsOf h.root) _ RR.out Tryd.underlying23 rfl SR.out ?_)
    | (refine wpList_load_mid rfl 23 _ rfl g2 (0) rfl (cellsOf s) _ RS.out Tryd.underlying23 rfl SS.out ?_)
    | (go_at_call 19; (with_reducible refine (HC.out _ HB.out).mono ?_); rintro e w3 ⟨rfl, hb⟩; have HB3 := Lib.hid (bthen HB.out hb); clear hb) | fail)
  go_ret
  exact ⟨rfl, HB3.out⟩
set_option linter.unusedSimpArgs false in
set_option maxRecDepth 100000 in
set_option maxHeartbeats 6400000 in
theorem bpath_any {w : World} {b : PBlock} (hb : BlockIn w b) (hk : KsAt w) (hs : ∀ x ∈ b.txs, FrontFew false x) (hn : b.n ≤ 1000) (i : Int) :
    Calls Tryd.prog 15 #[.agg b.cells.toArray, .int .i64 i] w (PathTold w (b.txs.map txSum) i) := by
  have b1 : Below w.heap.size w (w.alloc (.cells b.cells.toArray 30)) := (Below.refl _ _).alloc (Nat.le_refl _) _
  have h1 := heap_alloc_new w (.cells b.cells.toArray 30)
  have ctx := block_txs hb.head (range_of h1)
  rw [Nat.zero_add] at ctx
  have HAT := head_at hb.head.ahead hb.head.root (block_head (range_of h1))
  have hsums := fun (W : World) (hW : Below w.heap.size w W) => bsums_some (hb.txs.below hW) (hk.below hW) hs hn
  have hp := fun (W : World) (a : Option Addr) (c : Nat) (hW : Below w.heap.size w W) (hq : Sums W a b.n c (b.txs.map txSum)) => path_all19 i (by omega) hq (hk.below hW)
  have HS := Lib.hid hsums
  have HP := Lib.hid hp
  have HB := Lib.hid b1
  clear hb hk hs hsums hp b1 h1 HAT
  go_enter Tryd.func15, Tryd.ntmps15
  go_upto_region 1 with (fail)
  revert ctx HB
  generalize (w.alloc (.cells b.cells.toArray 30)) = w1
  obtain ⟨g, hg⟩ : ∃ g, g = w.heap.size := ⟨_, rfl⟩
  rw [← hg]
  intro ctx HB
  rw [hg] at HB
  clear hg
  go_wp2_with (first
    | (go_at_call 22; (with_reducible refine (HS.out _ HB.out).mono ?_); rintro e w3 ⟨q3, rfl, hq, hb⟩; have HQ := Lib.hid hq; have HB3 := Lib.hid (bthen HB.out hb); clear hq hb)
    | (go_at_call 18; (with_reducible refine (HP.out _ _ _ HB3.out HQ.out).mono ?_); rintro e w4 ⟨a4, n4, c4, rfl, hq, hb⟩; have HQ4 := Lib.hid hq; have HB4 := Lib.hid (bthen HB3.out hb); clear hq hb) | fail)
  go_ret2
  exact ⟨a4, n4, c4, rfl, HQ4.out, HB4.out⟩
/-- Is a block's head right? -/
def rightV (b : PBlock) : Bool := decide (b.head.many = (b.n : Int)) && (decide (b.head.many ≤ 64) && ((decide (0 ≤ b.head.height) && decide (b.head.height ≤ 1073741824)) && decide (b.head.root = rootSum (b.txs.map txSum))))
set_option linter.unusedSimpArgs false in
set_option maxRecDepth 100000 in
set_option maxHeartbeats 6400000 in
theorem right_any19 {w : World} {b : PBlock} (hb : BlockIn w b) (hk : KsAt w) (hs : ∀ x ∈ b.txs, FrontFew false x) (hn : b.n ≤ 1000) :
    Calls Tryd.prog 14 #[.agg b.cells.toArray] w fun e w' => e = .returned (.bool (rightV b)) ∧ Below w.heap.size w w' := by
  have b1 : Below w.heap.size w (w.alloc (.cells b.cells.toArray 30)) := (Below.refl _ _).alloc (Nat.le_refl _) _
  have h1 := heap_alloc_new w (.cells b.cells.toArray 30)
  have ctx := block_txs hb.head (range_of h1)
  rw [Nat.zero_add] at ctx
  have HAT := head_at hb.head.ahead hb.head.root (block_head (range_of h1))
  have cm := HAT.many
  have cy := HAT.height
  rw [Nat.zero_add] at cm cy
  have HCA : Hid (∀ W : World, Below ((w.alloc (.cells b.cells.toArray 30))).heap.size ((w.alloc (.cells b.cells.toArray 30))) W → HeadAt W w.heap.size 0 b.head ∧ W.cell? ⟨w.heap.size, 66, none⟩ = some (.slice b.a b.n b.c)) := Lib.hid (fun W hW => by
    have r9 := range_of (keep hW h1)
    have c9 := block_txs hb.head r9
    rw [Nat.zero_add] at c9
    exact ⟨head_at hb.head.ahead hb.head.root (block_head r9), c9⟩)
  have hsums := fun (W : World) (hW : Below w.heap.size w W) => bsums_some (hb.txs.below hW) (hk.below hW) hs hn
  obtain ⟨R, hR, hRL⟩ : ∃ R, rootSum (b.txs.map txSum) = R ∧ R.length = 32 := ⟨_, rfl, rootSum_len _⟩
  have hp := fun (W : World) (a : Option Addr) (c : Nat) (hW : Below w.heap.size w W) (hq : Sums W a b.n c (b.txs.map txSum)) => root_any hq (hk.below hW) (by omega)
  rw [hR] at hp
  have HS := Lib.hid hsums
  have HP := Lib.hid hp
  have HB := Lib.hid b1
  have SR := Lib.hid (sumLen19 hb.head.root)
  have HRR := Lib.hid hb.head.root
  have HRL := Lib.hid hRL
  have hV : rightV b = (decide (b.head.many = (b.n : Int)) && (decide (b.head.many ≤ 64) && ((decide (0 ≤ b.head.height) && decide (b.head.height ≤ 1073741824)) && decide (b.head.root = R)))) := by rw [← hR]; rfl
  rw [hV]
  have hn63 := hb.txs.len63
  clear hk hs hsums hp b1 h1 HAT hR hRL hV hb
  obtain ⟨m, hm⟩ : ∃ m, b.head.many = m := ⟨_, rfl⟩
  obtain ⟨y, hy⟩ : ∃ y, b.head.height = y := ⟨_, rfl⟩
  rw [hm, hy]
  rw [hm] at cm
  rw [hy] at cy
  obtain ⟨V, hVV⟩ : ∃ V, (decide (m = (b.n : Int)) && (decide (m ≤ 64) && ((decide (0 ≤ y) && decide (y ≤ 1073741824)) && decide (b.head.root = R)))) = V := ⟨_, rfl⟩
  rw [hVV]
  have HV := Lib.hid hVV
  clear hm hy hVV
  go_enter Tryd.func14, Tryd.ntmps14
  go_upto_region 1 with (fail)
  revert ctx cm cy HB HCA
  generalize (w.alloc (.cells b.cells.toArray 30)) = w1
  obtain ⟨g, hg⟩ : ∃ g, g = w.heap.size := ⟨_, rfl⟩
  rw [← hg]
  intro ctx HCA HB cm cy
  rw [hg] at HB
  clear hg
  have HIN := Lib.hid fun (W : World) (h : ¬ (0 ≤ y ∧ y ≤ 1073741824)) => isHeight_no h W
  by_cases h1 : m = (b.n : Int)
  · subst h1
    by_cases h2 : (b.n : Int) ≤ 64
    · by_cases h3 : 0 ≤ y ∧ y ≤ 1073741824
      · have E9 : Hid (V = decide (b.head.root = R)) := Lib.hid (by rw [← HV.out]; simp [h2, h3.1, h3.2])
        have HIY := Lib.hid fun (W : World) => isHeight_yes h3.1 h3.2 W
        clear h3
        go_upto_region 3 with (first | (go_at_call 21; (with_reducible refine (HIY.out _).mono ?_); rintro e w3 ⟨rfl, rfl⟩) | fail)
        clear cm cy ctx HIN HIY
        refine wp_region_held_drew (S := fun w' => Below w1.heap.size w1 w') (by kernel_rfl) (below_drew (Below.refl _ _)) (fun hHeld => ?_)
        refine tkP 0 rfl rfl ?_
        refine tkP 1 rfl rfl ?_
        refine tkA 2 rfl rfl (yieldsIf_load_mid (by rfl) _ _ rfl g 33 rfl (cellsOf b.head.root) _ (fun w0 hSw => (HCA.out _ hSw).1.root) Tryd.underlying23 rfl SR.out) ?_
        refine tkP 3 rfl rfl ?_
        refine tkA 4 rfl rfl (yields_cell (by rfl) rfl rfl (b := g) (o := 66) (fun w0 hSw => (HCA.out _ hSw).2) Tryd.isAgg26) ?_
        refine tkR 5 rfl (fun K hK => ?_)
        have HC5 := Lib.hid (HS.out _ (bthen HB.out hHeld))
        go_simp
        go_wp2_with ((go_at_call 22; (with_reducible refine (HC5.out).mono ?_); rintro e v1 ⟨q3, rfl, hq, hb⟩; have HQ := Lib.hid hq; have HX1 := Lib.hid hb; clear hq hb))
        refine hK.out _ _ (by (try dsimp only); exact bthen hHeld HX1.out) (fun hHeld => ?_)
        clear hK K
        refine tkR 6 rfl (fun K hK => ?_)
        have HC6 := Lib.hid (HP.out _ _ _ (bthen HB.out hHeld) HQ.out)
        go_simp
        go_wp2_with ((go_at_call 13; (with_reducible refine (HC6.out).mono ?_); rintro e v2 ⟨rfl, hb⟩; have HX2 := Lib.hid hb; clear hb))
        refine hK.out _ _ (by (try dsimp only); exact bthen hHeld HX2.out) (fun hHeld => ?_)
        clear hK K
        refine tkA 7 rfl rfl (yields_eql (by rfl) rfl rfl rfl HRR.out HRL.out _ rfl) ?_
        refine tkP 8 rfl rfl ?_
        refine wpAnyH_done (by kernel_rfl) ?_ _
        have HE := Lib.hid (bthen HB.out hHeld)
        clear hHeld
        go_wp2_with fail
        go_ret
        exact ⟨by rw [E9.out] <;> rfl, HE.out⟩
      · have E9 : Hid (V = false) := Lib.hid (by rw [← HV.out]; simp [h2]; omega)
        go_wp2_with (first | (go_at_call 21; (with_reducible refine (HIN.out _ h3).mono ?_); rintro e w3 ⟨rfl, rfl⟩) | fail)
        go_ret
        exact ⟨by rw [E9.out] <;> rfl, HB.out⟩
    · have E9 : Hid (V = false) := Lib.hid (by rw [← HV.out]; simp [h2])
      go_wp2_with (first | fail | fail)
      go_ret
      exact ⟨by rw [E9.out] <;> rfl, HB.out⟩
  · have E9 : Hid (V = false) := Lib.hid (by rw [← HV.out]; simp [h1])
    go_wp2_with (first | fail | fail)
    go_ret
    exact ⟨by rw [E9.out] <;> rfl, HB.out⟩
end Go.Proofs.YtlnenkmcegadmaaDoor
namespace Go.Proofs.YtlnenkmcegadmaaDoor
open Go.RowKit

theorem noBlock_one : ∀ v ∈ noBlock.cells, v.oneCell' = true := PBlock.one _
theorem Tryd.sizeNo19 : (Tryd.prog.info? 30).map (·.size) = some noBlock.cells.length := by kernel_rfl
theorem bcopied_some {w : World} {a : Option Addr} {n c : Nat} {xs : List PTx} (h : SliceOf txK w a n c xs) (hk : KsAt w) (hs : ∀ x ∈ xs, Small19 x ∧ x.sn ≤ 20) (hn : n ≤ 1000) :
    Calls Tryd.prog 23 #[.slice a n c] w fun e w' => ∃ q ys, e = .returned (.slice (some ⟨q, 0, none⟩) n n) ∧ w.heap.size ≤ q ∧ SliceOf txK w' (some ⟨q, 0, none⟩) n n ys ∧ ys.map PTx.strip = xs.map PTx.strip ∧ (∀ y ∈ ys, AllT (w.heap.size ≤ ·) y) ∧ Below w.heap.size w w' :=
  (bcopied_any h hk hs hn).mono fun _ _ ⟨ys, k1, k2, k3, k4, k5⟩ => ⟨_, ys, k1, Nat.le_refl _, k2, k3, k4, k5⟩
theorem headSize19 {h : PHead} (hh : HeadIn h) : (Tryd.prog.info? 25).map (·.size) = some h.cells.length := head_size hh.ahead hh.root
set_option linter.unusedSimpArgs false in
set_option maxRecDepth 100000 in
set_option maxHeartbeats 6400000 in
theorem make_range {w : World} {h : PHead} {a : Option Addr} {n c : Nat} (hh : HeadIn h) (hy : ¬ (0 ≤ h.height ∧ h.height ≤ 1073741823)) :
    Calls Tryd.prog 9 #[.agg h.cells.toArray, .slice a n c] w fun e w' => e = .returned (.tuple #[.agg noBlock.cells.toArray, .int .i64 5]) ∧ Below w.heap.size w w' := by
  have b0 : Below w.heap.size w (w.alloc (.cells h.cells.toArray 25)) := (Below.refl _ _).alloc (Nat.le_refl _) _
  have h0 := heap_alloc_new w (.cells h.cells.toArray 25)
  have HH := Lib.hid hh
  obtain ⟨y, hyy⟩ : ∃ y, h.height = y := ⟨_, rfl⟩
  rw [hyy] at hy
  have HY := Lib.hid hyy
  clear hh hyy
  go_enter Tryd.func9, Tryd.ntmps9
  go_upto_region 1 with (first | (refine wpList_new rfl 30 rfl noBlock.cells.toArray Tryd.zeroBlock19 ?_; intro r w2 hr hh2 hb2; go_frame) | fail)
  have HR := Lib.hid hh2
  have HR0 : Hid (w.heap.size ≤ r) := Lib.hid (Nat.le_trans b0.size hr)
  have HB2 := Lib.hid (bthen b0 hb2)
  have h02 := keep hb2 h0
  obtain ⟨g, hg⟩ : ∃ g, g = w.heap.size := ⟨_, rfl⟩
  rw [← hg] at h02 ⊢
  have HRW : Hid (∀ W : World, W.heap[g]? = w2.heap[g]? → HeadAt W g 0 h) := Lib.hid fun W hW => head_at HH.out.ahead HH.out.root (range_of (hW.trans h02))
  have HGR : Hid (g ≠ r) := Lib.hid (by have h9 := lt_of_block h0; omega)
  have cy := (HRW.out w2 rfl).height
  rw [Nat.zero_add] at cy
  clear b0 h0 hr hh2 hb2 hg
  rw [HY.out] at cy
  by_cases h1 : 0 ≤ y ∧ y ≤ 1073741824
  · obtain rfl : y = 1073741824 := by omega
    have HI := Lib.hid fun (W : World) => isHeight_yes (z := 1073741824) (by omega) (by omega) W
    go_wp2_with (first
    | (go_at_call 21; (with_reducible refine (HI.out _).mono ?_); rintro e w3 ⟨rfl, rfl⟩)
    | (refine wpList_build10 rfl rfl (vs := []) rfl build_noBlock19 ?_; go_frame)
    | (refine wpList_row10 rfl 30 _ _ rfl r noBlock.cells rfl rfl 30 noBlock.cells HR.out Tryd.sizeNo19 rfl noBlock_one ?_; intro w9 hh9 hb9) | fail)
    refine bodyPost_ret (results_cell_then rfl _ _ r 30 noBlock.cells.toArray (0, 0) _ (.int .i64 5) rfl rfl hh9 Tryd.underlying30 rfl (by rw [List.size_toArray]; exact Tryd.sizeNo19)) rfl ?_
    exact ⟨rfl, But.in HB2.out hb9 HR0.out⟩
  · have HI := Lib.hid fun (W : World) => isHeight_no h1 W
    go_wp2_with (first
    | (go_at_call 21; (with_reducible refine (HI.out _).mono ?_); rintro e w3 ⟨rfl, rfl⟩)
    | (refine wpList_build10 rfl rfl (vs := []) rfl build_noBlock19 ?_; go_frame)
    | (refine wpList_row10 rfl 30 _ _ rfl r noBlock.cells rfl rfl 30 noBlock.cells HR.out Tryd.sizeNo19 rfl noBlock_one ?_; intro w9 hh9 hb9) | fail)
    refine bodyPost_ret (results_cell_then rfl _ _ r 30 noBlock.cells.toArray (0, 0) _ (.int .i64 5) rfl rfl hh9 Tryd.underlying30 rfl (by rw [List.size_toArray]; exact Tryd.sizeNo19)) rfl ?_
    exact ⟨rfl, But.in HB2.out hb9 HR0.out⟩
set_option linter.unusedSimpArgs false in
set_option maxRecDepth 100000 in
set_option maxHeartbeats 6400000 in
theorem make_full {w : World} {h : PHead} {a : Option Addr} {n c : Nat} (hh : HeadIn h) (h0 : 0 ≤ h.height) (h1 : h.height ≤ 1073741823) (hn : 64 < n) :
    Calls Tryd.prog 9 #[.agg h.cells.toArray, .slice a n c] w fun e w' => e = .returned (.tuple #[.agg noBlock.cells.toArray, .int .i64 6]) ∧ Below w.heap.size w w' := by
  have b0 : Below w.heap.size w (w.alloc (.cells h.cells.toArray 25)) := (Below.refl _ _).alloc (Nat.le_refl _) _
  have h9 := heap_alloc_new w (.cells h.cells.toArray 25)
  have HH := Lib.hid hh
  obtain ⟨y, hyy⟩ : ∃ y, h.height = y := ⟨_, rfl⟩
  rw [hyy] at h0 h1
  have HY := Lib.hid hyy
  have f1 : (64 : Int) < (n : Int) := by omega
  have f2 : ¬ y = 1073741824 := by omega
  have HI := Lib.hid fun (W : World) => isHeight_yes (z := y) (by omega) (by omega) W
  clear hh hyy
  go_enter Tryd.func9, Tryd.ntmps9
  go_upto_region 1 with (first | (refine wpList_new rfl 30 rfl noBlock.cells.toArray Tryd.zeroBlock19 ?_; intro r w2 hr hh2 hb2; go_frame) | fail)
  have HR := Lib.hid hh2
  have HR0 : Hid (w.heap.size ≤ r) := Lib.hid (Nat.le_trans b0.size hr)
  have HB2 := Lib.hid (bthen b0 hb2)
  have h02 := keep hb2 h9
  obtain ⟨g, hg⟩ : ∃ g, g = w.heap.size := ⟨_, rfl⟩
  rw [← hg] at h02 ⊢
  have HRW : Hid (∀ W : World, W.heap[g]? = w2.heap[g]? → HeadAt W g 0 h) := Lib.hid fun W hW => head_at HH.out.ahead HH.out.root (range_of (hW.trans h02))
  have HGR : Hid (g ≠ r) := Lib.hid (by have h8 := lt_of_block h9; omega)
  have cy := (HRW.out w2 rfl).height
  rw [Nat.zero_add] at cy
  clear b0 h9 hr hh2 hb2 hg
  rw [HY.out] at cy
  go_wp2_with (first
    | (go_at_call 21; (with_reducible refine (HI.out _).mono ?_); rintro e w3 ⟨rfl, rfl⟩)
    | (refine wpList_build10 rfl rfl (vs := []) rfl build_noBlock19 ?_; go_frame)
    | (refine wpList_row10 rfl 30 _ _ rfl r noBlock.cells rfl rfl 30 noBlock.cells HR.out Tryd.sizeNo19 rfl noBlock_one ?_; intro w9 hh9 hb9) | fail)
  refine bodyPost_ret (results_cell_then rfl _ _ r 30 noBlock.cells.toArray (0, 0) _ (.int .i64 6) rfl rfl hh9 Tryd.underlying30 rfl (by rw [List.size_toArray]; exact Tryd.sizeNo19)) rfl ?_
  exact ⟨rfl, But.in HB2.out hb9 HR0.out⟩
set_option linter.unusedSimpArgs false in
set_option maxRecDepth 100000 in
set_option maxHeartbeats 6400000 in
theorem make_ok {w : World} {h : PHead} {a : Option Addr} {n c : Nat} {xs : List PTx} (hh : HeadIn h) (h0 : 0 ≤ h.height) (h1 : h.height ≤ 1073741823) (hx : SliceOf txK w a n c xs) (hk : KsAt w) (hs : ∀ x ∈ xs, Small19 x ∧ x.sn ≤ 20) (hn : n ≤ 64) :
    Calls Tryd.prog 9 #[.agg h.cells.toArray, .slice a n c] w fun e w' => ∃ (q : Nat) (ys : List PTx), e = .returned (.tuple #[.agg (PBlock.cells ⟨⟨headSum h, h.height + 1, rootSum (xs.map txSum), (n : Int)⟩, some ⟨q, 0, none⟩, n, n, ys⟩).toArray, .int .i64 0]) ∧ w.heap.size ≤ q ∧ SliceOf txK w' (some ⟨q, 0, none⟩) n n ys ∧ ys.map PTx.strip = xs.map PTx.strip ∧ (∀ y ∈ ys, AllT (w.heap.size ≤ ·) y) ∧ Below w.heap.size w w' := by
  have b0 : Below w.heap.size w (w.alloc (.cells h.cells.toArray 25)) := (Below.refl _ _).alloc (Nat.le_refl _) _
  have h9 := heap_alloc_new w (.cells h.cells.toArray 25)
  have HH := Lib.hid hh
  obtain ⟨y, hyy⟩ : ∃ y, h.height = y := ⟨_, rfl⟩
  obtain ⟨SA, hSA, hSAL⟩ : ∃ SA, headSum h = SA ∧ SA.length = 32 := ⟨_, rfl, headSum_len _⟩
  obtain ⟨R, hR, hRL⟩ : ∃ R, rootSum (xs.map txSum) = R ∧ R.length = 32 := ⟨_, rfl, rootSum_len _⟩
  have hcs := fun (W : World) (hW : Below w.heap.size w W) => headSum_any hh (hk.below hW)
  have hbs := fun (W : World) (hW : Below w.heap.size w W) => bsums_some (hx.below hW) (hk.below hW) (fun x hx2 => by
    obtain ⟨j, hj, rfl⟩ := List.getElem_of_mem hx2
    have ht : TxIn w xs[j] := hx.2.2.2.2.1 _ hx2
    exact small_front19 false ht (hs _ hx2).1) (by omega)
  have hrt := fun (W : World) (a : Option Addr) (c : Nat) (hW : Below w.heap.size w W) (hq : Sums W a n c (xs.map txSum)) => root_any hq (hk.below hW) (by omega)
  have hcp := fun (W : World) (hW : Below w.heap.size w W) => bcopied_some (hx.below hW) (hk.below hW) hs (by omega)
  rw [hyy] at h0 h1 ⊢
  rw [hSA] at hcs ⊢
  rw [hR] at hrt ⊢
  have HY := Lib.hid hyy
  have HSA := Lib.hid hSAL
  have HRL := Lib.hid hRL
  have HCS := Lib.hid hcs
  have HBS := Lib.hid hbs
  have HRT := Lib.hid hrt
  have HCP := Lib.hid hcp
  have SH := Lib.hid (headSize19 hh)
  have f1 : ¬ (64 : Int) < (n : Int) := by omega
  have f2 : ¬ y = 1073741824 := by omega
  have HI := Lib.hid fun (W : World) => isHeight_yes (z := y) (by omega) (by omega) W
  have hn63 := hx.len63
  have hw1 := IntWalk.i64_in (n := y + 1) (by omega)
  obtain ⟨Y1, hY1⟩ : ∃ Y1, y + 1 = Y1 := ⟨_, rfl⟩
  rw [hY1] at hw1 ⊢
  have HFY : Hid (Fits Y1) := Lib.hid (by constructor <;> omega)
  have HFN : Hid (Fits (n : Int)) := Lib.hid (by constructor <;> omega)
  obtain ⟨Z, hZ⟩ : ∃ Z, Z = (⟨SA, Y1, R, (n : Int)⟩ : PHead) := ⟨_, rfl⟩
  have HZI : Hid (HeadIn Z) := Lib.hid (by rw [hZ]; exact ⟨hSAL, HFY.out, hRL, HFN.out⟩)
  have HSZ : Hid ((Tryd.prog.info? 25).map (·.size) = some Z.cells.toArray.size) := Lib.hid (by rw [List.size_toArray]; exact headSize19 HZI.out)
  have HSZZ : Hid (noHead.cells.toArray.size = Z.cells.toArray.size) := Lib.hid (by rw [List.size_toArray, List.size_toArray, PHead.len HZI.out.ahead HZI.out.root]; rfl)
  have HZ := Lib.hid hZ
  have HBH : Hid (∀ w : World, (Instr.build 25 ([(0, (.agg (cellsOf SA).toArray : Value)), (1, .int .i64 Y1), (2, .agg (cellsOf R).toArray), (3, .int .i64 (n : Int))] : List (Nat × Value)).toArray).run Tryd.prog w = .ok (.agg Z.cells.toArray) w) := Lib.hid (fun w => by rw [hZ]; exact build_head19 Y1 (n : Int) hSAL hRL w)
  clear hh hyy hSA hSAL hR hRL hcs hbs hrt hcp hx hk hs hZ
  go_enter Tryd.func9, Tryd.ntmps9
  go_upto_region 1 with (first | (refine wpList_new rfl 30 rfl noBlock.cells.toArray Tryd.zeroBlock19 ?_; intro r w2 hr hh2 hb2; go_frame) | fail)
  have HR := Lib.hid hh2
  have HR0 : Hid (w.heap.size ≤ r) := Lib.hid (Nat.le_trans b0.size hr)
  have HB2 := Lib.hid (bthen b0 hb2)
  have h02 := keep hb2 h9
  obtain ⟨g, hg⟩ : ∃ g, g = w.heap.size := ⟨_, rfl⟩
  rw [← hg] at h02 ⊢
  have HRW : Hid (∀ W : World, W.heap[g]? = w2.heap[g]? → HeadAt W g 0 h) := Lib.hid fun W hW => head_at HH.out.ahead HH.out.root (range_of (hW.trans h02))
  have HGR : Hid (g ≠ r) := Lib.hid (by have h8 := lt_of_block h9; omega)
  have cy := (HRW.out w2 rfl).height
  rw [Nat.zero_add] at cy
  clear b0 h9 hr hh2 hb2 hg
  rw [HY.out] at cy
  have HCY : Hid (∀ W : World, Below w2.heap.size w2 W → W.cell? ⟨g, 32, none⟩ = some (.int .i64 y)) := Lib.hid fun W hW => by
    have k9 := (HRW.out W (hW.block _ (lt_of_block h02))).height
    rw [Nat.zero_add, HY.out] at k9
    exact k9
  have HRNG : Hid (∀ W : World, Below w2.heap.size w2 W → W.rangeAt g 0 h.cells) := Lib.hid fun W hW => range_of (keep hW h02)
  go_upto_region 5 with (first | (go_at_call 21; (with_reducible refine (HI.out _).mono ?_); rintro e w3 ⟨rfl, rfl⟩) | fail)
  clear cy
  go_cut [6] from 14 to 31 (fun u w' => ∃ p6 : Nat, u = .pointer (some ⟨p6, 0, none⟩) ∧ w'.heap[p6]? = some (.cells Z.cells.toArray 25 (0, 0)) ∧ w2.heap.size ≤ p6 ∧ Below w2.heap.size w2 w')
  case first =>
    refine wp_region_held_drew (S := fun w' => Below w2.heap.size w2 w') (by kernel_rfl) (below_drew (Below.refl _ _)) (fun hHeld => ?_)
    refine tkA 0 rfl rfl (yieldsIf_load_mid (by rfl) _ _ rfl g 0 rfl h.cells _ (fun w0 hSw => HRNG.out _ hSw) Tryd.underlying25 rfl SH.out) ?_
    refine tkP 2 rfl rfl ?_
    refine tkA 3 rfl rfl (yields_cell (by rfl) rfl rfl (b := g) (o := 32) (fun w0 hSw => HCY.out _ hSw) Tryd.isAgg3) ?_
    refine tkP 4 rfl rfl ?_
    refine tkP 5 rfl rfl ?_
    refine tkP 8 rfl rfl ?_
    refine tkP 9 rfl rfl ?_
    refine wpAnyH_ready (rs := [1, 11]) (by kernel_rfl) (by simp) (AllReadyH.cons rfl (fun K hK => ?_) (AllReadyH.cons rfl (fun K hK => ?_) AllReadyH.nil))
    all_goals (first | (refine step_alloc_of (d := 6) rfl (by rfl) 25 rfl noHead.cells.toArray Tryd.zeroHead19 ?_; intro p6 y1 hp hh hb; have HP6 := Lib.hid hh; have HN6 : Hid (w2.heap.size ≤ p6) := Lib.hid (Nat.le_trans (Below.size hHeld) hp); (try (have HQ := Lib.hid (HQ.out.below hb))); have HX := Lib.hid (bthen hHeld hb); clear hb hh hp; refine hK.out _ _ (by (try dsimp only); exact HX.out) (fun hHeld => ?_); clear hK K) | (have HCx := Lib.hid (HCS.out _ (bthen HB2.out hHeld)); go_simp; go_wp2_with ((go_at_call 10; (with_reducible refine (HCx.out).mono ?_); rintro e y1 ⟨rfl, hb⟩; (try (have HP6 := Lib.hid (keep hb HP6.out))); skip; have HX := Lib.hid (bthen hHeld hb); clear hb HCx)); refine hK.out _ _ (by (try dsimp only); exact HX.out) (fun hHeld => ?_); clear hK K))
    all_goals (first | (refine wpAnyH_ready (rs := [6, 11]) (by decide +kernel) (by simp) (AllReadyH.cons rfl (fun K hK => ?_) (AllReadyH.cons rfl (fun K hK => ?_) AllReadyH.nil))) | (refine wpAnyH_ready (rs := [1]) (by decide +kernel) (by simp) (AllReadyH.cons rfl (fun K hK => ?_) AllReadyH.nil)))
    all_goals (first | (refine step_alloc_of (d := 6) rfl (by rfl) 25 rfl noHead.cells.toArray Tryd.zeroHead19 ?_; intro p6 y1 hp hh hb; have HP6 := Lib.hid hh; have HN6 : Hid (w2.heap.size ≤ p6) := Lib.hid (Nat.le_trans (Below.size hHeld) hp); (try (have HQ := Lib.hid (HQ.out.below hb))); have HX := Lib.hid (bthen hHeld hb); clear hb hh hp; refine hK.out _ _ (by (try dsimp only); exact HX.out) (fun hHeld => ?_); clear hK K) | (have HCx := Lib.hid (HCS.out _ (bthen HB2.out hHeld)); go_simp; go_wp2_with ((go_at_call 10; (with_reducible refine (HCx.out).mono ?_); rintro e y1 ⟨rfl, hb⟩; (try (have HP6 := Lib.hid (keep hb HP6.out))); skip; have HX := Lib.hid (bthen hHeld hb); clear hb HCx)); refine hK.out _ _ (by (try dsimp only); exact HX.out) (fun hHeld => ?_); clear hK K) | (have HCx := Lib.hid (HBS.out _ (bthen HB2.out hHeld)); go_simp; go_wp2_with ((go_at_call 22; (with_reducible refine (HCx.out).mono ?_); rintro e y1 ⟨q3, rfl, hq, hb⟩; (try (have HP6 := Lib.hid (keep hb HP6.out))); have HQ := Lib.hid hq; clear hq; have HX := Lib.hid (bthen hHeld hb); clear hb HCx)); refine hK.out _ _ (by (try dsimp only); exact HX.out) (fun hHeld => ?_); clear hK K))
    all_goals (first | (refine wpAnyH_ready (rs := [7, 11]) (by decide +kernel) (by simp) (AllReadyH.cons rfl (fun K hK => ?_) (AllReadyH.cons rfl (fun K hK => ?_) AllReadyH.nil))) | (refine wpAnyH_ready (rs := [6]) (by decide +kernel) (by simp) (AllReadyH.cons rfl (fun K hK => ?_) AllReadyH.nil)))
    all_goals (first | (refine step_alloc_of (d := 6) rfl (by rfl) 25 rfl noHead.cells.toArray Tryd.zeroHead19 ?_; intro p6 y1 hp hh hb; have HP6 := Lib.hid hh; have HN6 : Hid (w2.heap.size ≤ p6) := Lib.hid (Nat.le_trans (Below.size hHeld) hp); (try (have HQ := Lib.hid (HQ.out.below hb))); have HX := Lib.hid (bthen hHeld hb); clear hb hh hp; refine hK.out _ _ (by (try dsimp only); exact HX.out) (fun hHeld => ?_); clear hK K) | (have HCx := Lib.hid (HBS.out _ (bthen HB2.out hHeld)); go_simp; go_wp2_with ((go_at_call 22; (with_reducible refine (HCx.out).mono ?_); rintro e y1 ⟨q3, rfl, hq, hb⟩; (try (have HP6 := Lib.hid (keep hb HP6.out))); have HQ := Lib.hid hq; clear hq; have HX := Lib.hid (bthen hHeld hb); clear hb HCx)); refine hK.out _ _ (by (try dsimp only); exact HX.out) (fun hHeld => ?_); clear hK K) | (have HCx := Lib.hid (HRT.out _ _ _ (bthen HB2.out hHeld) HQ.out); go_simp; go_wp2_with ((go_at_call 13; (with_reducible refine (HCx.out).mono ?_); rintro e y1 ⟨rfl, hb⟩; (try (have HP6 := Lib.hid (keep hb HP6.out))); skip; have HX := Lib.hid (bthen hHeld hb); clear hb HCx)); refine hK.out _ _ (by (try dsimp only); exact HX.out) (fun hHeld => ?_); clear hK K))
    all_goals (try (refine tkA (hr := by decide +kernel) 10 rfl rfl (yields_build10 (by rfl) rfl (vs := [(0, .agg (cellsOf SA).toArray), (1, .int .i64 Y1), (2, .agg (cellsOf R).toArray), (3, .int .i64 (n : Int))]) (by rfl) HBH.out) ?_))
    all_goals (first | (refine wpAnyH_ready (rs := [7]) (by decide +kernel) (by simp) (AllReadyH.cons rfl (fun K hK => ?_) AllReadyH.nil)) | (refine wpAnyH_ready (rs := [11]) (by decide +kernel) (by simp) (AllReadyH.cons rfl (fun K hK => ?_) AllReadyH.nil)))
    all_goals (first | (refine step_alloc_of (d := 6) rfl (by rfl) 25 rfl noHead.cells.toArray Tryd.zeroHead19 ?_; intro p6 y1 hp hh hb; have HP6 := Lib.hid hh; have HN6 : Hid (w2.heap.size ≤ p6) := Lib.hid (Nat.le_trans (Below.size hHeld) hp); (try (have HQ := Lib.hid (HQ.out.below hb))); have HX := Lib.hid (bthen hHeld hb); clear hb hh hp; refine hK.out _ _ (by (try dsimp only); exact HX.out) (fun hHeld => ?_); clear hK K) | (have HCx := Lib.hid (HRT.out _ _ _ (bthen HB2.out hHeld) HQ.out); go_simp; go_wp2_with ((go_at_call 13; (with_reducible refine (HCx.out).mono ?_); rintro e y1 ⟨rfl, hb⟩; (try (have HP6 := Lib.hid (keep hb HP6.out))); skip; have HX := Lib.hid (bthen hHeld hb); clear hb HCx)); refine hK.out _ _ (by (try dsimp only); exact HX.out) (fun hHeld => ?_); clear hK K))
    all_goals (try (refine tkA (hr := by decide +kernel) 10 rfl rfl (yields_build10 (by rfl) rfl (vs := [(0, .agg (cellsOf SA).toArray), (1, .int .i64 Y1), (2, .agg (cellsOf R).toArray), (3, .int .i64 (n : Int))]) (by rfl) HBH.out) ?_))
    all_goals (refine tkR 12 rfl (fun K hK => ?_))
    all_goals (refine step_store_row (by rfl) 25 _ _ rfl p6 Z.cells.toArray (by rfl) (by rfl) 25 noHead.cells.toArray HP6.out HSZ.out HSZZ.out (all_oneCell_toArray (PHead.one _)) ?_; have hs := but_setRow y1 p6 Z.cells.toArray; have HP6 := Lib.hid (show (y1.setRow p6 Z.cells.toArray).heap[p6]? = some (.cells Z.cells.toArray 25 (0, 0)) from setRow_heap y1 p6 _ _ 25 _ HP6.out); have HX := Lib.hid (hHeld.trans ((hs.mono (Below.size hHeld)).below HN6.out)); clear hs; revert HP6 HX; generalize World.setRow y1 _ _ = z6; intro HP6 HX; refine hK.out _ _ (by (try dsimp only); exact HX.out) (fun hHeld => ?_); clear hK K)
    all_goals (refine wpAnyH_done (by kernel_rfl) ?_ _)
    all_goals (have HE5 := Lib.hid (show Below w2.heap.size w2 z6 from hHeld); clear hHeld; (try simp only [Act.put, List.setIfInBounds_toArray, List.set_cons_zero, List.set_cons_succ]); go_wp2_with fail; go_meet; exact ⟨p6, rfl, HP6.out, HN6.out, HE5.out⟩)
  case rest =>
    obtain ⟨p6, rfl, hp6, hn6, hb6⟩ := hcut
    have HP6 := Lib.hid hp6
    have HR6 := Lib.hid (keep hb6 HR.out)
    have HNE6 : Hid (p6 ≠ r) := Lib.hid (by have h9 := lt_of_block HR.out; omega)
    have HBC := Lib.hid (bthen HB2.out hb6)
    clear hp6 hn6 hb6 HCY HRNG HCS HBS HRT HRW h02
    go_upto_region 6 with (fail)
    refine wp_region_held_drew (S := fun w' => w'.heap[p6]? = some (.cells Z.cells.toArray 25 (0, 0))) (by kernel_rfl) (keep (below_drew (Below.refl _ _)) HP6.out) (fun hHeld => ?_)
    have HP6 := Lib.hid (keep (below_drew (Below.refl wc.heap.size wc)) HP6.out)
    have HR6 := Lib.hid (keep (below_drew (Below.refl wc.heap.size wc)) HR6.out)
    have HBC := Lib.hid (bthen HBC.out (below_drew (Below.refl wc.heap.size wc)))
    refine tkA 0 rfl rfl (yieldsIf_load_mid (by rfl) _ _ rfl p6 0 rfl Z.cells _ (fun w0 hSw => range_of hSw) Tryd.underlying25 rfl (by rw [← List.size_toArray]; exact HSZ.out)) ?_
    refine tkP 1 rfl rfl ?_
    refine tkR 2 rfl (fun K hK => ?_)
    have HCx := Lib.hid (HCP.out _ HBC.out)
    go_simp
    go_wp2_with ((go_at_call 23; (with_reducible refine (HCx.out).mono ?_); rintro e y1 ⟨q9, ys, rfl, hq9, hys, hst, hal, hb⟩; have HQ9 : Hid (q9 ≠ r) := Lib.hid (by have h9 := lt_of_block HR6.out; omega); have HQL : Hid (w.heap.size ≤ q9) := Lib.hid (Nat.le_trans HBC.out.size hq9); have HAL : Hid (∀ y ∈ ys, AllT (fun b => b ≠ r ∧ w.heap.size ≤ b) y) := Lib.hid (fun y hy => (hal y hy).mono fun b hb2 => ⟨(by have h9 := lt_of_block HR6.out; omega), Nat.le_trans HBC.out.size hb2⟩); have HYS := Lib.hid hys; have HST := Lib.hid hst; have HP6 := Lib.hid (keep hb HP6.out); have HR6 := Lib.hid (keep hb HR6.out); have HBY := Lib.hid (bthen HBC.out hb); clear hys hst hal hq9 hb HCx))
    refine hK.out _ _ (by (try dsimp only); exact HP6.out) (fun hHeld => ?_)
    clear hK K
    refine tkA 3 rfl rfl (yields_build10 (by rfl) rfl (vs := [(0, .agg Z.cells.toArray), (1, .slice (some ⟨q9, 0, none⟩) n n)]) (by rfl) (build_block19 HZI.out (some ⟨q9, 0, none⟩) n n ys)) ?_
    refine tkR 4 rfl (fun K hK => ?_)
    have SB : Hid ((Tryd.prog.info? 30).map (·.size) = some (PBlock.cells ⟨Z, some ⟨q9, 0, none⟩, n, n, ys⟩).toArray.size) := Lib.hid (by rw [List.size_toArray]; exact block_size HZI.out)
    have SBZ : Hid (noBlock.cells.toArray.size = (PBlock.cells ⟨Z, some ⟨q9, 0, none⟩, n, n, ys⟩).toArray.size) := Lib.hid (by rw [List.size_toArray, List.size_toArray, show (PBlock.cells ⟨Z, some ⟨q9, 0, none⟩, n, n, ys⟩).length = 67 from PBlock.len HZI.out]; rfl)
    refine step_store_row (by rfl) 30 _ _ rfl r (PBlock.cells ⟨Z, some ⟨q9, 0, none⟩, n, n, ys⟩).toArray (by rfl) (by rfl) 30 noBlock.cells.toArray HR6.out SB.out SBZ.out (all_oneCell_toArray (PBlock.one _)) ?_
    have hs := but_setRow y1 r (PBlock.cells ⟨Z, some ⟨q9, 0, none⟩, n, n, ys⟩).toArray
    have HP6b := Lib.hid ((hs.block p6 (lt_of_block HP6.out) HNE6.out).trans HP6.out)
    have HRZ := Lib.hid (show (y1.setRow r (PBlock.cells ⟨Z, some ⟨q9, 0, none⟩, n, n, ys⟩).toArray).heap[r]? = some (.cells (PBlock.cells ⟨Z, some ⟨q9, 0, none⟩, n, n, ys⟩).toArray 30 (0, 0)) from setRow_heap y1 r _ _ 30 _ HR6.out)
    have HYSb := Lib.hid (txs_but19 HYS.out HQ9.out (fun y hy => (HAL.out y hy).mono fun b hb2 => hb2.1) hs)
    have HBZ := Lib.hid (HBY.out.trans ((hs.mono HBY.out.size).below HR0.out))
    clear hs
    revert HP6b HRZ HYSb HBZ
    generalize World.setRow y1 _ _ = z6
    intro HP6b HRZ HYSb HBZ
    refine hK.out _ _ (by (try dsimp only); exact HP6b.out) (fun hHeld => ?_)
    clear hK K
    refine tkP 5 rfl rfl ?_
    (refine wpAnyH_done (by kernel_rfl) ?_ _)
    clear hHeld
    go_wp2_with fail
    refine bodyPost_ret (results_cell_then rfl _ _ r 30 (PBlock.cells ⟨Z, some ⟨q9, 0, none⟩, n, n, ys⟩).toArray (0, 0) _ (.int .i64 0) rfl rfl HRZ.out Tryd.underlying30 rfl SB.out) rfl ?_
    exact ⟨q9, ys, by rw [HZ.out] <;> rfl, HQL.out, HYSb.out, HST.out, (fun y hy => (HAL.out y hy).mono fun b hb2 => hb2.2), HBZ.out⟩
end Go.Proofs.YtlnenkmcegadmaaDoor
