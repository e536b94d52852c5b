/- The walk of ShaJoins. -/
import Derived.Test.YtfjedbfghcdbdaaDoorRefJoin
import Derived.Test.YtfjedbfghcdbdaaDoorPair
import Derived.Test.YtfjedbfghcdbdaaDoorSums
namespace Go.Proofs.YtfjedbfghcdbdaaDoor
open Go.RowKit

theorem Tryd.info22 : (Tryd.prog.info? 22).map (fun i => (i.zero, i.size, i.bytes)) = some (some (.slice none 0 0), 1, 24) := by kernel_rfl
/-- A slice of slices that the call makes; what its slices read as lay there before. -/
def Own2 (w W : World) (v : Value) (n : Nat) (ls : List (List UInt8)) : Prop :=
  ls.length = n ∧ ∃ vs : List Value, W.ownsRow w.heap.size 22 1 v n vs ∧ ∀ i, i < n → ∃ ai ni ci, vs[i]? = some (.slice ai ni ci) ∧ Row w ai ni ci (ls.getD i [])
theorem Own2.rows2 {w W : World} {a : Option Addr} {n c : Nat} {ls : List (List UInt8)} (h : Own2 w W (.slice a n c) n ls) (hb : Below w.heap.size w W) : Rows2 W a n c ls := by
  obtain ⟨hl, vs, ho, hr⟩ := h
  rcases ho.2 with ⟨hv, h0⟩ | ⟨g, cap, cur, hv, hB, hh, h1, h2, h3, h4⟩
  · cases hv
    exact ⟨hl, Nat.le_refl _, Nat.zero_le _, fun _ => rfl, fun h => by omega⟩
  · cases hv
    refine ⟨hl, h1, h2, (fun e => by cases e), fun _ => ⟨g, 0, rfl, lt_of_block hh, fun j hj => ?_⟩⟩
    obtain ⟨ai, ni, ci, hv, hrow⟩ := hr j hj
    refine ⟨ai, ni, ci, ?_, hrow.below hb⟩
    rw [Nat.zero_add, cell_of_row W g _ _ _ _ hh]
    rw [← h4, List.getElem?_take, if_pos (by omega)] at hv
    simpa using hv
theorem own2_apart {w : World} {B b n : Nat} {v : Value} {xs : List Value} {cs : Array Value} {t : TypeId} (h : w.ownsRow B 22 1 v n xs) (hb : w.heap[b]? = some (.cells cs t (0, 0))) (ht : t ≠ 22) : some b ≠ v.ownBlock := by
  rcases h.2 with ⟨rfl, _⟩ | ⟨g, cap, cur, rfl, _, hh, _⟩
  · intro e; cases e
  · intro e
    simp [Value.ownBlock] at e
    subst e
    rw [hh] at hb
    simp at hb
    exact ht hb.2.symm
/-- The two sums that the law boxed. -/
def BoxAt (w : World) (g : Nat) (sa sb : List UInt8) (W : World) : Prop :=
  W.heap[g]? = some (.cells (cellsOf sa).toArray 26 (0, 0)) ∧ W.heap[g + 1]? = some (.cells (cellsOf sb).toArray 26 (0, 0)) ∧ Below w.heap.size w W
theorem BoxAt.below {w W W' : World} {g : Nat} {sa sb : List UInt8} (h : BoxAt w g sa sb W) (hb : Below W.heap.size W W') : BoxAt w g sa sb W' :=
  ⟨(hb.block _ (lt_of_block h.1)).trans h.1, (hb.block _ (lt_of_block h.2.1)).trans h.2.1, h.2.2.trans (hb.mono h.2.2.size)⟩
theorem BoxAt.grown {w W W' : World} {g n : Nat} {sa sb : List UInt8} {v : Value} {xs : List Value} (h : BoxAt w g sa sb W) (ho : W.ownsRow w.heap.size 22 1 v n xs) (hg : W.grownBy W' v.ownBlock) : BoxAt w g sa sb W' :=
  ⟨(hg.block _ (lt_of_block h.1) (own2_apart ho h.1 (by decide))).trans h.1, (hg.block _ (lt_of_block h.2.1) (own2_apart ho h.2.1 (by decide))).trans h.2.1, Below.grown h.2.2 hg h.2.2.size (fun k e => (World.ownsRow.lt ho k e).1)⟩
theorem parts_len (tag : UInt8) : ∀ ls : List (List UInt8), (∀ p ∈ ls, p.length ≤ 200) → (partsOf tag ls).length ≤ 1 + 204 * ls.length
  | [], _ => by simp [partsOf]
  | p :: ls, h => by
    have ih := parts_len tag ls (fun q hq => h q (by simp [hq]))
    have hp := h p (by simp)
    unfold partsOf at ih ⊢
    simp only [List.length_cons, List.flatMap_cons, List.length_append] at ih ⊢
    have : (partOf p).length = 4 + p.length := by unfold partOf; rw [List.length_append, four_len]
    omega
/-- The parts as the law cuts them. -/
def cutTo (ps : List (List UInt8)) (j : Nat) : List (List UInt8) := (ps.take j).map (·.take 200)
theorem cutTo_succ (ps : List (List UInt8)) (j : Nat) (h : j < ps.length) : cutTo ps (j + 1) = cutTo ps j ++ [(ps.getD j []).take 200] := by
  unfold cutTo
  rw [List.take_succ_eq_append_getElem h, List.map_append]
  simp [List.getD, h]
theorem cutTo_len (ps : List (List UInt8)) (j : Nat) (h : j ≤ ps.length) : (cutTo ps j).length = j := by unfold cutTo; rw [List.length_map, List.length_take]; omega
theorem cutTo_short (ps : List (List UInt8)) (j : Nat) : ∀ p ∈ cutTo ps j, p.length ≤ 200 := by
  intro p hp
  unfold cutTo at hp
  obtain ⟨q, _, rfl⟩ := List.mem_map.1 hp
  rw [List.length_take]; omega

theorem Own2.more {w W : World} {v' : Value} {j aj_n cj : Nat} {aj : Option Addr} {ls : List (List UInt8)} {p : List UInt8} {vs : List Value} (hl : ls.length = j) (hr : ∀ i, i < j → ∃ ai ni ci, vs[i]? = some (.slice ai ni ci) ∧ Row w ai ni ci (ls.getD i [])) (hvs : vs.length = j) (hrow : Row w aj aj_n cj p)
    (ho : W.ownsRow w.heap.size 22 1 v' (j + 1) (vs ++ [.slice aj aj_n cj])) : Own2 w W v' (j + 1) (ls ++ [p]) := by
  refine ⟨by rw [List.length_append, hl]; rfl, _, ho, fun i hi => ?_⟩
  by_cases hij : i < j
  · obtain ⟨ai, ni, ci, h1, h2⟩ := hr i hij
    refine ⟨ai, ni, ci, by rw [List.getElem?_append_left (by omega)]; exact h1, ?_⟩
    rw [show (ls ++ [p]).getD i [] = ls.getD i [] by simp [List.getD, List.getElem?_append_left (show i < ls.length by omega)]]
    exact h2
  · have : i = j := by omega
    subst this
    refine ⟨aj, aj_n, cj, by rw [List.getElem?_append_right (by omega), hvs]; simp, ?_⟩
    rw [show (ls ++ [p]).getD i [] = p by simp [List.getD, hl]]
    exact hrow
theorem own2_shape {W : World} {B n : Nat} {v : Value} {xs : List Value} (h : W.ownsRow B 22 1 v n xs) : ∃ a c, v = .slice a n c := by
  rcases h.2 with ⟨hv, h0⟩ | ⟨g, cap, cur, hv, _⟩
  · exact ⟨none, 0, by rw [hv, h0]⟩
  · exact ⟨_, _, hv⟩

set_option linter.unusedSimpArgs false in
set_option maxRecDepth 100000 in
set_option maxHeartbeats 4000000 in
theorem joins_walk {w : World} {a : Option Addr} {n c : Nat} {ps : List (List UInt8)} {sa sb : List UInt8} (tag : UInt8) (T : Nat) (hT : tag.toNat = T) (h : Rows2 w a n c ps) (ha : sa.length = 32) (hb : sb.length = 32) (hk : KsAt w) :
    Calls Tryd.prog 4 #[.int .u8 (T : Int), .slice a n c, .agg (cellsOf sa).toArray, .agg (cellsOf sb).toArray] w fun e w' => e = .returned (.bool true) ∧ Below w.heap.size w w' := by
  have HK := Lib.hid hk
  have HT := Lib.hid hT
  have HA := Lib.hid ha
  have HB := Lib.hid hb
  have H := Lib.hid h
  have hn63 : n ≤ 9223372036854775807 := by have := h.2.1; have := h.2.2.1; unfold maxLen at this; omega
  obtain ⟨i2, hi, hz0, hz1, hz2⟩ := info_parts Tryd.info22
  have HI := Lib.hid hi
  clear hk hT ha hb h hi
  go_enter Tryd.func4, Tryd.ntmps4
  go_wp2_with fail
  have b1 : Below w.heap.size w ((w.alloc (.cells (cellsOf sa).toArray 26)).alloc (.cells (cellsOf sb).toArray 26)) := ((Below.refl _ _).alloc (Nat.le_refl _) _).alloc (by simp) _
  have hb1 : BoxAt w w.heap.size sa sb ((w.alloc (.cells (cellsOf sa).toArray 26)).alloc (.cells (cellsOf sb).toArray 26)) := ⟨by rw [heap_alloc_old _ _ (by simp), heap_alloc_new], heap_alloc_at _ _ _ (by simp), b1⟩
  revert hb1
  generalize ((w.alloc (.cells (cellsOf sa).toArray 26)).alloc (.cells (cellsOf sb).toArray 26)) = w1
  obtain ⟨g, hg⟩ : ∃ g, g = w.heap.size := ⟨_, rfl⟩
  have HG := Lib.hid hg
  rw [← hg]
  intro hb1
  have HB1 := Lib.hid hb1
  clear b1 hb1 hg
  go_loopw [9, 10] (fun s i wr => ∃ (j : Nat) (al : Option Addr) (cl : Nat), j ≤ n ∧ j ≤ 6 ∧ i = .int .i64 j ∧ s = .slice al j cl ∧ Own2 w wr (.slice al j cl) j (cutTo ps j) ∧ BoxAt w g sa sb wr) (fun _ i _ => 6 - (intOf i).toNat)
  case atStart => exact ⟨0, none, 0, Nat.zero_le _, Nat.zero_le _, rfl, rfl, ⟨rfl, [], World.ownsRow_nil _ _ _ _, fun i hi => by omega⟩, HB1.out⟩
  case round =>
    obtain ⟨j, al, cl, hjn, hj6, rfl, rfl, hown, hbox⟩ := hrel
    have HOWN := Lib.hid hown
    have HBOX := Lib.hid hbox
    by_cases hlt : j < n ∧ j < 6
    · obtain ⟨hjn', hj6'⟩ := hlt
      obtain ⟨b, off, rfl, hblt, hcells⟩ := H.out.2.2.2.2 (by omega)
      obtain ⟨aj, nj, cj, hcj, hrj⟩ := hcells j hjn'
      have hcj1 : wr.cell? ⟨b, off + j, none⟩ = some (.slice aj nj cj) := (hbox.2.2.cell (p := ⟨b, off + j, none⟩) hblt).trans hcj
      have hrj1 := hrj.below hbox.2.2
      have HRJ := Lib.hid hrj
      have HRJ1 := Lib.hid hrj1
      obtain ⟨hol, vs, ho, hr⟩ := hown
      have HO := Lib.hid ho
      have HR := Lib.hid hr
      clear hbox hcells hcj hrj hrj1 hol ho hr
      have hvl : vs.length = j := by have := HO.out.1; omega
      have HVL := Lib.hid hvl
      have b3 : Below wr.heap.size wr (wr.alloc (.cells #[.slice aj (min nj 200) cj] 22)) := (Below.refl _ _).alloc (Nat.le_refl _) _
      have HO3 : Hid ((wr.alloc (.cells #[.slice aj (min nj 200) cj] 22)).ownsRow w.heap.size 22 1 (.slice al j cl) j vs) := Lib.hid (HO.out.alloc _)
      have HBOX3 := Lib.hid (HBOX.out.below b3)
      have HCUT : Hid (Row w aj (min nj 200) cj ((ps.getD j []).take 200)) := Lib.hid (by
        rw [show (ps.getD j []).take 200 = (ps.getD j []).take (min nj 200) by rw [← HRJ.out.1, List.take_eq_take_iff]; omega]
        exact HRJ.out.take (by omega))
      have HNEWS : Hid (∀ (k : Nat) u, ([.slice aj (min nj 200) cj] : List Value)[k]? = some u → (wr.alloc (.cells #[.slice aj (min nj 200) cj] 22)).cell? ((⟨wr.heap.size, 0, none⟩ : Addr).add k) = some u) := Lib.hid (fun k u hu => by
        rcases k with _ | k
        · simp at hu
          subst hu
          rw [show (⟨wr.heap.size, 0, none⟩ : Addr).add 0 = ⟨wr.heap.size, 0, none⟩ by simp [Addr.add], cell_of_row _ _ _ _ _ _ (heap_alloc_new _ _)]
          rfl
        · simp at hu)
      clear hvl b3
      go_wp2_with (first
        | (go_at_call 6; refine (cut_any HRJ1.out).mono ?_; rintro e w2 ⟨rfl, _, rfl⟩)
        | (refine wpList_append_own _ rfl (.tmp 21) (.tmp 27) 30 rfl w.heap.size 22 i2 (.slice none 0 0) 1 24 Tryd.underlying30 HI.out hz0 hz1 hz2 rfl (by decide) (.slice al j cl) j vs rfl HO3.out ⟨wr.heap.size, 0, none⟩ 1 1 [.slice aj (min nj 200) cj] rfl rfl HNEWS.out (fun u hu => by simp at hu; subst hu; rfl) (by unfold maxLen; omega) (by omega) HBOX3.out.2.2.size ?_; intro v4 w4 ho4 hg4 _; have HO4 := Lib.hid ho4; have HG4 := Lib.hid hg4; clear ho4 hg4))
      obtain ⟨a4, c4, hv4⟩ := own2_shape HO4.out
      have h4 := Own2.more HOWN.out.1 HR.out HVL.out HCUT.out HO4.out
      have hbox4 := HBOX3.out.grown HO3.out HG4.out
      rw [← cutTo_succ ps j (by rw [H.out.1]; exact hjn')] at h4
      rw [hv4] at h4
      have H4 := Lib.hid h4
      have HBOX4 := Lib.hid hbox4
      have HV4 := Lib.hid hv4
      clear h4 hbox4 hv4 hcj1
      go_roundw
      case rel => exact ⟨j + 1, a4, c4, by omega, by omega, by go_num, HV4.out, H4.out, HBOX4.out⟩
      case measure => simp [intOf]; omega
    · obtain ⟨ls, hls⟩ : ∃ ls, ls = cutTo ps j := ⟨_, rfl⟩
      have hsh : ∀ p ∈ ls, p.length ≤ 200 := by rw [hls]; exact cutTo_short ps j
      have hll : ls.length = j := by rw [hls]; exact cutTo_len ps j (by rw [H.out.1]; exact hjn)
      have hplen : (partsOf tag ls).length ≤ 1000000 := by have := parts_len tag ls hsh; omega
      rw [← hls] at hown
      have hrows := hown.rows2 hbox.2.2
      have HROWS := Lib.hid hrows
      have HPL := Lib.hid hplen
      clear hown hls hsh hll hplen hrows HOWN
      obtain ⟨C1, hC1⟩ : ∃ C, C = (cellsOf (sumOf (partsOf tag ls))).toArray := ⟨_, rfl⟩
      obtain ⟨C2, hC2⟩ : ∃ C, C = (cellsOf (sumOf (partsOf tag [sa, sb]))).toArray := ⟨_, rfl⟩
      obtain ⟨S1, hS1⟩ : ∃ C, C = sumOf (partsOf tag ls) := ⟨_, rfl⟩
      obtain ⟨S2, hS2⟩ : ∃ C, C = sumOf (partsOf tag [sa, sb]) := ⟨_, rfl⟩
      have HKR := Lib.hid (HK.out.below hbox.2.2)
      have hp2 : (partsOf tag [sa, sb]).length ≤ 1000000 := by
        unfold partsOf partOf
        simp only [List.flatMap_cons, List.flatMap_nil, List.length_cons, List.length_append, four_len, List.length_nil, HA.out, HB.out]
        omega
      have HP2 := Lib.hid hp2
      have HJ : Hid (∀ W : World, Below wr.heap.size wr W → Calls Tryd.prog 11 #[.int .u8 (T : Int), .slice al j cl] W fun e w' => e = .returned (.agg C1) ∧ Below wr.heap.size wr w') := Lib.hid (fun W hb => by
        refine (join_any tag T HT.out (HROWS.out.below hb) (HKR.out.below hb) (Nat.le_trans HPL.out (by omega))).mono fun e w' ⟨h1, h2⟩ => ⟨by rw [h1, hC1], hb.trans (h2.mono hb.size)⟩)
      have HRJ : Hid (∀ W : World, Below wr.heap.size wr W → Calls Tryd.prog 12 #[.int .u8 (T : Int), .slice al j cl] W fun e w' => ∃ (af : Option Addr) (cf : Nat), e = .returned (.slice af 32 cf) ∧ Row w' af 32 cf S1 ∧ Below wr.heap.size wr w') := Lib.hid (fun W hb => by
        refine (refJoin_any tag T HT.out (HROWS.out.below hb) HPL.out).mono fun e w' ⟨af, cf, h1, h2, h3⟩ => ⟨af, cf, h1, by rw [hS1]; exact h2, hb.trans (h3.mono hb.size)⟩)
      have HSM : Hid (∀ (W : World) (af : Option Addr) (cf : Nat), Row W af 32 cf S1 → Below wr.heap.size wr W → Calls Tryd.prog 7 #[.agg C1, .slice af 32 cf] W fun e w' => e = .returned (.bool true) ∧ Below wr.heap.size wr w') := Lib.hid (fun W af cf hr hb => by
        rw [hC1]
        rw [hS1] at hr
        refine (same_any (sumOf_len _) hr).mono fun e w' ⟨h1, h2⟩ => ⟨h1, hb.trans (h2.mono hb.size)⟩)
      have HP : Hid (∀ W : World, Below wr.heap.size wr W → Calls Tryd.prog 13 #[.int .u8 (T : Int), .agg (cellsOf sa).toArray, .agg (cellsOf sb).toArray] W fun e w' => e = .returned (.agg C2) ∧ Below wr.heap.size wr w' ∧ Below W.heap.size W w') := Lib.hid (fun W hb => by
        refine (pair_any tag T HT.out HA.out HB.out (HKR.out.below hb)).mono fun e w' ⟨h1, h2⟩ => ⟨by rw [h1, hC2], hb.trans (h2.mono hb.size), h2⟩)
      have HRJ2 : Hid (∀ (W : World) (gg : Nat), Below wr.heap.size wr W → W.heap[gg]? = some (.cells #[.slice (some ⟨g, 0, none⟩) 32 32, .slice (some ⟨g + 1, 0, none⟩) 32 32] 22 (0, 0)) → Calls Tryd.prog 12 #[.int .u8 (T : Int), .slice (some ⟨gg, 0, none⟩) 2 2] W fun e w' => ∃ (af : Option Addr) (cf : Nat), e = .returned (.slice af 32 cf) ∧ Row w' af 32 cf S2 ∧ Below wr.heap.size wr w') := Lib.hid (fun W gg hb hgg => by
        have hB := HBOX.out.below hb
        have r1 : Row W (some ⟨g, 0, none⟩) 32 32 sa := row_all hB.1 32 HA.out.symm (by omega)
        have r2 : Row W (some ⟨g + 1, 0, none⟩) 32 32 sb := row_all hB.2.1 32 HB.out.symm (by omega)
        refine (refJoin_any tag T HT.out (rows2_at hgg r1 r2) HP2.out).mono fun e w' ⟨af, cf, h1, h2, h3⟩ => ⟨af, cf, h1, by rw [hS2]; exact h2, hb.trans (h3.mono hb.size)⟩)
      have HSM2 : Hid (∀ (W : World) (af : Option Addr) (cf : Nat), Row W af 32 cf S2 → Below wr.heap.size wr W → Calls Tryd.prog 7 #[.agg C2, .slice af 32 cf] W fun e w' => e = .returned (.bool true) ∧ Below wr.heap.size wr w') := Lib.hid (fun W af cf hr hb => by
        rw [hC2]
        rw [hS2] at hr
        refine (same_any (sumOf_len _) hr).mono fun e w' ⟨h1, h2⟩ => ⟨h1, hb.trans (h2.mono hb.size)⟩)
      have HAW : Hid (∀ W : World, Below wr.heap.size wr W → Calls Tryd.prog 10 #[] W fun e w' => e = .returned (.bool true) ∧ Below wr.heap.size wr w') := Lib.hid (fun W hb => by
        refine (awake_any (HKR.out.below hb)).mono fun e w' ⟨h1, h2⟩ => ⟨h1, hb.trans (h2.mono hb.size)⟩)
      have HSB : Hid (∀ W : World, Below wr.heap.size wr W → W.rangeAt g 0 (cellsOf sa) ∧ W.rangeAt (g + 1) 0 (cellsOf sb)) := Lib.hid (fun W hb => ⟨range_of (HBOX.out.below hb).1, range_of (HBOX.out.below hb).2.1⟩)
      have hla : (cellsOf sa).length = 32 := by rw [cellsOf_len]; exact HA.out
      have hlb : (cellsOf sb).length = 32 := by rw [cellsOf_len]; exact HB.out
      have hsa : (Tryd.prog.info? 26).map (·.size) = some (cellsOf sa).length := by rw [hla]; exact Tryd.size26
      have hsb : (Tryd.prog.info? 26).map (·.size) = some (cellsOf sb).length := by rw [hlb]; exact Tryd.size26
      have ha1 : ∀ v ∈ cellsOf sa, v.oneCell' = true := cellsOf_one _
      have hb1 : ∀ v ∈ cellsOf sb, v.oneCell' = true := cellsOf_one _
      have hu := Tryd.underlying26
      have HC := Lib.hid (Below.refl wr.heap.size wr)
      have HW := Lib.hid hbox.2.2
      clear hC1 hC2 hS1 hS2 hp2 hbox HROWS HPL HBOX HKR HP2
      by_cases hjn' : j < n
      · have hj6'' : j = 6 := by omega
        subst hj6''
        clear hlt
        go_upto_region 6 with (fail)
        refine wp_region_held_drew (S := fun w' => w'.rangeAt g 0 (cellsOf sa) ∧ w'.rangeAt (g + 1) 0 (cellsOf sb)) (by kernel_rfl) (HSB.out _ (below_drew HC.out)) (fun hHeld => ?_)
        refine wpAnyH_take (i := 0) (v := ?_) rfl (by kernel_rfl) (by kernel_rfl) (by kernel_rfl) (fun _ _ _ h => h) (Or.inl ⟨by rfl, ?_⟩) (by assumption) ?_
        rotate_left
        · intro w0 hSw; (try dsimp only at hSw); first | (go_simp; done) | (go_simp; with_reducible rfl)
        try simp only [Act.put, List.setIfInBounds_toArray, List.set_cons_zero, List.set_cons_succ]
        refine wpAnyH_take (i := 1) (v := ?_) rfl (by kernel_rfl) (by kernel_rfl) (by kernel_rfl) (fun _ _ _ h => h) (Or.inl ⟨by rfl, ?_⟩) (by assumption) ?_
        rotate_left
        · intro w0 hSw; (try dsimp only at hSw); first | (go_simp; done) | (go_simp; with_reducible rfl)
        try simp only [Act.put, List.setIfInBounds_toArray, List.set_cons_zero, List.set_cons_succ]
        refine wpAnyH_take (i := 3) (v := ?_) rfl (by kernel_rfl) (by kernel_rfl) (by kernel_rfl) (fun _ _ _ h => h) (Or.inl ⟨by rfl, ?_⟩) (by assumption) ?_
        rotate_left
        · intro w0 hSw; (try dsimp only at hSw); first | (go_simp; done) | (go_simp; with_reducible rfl)
        try simp only [Act.put, List.setIfInBounds_toArray, List.set_cons_zero, List.set_cons_succ]
        refine wpAnyH_take (i := 4) (v := ?_) rfl (by kernel_rfl) (by kernel_rfl) (by kernel_rfl) (fun _ _ _ h => h) (Or.inl ⟨by rfl, ?_⟩) (by assumption) ?_
        rotate_left
        · intro w0 hSw; (try dsimp only at hSw); first | (go_simp; done) | (go_simp; with_reducible rfl)
        try simp only [Act.put, List.setIfInBounds_toArray, List.set_cons_zero, List.set_cons_succ]
        refine wpAnyH_ready (rs := [2]) (by kernel_rfl) (by simp) ?_
        refine AllReadyH.cons rfl (fun K hK => ?_) ?_
        · go_simp
          go_wp2_with ((go_at_call 11; (with_reducible refine (HJ.out _ ?_).mono ?_); (first | exact HC.out | exact below_drew HC.out | exact HC.out.alloc HC.out.size _ | exact below_drew (HC.out.alloc HC.out.size _)); rintro e w7 ⟨rfl, hb7⟩; have HC := Lib.hid hb7; clear hb7))
          refine hK.out _ _ (by (try dsimp only); (first | exact HSB.out _ HC.out | exact HSB.out _ (below_drew HC.out) | exact HSB.out _ (HC.out.alloc HC.out.size _) | exact HSB.out _ (below_drew (HC.out.alloc HC.out.size _)))) (fun hHeld => ?_)
          clear hK K
          refine wpAnyH_ready (rs := [5]) (by kernel_rfl) (by simp) ?_
          refine AllReadyH.cons rfl (fun K hK => ?_) ?_
          · go_simp
            go_wp2_with ((go_at_call 12; (with_reducible refine (HRJ.out _ ?_).mono ?_); (first | exact HC.out | exact below_drew HC.out | exact HC.out.alloc HC.out.size _ | exact below_drew (HC.out.alloc HC.out.size _)); rintro e w8 ⟨af8, cf8, rfl, hr8, hb8⟩; have HR8 := Lib.hid hr8; have HC := Lib.hid hb8; clear hr8 hb8))
            refine hK.out _ _ (by (try dsimp only); (first | exact HSB.out _ HC.out | exact HSB.out _ (below_drew HC.out) | exact HSB.out _ (HC.out.alloc HC.out.size _) | exact HSB.out _ (below_drew (HC.out.alloc HC.out.size _)))) (fun hHeld => ?_)
            clear hK K
            refine wpAnyH_ready (rs := [6]) (by kernel_rfl) (by simp) ?_
            refine AllReadyH.cons rfl (fun K hK => ?_) ?_
            · go_simp
              go_wp2_with ((go_at_call 7; (with_reducible refine (HSM.out _ _ _ HR8.out HC.out).mono ?_); rintro e w9 ⟨rfl, hb9⟩; have HC := Lib.hid hb9; clear hb9))
              refine hK.out _ _ (by (try dsimp only); (first | exact HSB.out _ HC.out | exact HSB.out _ (below_drew HC.out) | exact HSB.out _ (HC.out.alloc HC.out.size _) | exact HSB.out _ (below_drew (HC.out.alloc HC.out.size _)))) (fun hHeld => ?_)
              clear hK K
              refine wpAnyH_take (i := 7) (v := ?_) rfl (by kernel_rfl) (by kernel_rfl) (by kernel_rfl) (fun _ _ _ h => h) (Or.inl ⟨by rfl, ?_⟩) (by assumption) ?_
              rotate_left
              · intro w0 hSw; (try dsimp only at hSw); first | (go_simp; done) | (go_simp; with_reducible rfl)
              try simp only [Act.put, List.setIfInBounds_toArray, List.set_cons_zero, List.set_cons_succ]
              refine wpAnyH_take (i := 8) (v := ?_) rfl (by kernel_rfl) (by kernel_rfl) (by kernel_rfl) (fun _ _ _ h => h) (Or.inl ⟨by rfl, ?_⟩) (by assumption) ?_
              rotate_left
              · intro w0 hSw; (try dsimp only at hSw); first | (go_simp; done) | (go_simp; with_reducible rfl)
              try simp only [Act.put, List.setIfInBounds_toArray, List.set_cons_zero, List.set_cons_succ]
              refine wpAnyH_take (i := 9) rfl (by kernel_rfl) (by kernel_rfl) (by kernel_rfl) (fun _ _ _ h => h) (yieldsIf_load_mid (by rfl) _ _ rfl g 0 rfl (cellsOf sa) _ (fun w0 hSw => hSw.1) hu rfl hsa) (by assumption) ?_
              try simp only [Act.put, List.setIfInBounds_toArray, List.set_cons_zero, List.set_cons_succ]
              refine wpAnyH_take (i := 10) rfl (by kernel_rfl) (by kernel_rfl) (by kernel_rfl) (fun _ _ _ h => h) (yieldsIf_load_mid (by rfl) _ _ rfl (g + 1) 0 rfl (cellsOf sb) _ (fun w0 hSw => hSw.2) hu rfl hsb) (by assumption) ?_
              try simp only [Act.put, List.setIfInBounds_toArray, List.set_cons_zero, List.set_cons_succ]
              refine wpAnyH_take (i := 12) (v := ?_) rfl (by kernel_rfl) (by kernel_rfl) (by kernel_rfl) (fun _ _ _ h => h) (Or.inl ⟨by rfl, ?_⟩) (by assumption) ?_
              rotate_left
              · intro w0 hSw; (try dsimp only at hSw); first | (go_simp; done) | (go_simp; with_reducible rfl)
              try simp only [Act.put, List.setIfInBounds_toArray, List.set_cons_zero, List.set_cons_succ]
              refine wpAnyH_take (i := 13) (v := ?_) rfl (by kernel_rfl) (by kernel_rfl) (by kernel_rfl) (fun _ _ _ h => h) (Or.inl ⟨by rfl, ?_⟩) (by assumption) ?_
              rotate_left
              · intro w0 hSw; (try dsimp only at hSw); first | (go_simp; done) | (go_simp; with_reducible rfl)
              try simp only [Act.put, List.setIfInBounds_toArray, List.set_cons_zero, List.set_cons_succ]
              refine wpAnyH_take (i := 14) (v := ?_) rfl (by kernel_rfl) (by kernel_rfl) (by kernel_rfl) (fun _ _ _ h => h) (Or.inl ⟨by rfl, ?_⟩) (by assumption) ?_
              rotate_left
              · intro w0 hSw; (try dsimp only at hSw); first | (go_simp; done) | (go_simp; with_reducible rfl)
              try simp only [Act.put, List.setIfInBounds_toArray, List.set_cons_zero, List.set_cons_succ]
              refine wpAnyH_ready (rs := [11, 15]) (by kernel_rfl) (by simp) ?_
              refine AllReadyH.cons rfl (fun K hK => ?_) ?_
              · go_simp
                go_wp2_with ((go_at_call 13; (with_reducible refine (HP.out _ ?_).mono ?_); (first | exact HC.out | exact below_drew HC.out | exact HC.out.alloc HC.out.size _ | exact below_drew (HC.out.alloc HC.out.size _)); rintro e w10 ⟨rfl, hb10, hd10⟩; have HC := Lib.hid hb10; have HD10 := Lib.hid hd10; clear hb10 hd10))
                refine hK.out _ _ (by (try dsimp only); (first | exact HSB.out _ HC.out | exact HSB.out _ (below_drew HC.out) | exact HSB.out _ (HC.out.alloc HC.out.size _) | exact HSB.out _ (below_drew (HC.out.alloc HC.out.size _)))) (fun hHeld => ?_)
                clear hK K
                refine wpAnyH_ready (rs := [15]) (by kernel_rfl) (by simp) ?_
                refine AllReadyH.cons rfl (fun K hK => ?_) ?_
                · go_simp
                  refine hK.out _ _ (by (try dsimp only); (first | exact HSB.out _ HC.out | exact HSB.out _ (below_drew HC.out) | exact HSB.out _ (HC.out.alloc HC.out.size _) | exact HSB.out _ (below_drew (HC.out.alloc HC.out.size _)))) (fun hHeld => ?_)
                  clear hK K
                  refine wpAnyH_ready (rs := [16]) (by kernel_rfl) (by simp) ?_
                  refine AllReadyH.cons rfl (fun K hK => ?_) ?_
                  · go_simp
                    go_wp2_with ((go_at_call 12; (with_reducible refine (HRJ2.out _ _ ?_ ?_).mono ?_); (first | exact HC.out | exact below_drew HC.out | exact HC.out.alloc HC.out.size _ | exact below_drew (HC.out.alloc HC.out.size _)); (first | exact heap_alloc_new _ _ | exact (HD10.out.block _ (by simp)).trans (heap_alloc_new _ _)); rintro e w11 ⟨af11, cf11, rfl, hr11, hb11⟩; have HR11 := Lib.hid hr11; have HC := Lib.hid hb11; clear hr11 hb11))
                    refine hK.out _ _ (by (try dsimp only); (first | exact HSB.out _ HC.out | exact HSB.out _ (below_drew HC.out) | exact HSB.out _ (HC.out.alloc HC.out.size _) | exact HSB.out _ (below_drew (HC.out.alloc HC.out.size _)))) (fun hHeld => ?_)
                    clear hK K
                    refine wpAnyH_ready (rs := [17]) (by kernel_rfl) (by simp) ?_
                    refine AllReadyH.cons rfl (fun K hK => ?_) ?_
                    · go_simp
                      go_wp2_with ((go_at_call 7; (with_reducible refine (HSM2.out _ _ _ HR11.out HC.out).mono ?_); rintro e w12 ⟨rfl, hb12⟩; have HC := Lib.hid hb12; clear hb12))
                      refine hK.out _ _ (by (try dsimp only); (first | exact HSB.out _ HC.out | exact HSB.out _ (below_drew HC.out) | exact HSB.out _ (HC.out.alloc HC.out.size _) | exact HSB.out _ (below_drew (HC.out.alloc HC.out.size _)))) (fun hHeld => ?_)
                      clear hK K
                      refine wpAnyH_take (i := 18) (v := ?_) rfl (by kernel_rfl) (by kernel_rfl) (by kernel_rfl) (fun _ _ _ h => h) (Or.inl ⟨by rfl, ?_⟩) (by assumption) ?_
                      rotate_left
                      · intro w0 hSw; (try dsimp only at hSw); first | (go_simp; done) | (go_simp; with_reducible rfl)
                      try simp only [Act.put, List.setIfInBounds_toArray, List.set_cons_zero, List.set_cons_succ]
                      refine wpAnyH_take (i := 19) (v := ?_) rfl (by kernel_rfl) (by kernel_rfl) (by kernel_rfl) (fun _ _ _ h => h) (Or.inl ⟨by rfl, ?_⟩) (by assumption) ?_
                      rotate_left
                      · intro w0 hSw; (try dsimp only at hSw); first | (go_simp; done) | (go_simp; with_reducible rfl)
                      try simp only [Act.put, List.setIfInBounds_toArray, List.set_cons_zero, List.set_cons_succ]
                      refine wpAnyH_ready (rs := [20]) (by kernel_rfl) (by simp) ?_
                      refine AllReadyH.cons rfl (fun K hK => ?_) ?_
                      · go_simp
                        go_wp2_with ((go_at_call 10; (with_reducible refine (HAW.out _ ?_).mono ?_); (first | exact HC.out | exact below_drew HC.out | exact HC.out.alloc HC.out.size _ | exact below_drew (HC.out.alloc HC.out.size _)); rintro e w13 ⟨rfl, hb13⟩; have HC := Lib.hid hb13; clear hb13))
                        refine hK.out _ _ (by (try dsimp only); (first | exact HSB.out _ HC.out | exact HSB.out _ (below_drew HC.out) | exact HSB.out _ (HC.out.alloc HC.out.size _) | exact HSB.out _ (below_drew (HC.out.alloc HC.out.size _)))) (fun hHeld => ?_)
                        clear hK K
                        refine wpAnyH_take (i := 21) (v := ?_) rfl (by kernel_rfl) (by kernel_rfl) (by kernel_rfl) (fun _ _ _ h => h) (Or.inl ⟨by rfl, ?_⟩) (by assumption) ?_
                        rotate_left
                        · intro w0 hSw; (try dsimp only at hSw); first | (go_simp; done) | (go_simp; with_reducible rfl)
                        try simp only [Act.put, List.setIfInBounds_toArray, List.set_cons_zero, List.set_cons_succ]
                        refine wpAnyH_ready (rs := [22]) (by kernel_rfl) (by simp) ?_
                        refine AllReadyH.cons rfl (fun K hK => ?_) ?_
                        · go_simp
                          refine hK.out _ _ (by (try dsimp only); (first | exact HSB.out _ HC.out | exact HSB.out _ (below_drew HC.out) | exact HSB.out _ (HC.out.alloc HC.out.size _) | exact HSB.out _ (below_drew (HC.out.alloc HC.out.size _)))) (fun hHeld => ?_)
                          clear hK K
                          refine wpAnyH_done (by kernel_rfl) ?_ _
                          go_wp2_with fail
                          go_ret
                          exact ⟨rfl, HW.out.trans (HC.out.mono HW.out.size)⟩
                        exact AllReadyH.nil
                      exact AllReadyH.nil
                    exact AllReadyH.nil
                  exact AllReadyH.nil
                exact AllReadyH.nil
              refine AllReadyH.cons rfl (fun K hK => ?_) ?_
              · go_simp
                refine hK.out _ _ (by (try dsimp only); (first | exact HSB.out _ HC.out | exact HSB.out _ (below_drew HC.out) | exact HSB.out _ (HC.out.alloc HC.out.size _) | exact HSB.out _ (below_drew (HC.out.alloc HC.out.size _)))) (fun hHeld => ?_)
                clear hK K
                refine wpAnyH_ready (rs := [11]) (by kernel_rfl) (by simp) ?_
                refine AllReadyH.cons rfl (fun K hK => ?_) ?_
                · go_simp
                  go_wp2_with ((go_at_call 13; (with_reducible refine (HP.out _ ?_).mono ?_); (first | exact HC.out | exact below_drew HC.out | exact HC.out.alloc HC.out.size _ | exact below_drew (HC.out.alloc HC.out.size _)); rintro e w10 ⟨rfl, hb10, hd10⟩; have HC := Lib.hid hb10; have HD10 := Lib.hid hd10; clear hb10 hd10))
                  refine hK.out _ _ (by (try dsimp only); (first | exact HSB.out _ HC.out | exact HSB.out _ (below_drew HC.out) | exact HSB.out _ (HC.out.alloc HC.out.size _) | exact HSB.out _ (below_drew (HC.out.alloc HC.out.size _)))) (fun hHeld => ?_)
                  clear hK K
                  refine wpAnyH_ready (rs := [16]) (by kernel_rfl) (by simp) ?_
                  refine AllReadyH.cons rfl (fun K hK => ?_) ?_
                  · go_simp
                    go_wp2_with ((go_at_call 12; (with_reducible refine (HRJ2.out _ _ ?_ ?_).mono ?_); (first | exact HC.out | exact below_drew HC.out | exact HC.out.alloc HC.out.size _ | exact below_drew (HC.out.alloc HC.out.size _)); (first | exact heap_alloc_new _ _ | exact (HD10.out.block _ (by simp)).trans (heap_alloc_new _ _)); rintro e w11 ⟨af11, cf11, rfl, hr11, hb11⟩; have HR11 := Lib.hid hr11; have HC := Lib.hid hb11; clear hr11 hb11))
                    refine hK.out _ _ (by (try dsimp only); (first | exact HSB.out _ HC.out | exact HSB.out _ (below_drew HC.out) | exact HSB.out _ (HC.out.alloc HC.out.size _) | exact HSB.out _ (below_drew (HC.out.alloc HC.out.size _)))) (fun hHeld => ?_)
                    clear hK K
                    refine wpAnyH_ready (rs := [17]) (by kernel_rfl) (by simp) ?_
                    refine AllReadyH.cons rfl (fun K hK => ?_) ?_
                    · go_simp
                      go_wp2_with ((go_at_call 7; (with_reducible refine (HSM2.out _ _ _ HR11.out HC.out).mono ?_); rintro e w12 ⟨rfl, hb12⟩; have HC := Lib.hid hb12; clear hb12))
                      refine hK.out _ _ (by (try dsimp only); (first | exact HSB.out _ HC.out | exact HSB.out _ (below_drew HC.out) | exact HSB.out _ (HC.out.alloc HC.out.size _) | exact HSB.out _ (below_drew (HC.out.alloc HC.out.size _)))) (fun hHeld => ?_)
                      clear hK K
                      refine wpAnyH_take (i := 18) (v := ?_) rfl (by kernel_rfl) (by kernel_rfl) (by kernel_rfl) (fun _ _ _ h => h) (Or.inl ⟨by rfl, ?_⟩) (by assumption) ?_
                      rotate_left
                      · intro w0 hSw; (try dsimp only at hSw); first | (go_simp; done) | (go_simp; with_reducible rfl)
                      try simp only [Act.put, List.setIfInBounds_toArray, List.set_cons_zero, List.set_cons_succ]
                      refine wpAnyH_take (i := 19) (v := ?_) rfl (by kernel_rfl) (by kernel_rfl) (by kernel_rfl) (fun _ _ _ h => h) (Or.inl ⟨by rfl, ?_⟩) (by assumption) ?_
                      rotate_left
                      · intro w0 hSw; (try dsimp only at hSw); first | (go_simp; done) | (go_simp; with_reducible rfl)
                      try simp only [Act.put, List.setIfInBounds_toArray, List.set_cons_zero, List.set_cons_succ]
                      refine wpAnyH_ready (rs := [20]) (by kernel_rfl) (by simp) ?_
                      refine AllReadyH.cons rfl (fun K hK => ?_) ?_
                      · go_simp
                        go_wp2_with ((go_at_call 10; (with_reducible refine (HAW.out _ ?_).mono ?_); (first | exact HC.out | exact below_drew HC.out | exact HC.out.alloc HC.out.size _ | exact below_drew (HC.out.alloc HC.out.size _)); rintro e w13 ⟨rfl, hb13⟩; have HC := Lib.hid hb13; clear hb13))
                        refine hK.out _ _ (by (try dsimp only); (first | exact HSB.out _ HC.out | exact HSB.out _ (below_drew HC.out) | exact HSB.out _ (HC.out.alloc HC.out.size _) | exact HSB.out _ (below_drew (HC.out.alloc HC.out.size _)))) (fun hHeld => ?_)
                        clear hK K
                        refine wpAnyH_take (i := 21) (v := ?_) rfl (by kernel_rfl) (by kernel_rfl) (by kernel_rfl) (fun _ _ _ h => h) (Or.inl ⟨by rfl, ?_⟩) (by assumption) ?_
                        rotate_left
                        · intro w0 hSw; (try dsimp only at hSw); first | (go_simp; done) | (go_simp; with_reducible rfl)
                        try simp only [Act.put, List.setIfInBounds_toArray, List.set_cons_zero, List.set_cons_succ]
                        refine wpAnyH_ready (rs := [22]) (by kernel_rfl) (by simp) ?_
                        refine AllReadyH.cons rfl (fun K hK => ?_) ?_
                        · go_simp
                          refine hK.out _ _ (by (try dsimp only); (first | exact HSB.out _ HC.out | exact HSB.out _ (below_drew HC.out) | exact HSB.out _ (HC.out.alloc HC.out.size _) | exact HSB.out _ (below_drew (HC.out.alloc HC.out.size _)))) (fun hHeld => ?_)
                          clear hK K
                          refine wpAnyH_done (by kernel_rfl) ?_ _
                          go_wp2_with fail
                          go_ret
                          exact ⟨rfl, HW.out.trans (HC.out.mono HW.out.size)⟩
                        exact AllReadyH.nil
                      exact AllReadyH.nil
                    exact AllReadyH.nil
                  exact AllReadyH.nil
                exact AllReadyH.nil
              exact AllReadyH.nil
            exact AllReadyH.nil
          exact AllReadyH.nil
        exact AllReadyH.nil
      · clear hlt
        go_upto_region 6 with (fail)
        refine wp_region_held_drew (S := fun w' => w'.rangeAt g 0 (cellsOf sa) ∧ w'.rangeAt (g + 1) 0 (cellsOf sb)) (by kernel_rfl) (HSB.out _ (below_drew HC.out)) (fun hHeld => ?_)
        refine wpAnyH_take (i := 0) (v := ?_) rfl (by kernel_rfl) (by kernel_rfl) (by kernel_rfl) (fun _ _ _ h => h) (Or.inl ⟨by rfl, ?_⟩) (by assumption) ?_
        rotate_left
        · intro w0 hSw; (try dsimp only at hSw); first | (go_simp; done) | (go_simp; with_reducible rfl)
        try simp only [Act.put, List.setIfInBounds_toArray, List.set_cons_zero, List.set_cons_succ]
        refine wpAnyH_take (i := 1) (v := ?_) rfl (by kernel_rfl) (by kernel_rfl) (by kernel_rfl) (fun _ _ _ h => h) (Or.inl ⟨by rfl, ?_⟩) (by assumption) ?_
        rotate_left
        · intro w0 hSw; (try dsimp only at hSw); first | (go_simp; done) | (go_simp; with_reducible rfl)
        try simp only [Act.put, List.setIfInBounds_toArray, List.set_cons_zero, List.set_cons_succ]
        refine wpAnyH_take (i := 3) (v := ?_) rfl (by kernel_rfl) (by kernel_rfl) (by kernel_rfl) (fun _ _ _ h => h) (Or.inl ⟨by rfl, ?_⟩) (by assumption) ?_
        rotate_left
        · intro w0 hSw; (try dsimp only at hSw); first | (go_simp; done) | (go_simp; with_reducible rfl)
        try simp only [Act.put, List.setIfInBounds_toArray, List.set_cons_zero, List.set_cons_succ]
        refine wpAnyH_take (i := 4) (v := ?_) rfl (by kernel_rfl) (by kernel_rfl) (by kernel_rfl) (fun _ _ _ h => h) (Or.inl ⟨by rfl, ?_⟩) (by assumption) ?_
        rotate_left
        · intro w0 hSw; (try dsimp only at hSw); first | (go_simp; done) | (go_simp; with_reducible rfl)
        try simp only [Act.put, List.setIfInBounds_toArray, List.set_cons_zero, List.set_cons_succ]
        refine wpAnyH_ready (rs := [2]) (by kernel_rfl) (by simp) ?_
        refine AllReadyH.cons rfl (fun K hK => ?_) ?_
        · go_simp
          go_wp2_with ((go_at_call 11; (with_reducible refine (HJ.out _ ?_).mono ?_); (first | exact HC.out | exact below_drew HC.out | exact HC.out.alloc HC.out.size _ | exact below_drew (HC.out.alloc HC.out.size _)); rintro e w7 ⟨rfl, hb7⟩; have HC := Lib.hid hb7; clear hb7))
          refine hK.out _ _ (by (try dsimp only); (first | exact HSB.out _ HC.out | exact HSB.out _ (below_drew HC.out) | exact HSB.out _ (HC.out.alloc HC.out.size _) | exact HSB.out _ (below_drew (HC.out.alloc HC.out.size _)))) (fun hHeld => ?_)
          clear hK K
          refine wpAnyH_ready (rs := [5]) (by kernel_rfl) (by simp) ?_
          refine AllReadyH.cons rfl (fun K hK => ?_) ?_
          · go_simp
            go_wp2_with ((go_at_call 12; (with_reducible refine (HRJ.out _ ?_).mono ?_); (first | exact HC.out | exact below_drew HC.out | exact HC.out.alloc HC.out.size _ | exact below_drew (HC.out.alloc HC.out.size _)); rintro e w8 ⟨af8, cf8, rfl, hr8, hb8⟩; have HR8 := Lib.hid hr8; have HC := Lib.hid hb8; clear hr8 hb8))
            refine hK.out _ _ (by (try dsimp only); (first | exact HSB.out _ HC.out | exact HSB.out _ (below_drew HC.out) | exact HSB.out _ (HC.out.alloc HC.out.size _) | exact HSB.out _ (below_drew (HC.out.alloc HC.out.size _)))) (fun hHeld => ?_)
            clear hK K
            refine wpAnyH_ready (rs := [6]) (by kernel_rfl) (by simp) ?_
            refine AllReadyH.cons rfl (fun K hK => ?_) ?_
            · go_simp
              go_wp2_with ((go_at_call 7; (with_reducible refine (HSM.out _ _ _ HR8.out HC.out).mono ?_); rintro e w9 ⟨rfl, hb9⟩; have HC := Lib.hid hb9; clear hb9))
              refine hK.out _ _ (by (try dsimp only); (first | exact HSB.out _ HC.out | exact HSB.out _ (below_drew HC.out) | exact HSB.out _ (HC.out.alloc HC.out.size _) | exact HSB.out _ (below_drew (HC.out.alloc HC.out.size _)))) (fun hHeld => ?_)
              clear hK K
              refine wpAnyH_take (i := 7) (v := ?_) rfl (by kernel_rfl) (by kernel_rfl) (by kernel_rfl) (fun _ _ _ h => h) (Or.inl ⟨by rfl, ?_⟩) (by assumption) ?_
              rotate_left
              · intro w0 hSw; (try dsimp only at hSw); first | (go_simp; done) | (go_simp; with_reducible rfl)
              try simp only [Act.put, List.setIfInBounds_toArray, List.set_cons_zero, List.set_cons_succ]
              refine wpAnyH_take (i := 8) (v := ?_) rfl (by kernel_rfl) (by kernel_rfl) (by kernel_rfl) (fun _ _ _ h => h) (Or.inl ⟨by rfl, ?_⟩) (by assumption) ?_
              rotate_left
              · intro w0 hSw; (try dsimp only at hSw); first | (go_simp; done) | (go_simp; with_reducible rfl)
              try simp only [Act.put, List.setIfInBounds_toArray, List.set_cons_zero, List.set_cons_succ]
              refine wpAnyH_take (i := 9) rfl (by kernel_rfl) (by kernel_rfl) (by kernel_rfl) (fun _ _ _ h => h) (yieldsIf_load_mid (by rfl) _ _ rfl g 0 rfl (cellsOf sa) _ (fun w0 hSw => hSw.1) hu rfl hsa) (by assumption) ?_
              try simp only [Act.put, List.setIfInBounds_toArray, List.set_cons_zero, List.set_cons_succ]
              refine wpAnyH_take (i := 10) rfl (by kernel_rfl) (by kernel_rfl) (by kernel_rfl) (fun _ _ _ h => h) (yieldsIf_load_mid (by rfl) _ _ rfl (g + 1) 0 rfl (cellsOf sb) _ (fun w0 hSw => hSw.2) hu rfl hsb) (by assumption) ?_
              try simp only [Act.put, List.setIfInBounds_toArray, List.set_cons_zero, List.set_cons_succ]
              refine wpAnyH_take (i := 12) (v := ?_) rfl (by kernel_rfl) (by kernel_rfl) (by kernel_rfl) (fun _ _ _ h => h) (Or.inl ⟨by rfl, ?_⟩) (by assumption) ?_
              rotate_left
              · intro w0 hSw; (try dsimp only at hSw); first | (go_simp; done) | (go_simp; with_reducible rfl)
              try simp only [Act.put, List.setIfInBounds_toArray, List.set_cons_zero, List.set_cons_succ]
              refine wpAnyH_take (i := 13) (v := ?_) rfl (by kernel_rfl) (by kernel_rfl) (by kernel_rfl) (fun _ _ _ h => h) (Or.inl ⟨by rfl, ?_⟩) (by assumption) ?_
              rotate_left
              · intro w0 hSw; (try dsimp only at hSw); first | (go_simp; done) | (go_simp; with_reducible rfl)
              try simp only [Act.put, List.setIfInBounds_toArray, List.set_cons_zero, List.set_cons_succ]
              refine wpAnyH_take (i := 14) (v := ?_) rfl (by kernel_rfl) (by kernel_rfl) (by kernel_rfl) (fun _ _ _ h => h) (Or.inl ⟨by rfl, ?_⟩) (by assumption) ?_
              rotate_left
              · intro w0 hSw; (try dsimp only at hSw); first | (go_simp; done) | (go_simp; with_reducible rfl)
              try simp only [Act.put, List.setIfInBounds_toArray, List.set_cons_zero, List.set_cons_succ]
              refine wpAnyH_ready (rs := [11, 15]) (by kernel_rfl) (by simp) ?_
              refine AllReadyH.cons rfl (fun K hK => ?_) ?_
              · go_simp
                go_wp2_with ((go_at_call 13; (with_reducible refine (HP.out _ ?_).mono ?_); (first | exact HC.out | exact below_drew HC.out | exact HC.out.alloc HC.out.size _ | exact below_drew (HC.out.alloc HC.out.size _)); rintro e w10 ⟨rfl, hb10, hd10⟩; have HC := Lib.hid hb10; have HD10 := Lib.hid hd10; clear hb10 hd10))
                refine hK.out _ _ (by (try dsimp only); (first | exact HSB.out _ HC.out | exact HSB.out _ (below_drew HC.out) | exact HSB.out _ (HC.out.alloc HC.out.size _) | exact HSB.out _ (below_drew (HC.out.alloc HC.out.size _)))) (fun hHeld => ?_)
                clear hK K
                refine wpAnyH_ready (rs := [15]) (by kernel_rfl) (by simp) ?_
                refine AllReadyH.cons rfl (fun K hK => ?_) ?_
                · go_simp
                  refine hK.out _ _ (by (try dsimp only); (first | exact HSB.out _ HC.out | exact HSB.out _ (below_drew HC.out) | exact HSB.out _ (HC.out.alloc HC.out.size _) | exact HSB.out _ (below_drew (HC.out.alloc HC.out.size _)))) (fun hHeld => ?_)
                  clear hK K
                  refine wpAnyH_ready (rs := [16]) (by kernel_rfl) (by simp) ?_
                  refine AllReadyH.cons rfl (fun K hK => ?_) ?_
                  · go_simp
                    go_wp2_with ((go_at_call 12; (with_reducible refine (HRJ2.out _ _ ?_ ?_).mono ?_); (first | exact HC.out | exact below_drew HC.out | exact HC.out.alloc HC.out.size _ | exact below_drew (HC.out.alloc HC.out.size _)); (first | exact heap_alloc_new _ _ | exact (HD10.out.block _ (by simp)).trans (heap_alloc_new _ _)); rintro e w11 ⟨af11, cf11, rfl, hr11, hb11⟩; have HR11 := Lib.hid hr11; have HC := Lib.hid hb11; clear hr11 hb11))
                    refine hK.out _ _ (by (try dsimp only); (first | exact HSB.out _ HC.out | exact HSB.out _ (below_drew HC.out) | exact HSB.out _ (HC.out.alloc HC.out.size _) | exact HSB.out _ (below_drew (HC.out.alloc HC.out.size _)))) (fun hHeld => ?_)
                    clear hK K
                    refine wpAnyH_ready (rs := [17]) (by kernel_rfl) (by simp) ?_
                    refine AllReadyH.cons rfl (fun K hK => ?_) ?_
                    · go_simp
                      go_wp2_with ((go_at_call 7; (with_reducible refine (HSM2.out _ _ _ HR11.out HC.out).mono ?_); rintro e w12 ⟨rfl, hb12⟩; have HC := Lib.hid hb12; clear hb12))
                      refine hK.out _ _ (by (try dsimp only); (first | exact HSB.out _ HC.out | exact HSB.out _ (below_drew HC.out) | exact HSB.out _ (HC.out.alloc HC.out.size _) | exact HSB.out _ (below_drew (HC.out.alloc HC.out.size _)))) (fun hHeld => ?_)
                      clear hK K
                      refine wpAnyH_take (i := 18) (v := ?_) rfl (by kernel_rfl) (by kernel_rfl) (by kernel_rfl) (fun _ _ _ h => h) (Or.inl ⟨by rfl, ?_⟩) (by assumption) ?_
                      rotate_left
                      · intro w0 hSw; (try dsimp only at hSw); first | (go_simp; done) | (go_simp; with_reducible rfl)
                      try simp only [Act.put, List.setIfInBounds_toArray, List.set_cons_zero, List.set_cons_succ]
                      refine wpAnyH_take (i := 19) (v := ?_) rfl (by kernel_rfl) (by kernel_rfl) (by kernel_rfl) (fun _ _ _ h => h) (Or.inl ⟨by rfl, ?_⟩) (by assumption) ?_
                      rotate_left
                      · intro w0 hSw; (try dsimp only at hSw); first | (go_simp; done) | (go_simp; with_reducible rfl)
                      try simp only [Act.put, List.setIfInBounds_toArray, List.set_cons_zero, List.set_cons_succ]
                      refine wpAnyH_ready (rs := [20]) (by kernel_rfl) (by simp) ?_
                      refine AllReadyH.cons rfl (fun K hK => ?_) ?_
                      · go_simp
                        go_wp2_with ((go_at_call 10; (with_reducible refine (HAW.out _ ?_).mono ?_); (first | exact HC.out | exact below_drew HC.out | exact HC.out.alloc HC.out.size _ | exact below_drew (HC.out.alloc HC.out.size _)); rintro e w13 ⟨rfl, hb13⟩; have HC := Lib.hid hb13; clear hb13))
                        refine hK.out _ _ (by (try dsimp only); (first | exact HSB.out _ HC.out | exact HSB.out _ (below_drew HC.out) | exact HSB.out _ (HC.out.alloc HC.out.size _) | exact HSB.out _ (below_drew (HC.out.alloc HC.out.size _)))) (fun hHeld => ?_)
                        clear hK K
                        refine wpAnyH_take (i := 21) (v := ?_) rfl (by kernel_rfl) (by kernel_rfl) (by kernel_rfl) (fun _ _ _ h => h) (Or.inl ⟨by rfl, ?_⟩) (by assumption) ?_
                        rotate_left
                        · intro w0 hSw; (try dsimp only at hSw); first | (go_simp; done) | (go_simp; with_reducible rfl)
                        try simp only [Act.put, List.setIfInBounds_toArray, List.set_cons_zero, List.set_cons_succ]
                        refine wpAnyH_ready (rs := [22]) (by kernel_rfl) (by simp) ?_
                        refine AllReadyH.cons rfl (fun K hK => ?_) ?_
                        · go_simp
                          refine hK.out _ _ (by (try dsimp only); (first | exact HSB.out _ HC.out | exact HSB.out _ (below_drew HC.out) | exact HSB.out _ (HC.out.alloc HC.out.size _) | exact HSB.out _ (below_drew (HC.out.alloc HC.out.size _)))) (fun hHeld => ?_)
                          clear hK K
                          refine wpAnyH_done (by kernel_rfl) ?_ _
                          go_wp2_with fail
                          go_ret
                          exact ⟨rfl, HW.out.trans (HC.out.mono HW.out.size)⟩
                        exact AllReadyH.nil
                      exact AllReadyH.nil
                    exact AllReadyH.nil
                  exact AllReadyH.nil
                exact AllReadyH.nil
              refine AllReadyH.cons rfl (fun K hK => ?_) ?_
              · go_simp
                refine hK.out _ _ (by (try dsimp only); (first | exact HSB.out _ HC.out | exact HSB.out _ (below_drew HC.out) | exact HSB.out _ (HC.out.alloc HC.out.size _) | exact HSB.out _ (below_drew (HC.out.alloc HC.out.size _)))) (fun hHeld => ?_)
                clear hK K
                refine wpAnyH_ready (rs := [11]) (by kernel_rfl) (by simp) ?_
                refine AllReadyH.cons rfl (fun K hK => ?_) ?_
                · go_simp
                  go_wp2_with ((go_at_call 13; (with_reducible refine (HP.out _ ?_).mono ?_); (first | exact HC.out | exact below_drew HC.out | exact HC.out.alloc HC.out.size _ | exact below_drew (HC.out.alloc HC.out.size _)); rintro e w10 ⟨rfl, hb10, hd10⟩; have HC := Lib.hid hb10; have HD10 := Lib.hid hd10; clear hb10 hd10))
                  refine hK.out _ _ (by (try dsimp only); (first | exact HSB.out _ HC.out | exact HSB.out _ (below_drew HC.out) | exact HSB.out _ (HC.out.alloc HC.out.size _) | exact HSB.out _ (below_drew (HC.out.alloc HC.out.size _)))) (fun hHeld => ?_)
                  clear hK K
                  refine wpAnyH_ready (rs := [16]) (by kernel_rfl) (by simp) ?_
                  refine AllReadyH.cons rfl (fun K hK => ?_) ?_
                  · go_simp
                    go_wp2_with ((go_at_call 12; (with_reducible refine (HRJ2.out _ _ ?_ ?_).mono ?_); (first | exact HC.out | exact below_drew HC.out | exact HC.out.alloc HC.out.size _ | exact below_drew (HC.out.alloc HC.out.size _)); (first | exact heap_alloc_new _ _ | exact (HD10.out.block _ (by simp)).trans (heap_alloc_new _ _)); rintro e w11 ⟨af11, cf11, rfl, hr11, hb11⟩; have HR11 := Lib.hid hr11; have HC := Lib.hid hb11; clear hr11 hb11))
                    refine hK.out _ _ (by (try dsimp only); (first | exact HSB.out _ HC.out | exact HSB.out _ (below_drew HC.out) | exact HSB.out _ (HC.out.alloc HC.out.size _) | exact HSB.out _ (below_drew (HC.out.alloc HC.out.size _)))) (fun hHeld => ?_)
                    clear hK K
                    refine wpAnyH_ready (rs := [17]) (by kernel_rfl) (by simp) ?_
                    refine AllReadyH.cons rfl (fun K hK => ?_) ?_
                    · go_simp
                      go_wp2_with ((go_at_call 7; (with_reducible refine (HSM2.out _ _ _ HR11.out HC.out).mono ?_); rintro e w12 ⟨rfl, hb12⟩; have HC := Lib.hid hb12; clear hb12))
                      refine hK.out _ _ (by (try dsimp only); (first | exact HSB.out _ HC.out | exact HSB.out _ (below_drew HC.out) | exact HSB.out _ (HC.out.alloc HC.out.size _) | exact HSB.out _ (below_drew (HC.out.alloc HC.out.size _)))) (fun hHeld => ?_)
                      clear hK K
                      refine wpAnyH_take (i := 18) (v := ?_) rfl (by kernel_rfl) (by kernel_rfl) (by kernel_rfl) (fun _ _ _ h => h) (Or.inl ⟨by rfl, ?_⟩) (by assumption) ?_
                      rotate_left
                      · intro w0 hSw; (try dsimp only at hSw); first | (go_simp; done) | (go_simp; with_reducible rfl)
                      try simp only [Act.put, List.setIfInBounds_toArray, List.set_cons_zero, List.set_cons_succ]
                      refine wpAnyH_take (i := 19) (v := ?_) rfl (by kernel_rfl) (by kernel_rfl) (by kernel_rfl) (fun _ _ _ h => h) (Or.inl ⟨by rfl, ?_⟩) (by assumption) ?_
                      rotate_left
                      · intro w0 hSw; (try dsimp only at hSw); first | (go_simp; done) | (go_simp; with_reducible rfl)
                      try simp only [Act.put, List.setIfInBounds_toArray, List.set_cons_zero, List.set_cons_succ]
                      refine wpAnyH_ready (rs := [20]) (by kernel_rfl) (by simp) ?_
                      refine AllReadyH.cons rfl (fun K hK => ?_) ?_
                      · go_simp
                        go_wp2_with ((go_at_call 10; (with_reducible refine (HAW.out _ ?_).mono ?_); (first | exact HC.out | exact below_drew HC.out | exact HC.out.alloc HC.out.size _ | exact below_drew (HC.out.alloc HC.out.size _)); rintro e w13 ⟨rfl, hb13⟩; have HC := Lib.hid hb13; clear hb13))
                        refine hK.out _ _ (by (try dsimp only); (first | exact HSB.out _ HC.out | exact HSB.out _ (below_drew HC.out) | exact HSB.out _ (HC.out.alloc HC.out.size _) | exact HSB.out _ (below_drew (HC.out.alloc HC.out.size _)))) (fun hHeld => ?_)
                        clear hK K
                        refine wpAnyH_take (i := 21) (v := ?_) rfl (by kernel_rfl) (by kernel_rfl) (by kernel_rfl) (fun _ _ _ h => h) (Or.inl ⟨by rfl, ?_⟩) (by assumption) ?_
                        rotate_left
                        · intro w0 hSw; (try dsimp only at hSw); first | (go_simp; done) | (go_simp; with_reducible rfl)
                        try simp only [Act.put, List.setIfInBounds_toArray, List.set_cons_zero, List.set_cons_succ]
                        refine wpAnyH_ready (rs := [22]) (by kernel_rfl) (by simp) ?_
                        refine AllReadyH.cons rfl (fun K hK => ?_) ?_
                        · go_simp
                          refine hK.out _ _ (by (try dsimp only); (first | exact HSB.out _ HC.out | exact HSB.out _ (below_drew HC.out) | exact HSB.out _ (HC.out.alloc HC.out.size _) | exact HSB.out _ (below_drew (HC.out.alloc HC.out.size _)))) (fun hHeld => ?_)
                          clear hK K
                          refine wpAnyH_done (by kernel_rfl) ?_ _
                          go_wp2_with fail
                          go_ret
                          exact ⟨rfl, HW.out.trans (HC.out.mono HW.out.size)⟩
                        exact AllReadyH.nil
                      exact AllReadyH.nil
                    exact AllReadyH.nil
                  exact AllReadyH.nil
                exact AllReadyH.nil
              exact AllReadyH.nil
            exact AllReadyH.nil
          exact AllReadyH.nil
        exact AllReadyH.nil
end Go.Proofs.YtfjedbfghcdbdaaDoor
