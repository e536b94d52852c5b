/- What Pair comes to: the sum of two sums under a tag. -/
import Derived.Test.YtmbfpopfabjodaaDoorJoin
import Derived.Deep.RegionHeld
namespace Go.Proofs.YtmbfpopfabjodaaDoor
open Go.RowKit

theorem there_of {w : World} {b n : Nat} {cs : List Value} {t : TypeId} (h : w.heap[b]? = some (.cells cs.toArray t (0, 0))) (hn : cs.length = n) : w.there b 0 n := fun j hj => by
  rw [Nat.zero_add, cell_of_row w b j _ t _ h]
  refine ⟨?_, frozen_of_row w b j _ t h⟩
  simp [show j < cs.length by omega]
theorem range_of {w : World} {b : Nat} {cs : List Value} {t : TypeId} {fr : Nat × Nat} (h : w.heap[b]? = some (.cells cs.toArray t fr)) : w.rangeAt b 0 cs := fun j v hv => by
  rw [Nat.zero_add, cell_of_row w b j _ t fr h]
  simpa using hv
theorem below_setCells {B b : Nat} {w0 : World} (hB : B ≤ b) : ∀ (vs : List Value) (o : Nat) (w : World), Below B w0 w → Below B w0 (w.setCells b o vs)
  | [], _, _, h => h
  | v :: vs, o, w, h => below_setCells hB vs (o + 1) (w.setCell ⟨b, o, none⟩ v) (h.setCell hB v)
/-- A result that lies in a block, told by its cells. -/
theorem results_cell_range {P : Program} {fn : Func} {p : Tmp} {ty : TypeId} (h : fn.results = #[.cell p ty]) (tmps : Array Value) (w : World) (g : Nat) (cs : List Value) (d : TypeDesc)
    (hp : tmps.getD p undef = .pointer (some ⟨g, 0, none⟩)) (hg : w.rangeAt g 0 cs)
    (hu : P.underlying ty = some d) (hd : d.isRow = true) (hi : (P.info? ty).map (·.size) = some cs.length) :
    (results fn tmps).run P w = .ok (.agg cs.toArray) w := by
  have hp' : tmps[p]?.getD undef = .pointer (some ⟨g, 0, none⟩) := by simpa using hp
  simp [results, h, hp', asAddr, run_loadVar_mid w g 0 ty cs d hg hu hd hi]
theorem below_drew {B : Nat} {w w' : World} (h : Below B w w') : Below B w w'.drew := ⟨h.os, h.tape, h.output, h.size, h.block⟩
theorem rows2_at {w : World} {g : Nat} {a1 a2 : Option Addr} {n1 c1 n2 c2 : Nat} {l1 l2 : List UInt8} {t : TypeId} {fr : Nat × Nat} (hg : w.heap[g]? = some (.cells #[.slice a1 n1 c1, .slice a2 n2 c2] t fr)) (h1 : Row w a1 n1 c1 l1) (h2 : Row w a2 n2 c2 l2) : Rows2 w (some ⟨g, 0, none⟩) 2 2 [l1, l2] := by
  refine ⟨rfl, Nat.le_refl _, by unfold maxLen; omega, (fun e => by cases e), fun _ => ⟨g, 0, rfl, lt_of_block hg, fun j hj => ?_⟩⟩
  rcases (show j = 0 ∨ j = 1 by omega) with rfl | rfl
  · exact ⟨a1, n1, c1, by rw [cell_of_row _ _ _ _ _ _ hg]; rfl, h1⟩
  · exact ⟨a2, n2, c2, by rw [cell_of_row _ _ _ _ _ _ hg]; rfl, h2⟩

set_option maxRecDepth 100000 in
set_option maxHeartbeats 1600000 in
theorem pair_any {w : World} {sa sb : List UInt8} (tag : UInt8) (T : Nat) (hT : tag.toNat = T) (ha : sa.length = 32) (hb : sb.length = 32) (hk : KsAt w) :
    Calls Tryd.prog 22 #[.int .u8 (T : Int), .agg (cellsOf sa).toArray, .agg (cellsOf sb).toArray] w fun e w' => e = .returned (.agg (cellsOf (sumOf (partsOf tag [sa, sb]))).toArray) ∧ Below w.heap.size w w' := by
  have HK := Lib.hid hk
  have HT := Lib.hid hT
  have HA := Lib.hid ha
  have HB := Lib.hid hb
  have hu := Tryd.underlying24
  clear hk hT ha hb
  go_enter Tryd.func22, Tryd.ntmps22
  go_wp2_with fail
  rw [← zero32_is]
  have b1 : Below w.heap.size w (((w.alloc (.cells (cellsOf sa).toArray 24)).alloc (.cells (cellsOf sb).toArray 24)).alloc (.cells (cellsOf zero32).toArray 24)) := (((Below.refl _ _).alloc (Nat.le_refl _) _).alloc (by simp) _).alloc (by simp; omega) _
  have h1 : (((w.alloc (.cells (cellsOf sa).toArray 24)).alloc (.cells (cellsOf sb).toArray 24)).alloc (.cells (cellsOf zero32).toArray 24)).heap[w.heap.size]? = some (.cells (cellsOf sa).toArray 24 (0, 0)) := by
    rw [heap_alloc_old _ _ (by simp; omega), heap_alloc_old _ _ (by simp), heap_alloc_new]
  have h2 : (((w.alloc (.cells (cellsOf sa).toArray 24)).alloc (.cells (cellsOf sb).toArray 24)).alloc (.cells (cellsOf zero32).toArray 24)).heap[w.heap.size + 1]? = some (.cells (cellsOf sb).toArray 24 (0, 0)) := by
    rw [heap_alloc_old _ _ (by simp)]
    exact heap_alloc_at _ _ _ (by simp)
  have h3 : (((w.alloc (.cells (cellsOf sa).toArray 24)).alloc (.cells (cellsOf sb).toArray 24)).alloc (.cells (cellsOf zero32).toArray 24)).heap[w.heap.size + 1 + 1]? = some (.cells (cellsOf zero32).toArray 24 (0, 0)) := heap_alloc_at _ _ _ (by simp)
  revert b1 h1 h2 h3
  generalize (((w.alloc (.cells (cellsOf sa).toArray 24)).alloc (.cells (cellsOf sb).toArray 24)).alloc (.cells (cellsOf zero32).toArray 24)) = w3
  obtain ⟨g, hg⟩ : ∃ g, g = w.heap.size := ⟨_, rfl⟩
  rw [← hg]
  intro b1 h1 h2 h3
  rw [hg] at b1
  have HG := Lib.hid hg
  have HB1 := Lib.hid b1
  have H1 := Lib.hid h1
  have H2 := Lib.hid h2
  have H3 := Lib.hid h3
  obtain ⟨cs, hcs⟩ : ∃ cs, cs = cellsOf (sumOf (partsOf tag [sa, sb])) := ⟨_, rfl⟩
  have hcl : cs.length = 32 := by rw [hcs, cellsOf_len]; exact sumOf_len _
  have hone : ∀ v ∈ cs, v.oneCell' = true := by rw [hcs]; exact cellsOf_one _
  have hsz : (Tryd.prog.info? 24).map (·.size) = some cs.length := by rw [hcl]; exact Tryd.size24
  have HCS := Lib.hid hcs
  have HSZ := Lib.hid hsz
  have HJ : Hid (∀ (W : World) (gg : Nat), Below w3.heap.size w3 W → W.heap[gg]? = some (.cells #[.slice (some ⟨g, 0, none⟩) 32 32, .slice (some ⟨g + 1, 0, none⟩) 32 32] 43 (0, 0)) → Calls Tryd.prog 21 #[.int .u8 (T : Int), .slice (some ⟨gg, 0, none⟩) 2 2] W fun e w' => e = .returned (.agg cs.toArray) ∧ Below w3.heap.size w3 w') := Lib.hid (fun W gg hb hgg => by
    have r1 : Row W (some ⟨g, 0, none⟩) 32 32 sa := row_all ((hb.block _ (lt_of_block H1.out)).trans H1.out) 32 HA.out.symm (by omega)
    have r2 : Row W (some ⟨g + 1, 0, none⟩) 32 32 sb := row_all ((hb.block _ (lt_of_block H2.out)).trans H2.out) 32 HB.out.symm (by omega)
    have hlen : (partsOf tag [sa, sb]).length ≤ 1125899906842624 := by
      unfold partsOf partOf
      simp only [List.flatMap_cons, List.flatMap_nil, List.length_cons, List.length_append, four_len, List.length_nil, HA.out, HB.out]
      omega
    refine (join_any tag T HT.out (rows2_at hgg r1 r2) ((HK.out.below HB1.out).below hb) hlen).mono fun e w' ⟨e1, e2⟩ => ⟨by rw [e1, hcs], hb.trans (e2.mono hb.size)⟩)
  have ht3 : w3.drew.there (g + 1 + 1) 0 32 := there_of (w := w3.drew) h3 rfl
  have ht4 : ∀ w' : World, Below w3.heap.size w3 w' → w'.there (g + 1 + 1) 0 32 := fun w' hb => there_of ((hb.block _ (lt_of_block h3)).trans h3) rfl
  have HT4 := Lib.hid ht4
  clear b1 h1 h2 h3 hg hcs ht4 hsz
  have hsz := HSZ.out
  go_region_held (fun w' => w'.there (g + 1 + 1) 0 32)
    (first | exact ht3 | exact ht5 | go_keep_ranges)
    ((go_at_call 21; (with_reducible refine (HJ.out _ _ ?_ ?_).mono ?_); (exact below_drew ((Below.refl _ _).alloc (Nat.le_refl _) _)); (exact heap_alloc_new _ _); rintro e w5 ⟨rfl, hb5⟩; have ht5 := HT4.out w5 hb5; have HB5 := Lib.hid hb5; clear hb5))
  all_goals
    go_wp2_with fail
    have hbe : Below w.heap.size w (w5.setCells (g + 1 + 1) 0 cs) := below_setCells (by rw [HG.out]; omega) cs 0 w5 (HB1.out.trans (HB5.out.mono HB1.out.size))
    refine bodyPost_ret (results_cell_range rfl _ _ (g + 1 + 1) cs _ rfl ?_ Tryd.underlying24 rfl HSZ.out) rfl ⟨by rw [HCS.out], hbe⟩
    exact World.rangeAt_setCells_same w5 (g + 1 + 1) 0 cs (by rw [hcl]; exact ht5)
end Go.Proofs.YtmbfpopfabjodaaDoor
