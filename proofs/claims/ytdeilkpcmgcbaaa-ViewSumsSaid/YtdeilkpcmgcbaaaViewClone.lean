/- view.Clone: a view of its own that is alike. -/
import Derived.Test.YtdeilkpcmgcbaaaViewTotal
import Derived.Shelf.SlMaps.Clone
namespace Go.Proofs.Ytdeilkpcmgcbaaa
open Go.RowKit Go.Maps

theorem cloneMap_any {w : World} {b N n : Nat} {F : List UInt8 → Int → Option Value} (h : MapRef w b N n F) :
    Calls Try.prog 21 #[.map (some b)] w fun e w' => e = .returned (.map (some w.heap.size)) ∧ MapRef w' w.heap.size N n F ∧ Below w.heap.size w w' := by
  obtain ⟨D, h1, h2, h3⟩ := h
  have h9 := AnyW.maps_Clone_owns Try.laysMap 32 heldR b N D w h1
  refine Calls.mono (R := fun e w' => e = .returned (.map (some w.heap.size)) ∧ w'.ownsMap Try.prog 32 heldR w.heap.size N D ∧ w'.ownsMap Try.prog 32 heldR b N D ∧ Below w.heap.size w w') h9 ?_
  rintro e w' ⟨rfl, k1, _, k3⟩
  exact ⟨rfl, ⟨D, k1, h2, h3⟩, k3⟩
set_option linter.unusedSimpArgs false in
set_option maxRecDepth 100000 in
set_option maxHeartbeats 12800000 in
theorem viewClone_any {w : World} {pv : Value} {b N : Nat} {rows : List PRow} (h : ViewAt w pv b N rows) :
    Calls Try.prog 7 #[pv] w fun e w' => ∃ vb, e = .returned (.pointer (some ⟨vb, 0, none⟩)) ∧ ViewAt w' (.pointer (some ⟨vb, 0, none⟩)) w.heap.size N rows ∧ Below w.heap.size w w' := by
  have HV := Lib.hid h.hasIt
  have HH := Lib.hid h
  obtain ⟨F, hm, hF⟩ := h.map
  have HC := Lib.hid (cloneMap_any hm)
  have HF := Lib.hid hF
  have hq := fun w => run_eql_map_nil_sl (P := Try.prog) w 49 _ _ (some b) Try.underlying49
  clear h hm hF
  go_enter Try.func7, Try.ntmps7
  go_wp2_with (first
    | (go_at_call 20; refine (has_any HV.out).mono ?_; rintro e w2 ⟨rfl, rfl⟩)
    | (go_at_call 21; refine HC.out.mono ?_; rintro e w3 ⟨rfl, hm3, hb3⟩; have HM3 := Lib.hid hm3; have HB3 := Lib.hid hb3; clear hm3 hb3)
    | fail)
  go_ret
  have hA : Below w3.heap.size w3 (w3.alloc (.cells #[.map (some w.heap.size)] 51)) := (Below.refl _ _).alloc (Nat.le_refl _) _
  have h9 := heap_alloc_new w3 (.cells #[.map (some w.heap.size)] 51)
  have hb9 := HB3.out.trans (hA.mono HB3.out.size)
  exact ⟨w3.heap.size, rfl, ⟨⟨w3.heap.size, rfl, h9⟩, HH.out.few, ⟨F, HM3.out.below hA, HF.out.1, fun r hr => by
    obtain ⟨v, k1, k2⟩ := HF.out.2 r hr
    exact ⟨v, k1, k2.below hb9⟩⟩, HH.out.rising, HH.out.ok⟩, hb9⟩
set_option linter.unusedSimpArgs false in
set_option maxRecDepth 100000 in
set_option maxHeartbeats 12800000 in
/-- Of a view that has no map: it itself. -/
theorem viewClone_nil {w : World} {pv : Value} (h : Has w pv none) :
    Calls Try.prog 7 #[pv] w fun e w' => e = .returned pv ∧ w = w' := by
  have HV := Lib.hid h
  have hq := fun w => run_eql_map_nil_sl (P := Try.prog) w 49 _ _ none Try.underlying49
  clear h
  go_enter Try.func7, Try.ntmps7
  go_wp2_with (first
    | (go_at_call 20; refine (has_any HV.out).mono ?_; rintro e w2 ⟨rfl, rfl⟩)
    | fail)
  go_ret
  exact ⟨rfl, rfl⟩
end Go.Proofs.Ytdeilkpcmgcbaaa
