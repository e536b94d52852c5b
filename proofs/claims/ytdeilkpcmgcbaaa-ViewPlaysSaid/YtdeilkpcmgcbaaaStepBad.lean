/- Law 9's step: Put of what may not be, or is there. -/
import Derived.Test.YtdeilkpcmgcbaaaRowStep
namespace Go.Proofs.Ytdeilkpcmgcbaaa
open Go.RowKit Go.Maps

set_option linter.unusedSimpArgs false in
set_option maxRecDepth 100000 in
set_option maxHeartbeats 25600000 in
theorem step_bad {w0 w : World} {pv lv : Value} {b N : Nat} {rs : List PRow} {o : PCall} (hL : LSt w0 w pv b N lv rs) (ho : CallIn w o) (hk : ¬ o.kind = 2) (hbad : outOk o.row.out.m o.row.out.ws = false ∨ o.row.height < 0 ∨ 1073741824 < o.row.height) :
    Calls Try.prog 8 #[pv, lv, .agg o.cells.toArray] w fun e w' => StepOut w0 w pv b N e w' := by
  obtain ⟨a, c, rfl, hs, _⟩ := hL.list.it
  obtain ⟨kind, ⟨s, p, ⟨m, ao, no, co, xs⟩, ht⟩⟩ := o
  dsimp only at *
  obtain ⟨n, hn⟩ : ∃ n, n = rs.length := ⟨_, rfl⟩
  rw [← hn] at hs ⊢
  have hn63 := hs.len63
  have hnc : n ≤ c := hs.2.1
  have hc63 : (c : Int) ≤ 9223372036854775807 := by have h2 := hs.2.2.1; unfold maxLen at h2; omega
  have htx : s.length = 32 := ho.row.tx
  have HN := Lib.hid hn
  have HS := Lib.hid hs
  have HO := Lib.hid ho
  have HTX := Lib.hid htx
  have SR := Lib.hid (refSize (z := p) htx)
  obtain ⟨R, hR⟩ : ∃ R, R = findIx s p rs 0 := ⟨_, rfl⟩
  have HFIND : Hid (∀ W : World, Below w.heap.size w W → Calls Try.prog 22 #[.slice a n c, .agg (refCells s p).toArray] W fun e w' => e = .returned (.int .i64 R) ∧ Below W.heap.size W w') := Lib.hid (fun W hW => by
    have h9 := find_law (p := p) (HS.out.below hW) HTX.out
    rw [← hR] at h9
    exact h9)
  have HPUT : Hid (∀ W : World, Below w.heap.size w W → Calls Try.prog 16 #[pv, .agg (refCells s p).toArray, .agg #[.int .i64 m, .slice ao no co], .int .i64 ht] W fun e w' => e = .returned (.int .i64 1) ∧ Below W.heap.size W w') := Lib.hid (fun W hW => put_bad (hL.view.below hW).hasIt (ho.row.out.ws.below hW) (.inr hbad))
  obtain ⟨ok, hok⟩ : ∃ k, k = outOk m xs := ⟨_, rfl⟩
  have HRIGHT : Hid (∀ W : World, Below w.heap.size w W → Calls Try.prog 24 #[.agg #[.int .i64 m, .slice ao no co]] W fun e w' => e = .returned (.bool ok) ∧ Below W.heap.size W w') := Lib.hid (fun W hW => by
    rw [hok]
    exact lockRightOut_any (HO.out.row.out.ws.below hW))
  have HOUT : Hid (∀ W : World, Below w.heap.size w W → StepOut w0 w pv b N (.returned (.tuple #[.slice a n c, .bool true])) W) := Lib.hid (fun W hW => by
    have h9 := StepOut.same hL hW
    rw [← HN.out] at h9
    exact h9)
  rw [← hok] at hbad
  clear hL hs ho htx hn hR hok
  go_enter Try.func8, Try.ntmps8
  go_upto_region 1 with (fail)
  have b1 : Below w.heap.size w (w.alloc (.cells (PCall.cells ⟨kind, ⟨s, p, ⟨m, ao, no, co, xs⟩, ht⟩⟩).toArray 34)) := (Below.refl _ _).alloc (Nat.le_refl _) _
  have h1 := callAt_row HTX.out (heap_alloc_new w (.cells (PCall.cells ⟨kind, ⟨s, p, ⟨m, ao, no, co, xs⟩, ht⟩⟩).toArray 34))
  revert b1 h1
  generalize (w.alloc (.cells (PCall.cells ⟨kind, ⟨s, p, ⟨m, ao, no, co, xs⟩, ht⟩⟩).toArray 34)) = w1
  obtain ⟨g5, hg5⟩ : ∃ g, g = w.heap.size := ⟨_, rfl⟩
  rw [← hg5]
  intro b1 h1
  have HG5 : Hid (w.heap.size ≤ g5) := Lib.hid (by omega)
  rw [hg5] at b1
  have HB1 := Lib.hid b1
  have HC1 := Lib.hid h1
  have hk1 := h1.kind
  clear b1 h1 hg5
  go_upto_region 14 with (go_big_may; first
    | (refine wpList_load_mid rfl 32 _ rfl g5 1 rfl (refCells s p) _ HC1.out.ref Try.underlying32 rfl SR.out ?_)
    | (go_at_call 22; refine (HFIND.out w1 HB1.out).mono ?_; rintro e w2 ⟨rfl, hb2⟩; have HB2 := Lib.hid (HB1.out.trans (hb2.mono HB1.out.size)); have HC2 := Lib.hid (HC1.out.below hb2); have hk2 := HC2.out.kind; have ho2 := HC2.out.height; clear hb2 HFIND)
    | (refine wpList_load_mid rfl 32 _ rfl g5 1 rfl (refCells s p) _ HC2.out.ref Try.underlying32 rfl SR.out ?_)
    | (refine wpList_load_mid rfl 28 _ rfl g5 34 rfl [.int .i64 m, .slice ao no co] _ HC2.out.out Try.underlying28 rfl (by kernel_rfl) ?_)
    | (go_at_call 16; refine (HPUT.out w2 HB2.out).mono ?_; rintro e w3 ⟨rfl, hb3⟩; have HB3 := Lib.hid (HB2.out.trans (hb3.mono HB2.out.size)); have HC3 := Lib.hid (HC2.out.below hb3); have ho3 := HC3.out.height; clear hb3 HPUT)
    | fail)
  have hbad' : ok = false ∨ (ok = true ∧ ht < 0) ∨ (ok = true ∧ ¬ ht < 0 ∧ ht > 1073741824) := by
    cases ok
    · exact .inl rfl
    · rcases hbad with h | h | h
      · cases h
      · exact .inr (.inl ⟨rfl, h⟩)
      · by_cases h9 : ht < 0
        · exact .inr (.inl ⟨rfl, h9⟩)
        · exact .inr (.inr ⟨rfl, h9, h⟩)
  clear hbad HB1 HB2 HC1 HC2 hk1 hk2 ho2
  rcases hbad' with rfl | ⟨rfl, f1⟩ | ⟨rfl, f1, f2⟩
  · go_wp2_with (first
      | (refine wpList_load_mid rfl 28 _ rfl g5 34 rfl [.int .i64 m, .slice ao no co] _ HC3.out.out Try.underlying28 rfl (by kernel_rfl) ?_)
      | (go_at_call 24; refine (HRIGHT.out w3 HB3.out).mono ?_; rintro e w4 ⟨rfl, hb4⟩; have HB4 := Lib.hid (HB3.out.trans (hb4.mono HB3.out.size)); have ho4 := (HC3.out.below hb4).height; clear hb4 HRIGHT)
      | fail)
    go_ret2
    exact HOUT.out _ HB4.out
  · go_wp2_with (first
      | (refine wpList_load_mid rfl 28 _ rfl g5 34 rfl [.int .i64 m, .slice ao no co] _ HC3.out.out Try.underlying28 rfl (by kernel_rfl) ?_)
      | (go_at_call 24; refine (HRIGHT.out w3 HB3.out).mono ?_; rintro e w4 ⟨rfl, hb4⟩; have HB4 := Lib.hid (HB3.out.trans (hb4.mono HB3.out.size)); have ho4 := (HC3.out.below hb4).height; clear hb4 HRIGHT)
      | fail)
    go_ret2
    exact HOUT.out _ HB4.out
  · go_wp2_with (first
      | (refine wpList_load_mid rfl 28 _ rfl g5 34 rfl [.int .i64 m, .slice ao no co] _ HC3.out.out Try.underlying28 rfl (by kernel_rfl) ?_)
      | (go_at_call 24; refine (HRIGHT.out w3 HB3.out).mono ?_; rintro e w4 ⟨rfl, hb4⟩; have HB4 := Lib.hid (HB3.out.trans (hb4.mono HB3.out.size)); have ho4 := (HC3.out.below hb4).height; clear hb4 HRIGHT)
      | fail)
    go_ret2
    exact HOUT.out _ HB4.out
set_option linter.unusedSimpArgs false in
set_option maxRecDepth 100000 in
set_option maxHeartbeats 25600000 in
theorem step_twice {w0 w : World} {pv lv : Value} {b N k : Nat} {rs : List PRow} {o : PCall} (hL : LSt w0 w pv b N lv rs) (ho : CallIn w o) (hk : ¬ o.kind = 2) (hok : outOk o.row.out.m o.row.out.ws = true) (f1 : ¬ o.row.height < 0) (f2 : ¬ o.row.height > 1073741824) (hkl : k < rs.length) (hfi : findIx o.row.tx o.row.place rs 0 = (k : Int)) (ht1 : rs[k].tx = o.row.tx) (ht2 : rs[k].place = o.row.place) :
    Calls Try.prog 8 #[pv, lv, .agg o.cells.toArray] w fun e w' => StepOut w0 w pv b N e w' := by
  obtain ⟨a, c, rfl, hs, _⟩ := hL.list.it
  obtain ⟨kind, ⟨s, p, ⟨m, ao, no, co, xs⟩, ht⟩⟩ := o
  dsimp only at *
  obtain ⟨n, hn⟩ : ∃ n, n = rs.length := ⟨_, rfl⟩
  rw [← hn] at hs ⊢
  have hn63 := hs.len63
  have hnc : n ≤ c := hs.2.1
  have hc63 : (c : Int) ≤ 9223372036854775807 := by have h2 := hs.2.2.1; unfold maxLen at h2; omega
  have htx : s.length = 32 := ho.row.tx
  have HN := Lib.hid hn
  have HS := Lib.hid hs
  have HO := Lib.hid ho
  have HTX := Lib.hid htx
  have SR := Lib.hid (refSize (z := p) htx)
  have HFIND : Hid (∀ W : World, Below w.heap.size w W → Calls Try.prog 22 #[.slice a n c, .agg (refCells s p).toArray] W fun e w' => e = .returned (.int .i64 (k : Int)) ∧ Below W.heap.size W w') := Lib.hid (fun W hW => by
    have h9 := find_law (p := p) (HS.out.below hW) HTX.out
    rw [hfi] at h9
    exact h9)
  have HPUT : Hid (∀ W : World, Below w.heap.size w W → Calls Try.prog 16 #[pv, .agg (refCells s p).toArray, .agg #[.int .i64 m, .slice ao no co], .int .i64 ht] W fun e w' => e = .returned (.int .i64 8) ∧ Below W.heap.size W w') := Lib.hid (fun W hW => by
    have h9 := put_twice (ht := ht) (hL.view.below hW) (List.getElem_mem hkl) (ho.row.out.ws.below hW) hok (by omega) (by omega)
    rw [ht1, ht2] at h9
    exact h9)
  have HRIGHT : Hid (∀ W : World, Below w.heap.size w W → Calls Try.prog 24 #[.agg #[.int .i64 m, .slice ao no co]] W fun e w' => e = .returned (.bool true) ∧ Below W.heap.size W w') := Lib.hid (fun W hW => by
    rw [← hok]
    exact lockRightOut_any (HO.out.row.out.ws.below hW))
  have HOUT : Hid (∀ W : World, Below w.heap.size w W → StepOut w0 w pv b N (.returned (.tuple #[.slice a n c, .bool true])) W) := Lib.hid (fun W hW => by
    have h9 := StepOut.same hL hW
    rw [← HN.out] at h9
    exact h9)
  have f3 : (k : Int) ≥ 0 := by omega
  clear hL hs ho htx hn hok hfi ht1 ht2 hkl
  go_enter Try.func8, Try.ntmps8
  go_upto_region 1 with (fail)
  have b1 : Below w.heap.size w (w.alloc (.cells (PCall.cells ⟨kind, ⟨s, p, ⟨m, ao, no, co, xs⟩, ht⟩⟩).toArray 34)) := (Below.refl _ _).alloc (Nat.le_refl _) _
  have h1 := callAt_row HTX.out (heap_alloc_new w (.cells (PCall.cells ⟨kind, ⟨s, p, ⟨m, ao, no, co, xs⟩, ht⟩⟩).toArray 34))
  revert b1 h1
  generalize (w.alloc (.cells (PCall.cells ⟨kind, ⟨s, p, ⟨m, ao, no, co, xs⟩, ht⟩⟩).toArray 34)) = w1
  obtain ⟨g5, hg5⟩ : ∃ g, g = w.heap.size := ⟨_, rfl⟩
  rw [← hg5]
  intro b1 h1
  have HG5 : Hid (w.heap.size ≤ g5) := Lib.hid (by omega)
  rw [hg5] at b1
  have HB1 := Lib.hid b1
  have HC1 := Lib.hid h1
  have hk1 := h1.kind
  clear b1 h1 hg5
  go_wp2_with (first
    | (refine wpList_load_mid rfl 32 _ rfl g5 1 rfl (refCells s p) _ HC1.out.ref Try.underlying32 rfl SR.out ?_)
    | (go_at_call 22; refine (HFIND.out w1 HB1.out).mono ?_; rintro e w2 ⟨rfl, hb2⟩; have HB2 := Lib.hid (HB1.out.trans (hb2.mono HB1.out.size)); have HC2 := Lib.hid (HC1.out.below hb2); have hk2 := HC2.out.kind; have ho2 := HC2.out.height; clear hb2 HFIND)
    | (refine wpList_load_mid rfl 32 _ rfl g5 1 rfl (refCells s p) _ HC2.out.ref Try.underlying32 rfl SR.out ?_)
    | (refine wpList_load_mid rfl 28 _ rfl g5 34 rfl [.int .i64 m, .slice ao no co] _ HC2.out.out Try.underlying28 rfl (by kernel_rfl) ?_)
    | (go_at_call 16; refine (HPUT.out w2 HB2.out).mono ?_; rintro e w3 ⟨rfl, hb3⟩; have HB3 := Lib.hid (HB2.out.trans (hb3.mono HB2.out.size)); have HC3 := Lib.hid (HC2.out.below hb3); have ho3 := HC3.out.height; clear hb3 HPUT)
    | (refine wpList_load_mid rfl 28 _ rfl g5 34 rfl [.int .i64 m, .slice ao no co] _ HC3.out.out Try.underlying28 rfl (by kernel_rfl) ?_)
    | (go_at_call 24; refine (HRIGHT.out w3 HB3.out).mono ?_; rintro e w4 ⟨rfl, hb4⟩; have HB4 := Lib.hid (HB3.out.trans (hb4.mono HB3.out.size)); have ho4 := (HC3.out.below hb4).height; clear hb4 HRIGHT)
    | fail)
  go_ret2
  exact HOUT.out _ HB4.out
end Go.Proofs.Ytdeilkpcmgcbaaa
