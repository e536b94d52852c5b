/- view.Put. -/
import Derived.Test.YtdeilkpcmgcbaaaViewRows
namespace Go.Proofs.Ytdeilkpcmgcbaaa
open Go.RowKit Go.Maps

theorem step_mapUpdate9 {P : Program} {ops : Array Oper} {o : Oper} {a : Act} {w w' : World} {K : Act → World → Prop} {Q : Exit → Act → World → Prop} {E : Prop} {t : TypeId} {x y z : Operand} {m k v : Value} (hw : Region.wanted o (yielded ops a.tmps) = true) (ho : o.op = .mapUpdate t x y z) (hx : a.eval x = m) (hy : a.eval y = k) (hz : a.eval z = v) (hrun : (Instr.mapUpdate t m k v).run P w = .ok () w')
    (h : K (a.put o.dst undef) w') : if Region.wanted o (yielded ops a.tmps) = true then Oper.wp P o a w K Q else E := by
  rw [if_pos hw]
  unfold Oper.wp execOp
  simp only [ho, hx, hy, hz, Sem.run_bind, hrun, Sem.run_pure, Result.andThen_ok]
  exact h
theorem yields_build2 {P : Program} {ops : Array Oper} {S : World → Prop} {op : Oper} {a : Act} {t : TypeId} {x y : Operand} {u v : Value} {cells : Array Value} (hw : Region.wanted op (yielded ops a.tmps) = true) (ho : op.op = .build t #[(0, x), (1, y)]) (hx : a.eval x = u) (hy : a.eval y = v) (hf : P.built t [(0, u), (1, v)] = some cells) : YieldsIf P ops S op (.agg cells) a :=
  .inl ⟨hw, fun w _ => by
    have h := run_build w t #[(0, u), (1, v)] cells hf
    unfold execOp
    simp only [ho, List.map_toArray, List.map_cons, List.map_nil, hx, hy, Sem.run_bind, h, Result.andThen_ok, Sem.run_pure]⟩
theorem coin_built (m : Int) (a : Option Addr) (n c : Nat) (h : Int) : Try.prog.built 41 [(0, .agg #[.int .i64 m, .slice a n c]), (1, .int .i64 h)] = some #[.int .i64 m, .slice a n c, .int .i64 h] := by kernel_rfl
theorem but_grown9 {B b : Nat} {w w' : World} (h : w.grownBy w' (some b)) (hB : B ≤ w.heap.size) : But B b w w' := ⟨h.os, h.tape, h.output, h.size, fun k hk hp => h.block k (by omega) (fun e => hp (Option.some.inj e))⟩
/-- A row put in. -/
theorem view_put {w w7 w9 : World} {pv : Value} {b N : Nat} {rows : List PRow} {r : PRow} {v : Value} {F : List UInt8 → Int → Option Value} (h : ViewAt w pv b N rows) (hN : N + 1 ≤ 100) (hr : RowOk r) (hno : NoRow rows r.tx r.place) (hF : CoinsOf w rows F) (hC : CoinAt w7 r v) (hb : Below w.heap.size w w7)
    (hm : MapRef w9 b (N + 1) (rows.length + 1) (fun t q => if t = r.tx ∧ q = r.place then some v else F t q)) (hg : w7.grownBy w9 (some b)) : ViewAt w9 pv b (N + 1) (insRow r rows) := by
  have h7 := h.below hb
  obtain ⟨es, cl, hmap⟩ := h7.isMap
  have hbut : But w7.heap.size b w7 w9 := but_grown9 hg (Nat.le_refl _)
  obtain ⟨vb, e1, e2⟩ := h7.has
  refine ⟨⟨vb, e1, hbut.heap e2 (lt_of_block e2) (fun e => by rw [e, hmap] at e2; cases e2)⟩, hN, ⟨_, by rw [insRow_len]; exact hm, fun s p hs => ?_, fun x hx => ?_⟩, insRow_rising hr.tx h.rising hno, fun x hx => ?_⟩
  · have h1 := hs r (insRow_mem.2 (.inl rfl))
    rw [if_neg (fun e => h1 ⟨e.1.symm, e.2.symm⟩)]
    exact hF.1 s p (fun x hx => hs x (insRow_mem.2 (.inr hx)))
  · rcases insRow_mem.1 hx with rfl | hx
    · exact ⟨v, if_pos ⟨rfl, rfl⟩, hC.but hbut (noWays_map hmap)⟩
    · obtain ⟨u, h1, h2⟩ := hF.2 x hx
      exact ⟨u, by rw [if_neg (hno x hx)]; exact h1, (h2.below hb).but hbut (noWays_map hmap)⟩
  · rcases insRow_mem.1 hx with rfl | hx
    · exact hr
    · exact h.ok x hx
set_option linter.unusedSimpArgs false in
set_option maxRecDepth 100000 in
set_option maxHeartbeats 12800000 in
/-- What may not be. -/
theorem put_bad {w : World} {pv : Value} {mb : Option Nat} {s : List UInt8} {p m ht : Int} {a : Option Addr} {n c : Nat} {xs : List PWay} (hv : Has w pv mb) (hw : Ways w a n c xs) (hbad : mb = none ∨ outOk m xs = false ∨ ht < 0 ∨ 1073741824 < ht) :
    Calls Try.prog 16 #[pv, .agg (refCells s p).toArray, .agg #[.int .i64 m, .slice a n c], .int .i64 ht] w fun e w' => e = .returned (.int .i64 1) ∧ Below w.heap.size w w' := by
  have b2 : Below w.heap.size w ((w.alloc (.cells (refCells s p).toArray 32)).alloc (.cells #[.int .i64 m, .slice a n c] 28)) := ((Below.refl _ _).alloc (Nat.le_refl _) _).alloc (by simp) _
  have h1 : ((w.alloc (.cells (refCells s p).toArray 32)).alloc (.cells #[.int .i64 m, .slice a n c] 28)).heap[w.heap.size]? = some (.cells (refCells s p).toArray 32 (0, 0)) := by
    rw [heap_alloc_old _ _ (by simp), heap_alloc_new]
  have h2 : ((w.alloc (.cells (refCells s p).toArray 32)).alloc (.cells #[.int .i64 m, .slice a n c] 28)).heap[w.heap.size + 1]? = some (.cells #[.int .i64 m, .slice a n c] 28 (0, 0)) := heap_alloc_at _ _ _ (by simp)
  have HV := Lib.hid (hv.below b2)
  obtain ⟨r, hr, hcon⟩ : ∃ r, outOk m xs = r ∧ ∀ W : World, Below w.heap.size w W → Calls Try.prog 24 #[.agg #[.int .i64 m, .slice a n c]] W fun e w' => e = .returned (.bool r) ∧ Below W.heap.size W w' := ⟨_, rfl, fun W hW => lockRightOut_any (hw.below hW)⟩
  rw [hr] at hbad
  have HRO := Lib.hid (hcon _ b2)
  have hq := fun w => run_eql_map_nil_sl (P := Try.prog) w 49 _ _ mb Try.underlying49
  clear hv hw hr hcon
  go_enter Try.func16, Try.ntmps16
  go_upto_region 1 with (fail)
  revert HV HRO
  revert b2 h1 h2
  generalize ((w.alloc (.cells (refCells s p).toArray 32)).alloc (.cells #[.int .i64 m, .slice a n c] 28)) = w2
  obtain ⟨g5, hg5⟩ : ∃ g, g = w.heap.size := ⟨_, rfl⟩
  obtain ⟨g6, hg6⟩ : ∃ g, g = w.heap.size + 1 := ⟨_, rfl⟩
  rw [← hg6, ← hg5]
  intro b2 h1 h2
  rw [hg5] at b2
  intro HV HRO
  have HB2 := Lib.hid b2
  have c60 := cell_of_row w2 g6 0 _ _ _ h2
  have c61 := cell_of_row w2 g6 1 _ _ _ h2
  clear b2 h1 h2 hg5 hg6
  go_upto_region 2 with (first | (go_at_call 20; refine (has_any HV.out).mono ?_; rintro e w3 ⟨rfl, rfl⟩) | fail)
  cases mb with
  | none =>
    go_wp2_with fail
    go_ret
    exact ⟨rfl, HB2.out⟩
  | some b =>
    have hbad := hbad.resolve_left (by simp)
    cases r with
    | false =>
      clear hbad
      go_wp2_with (first | (go_at_call 24; refine HRO.out.mono ?_; rintro e w4 ⟨rfl, hb4⟩; have HB4 := Lib.hid hb4; clear hb4) | fail)
      go_ret
      exact ⟨rfl, HB2.out.trans (HB4.out.mono HB2.out.size)⟩
    | true =>
      have hbad := hbad.resolve_left (by simp)
      by_cases hl : ht < 0
      · clear hbad
        go_wp2_with (first | (go_at_call 24; refine HRO.out.mono ?_; rintro e w4 ⟨rfl, hb4⟩; have HB4 := Lib.hid hb4; clear hb4) | fail)
        go_ret
        exact ⟨rfl, HB2.out.trans (HB4.out.mono HB2.out.size)⟩
      · have hh : 1073741824 < ht := hbad.resolve_left hl
        have hl' : ¬ ht < 0 := hl
        clear hbad
        go_wp2_with (first | (go_at_call 24; refine HRO.out.mono ?_; rintro e w4 ⟨rfl, hb4⟩; have HB4 := Lib.hid hb4; clear hb4) | fail)
        go_ret
        exact ⟨rfl, HB2.out.trans (HB4.out.mono HB2.out.size)⟩
set_option linter.unusedSimpArgs false in
set_option maxRecDepth 100000 in
set_option maxHeartbeats 12800000 in
/-- There is one. -/
theorem put_twice {w : World} {pv : Value} {b N : Nat} {rows : List PRow} {x : PRow} {m ht : Int} {a : Option Addr} {n c : Nat} {xs : List PWay} (h : ViewAt w pv b N rows) (hx : x ∈ rows) (hw : Ways w a n c xs) (hok : outOk m xs = true) (h0 : 0 ≤ ht) (h9 : ht ≤ 1073741824) :
    Calls Try.prog 16 #[pv, .agg (refCells x.tx x.place).toArray, .agg #[.int .i64 m, .slice a n c], .int .i64 ht] w fun e w' => e = .returned (.int .i64 8) ∧ Below w.heap.size w w' := by
  obtain ⟨s, hs⟩ : ∃ s, s = x.tx := ⟨_, rfl⟩
  obtain ⟨p, hp⟩ : ∃ p, p = x.place := ⟨_, rfl⟩
  rw [← hs, ← hp]
  obtain ⟨a5, n5, c5, ys, hl, _⟩ := look_row h hx
  rw [← hs, ← hp] at hl
  obtain ⟨m5, hm5⟩ : ∃ y, y = x.out.m := ⟨_, rfl⟩
  obtain ⟨h5, hh5⟩ : ∃ y, y = x.height := ⟨_, rfl⟩
  rw [← hm5, ← hh5] at hl
  have AR := Lib.hid (refSize (s := s) (z := p) (by rw [hs]; exact (h.ok x hx).tx))
  have AS := Lib.hid (show (Try.prog.info? 32).map (·.size) = some (refCells s p).toArray.size by rw [List.size_toArray]; exact AR.out)
  have HL := Lib.hid hl
  have b2 : Below w.heap.size w ((w.alloc (.cells (refCells s p).toArray 32)).alloc (.cells #[.int .i64 m, .slice a n c] 28)) := ((Below.refl _ _).alloc (Nat.le_refl _) _).alloc (by simp) _
  have h1 : ((w.alloc (.cells (refCells s p).toArray 32)).alloc (.cells #[.int .i64 m, .slice a n c] 28)).heap[w.heap.size]? = some (.cells (refCells s p).toArray 32 (0, 0)) := by
    rw [heap_alloc_old _ _ (by simp), heap_alloc_new]
  have h2 : ((w.alloc (.cells (refCells s p).toArray 32)).alloc (.cells #[.int .i64 m, .slice a n c] 28)).heap[w.heap.size + 1]? = some (.cells #[.int .i64 m, .slice a n c] 28 (0, 0)) := heap_alloc_at _ _ _ (by simp)
  have HV := Lib.hid (h.hasIt.below b2)
  have HH := Lib.hid h
  have HRO : Hid (∀ W : World, Below w.heap.size w W → Calls Try.prog 24 #[.agg #[.int .i64 m, .slice a n c]] W fun e w' => e = .returned (.bool true) ∧ Below W.heap.size W w') := Lib.hid (fun W hW => by rw [← hok]; exact lockRightOut_any (hw.below hW))
  have hq := fun w => run_eql_map_nil_sl (P := Try.prog) w 49 _ _ (some b) Try.underlying49
  have hN6 : N ≤ 1000000 := by have := h.few; omega
  have hl' : ¬ ht < 0 := by omega
  have hh' : ¬ 1073741824 < ht := by omega
  clear h hw hx hl hok hs hp hm5 hh5
  go_enter Try.func16, Try.ntmps16
  go_upto_region 1 with (fail)
  revert HV
  revert b2 h1 h2
  generalize ((w.alloc (.cells (refCells s p).toArray 32)).alloc (.cells #[.int .i64 m, .slice a n c] 28)) = w2
  obtain ⟨g5, hg5⟩ : ∃ g, g = w.heap.size := ⟨_, rfl⟩
  obtain ⟨g6, hg6⟩ : ∃ g, g = w.heap.size + 1 := ⟨_, rfl⟩
  rw [← hg6, ← hg5]
  intro b2 h1 h2
  rw [hg5] at b2
  intro HV
  have HB2 := Lib.hid b2
  have H1 := Lib.hid h1
  have c60 := cell_of_row w2 g6 0 _ _ _ h2
  have c61 := cell_of_row w2 g6 1 _ _ _ h2
  clear b2 h1 h2 hg5 hg6
  go_upto_region 2 with (first | (go_at_call 20; refine (has_any HV.out).mono ?_; rintro e w9 ⟨rfl, rfl⟩) | fail)
  go_upto_region 4 with (first | (go_at_call 24; refine (HRO.out _ HB2.out).mono ?_; rintro e w3 ⟨rfl, hb3⟩; have HB3 := Lib.hid (HB2.out.trans (hb3.mono HB2.out.size)); have HB23 := Lib.hid hb3; clear hb3) | fail)
  have hlk := HL.out w3 HB3.out
  have H13 := Lib.hid ((HB23.out.block _ (lt_of_block H1.out)).trans H1.out)
  unfold coinV at hlk
  clear c60 c61
  go_upto_region 5 with (first | (refine wpList_load_row rfl 32 _ rfl g5 rfl 32 (refCells s p).toArray (0, 0) _ H13.out Try.underlying32 rfl AS.out ?_) | (refine wpList_store_row rfl 41 _ _ rfl w3.heap.size #[.int .i64 m5, .slice a5 n5 c5, .int .i64 h5] rfl rfl 41 #[.int .i64 0, .slice none 0 0, .int .i64 0] (heap_alloc_new _ _) (coin_size9 m5 h5 a5 n5 c5) rfl (coin_one9 m5 h5 a5 n5 c5) ?_) | fail)
  rw [layCoin_is]
  have b5 := layCoin_below HB3.out HB3.out.size m5 a5 n5 c5 h5
  revert b5
  generalize layCoin w3 m5 a5 n5 c5 h5 = w5
  intro b5
  have HB5 := Lib.hid b5
  clear b5 hlk
  try simp only [Act.put]
  go_wp2_with fail
  go_ret
  exact ⟨rfl, HB5.out⟩
set_option linter.unusedSimpArgs false in
set_option maxRecDepth 100000 in
set_option maxHeartbeats 12800000 in
/-- It is put in. -/
theorem put_ok {w : World} {pv : Value} {b N : Nat} {rows : List PRow} {s : List UInt8} {p m ht : Int} {a : Option Addr} {n c : Nat} {xs : List PWay} (h : ViewAt w pv b N rows) (hN : N + 1 ≤ 100) (hs : s.length = 32) (hp : Fits p) (hno : NoRow rows s p) (hw : Ways w a n c xs) (hok : outOk m xs = true) (h0 : 0 ≤ ht) (h9 : ht ≤ 1073741824) :
    Calls Try.prog 16 #[pv, .agg (refCells s p).toArray, .agg #[.int .i64 m, .slice a n c], .int .i64 ht] w fun e w' => e = .returned (.int .i64 0) ∧ ViewAt w' pv b (N + 1) (insRow ⟨s, p, ⟨m, a, n, c, xs⟩, ht⟩ rows) ∧ But w.heap.size b w w' := by
  obtain ⟨F, hm, hF⟩ := h.map
  have hFn := hF.1 s p hno
  have hmo : MapOr w (some b) F := .inr ⟨b, N, _, rfl, hm, by omega⟩
  have AR := Lib.hid (refSize (s := s) (z := p) hs)
  have AS := Lib.hid (show (Try.prog.info? 32).map (·.size) = some (refCells s p).toArray.size by rw [List.size_toArray]; exact AR.out)
  have HL := Lib.hid (look_no hmo hs hp hFn)
  obtain ⟨f1, f2, f3⟩ := outOk_few hok
  have hn := hw.1
  have b2 : Below w.heap.size w ((w.alloc (.cells (refCells s p).toArray 32)).alloc (.cells #[.int .i64 m, .slice a n c] 28)) := ((Below.refl _ _).alloc (Nat.le_refl _) _).alloc (by simp) _
  have h1 : ((w.alloc (.cells (refCells s p).toArray 32)).alloc (.cells #[.int .i64 m, .slice a n c] 28)).heap[w.heap.size]? = some (.cells (refCells s p).toArray 32 (0, 0)) := by
    rw [heap_alloc_old _ _ (by simp), heap_alloc_new]
  have h2 : ((w.alloc (.cells (refCells s p).toArray 32)).alloc (.cells #[.int .i64 m, .slice a n c] 28)).heap[w.heap.size + 1]? = some (.cells #[.int .i64 m, .slice a n c] 28 (0, 0)) := heap_alloc_at _ _ _ (by simp)
  have HV := Lib.hid (h.hasIt.below b2)
  have HH := Lib.hid h
  have HRO : Hid (∀ W : World, Below w.heap.size w W → Calls Try.prog 24 #[.agg #[.int .i64 m, .slice a n c]] W fun e w' => e = .returned (.bool true) ∧ Below W.heap.size W w') := Lib.hid (fun W hW => by rw [← hok]; exact lockRightOut_any (hw.below hW))
  have hq := fun w => run_eql_map_nil_sl (P := Try.prog) w 49 _ _ (some b) Try.underlying49
  have hN6 : N ≤ 1000000 := by have := h.few; omega
  have hl' : ¬ ht < 0 := by omega
  have hh' : ¬ 1073741824 < ht := by omega
  have HM0 := Lib.hid hm
  have HNO := Lib.hid hFn
  have HS := Lib.hid hs
  have HP := Lib.hid hp
  have HCP : Hid (∀ W : World, Below w.heap.size w W → Calls Try.prog 28 #[coinV m a n c ht] W fun e w' => ∃ v, e = .returned v ∧ CoinAt w' ⟨s, p, ⟨m, a, n, c, xs⟩, ht⟩ v ∧ Below W.heap.size W w') := Lib.hid (fun W hW => by
    refine (copied_any (m := m) (ht := ht) (hw.below hW) (.inr (by omega)) (by omega) f1).mono ?_
    rintro e w' ⟨a', c', ys, rfl, k1, k2, _, k3, k4⟩
    exact ⟨_, rfl, ⟨a', n, c', ys, rfl, k1, k3, k2⟩, k4⟩)
  have HFN : Hid (∀ (w7 w9 : World) (v : Value), CoinAt w7 ⟨s, p, ⟨m, a, n, c, xs⟩, ht⟩ v → Below w.heap.size w w7 → MapRef w9 b (N + 1) (rows.length + 1) (fun t q => if t = s ∧ q = p then some v else F t q) → w7.grownBy w9 (some b) → ViewAt w9 pv b (N + 1) (insRow ⟨s, p, ⟨m, a, n, c, xs⟩, ht⟩ rows)) := Lib.hid (fun w7 w9 v k1 k2 k3 k4 => view_put h hN ⟨hs, hp, hok, h0, h9⟩ hno hF k1 k2 k3 k4)
  clear h hw hok hs hp hno hm hF hFn hmo hn f1 f2 f3
  generalize insRow ⟨s, p, ⟨m, a, n, c, xs⟩, ht⟩ rows = rows' at HFN ⊢
  go_enter Try.func16, Try.ntmps16
  go_upto_region 1 with (fail)
  revert HV
  revert b2 h1 h2
  generalize ((w.alloc (.cells (refCells s p).toArray 32)).alloc (.cells #[.int .i64 m, .slice a n c] 28)) = w2
  obtain ⟨g5, hg5⟩ : ∃ g, g = w.heap.size := ⟨_, rfl⟩
  obtain ⟨g6, hg6⟩ : ∃ g, g = w.heap.size + 1 := ⟨_, rfl⟩
  rw [← hg6, ← hg5]
  intro b2 h1 h2
  rw [hg5] at b2
  intro HV
  have HB2 := Lib.hid b2
  have H1 := Lib.hid h1
  have H2 := Lib.hid h2
  have c60 := cell_of_row w2 g6 0 _ _ _ h2
  have c61 := cell_of_row w2 g6 1 _ _ _ h2
  clear b2 h1 h2 hg5 hg6
  go_upto_region 2 with (first | (go_at_call 20; refine (has_any HV.out).mono ?_; rintro e w9 ⟨rfl, rfl⟩) | fail)
  go_upto_region 4 with (first | (go_at_call 24; refine (HRO.out _ HB2.out).mono ?_; rintro e w3 ⟨rfl, hb3⟩; have HB3 := Lib.hid (HB2.out.trans (hb3.mono HB2.out.size)); have HB23 := Lib.hid hb3; clear hb3) | fail)
  have hlk := HL.out w3 HB3.out
  have H13 := Lib.hid ((HB23.out.block _ (lt_of_block H1.out)).trans H1.out)
  have H23 := Lib.hid ((HB23.out.block _ (lt_of_block H2.out)).trans H2.out)
  unfold coinV at hlk
  clear c60 c61
  go_upto_region 5 with (first | (refine wpList_load_row rfl 32 _ rfl g5 rfl 32 (refCells s p).toArray (0, 0) _ H13.out Try.underlying32 rfl AS.out ?_) | (refine wpList_store_row rfl 41 _ _ rfl w3.heap.size #[.int .i64 0, .slice none 0 0, .int .i64 0] rfl rfl 41 #[.int .i64 0, .slice none 0 0, .int .i64 0] (heap_alloc_new _ _) (coin_size9 0 0 none 0 0) rfl (coin_one9 0 0 none 0 0) ?_) | fail)
  rw [layCoin_is]
  have b5 := layCoin_below HB3.out HB3.out.size 0 none 0 0 0
  have b35 := layCoin_below (Below.refl w3.heap.size w3) (Nat.le_refl _) 0 none 0 0 0
  revert b5 b35
  generalize layCoin w3 0 none 0 0 0 = w4
  intro b5 b35
  have HB5 := Lib.hid b5
  have RG0 := (b35.block _ (lt_of_block H13.out)).trans H13.out
  have RO0 := (b35.block _ (lt_of_block H23.out)).trans H23.out
  have HM := Lib.hid (HM0.out.below b5)
  obtain ⟨es, cl, hmap⟩ := HM.out.isMap
  have n5 : g5 ≠ b := fun e => by rw [e, hmap] at RG0; cases RG0
  have n6 : g6 ≠ b := fun e => by rw [e, hmap] at RO0; cases RO0
  have RG : Hid (∀ W : World, But w4.heap.size b w4 W → W.rangeAt g5 0 (refCells s p)) := Lib.hid (fun W hW => range_of (hW.heap RG0 (lt_of_block RG0) n5))
  have RO : Hid (∀ W : World, But w4.heap.size b w4 W → W.rangeAt g6 0 [Value.int .i64 m, .slice a n c]) := Lib.hid (fun W hW => range_of (cs := [Value.int .i64 m, .slice a n c]) (hW.heap RO0 (lt_of_block RO0) n6))
  have HC : Hid (∀ W : World, Below w4.heap.size w4 W → Calls Try.prog 28 #[coinV m a n c ht] W fun e w' => ∃ v, e = .returned v ∧ CoinAt w' ⟨s, p, ⟨m, a, n, c, xs⟩, ht⟩ v ∧ Below W.heap.size W w') := Lib.hid (fun W hW => HCP.out W (HB5.out.trans (hW.mono HB5.out.size)))
  have HFIN : Hid (∀ (w7 w9 : World) (v : Value), CoinAt w7 ⟨s, p, ⟨m, a, n, c, xs⟩, ht⟩ v → Below w4.heap.size w4 w7 → MapRef w9 b (N + 1) (rows.length + 1) (fun t q => if t = s ∧ q = p then some v else F t q) → w7.grownBy w9 (some b) → ViewAt w9 pv b (N + 1) rows' ∧ But w.heap.size b w w9) := Lib.hid (fun w7 w9 v k1 k2 k3 k4 => by
    have k5 := HB5.out.trans (k2.mono HB5.out.size)
    exact ⟨HFN.out w7 w9 v k1 k5 k3 k4, (But.of k5).trans (but_grown9 k4 k5.size)⟩)
  clear b5 b35 hlk RG0 RO0 hmap n5 n6 HL HM0 HCP HFN HRO HB2 HB3 HB23 H13 H23 H1 H2
  try simp only [Act.put]
  go_upto_region 7 with (fail)
  refine wp_region_held_drew (S := fun w' => But w4.heap.size b w4 w') (by kernel_rfl) ((But.refl _ _ _).drew) (fun hHeld => ?_)
  refine take_at (i := 0) (v := ?_) rfl rfl (by kernel_rfl) (by kernel_rfl) (by kernel_rfl) (fun _ _ _ h => h) (Or.inl ⟨by rfl, ?_⟩) (by assumption) ?_
  rotate_left
  · intro w0 hSw; (try dsimp only at hSw); first | (go_simp; done) | (go_simp; with_reducible rfl)
  simp only [List.setIfInBounds_toArray, List.set_cons_zero, List.set_cons_succ]
  refine take_at (i := 1) rfl rfl (by kernel_rfl) (by kernel_rfl) (by kernel_rfl) (fun _ _ _ h => h) (yieldsIf_load_mid (by rfl) _ _ rfl g5 0 rfl (refCells s p) _ (fun w0 hSw => RG.out w0 hSw) Try.underlying32 rfl AR.out) (by assumption) ?_
  simp only [List.setIfInBounds_toArray, List.set_cons_zero, List.set_cons_succ]
  refine take_at (i := 2) rfl rfl (by kernel_rfl) (by kernel_rfl) (by kernel_rfl) (fun _ _ _ h => h) (yieldsIf_load_mid (by rfl) _ _ rfl g6 0 rfl [Value.int .i64 m, .slice a n c] _ (fun w0 hSw => RO.out w0 hSw) Try.underlying28 rfl (by kernel_rfl)) (by assumption) ?_
  simp only [List.setIfInBounds_toArray, List.set_cons_zero, List.set_cons_succ]
  refine take_at (i := 3) (v := ?_) rfl rfl (by kernel_rfl) (by kernel_rfl) (by kernel_rfl) (fun _ _ _ h => h) (Or.inl ⟨by rfl, ?_⟩) (by assumption) ?_
  rotate_left
  · intro w0 hSw; (try dsimp only at hSw); first | (go_simp; done) | (go_simp; with_reducible rfl)
  simp only [List.setIfInBounds_toArray, List.set_cons_zero, List.set_cons_succ]
  refine take_at (i := 4) rfl rfl (by kernel_rfl) (by kernel_rfl) (by kernel_rfl) (fun _ _ _ h => h) (yields_build2 (by rfl) rfl (u := .agg #[.int .i64 m, .slice a n c]) (v := .int .i64 ht) rfl rfl (coin_built m a n c ht)) (by assumption) ?_
  simp only [List.setIfInBounds_toArray, List.set_cons_zero, List.set_cons_succ]
  refine wpAnyH_ready (rs := [5]) (by kernel_rfl) (by simp) ?_
  refine AllReadyH.cons rfl (fun K hK => ?_) ?_
  · go_simp
    refine (HC.out _ (below_drew (Below.refl _ _))).mono ?_
    rintro e w7 ⟨v7, rfl, hC7, hb7⟩
    dsimp only
    have HC7 := Lib.hid hC7
    have HB7 : Hid (Below w4.heap.size w4 w7) := Lib.hid ((below_drew (Below.refl _ _)).trans hb7)
    clear hC7 hb7
    refine hK.out _ _ (by (try dsimp only); exact But.of HB7.out) (fun hHeld => ?_)
    clear hK K
    refine wpAnyH_ready (rs := [6]) (by kernel_rfl) (by simp) ?_
    refine AllReadyH.cons rfl (fun K hK => ?_) ?_
    · obtain ⟨w9, hrun9, hm9, hg9⟩ := (HM.out.below HB7.out).put Try.underlying49 hN6 HS.out HP.out HNO.out v7
      refine step_mapUpdate9 (by rfl) rfl (by rfl) (by rfl) (by rfl) hrun9 ?_
      have HM9 := Lib.hid hm9
      have HG9 := Lib.hid hg9
      clear hrun9 hm9 hg9
      refine hK.out _ _ (by (try dsimp only); exact (But.of HB7.out).trans (but_grown9 HG9.out HB7.out.size)) (fun hHeld => ?_)
      clear hK K
      refine wpAnyH_done (by kernel_rfl) ?_ _
      go_wp2_with fail
      go_ret
      exact ⟨rfl, HFIN.out _ _ _ HC7.out HB7.out HM9.out HG9.out⟩
    exact AllReadyH.nil
  exact AllReadyH.nil
end Go.Proofs.Ytdeilkpcmgcbaaa
