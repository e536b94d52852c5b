/- What begin and end come to: the sum of nothing yet; the sum. -/
import Derived.Test.YtjmdkgjfcfnbiaaDoorBegin
namespace Go.Proofs.YtjmdkgjfcfnbiaaDoor
open Go.RowKit

theorem Tryd.size23 : (Tryd.prog.info? 23).map (·.size) = some 32 := by kernel_rfl
theorem SumAt.below {w w' : World} {hb : Nat} {l : List UInt8} (h : SumAt w hb l) (hb' : Below w.heap.size w w') : SumAt w' hb l := by
  obtain ⟨bs, h1, h2⟩ := h
  exact ⟨bs, h1.below hb', h2⟩
theorem SumAt.lt {w : World} {hb : Nat} {l : List UInt8} (h : SumAt w hb l) : hb < w.heap.size := by
  obtain ⟨bs, h1, h2⟩ := h
  exact h1.lt
theorem SumAt.many {w : World} {hb : Nat} {l : List UInt8} (h : SumAt w hb l) : w.cell? ⟨hb, 72, none⟩ = some (.int .i64 (l.length : Nat)) := by
  obtain ⟨bs, h1, h2⟩ := h
  exact h1.many
theorem heap_alloc_at (w : World) (o : Obj) (n : Nat) (h : w.heap.size = n) : (w.alloc o).heap[n]? = some o := by
  subst h; exact heap_alloc_new w o
/-- 64 bytes 0. -/
def zero64 : Array Value := (cellsOf (List.replicate 64 0)).toArray
theorem zero64_size : zero64.size = 64 := rfl
theorem zero64_row (w : World) : (zeroValue 43).run Tryd.prog w = .ok (.agg zero64) w := by kernel_rfl
theorem behind_row : zero64.setIfInBounds 0 (.int .u8 128) = (cellsOf behind).toArray := by kernel_rfl
/-- A block that holds bytes, as a slice of all of them. -/
theorem row_all {w : World} {g : Nat} {l : List UInt8} {t : TypeId} {fr : Nat × Nat} (hg : w.heap[g]? = some (.cells (cellsOf l).toArray t fr)) (n : Nat) (hn : n = l.length) (hm : n ≤ 1000) : Row w (some ⟨g, 0, none⟩) n n l :=
  row_new hn.symm (Nat.le_refl _) (by unfold maxLen; omega) _ t hg (fun j hj => cellsOf_get (by omega))
def zero32 : List UInt8 := List.replicate 32 0
/-- What end has laid beside the sum under way. -/
def EndAt (rb : Nat) (w2 : World) (p : Nat) (XH XL : BitVec 32) (W : World) : Prop :=
  (rb < w2.heap.size ∧ W.heap[rb]? = some (.cells (cellsOf zero32).toArray 23 (0, 0))) ∧ p = w2.heap.size ∧ W.heap[p]? = some (.cells (cellsOf (four XH)).toArray 48 (0, 0)) ∧ W.heap[p + 1]? = some (.cells (cellsOf (four XL)).toArray 48 (0, 0)) ∧ W.heap[p + 1 + 1]? = some (.cells (cellsOf behind).toArray 43 (0, 0))
theorem EndAt.but {w2 W W' : World} {rb p hb : Nat} {XH XL : BitVec 32} (h : EndAt rb w2 p XH XL W) (hlt : hb < w2.heap.size) (hne : rb ≠ hb) (hbut : But W.heap.size hb W W') : EndAt rb w2 p XH XL W' := by
  obtain ⟨⟨h0, h0'⟩, h1, h2, h3, h4⟩ := h
  exact ⟨⟨h0, hbut.heap h0' (lt_of_block h0') hne⟩, h1, hbut.heap h2 (lt_of_block h2) (by omega), hbut.heap h3 (lt_of_block h3) (by omega), hbut.heap h4 (lt_of_block h4) (by omega)⟩
/-- The sum of which the first j words are told. -/
def sumRow (V : Eight) (j : Nat) : List UInt8 := (V.list.take j).flatMap four ++ List.replicate (32 - 4 * j) 0
theorem sumRow_splice (V : Eight) (j : Nat) (h : j < 8) : splice (sumRow V j) (4 * j) (four (V.list.getD j 0)) = sumRow V (j + 1) := by
  rcases (show j = 0 ∨ j = 1 ∨ j = 2 ∨ j = 3 ∨ j = 4 ∨ j = 5 ∨ j = 6 ∨ j = 7 by omega) with rfl | rfl | rfl | rfl | rfl | rfl | rfl | rfl <;> rfl
theorem sumRow_len (V : Eight) (j : Nat) (h : j ≤ 8) : (sumRow V j).length = 32 := by
  rcases (show j = 0 ∨ j = 1 ∨ j = 2 ∨ j = 3 ∨ j = 4 ∨ j = 5 ∨ j = 6 ∨ j = 7 ∨ j = 8 by omega) with rfl | rfl | rfl | rfl | rfl | rfl | rfl | rfl | rfl <;> rfl
theorem sumRow_all (V : Eight) : sumRow V 8 = V.bytes := rfl
theorem splice_cells (a b : List UInt8) (off : Nat) : splice (cellsOf a) off (cellsOf b) = cellsOf (splice a off b) := by
  simp [splice, cellsOf]
/-- What holds in a round of end. -/
def TellAt (w : World) (hb sb : Nat) (V : Eight) (j : Nat) (wr : World) : Prop :=
  wr.heap[sb]? = some (.cells (cellsOf (sumRow V j)).toArray 23 (0, 0)) ∧ wr.heap[w.heap.size]? = some (.cells (cellsOf zero32).toArray 23 (0, 0)) ∧ w.heap.size < sb ∧ hb < w.heap.size ∧ But w.heap.size hb w wr
theorem TellAt.below {w wr w2 : World} {hb sb j : Nat} {V : Eight} (h : TellAt w hb sb V j wr) (hb2 : Below wr.heap.size wr w2) : TellAt w hb sb V j w2 :=
  ⟨(hb2.block _ (lt_of_block h.1)).trans h.1, (hb2.block _ (lt_of_block h.2.1)).trans h.2.1, h.2.2.1, h.2.2.2.1, h.2.2.2.2.trans ((But.of hb2).mono h.2.2.2.2.size)⟩
theorem TellAt.tell {w wr w2 : World} {hb sb j : Nat} {V : Eight} (h : TellAt w hb sb V j wr) (hb2 : But wr.heap.size sb wr w2) (hh : w2.heap[sb]? = some (.cells (cellsOf (sumRow V (j + 1))).toArray 23 (0, 0))) : TellAt w hb sb V (j + 1) w2 :=
  ⟨hh, hb2.heap h.2.1 (lt_of_block h.2.1) (by have := h.2.2.1; omega), h.2.2.1, h.2.2.2.1, h.2.2.2.2.trans (But.of ((hb2.mono h.2.2.2.2.size).below (by have := h.2.2.1; omega)))⟩
theorem bytesOf_four (x : BitVec 32) (w : World) : Calls Tryd.prog 21 #[.int .u32 (num x)] w fun e w' => e = .returned (.agg #[.int .u8 (num x / 16777216 % 256), .int .u8 (num x / 65536 % 256), .int .u8 (num x / 256 % 256), .int .u8 (num x % 256)]) ∧ Below w.heap.size w w' := by
  rw [← four_cells]
  exact bytesOf_any x w

set_option maxRecDepth 100000 in
set_option maxHeartbeats 1600000 in
theorem end_any {w : World} {hb : Nat} {l : List UInt8} (h : SumAt w hb l) (hk : KsAt w) (h0 : hb ≠ 0) (hn : l.length ≤ 1125899906842624) :
    Calls Tryd.prog 22 #[.pointer (some ⟨hb, 0, none⟩)] w fun e w' => e = .returned (.agg (cellsOf (sumOf l)).toArray) ∧ But w.heap.size hb w w' := by
  have cm := h.many
  have hlt := h.lt
  have H := Lib.hid h
  have HK := Lib.hid hk
  obtain ⟨M, hM⟩ : ∃ M, M = l.length := ⟨_, rfl⟩
  rw [← hM] at cm hn
  have HM := Lib.hid hM
  have eh : (M : Int) * 8 / 4294967296 = num (BitVec.ofNat 32 (8 * M / 4294967296)) := by rw [num_ofNat _ (by omega)]; omega
  have el : (M : Int) * 8 % 4294967296 = num (BitVec.ofNat 32 (8 * M)) := by unfold num; rw [BitVec.toNat_ofNat]; omega
  obtain ⟨XH, hXH⟩ : ∃ x, x = BitVec.ofNat 32 (8 * M / 4294967296) := ⟨_, rfl⟩
  obtain ⟨XL, hXL⟩ : ∃ x, x = BitVec.ofNat 32 (8 * M) := ⟨_, rfl⟩
  rw [← hXH] at eh
  rw [← hXL] at el
  have HXH := Lib.hid hXH
  have HXL := Lib.hid hXL
  clear h hk hM hXH hXL
  go_enter Tryd.func22, Tryd.ntmps22
  go_wp2_with fail
  refine (bytesOf_four _ _).mono ?_
  rintro e w1 ⟨rfl, hb1⟩
  have HB1 := Lib.hid hb1
  clear hb1
  go_wp2_with fail
  refine (bytesOf_four _ _).mono ?_
  rintro e w2 ⟨rfl, hb2⟩
  have hw : Below w.heap.size w w2 := by
    have h1 := HB1.out
    have h2 := hb2.mono h1.size
    exact ((Below.refl _ _).alloc (Nat.le_refl _) _).trans ((h1.mono (by simp)).trans (h2.mono (by simp)))
  have hr2 : w2.heap[w.heap.size]? = some (.cells (cellsOf zero32).toArray 23 (0, 0)) := by
    have h1 := HB1.out
    rw [hb2.block w.heap.size (Nat.lt_of_lt_of_le (by simp) h1.size), h1.block w.heap.size (by simp), heap_alloc_new]
    rfl
  have HR2 := Lib.hid hr2
  have H2 := Lib.hid (H.out.below hw)
  have HW := Lib.hid hw
  have cm2 := H2.out.many
  have hlt2 := H2.out.lt
  rw [← HM.out] at cm2
  have HLT0 := Lib.hid hlt
  clear hb2 hw cm hlt HB1 hr2
  have hz := zero64_row
  have hs := zero64_size
  go_upto_region 4 with (refine wpList_store_row rfl 43 _ _ rfl (w2.heap.size + 1 + 1) _ rfl rfl 43 zero64 (heap_alloc_at _ _ _ (by simp)) (by kernel_rfl) (by kernel_rfl) (by kernel_rfl) ?_)
  rw [← four_cells, ← four_cells, behind_row]
  have hw5 : Below w2.heap.size w2 ((((w2.alloc (.cells (cellsOf (four XH)).toArray 48)).alloc (.cells (cellsOf (four XL)).toArray 48)).alloc (.cells zero64 43)).setRow (w2.heap.size + 1 + 1) (cellsOf behind).toArray) := by
    have b1 : Below w2.heap.size w2 (((w2.alloc (.cells (cellsOf (four XH)).toArray 48)).alloc (.cells (cellsOf (four XL)).toArray 48)).alloc (.cells zero64 43)) := (((Below.refl _ _).alloc (Nat.le_refl _) _).alloc (by simp) _).alloc (by simp; omega) _
    exact b1.trans (((but_setRow _ (w2.heap.size + 1 + 1) _).mono b1.size).below (by omega))
  have he5 : EndAt w.heap.size w2 w2.heap.size XH XL ((((w2.alloc (.cells (cellsOf (four XH)).toArray 48)).alloc (.cells (cellsOf (four XL)).toArray 48)).alloc (.cells zero64 43)).setRow (w2.heap.size + 1 + 1) (cellsOf behind).toArray) := by
    have hrl := lt_of_block HR2.out
    refine ⟨⟨hrl, ?_⟩, rfl, ?_, ?_, ?_⟩
    · rw [setRow_other _ _ _ _ (by omega), heap_alloc_old _ _ (by simp; omega), heap_alloc_old _ _ (by simp; omega), heap_alloc_old _ _ hrl]
      exact HR2.out
    · rw [setRow_other _ _ _ _ (by omega), heap_alloc_old _ _ (by simp; omega), heap_alloc_old _ _ (by simp), heap_alloc_new]
    · rw [setRow_other _ _ _ _ (by omega), heap_alloc_old _ _ (by simp)]
      exact heap_alloc_at _ _ _ (by simp)
    · exact setRow_heap _ _ _ _ _ _ (heap_alloc_at _ _ _ (by simp))
  revert hw5 he5
  generalize ((((w2.alloc (.cells (cellsOf (four XH)).toArray 48)).alloc (.cells (cellsOf (four XL)).toArray 48)).alloc (.cells zero64 43)).setRow (w2.heap.size + 1 + 1) (cellsOf behind).toArray) = w5
  obtain ⟨p, hp⟩ : ∃ p, p = w2.heap.size := ⟨_, rfl⟩
  rw [← hp]
  intro hw5 he5
  rw [hp] at hw5
  have HP := Lib.hid hp
  have H5 := Lib.hid (H2.out.below hw5)
  have HE5 := Lib.hid he5
  have HW5 := Lib.hid (HW.out.trans (hw5.mono HW.out.size))
  have HK5 := Lib.hid (HK.out.below HW5.out)
  have cm5 := H5.out.many
  rw [← HM.out] at cm5
  obtain ⟨G, hG⟩ : ∃ G, G = (M + 8) % 64 := ⟨_, rfl⟩
  obtain ⟨F, hF⟩ : ∃ F, F = fill M := ⟨_, rfl⟩
  have e1 : ((M : Int) + 8) % 64 = (G : Int) := by omega
  have e2 : (64 : Int) - (G : Int) = (F : Int) := by rw [hF]; unfold fill; omega
  have hGF : G < 64 ∧ 0 < F ∧ F ≤ 64 := by rw [hF]; unfold fill; omega
  have g1 : (G : Int) < 64 := by omega
  have g2 : (F : Int) ≤ 64 := by omega
  have g3 : 0 < (F : Int) := by omega
  have HF := Lib.hid hF
  have hlt5 := hlt2
  have HLT := Lib.hid hlt2
  clear hw5 he5 hp cm2 hlt2 hlt5 hz hs hG hF hGF
  simp only [Act.put]
  have hne : w.heap.size ≠ hb := by have := HLT0.out; omega
  have hF64 : F ≤ 64 := by omega
  have hphb : p ≠ hb ∧ p + 1 ≠ hb ∧ p + 1 + 1 ≠ hb := by have := HP.out; have := HLT.out; omega
  go_wp2_with fail
  refine (put_any H5.out ((row_all HE5.out.2.2.2.2 64 rfl (by omega)).take hF64) (fun _ b off e => by cases e; exact hphb.2.2) HK5.out h0 (by have := HM.out; omega)).mono ?_
  rintro e w6 ⟨rfl, hs6, hb6⟩
  have HE6 := Lib.hid (HE5.out.but HLT.out hne hb6)
  have HK6 := Lib.hid (HK5.out.but hb6 h0)
  have HW6 := Lib.hid ((But.of (p := hb) HW5.out).trans (hb6.mono HW5.out.size))
  have HS6 := Lib.hid hs6
  have hl6 : (l ++ behind.take F).length ≤ 1125899906842624 + 64 := by rw [List.length_append, List.length_take, ← HM.out]; omega
  have HL6 := Lib.hid hl6
  clear hs6 hb6 cm5 hl6
  go_wp2_with fail
  refine (put_any HS6.out (row_all HE6.out.2.2.1 4 rfl (by omega)) (fun _ b off e => by cases e; exact hphb.1) HK6.out h0 (by have := HL6.out; omega)).mono ?_
  rintro e w7 ⟨rfl, hs7, hb7⟩
  have HE7 := Lib.hid (HE6.out.but HLT.out hne hb7)
  have HK7 := Lib.hid (HK6.out.but hb7 h0)
  have HW7 := Lib.hid (HW6.out.trans (hb7.mono HW6.out.size))
  have HS7 := Lib.hid hs7
  have hl7 : ((l ++ behind.take F) ++ four XH).length ≤ 1125899906842624 + 68 := by rw [List.length_append, four_len]; have := HL6.out; omega
  have HL7 := Lib.hid hl7
  clear hs7 hb7 hl7
  go_wp2_with fail
  refine (put_any HS7.out (row_all HE7.out.2.2.2.1 4 rfl (by omega)) (fun _ b off e => by cases e; exact hphb.2.1) HK7.out h0 (by have := HL7.out; omega)).mono ?_
  rintro e w8 ⟨rfl, hs8, hb8⟩
  have hpad : ((l ++ behind.take F) ++ four XH) ++ four XL = pad l := by
    rw [HXH.out, HXL.out, HF.out, HM.out]
    unfold pad bitsOf
    simp only [List.append_assoc]
  rw [hpad] at hs8
  have HE8 := Lib.hid (HE7.out.but HLT.out hne hb8)
  have HW8 := Lib.hid (HW7.out.trans (hb8.mono HW7.out.size))
  have hlt8 := hs8.lt
  obtain ⟨bs, hh, _⟩ := hs8
  obtain ⟨V, hV⟩ : ∃ V, V = run (pad l) ((pad l).length / 64) := ⟨_, rfl⟩
  rw [← hV] at hh
  have hsum : sumOf l = V.bytes := by rw [hV]; rfl
  have HSUM := Lib.hid hsum
  have c0 := hh.word (i := 0) (by decide)
  have c1 := hh.word (i := 1) (by decide)
  have c2 := hh.word (i := 2) (by decide)
  have c3 := hh.word (i := 3) (by decide)
  have c4 := hh.word (i := 4) (by decide)
  have c5 := hh.word (i := 5) (by decide)
  have c6 := hh.word (i := 6) (by decide)
  have c7 := hh.word (i := 7) (by decide)
  obtain ⟨v0, v1, v2, v3, v4, v5, v6, v7⟩ := V
  simp only [Eight.list, List.getD_cons_zero, List.getD_cons_succ] at c0 c1 c2 c3 c4 c5 c6 c7
  clear hh hV hsum hb8 hpad HS6 HS7 HE5 HE6 HE7 HL6 HL7 HW5 HW6 HW7 HK5 HK6 HK7 H5 H2 HW H eh el e1 e2 g1 g2 g3 HXH HXL HF hF64
  go_wp2_with fail
  clear c0 c1 c2 c3 c4 c5 c6 c7
  have hz9 : Below w8.heap.size w8 (w8.alloc (.cells (cellsOf zero32).toArray 23)) := (Below.refl _ _).alloc (Nat.le_refl _) _
  have ht9 : TellAt w hb w8.heap.size ⟨v0, v1, v2, v3, v4, v5, v6, v7⟩ 0 (w8.alloc (.cells (cellsOf zero32).toArray 23)) := by
    have hr8 := HE8.out.1.2
    exact ⟨heap_alloc_new _ _, (hz9.block _ (lt_of_block hr8)).trans hr8, lt_of_block hr8, HLT0.out, HW8.out.trans ((But.of hz9).mono HW8.out.size)⟩
  rw [show (#[.int .u8 0, .int .u8 0, .int .u8 0, .int .u8 0, .int .u8 0, .int .u8 0, .int .u8 0, .int .u8 0, .int .u8 0, .int .u8 0, .int .u8 0, .int .u8 0, .int .u8 0, .int .u8 0, .int .u8 0, .int .u8 0, .int .u8 0, .int .u8 0, .int .u8 0, .int .u8 0, .int .u8 0, .int .u8 0, .int .u8 0, .int .u8 0, .int .u8 0, .int .u8 0, .int .u8 0, .int .u8 0, .int .u8 0, .int .u8 0, .int .u8 0, .int .u8 0] : Array Value) = (cellsOf zero32).toArray from rfl]
  revert ht9
  generalize (w8.alloc (.cells (cellsOf zero32).toArray 23)) = w9
  obtain ⟨sb, hsb⟩ : ∃ sb, sb = w8.heap.size := ⟨_, rfl⟩
  rw [← hsb]
  intro ht9
  have HT9 := Lib.hid ht9
  obtain ⟨V, hV⟩ : ∃ V : Eight, V = ⟨v0, v1, v2, v3, v4, v5, v6, v7⟩ := ⟨_, rfl⟩
  have hix : ∀ j : Nat, j < 8 → ∀ W' : World, (Instr.index 42 (.agg #[.int .u32 (num v0), .int .u32 (num v1), .int .u32 (num v2), .int .u32 (num v3), .int .u32 (num v4), .int .u32 (num v5), .int .u32 (num v6), .int .u32 (num v7)]) (.int .i64 (j : Int))).run Tryd.prog W' = .ok (.int .u32 (num (V.list.getD j 0))) W' := fun j hj W' => by
    rw [hV]
    rcases (show j = 0 ∨ j = 1 ∨ j = 2 ∨ j = 3 ∨ j = 4 ∨ j = 5 ∨ j = 6 ∨ j = 7 by omega) with rfl | rfl | rfl | rfl | rfl | rfl | rfl | rfl <;> rfl
  have HIX := Lib.hid hix
  have HV := Lib.hid hV
  obtain ⟨rb, hrb⟩ : ∃ rb, rb = w.heap.size := ⟨_, rfl⟩
  have HRB := Lib.hid hrb
  rw [← hrb]
  clear ht9 hsb hix hV hz9 hrb HE8 HW8 hlt8 hphb hne HR2 HP
  go_loopw [47] (fun i wr => ∃ j : Nat, j ≤ 8 ∧ i = .int .i64 j ∧ TellAt w hb sb V j wr) (fun i _ => 8 - (intOf i).toNat)
  case atStart => exact ⟨0, Nat.zero_le _, rfl, by rw [HV.out]; exact HT9.out⟩
  case round =>
    obtain ⟨j, hj, rfl, hat⟩ := hrel
    have HAT := Lib.hid hat
    by_cases hj8 : j < 8
    · have hij := HIX.out j hj8
      obtain ⟨x, hx⟩ : ∃ x, x = V.list.getD j 0 := ⟨_, rfl⟩
      rw [← hx] at hij
      have HX := Lib.hid hx
      obtain ⟨J, hJ⟩ : ∃ J, J = 4 * j := ⟨_, rfl⟩
      have e4 : IntKind.i64.wrap (J : Int) = (J : Int) := IntWalk.i64_in _ ⟨by omega, by omega⟩
      have e4' : 4 * (j : Int) = (J : Int) := by omega
      have hJ32 : (J : Int) < 32 := by omega
      have hJn : J < 32 := by omega
      have hJe : ¬ 32 = J := by omega
      have hJ33 : (J : Int) ≤ 32 := by omega
      have p0 : (j : Int) < 8 := by omega
      have q0 : 0 ≤ (j : Int) := by omega
      have HJ := Lib.hid hJ
      clear hat hx hJ
      go_wp2_with fail
      refine (bytesOf_four _ _).mono ?_
      rintro e w10 ⟨rfl, hb10⟩
      have H10 := Lib.hid (HAT.out.below hb10)
      clear hb10
      go_wp2_with fail
      rw [← four_cells]
      have hbA : Below w10.heap.size w10 (w10.alloc (.cells (cellsOf (four x)).toArray 48)) := (Below.refl _ _).alloc (Nat.le_refl _) _
      have hrA : (w10.alloc (.cells (cellsOf (four x)).toArray 48)).heap[w10.heap.size]? = some (.cells (cellsOf (four x)).toArray 48 (0, 0)) := heap_alloc_new _ _
      have hatA := H10.out.below hbA
      revert hrA hatA
      generalize (w10.alloc (.cells (cellsOf (four x)).toArray 48)) = wA
      obtain ⟨g, hg⟩ : ∃ g, g = w10.heap.size := ⟨_, rfl⟩
      rw [← hg]
      intro hrA hatA
      have HR : Hid (Row wA.drew (some ⟨g, 0, none⟩) 4 4 (four x)) := Lib.hid (row_all (w := wA.drew) hrA 4 rfl (by omega))
      have HA := Lib.hid hatA
      have HSB : Hid (wA.drew.heap[sb]? = some (.cells (cellsOf (sumRow V j)).toArray 23 (0, 0))) := Lib.hid hatA.1
      have HN : Hid ((cellsOf (four x)).length = Nat.min 4 (32 - J)) := by show 4 = min 4 (32 - J); have := HJ.out; omega
      have HF : Hid (J + (cellsOf (four x)).length ≤ (cellsOf (sumRow V j)).length) := by show J + 4 ≤ _; rw [cellsOf_len, sumRow_len V j (by omega)]; have := HJ.out; omega
      clear hbA hg hrA hatA
      go_region_held_law (fun _ => True) (trivial)
        ((refine step_copy_but (by rfl) (.tmp 55) (.tmp 56) 24 24 (by rfl) 5 Tryd.underlying24 Tryd.size5 _ _ (32 - J) (32 - J) 4 4 (by rfl) (by rfl) sb J (cellsOf (sumRow V j)) 23 HSB.out (cellsOf (four x)) HN.out (fun h0 => ⟨rfl, row_copy HR.out h0⟩) HF.out (cellsOf_one _) ?_; intro w3 hh3 hb3))
      have hh4 := hh3.out
      rw [splice_cells, HX.out, HJ.out, sumRow_splice V j hj8] at hh4
      have HH4 := Lib.hid hh4
      have HB3 := Lib.hid hb3
      clear hh3 hh4 hb3
      go_wp2_with fail
      go_roundw
      case rel => exact ⟨j + 1, by omega, by go_num, HA.out.tell (wr := wA) (show But wA.heap.size sb wA w3 from ⟨HB3.out.os, HB3.out.tape, HB3.out.output, HB3.out.size, HB3.out.block⟩) HH4.out⟩
      case measure => simp [intOf]; omega
    · have hj8' : j = 8 := by omega
      rw [hj8'] at hat
      have HAT8 := Lib.hid hat
      have hrow : (cellsOf (sumRow V 8)).toArray = (cellsOf (sumOf l)).toArray := by rw [sumRow_all, HSUM.out, HV.out]
      have hlen : (cellsOf (sumRow V 8)).toArray.size = 32 := by rw [List.size_toArray, cellsOf_len]; exact sumRow_len V 8 (by omega)
      have hall : (cellsOf (sumRow V 8)).toArray.all (·.oneCell') = true := by
        rw [List.all_toArray]
        exact List.all_eq_true.2 (cellsOf_one _)
      have hsz : (Tryd.prog.info? 23).map (·.size) = some (cellsOf (sumRow V 8)).toArray.size := by rw [hlen]; exact Tryd.size23
      have hzl : (cellsOf zero32).toArray.size = (cellsOf (sumRow V 8)).toArray.size := by rw [hlen]; rfl
      have HALL := Lib.hid hall
      have HSZ := Lib.hid hsz
      have HZL := Lib.hid hzl
      have HROW := Lib.hid hrow
      have hr : wr.heap[rb]? = some (.cells (cellsOf zero32).toArray 23 (0, 0)) := by rw [HRB.out]; exact HAT8.out.2.1
      have HR := Lib.hid hr
      clear hat hj8' hrow hlen hall hsz hzl hr
      go_wp2_with (first | (refine wpList_load_row rfl 23 _ rfl sb rfl 23 (cellsOf (sumRow V 8)).toArray (0, 0) _ HAT8.out.1 Tryd.underlying23 rfl HSZ.out ?_) | (refine wpList_store_row rfl 23 _ _ rfl rb (cellsOf (sumRow V 8)).toArray rfl rfl 23 (cellsOf zero32).toArray HR.out HSZ.out HZL.out HALL.out ?_))
      have hb4 : But w.heap.size hb wr (wr.setRow rb (cellsOf (sumRow V 8)).toArray) := But.of (((but_setRow wr rb _).mono HAT8.out.2.2.2.2.size).below (by rw [HRB.out]; exact Nat.le_refl _))
      exact bodyPost_ret (results_cell_row rfl _ _ rb 23 (cellsOf (sumRow V 8)).toArray (0, 0) _ rfl (setRow_heap wr rb _ _ 23 _ HR.out) Tryd.underlying23 rfl HSZ.out) rfl ⟨by rw [HROW.out], HAT8.out.2.2.2.2.trans hb4⟩
end Go.Proofs.YtjmdkgjfcfnbiaaDoor
