/- WirePuts: the walk of the law (function 3): it returns true, and nothing that was there is written. -/
import Derived.Test.YtdcieknblahoeaaPutsPen
import Derived.Deep.RegionHeld
import Derived.Deep.MidRow
import Derived.Deep.Cut
import Derived.Deep.CutRange
import Derived.Deep.CutBlock
namespace Go.Proofs.Ytdcieknblahoeaa
open Go.RowKit

theorem Ints.take {w : World} {a : Option Addr} {n c k : Nat} {zs : List Int} (h : Ints w a n c zs) (hk : k ≤ n) : Ints w a k c (zs.take k) := by
  obtain ⟨h1, h2, h3, h4, h5⟩ := h
  refine ⟨by simp [h1]; omega, by omega, h3, fun z hz => h4 z (List.mem_of_mem_take hz), fun h0 => ?_⟩
  obtain ⟨b, off, rfl, hlt, hc⟩ := h5 (by omega)
  refine ⟨b, off, rfl, hlt, fun j hj => ?_⟩
  rw [hc j (by omega)]
  simp [List.getD, hj]
theorem Ints.below {w w' : World} {a : Option Addr} {n c B : Nat} {zs : List Int} (h : Ints w a n c zs) (hb : Below B w w') (hB : w.heap.size ≤ B) : Ints w' a n c zs := by
  obtain ⟨h1, h2, h3, h4, h5⟩ := h
  refine ⟨h1, h2, h3, h4, fun h0 => ?_⟩
  obtain ⟨b, off, rfl, hlt, hc⟩ := h5 h0
  exact ⟨b, off, rfl, Nat.lt_of_lt_of_le hlt hb.size, fun j hj => (hb.cell (p := ⟨b, off + j, none⟩) (Nat.lt_of_lt_of_le hlt hB)).trans (hc j hj)⟩

theorem Ints.butB {w w' : World} {a : Option Addr} {n c B p : Nat} {zs : List Int} (h : Ints w a n c zs) (hb : But B p w w') (hB : 0 < n → ∀ x, a = some x → x.block < B ∧ x.block ≠ p) : Ints w' a n c zs := by
  obtain ⟨h1, h2, h3, h4, h5⟩ := h
  refine ⟨h1, h2, h3, h4, fun h0 => ?_⟩
  obtain ⟨b, off, rfl, hlt, hc⟩ := h5 h0
  obtain ⟨g1, g2⟩ := hB h0 ⟨b, off, none⟩ rfl
  exact ⟨b, off, rfl, Nat.lt_of_lt_of_le hlt hb.size, fun j hj => (hb.cell (a := ⟨b, off + j, none⟩) g1 g2).trans (hc j hj)⟩
theorem text_exact {yb : Nat} {q s : List UInt8} (w : World) (h : EyeAt w yb (numB (q.length : Nat) ++ (q ++ s)) 0) (hq : q.length ≤ 200) (hs : s.length = 32) : Calls Try.prog 15 #[.pointer (some ⟨yb, 0, none⟩), .int .i64 200] w (Tells yb q s 0 w) := by
  have hl : (numB (q.length : Nat) ++ (q ++ s)).length ≤ 140737488355328 := by
    have := numB_len (q.length : Nat)
    rw [List.length_append, List.length_append]
    omega
  have := text_first 200 h hl
  rw [textOf_numB q s hq] at this
  exact this
theorem sum_exact {yb : Nat} {s : List UInt8} (w : World) (h : EyeAt w yb s 0) (hs : s.length = 32) : Calls Try.prog 16 #[.pointer (some ⟨yb, 0, none⟩)] w fun r w' =>
    r = .returned (.agg (cellsOf s).toArray) ∧ EyeAt w' yb [] 0 ∧ But w.heap.size yb w w' := by
  have := sum_first w h (by omega)
  rw [rawOf_sum s hs] at this
  have e : sumCells s = cellsOf s := by unfold sumCells; rw [if_pos hs]
  rw [← e]
  exact this
theorem range_of_heap {w : World} {b : Nat} {cs : List Value} {t : TypeId} {fr : Nat × Nat} (h : w.heap[b]? = some (.cells cs.toArray t fr)) : w.rangeAt b 0 cs := fun j v hv => by
  rw [Nat.zero_add, cell_of_row w b j _ t fr h]
  simpa using hv

set_option maxRecDepth 100000 in
set_option maxHeartbeats 3200000 in
theorem puts_walk {la a : Option Addr} {ln lc n c : Nat} {zs0 : List Int} {l s : List UInt8} (w : World) (hi : Ints w la ln lc zs0) (h : Row w a n c l) (hs : s.length = 32)
    (hlb : 0 < ln → ∀ x, la = some x → x.block < w.heap.size) (hab : 0 < n → ∀ x, a = some x → x.block < w.heap.size) :
    Calls Try.prog 3 #[.slice la ln lc, .slice a n c, .agg (cellsOf s).toArray] w fun e w' => e = .returned (.bool true) ∧ Below w.heap.size w w' := by
  obtain ⟨V, hV⟩ : ∃ V, V = (cellsOf s).toArray := ⟨_, rfl⟩
  rw [← hV]
  have H := Lib.hid h
  have HI := Lib.hid hi
  have HSL := Lib.hid hs
  have HV := Lib.hid hV
  have HLB := Lib.hid hlb
  have HAB := Lib.hid hab
  have hln : ln ≤ lc := hi.2.1
  have hlc : lc ≤ 9223372036854775807 := by have := hi.2.2.1; unfold maxLen at this; omega
  clear h hi hs hV hlb hab
  obtain ⟨LN, zs, hLN, hI2⟩ : ∃ (LN : Nat) (zs : List Int), LN = min ln 30 ∧ Ints w la LN lc zs := by
    exact ⟨min ln 30, zs0.take (min ln 30), rfl, HI.out.take (by omega)⟩
  have HI2 := Lib.hid hI2
  have hLN30 : LN ≤ 30 := by omega
  have hLNle : LN ≤ ln := by omega
  clear hI2
  have hw1 : Row (w.alloc (.cells V 25)) a n c l := H.out.below ((Below.refl _ _).alloc (Nat.le_refl _) _)
  have HW1 := Lib.hid hw1
  clear hw1
  go_enter Try.func3, Try.ntmps3
  go_upto_if 16 with (fail)
  go_cut [0] from 17 to 18 (fun s w' => s = .slice la LN lc ∧ w.alloc (.cells V 25) = w')
  case first =>
    by_cases h30 : 30 < ln
    · obtain rfl : LN = 30 := by omega
      clear hLN
      go_wp2_with fail
      go_meet
      exact ⟨rfl, rfl⟩
    · obtain rfl : LN = ln := by omega
      clear hLN
      go_wp2_with fail
      go_meet
      exact ⟨rfl, rfl⟩
  case rest =>
    obtain ⟨rfl, rfl⟩ := hcut
    go_wp2_with fail
    refine (cut_any HW1.out).mono ?_
    rintro r w' ⟨rfl, hr0, rfl⟩
    obtain ⟨N, hN⟩ : ∃ N, N = min n 200 := ⟨_, rfl⟩
    rw [← hN] at hr0 ⊢
    have hN200 : N ≤ 200 := by omega
    have hNle : N ≤ n := by omega
    obtain ⟨q, hq⟩ : ∃ q, q = l.take 200 := ⟨_, rfl⟩
    rw [← hq] at hr0
    have HR0 := Lib.hid hr0
    have hqN : q.length = N := hr0.1
    have HQN := Lib.hid hqN
    clear hr0 hN hq H hln hLN hqN HW1
    have hb0 : Below w.heap.size w ((w.alloc (.cells V 25)).alloc (.cells #[.pointer none, .int .i64 0] 29)) := ((Below.refl _ _).alloc (Nat.le_refl _) _).alloc (by simp) _
    have ht0 : ((w.alloc (.cells V 25)).alloc (.cells #[.pointer none, .int .i64 0] 29)).heap[w.heap.size]? = some (.cells V 25 (0, 0)) := heap_alloc2_old _ _ _
    have hp0 : ((w.alloc (.cells V 25)).alloc (.cells #[.pointer none, .int .i64 0] 29)).heap[w.heap.size + 1]? = some (.cells #[.pointer none, .int .i64 0] 29 (0, 0)) := heap_alloc2_new _ _ _
    have hr0 : Row ((w.alloc (.cells V 25)).alloc (.cells #[.pointer none, .int .i64 0] 29)) a N c q := HR0.out.below ((Below.refl _ _).alloc (Nat.le_refl _) _)
    go_upto_block 0 with (fail)
    have hz0 : ((w.alloc (.cells V 25)).alloc (.cells #[.pointer none, .int .i64 0] 29)).heap.size = w.heap.size + 2 := by simp
    revert hb0 ht0 hp0 hr0 hz0
    generalize ((w.alloc (.cells V 25)).alloc (.cells #[.pointer none, .int .i64 0] 29)) = w0
    intro hb0 ht0 hp0 hr0 hz0
    have HZ0 := Lib.hid hz0
    have HB0 := Lib.hid hb0
    have HT0 := Lib.hid ht0
    have HP0 := Lib.hid hp0
    have HR1 := Lib.hid hr0
    have HI0 : Hid (Ints w0 la LN lc zs) := HI2.out.below hb0 (Nat.le_refl _)
    obtain ⟨S, hS⟩ : ∃ S, S = w.heap.size := ⟨_, rfl⟩
    have HS := Lib.hid hS
    rw [← hS]
    clear hb0 ht0 hp0 hr0 hz0 hS
    obtain ⟨i0, hi, hz0, hz1, hz2⟩ := info_parts Try.info5
    have HII := Lib.hid hi
    clear hi
    go_cut [8, 9] from 21 to 33 (fun v t w' => ∃ (x : Option Addr) (k xc : Nat), v = .slice x k xc ∧ Own w' w0.heap.size (.slice x k xc) (numsB zs) ∧ (numsB zs).length = k ∧ Below w0.heap.size w0 w')
    case first =>
      go_wp2_with fail
      have hz2' : LN ≤ lc := HI0.out.2.1
      go_loopw [9, 8] (fun t v wr => ∃ (i k xc : Nat) (x : Option Addr), i ≤ LN ∧ t = .int .i64 i ∧ v = .slice x k xc ∧ Own wr w0.heap.size (.slice x k xc) (numsB (zs.take i)) ∧ (numsB (zs.take i)).length = k ∧ Below w0.heap.size w0 wr) (fun t _ _ => LN - (intOf t).toNat)
      case atStart => exact ⟨0, 0, 0, none, Nat.zero_le _, rfl, rfl, World.ownsRow_nil _ _ _ _, rfl, Below.refl _ _⟩
      case round =>
        obtain ⟨i, k, xc, x, hi, rfl, rfl, hown, hk, hb⟩ := hrel
        have HOWN := Lib.hid hown
        have HK := Lib.hid hk
        have HB := Lib.hid hb
        have hbz := hb.size
        by_cases hiL : i < LN
        · obtain ⟨ib, io, rfl, hilt, hic⟩ := HI0.out.2.2.2.2 (by omega)
          have hc := (hb.cell (p := ⟨ib, io + i, none⟩) hilt).trans (hic i hiL)
          have hzl : i < zs.length := by rw [HI0.out.1]; exact hiL
          have hz63 : zs.getD i 0 ≤ 9223372036854775807 := by
            have e : zs.getD i 0 = zs[i] := by simp [List.getD, hzl]
            rw [e]
            exact HI0.out.2.2.2.1 _ (List.getElem_mem hzl)
          have hts := numsB_take zs i hzl
          obtain ⟨z, hz⟩ : ∃ z, z = zs.getD i 0 := ⟨_, rfl⟩
          rw [← hz] at hc hz63 hts
          have HTS := Lib.hid hts
          have hkl : k ≤ 300 := by
            have h1 := numsB_len (zs.take i)
            have h2 : (zs.take i).length ≤ i := List.length_take_le _ _
            omega
          clear hic hzl hz hts hown hk hb
          go_wp2_with fail
          refine (lawnumber_any _ _ hz63).mono ?_
          rintro r w2 ⟨a2, k2, c2, rfl, ho2, hl2, hb2⟩
          have hk2 : k2 ≤ 9 := by have := numB_len z; omega
          have HR2 : Hid (Row w2 a2 k2 c2 (numB z)) := ho2.row
          have HOWN2 : Hid (Own w2 w0.heap.size (.slice x k xc) (numsB (zs.take i))) := HOWN.out.below hb2
          have HB2 : Hid (Below w0.heap.size w0 w2) := HB.out.trans (hb2.mono hbz)
          have hbz2 : w0.heap.size ≤ w2.heap.size := HB2.out.size
          have HL2 := Lib.hid hl2
          clear ho2 hl2 hb2
          go_wp2_with (at_builtin; refine wpList_append_row _ rfl (.tmp 27) (.tmp 32) 23 rfl w0.heap.size i0 Try.underlying23 HII.out hz0 hz1 hz2 _ _ k HK.out rfl HOWN2.out a2 k2 c2 (numB z) rfl HR2.out (by omega) hbz2 ?_)
          intro a3 c3 w3 hown3 hgrow3
          rw [← HTS.out] at hown3
          have HOWN3 := Lib.hid hown3
          have HB3 : Hid (Below w0.heap.size w0 w3) := HB2.out.grown hgrow3 hbz2 HOWN2.out.lt
          have HK3 : Hid ((numsB (zs.take (i + 1))).length = k + k2) := by
            show _ = _
            rw [HTS.out, List.length_append, HK.out, HL2.out]
          clear hown3 hgrow3
          go_wp2
          go_roundw
          case rel => exact ⟨i + 1, k + k2, c3, a3, by omega, by go_num, rfl, HOWN3.out, HK3.out, HB3.out⟩
          case measure => simp [intOf]; omega
        · obtain rfl : i = LN := by omega
          have htk : zs.take i = zs := List.take_of_length_le (by rw [HI0.out.1]; exact Nat.le_refl _)
          rw [htk] at hown hk
          have HOWN' := Lib.hid hown
          have HK' := Lib.hid hk
          clear hown hk hb htk
          go_wp2
          go_meet
          exact ⟨_, _, _, rfl, HOWN'.out, HK'.out, HB.out⟩
    case rest =>
      obtain ⟨x, k, xc, rfl, hown, hk, hb⟩ := hcut
      have HOWN := Lib.hid hown
      have HK := Lib.hid hk
      have HBC := Lib.hid hb
      have hkl : k ≤ 300 := by
        have h1 := numsB_len zs
        have h2 := HI0.out.1
        omega
      have hbz := hb.size
      have hsrow0 : Row w0 (some ⟨S, 0, none⟩) 32 32 s :=
        row_new HSL.out (Nat.le_refl _) (by unfold maxLen; omega) (cellsOf s) 25 (by rw [HS.out, HT0.out, HV.out]) (fun j hj => cellsOf_get (by rw [HSL.out]; exact hj))
      have HSR0 := Lib.hid hsrow0
      clear hown hk hb hsrow0
      go_wp2_with fail
      refine (lawnumber_any _ _ (by omega)).mono ?_
      rintro r w2 ⟨a2, k2, c2, rfl, ho2, hl2, hb2⟩
      have hk2 : k2 ≤ 9 := by have := numB_len (N : Int); omega
      have HR2 : Hid (Row w2 a2 k2 c2 (numB (N : Int))) := ho2.row
      have HOWN2 : Hid (Own w2 w0.heap.size (.slice x k xc) (numsB zs)) := HOWN.out.below hb2
      have HB2 : Hid (Below w0.heap.size w0 w2) := HBC.out.trans (hb2.mono hbz)
      have hbz2 : w0.heap.size ≤ w2.heap.size := HB2.out.size
      have HL2 := Lib.hid hl2
      clear ho2 hl2 hb2
      go_wp2_with (at_builtin; refine wpList_append_row _ rfl (.tmp 34) (.tmp 37) 23 rfl w0.heap.size i0 Try.underlying23 HII.out hz0 hz1 hz2 _ _ k HK.out rfl HOWN2.out a2 k2 c2 (numB (N : Int)) rfl HR2.out (by omega) hbz2 ?_)
      intro a3 c3 w3 hown3 hgrow3
      obtain ⟨b3, hb3⟩ : ∃ b3, b3 = numsB zs ++ numB (N : Int) := ⟨_, rfl⟩
      rw [← hb3] at hown3
      have HE3 := Lib.hid hb3
      clear hb3
      have HOWN3 := Lib.hid hown3
      have HB3 : Hid (Below w0.heap.size w0 w3) := HB2.out.grown hgrow3 hbz2 HOWN2.out.lt
      have hbz3 : w0.heap.size ≤ w3.heap.size := HB3.out.size
      have HK3 : Hid (b3.length = k + k2) := by
        show _ = _
        rw [HE3.out, List.length_append, HK.out, HL2.out]
      have HT3 : Hid (Row w3 a N c q) := HR1.out.below HB3.out
      clear hown3 hgrow3
      go_wp2_with (at_builtin; refine wpList_append_row _ rfl (.tmp 39) (.tmp 40) 23 rfl w0.heap.size i0 Try.underlying23 HII.out hz0 hz1 hz2 _ _ (k + k2) HK3.out rfl HOWN3.out a N c q rfl HT3.out (by omega) hbz3 ?_)
      intro a4 c4 w4 hown4 hgrow4
      obtain ⟨b4, hb4⟩ : ∃ b4, b4 = b3 ++ q := ⟨_, rfl⟩
      rw [← hb4] at hown4
      have HE4 := Lib.hid hb4
      clear hb4
      have HOWN4 := Lib.hid hown4
      have HB4 : Hid (Below w0.heap.size w0 w4) := HB3.out.grown hgrow4 hbz3 HOWN3.out.lt
      have hbz4 : w0.heap.size ≤ w4.heap.size := HB4.out.size
      have HK4 : Hid (b4.length = k + k2 + N) := by
        show _ = _
        rw [HE4.out, List.length_append, HK3.out, HQN.out]
      have HS4 : Hid (Row w4 (some ⟨S, 0, none⟩) 32 32 s) := HSR0.out.below HB4.out
      clear hown4 hgrow4
      go_wp2_with (at_builtin; refine wpList_append_row _ rfl (.tmp 42) (.tmp 43) 23 rfl w0.heap.size i0 Try.underlying23 HII.out hz0 hz1 hz2 _ _ (k + k2 + N) HK4.out rfl HOWN4.out (some ⟨S, 0, none⟩) 32 32 s rfl HS4.out (by omega) hbz4 ?_)
      intro a5 c5 w5 hown5 hgrow5
      have HB5 : Hid (Below w0.heap.size w0 w5) := HB4.out.grown hgrow5 hbz4 HOWN4.out.lt
      have hwl : (b4 ++ s).length ≤ 600 := by
        rw [List.length_append, HK4.out, HSL.out]
        omega
      obtain ⟨bytes, hbytes⟩ : ∃ bytes, bytes = b4 ++ s := ⟨_, rfl⟩
      rw [← hbytes] at hown5 hwl
      have HBY : Hid (bytes = numsB zs ++ (numB (N : Int) ++ (q ++ s))) := by
        show _ = _
        rw [hbytes, HE4.out, HE3.out, List.append_assoc, List.append_assoc]
      have HWANT : Hid (Row w5 a5 (k + k2 + N + 32) c5 bytes) := hown5.row
      have HWF : Hid (∀ y, a5 = some y → w0.heap.size ≤ y.block) := hown5.fresh
      have HWL := Lib.hid hwl
      clear hown5 hgrow5 hbytes hwl HWL
      clear hkl hk2
      have hSz : S + 1 < w0.heap.size := by have := HZ0.out; have := HS.out; omega
      have hz5 : w0.heap.size ≤ w5.heap.size := HB5.out.size
      have HP5 : Hid (PenAt w5.drew w5.heap.size (S + 1) []) := .inl ⟨(HB5.out.block (S + 1) hSz).trans (by rw [HS.out]; exact HP0.out), rfl⟩
      have HT5 : Hid (w5.drew.heap[S]? = some (.cells (cellsOf s).toArray 25 (0, 0))) := (HB5.out.block S (by omega)).trans (by rw [HS.out, HT0.out, HV.out])
      have HI5 : Hid (Ints w5.drew la LN lc zs) := HI0.out.below HB5.out.drew (Nat.le_refl _)
      have HQ5 : Hid (Row w5.drew a N c q) := HR1.out.below HB5.out.drew
      have HIB : Hid (0 < LN → ∀ y, la = some y → y.block < w5.heap.size ∧ y.block ≠ S + 1) := fun h0 y e => by have := HLB.out (by omega) y e; have := HZ0.out; have := HS.out; omega
      have HQB : Hid (0 < N → ∀ y, a = some y → y.block < w5.heap.size) := fun h0 y e => by have := HAB.out (by omega) y e; have := HZ0.out; omega
      have hi25 : (Try.prog.info? 25).map (·.size) = some (cellsOf s).length := by rw [cellsOf, List.length_map, HSL.out]; exact Try.size25
      have hu25 := Try.underlying25
      have hs5 := range_of_heap HT5.out
      have HLL : Hid ((numsB zs).length ≤ 300) := by
        have h1 := numsB_len zs
        have h2 := HI0.out.1
        show _ ≤ _
        omega
      have HNS : Hid (S ≠ S + 1) := by show S ≠ S + 1; omega
      have HSB : Hid (S < w5.heap.size) := by show S < _; omega
      go_upto_region 13 with (fail)
      go_region_held (fun w' => w'.rangeAt S 0 (cellsOf s))
        (first | exact hs5 | exact hs6 | exact hs7 | exact hs8 | exact hs9)
        ((first
          | (go_at_call 9; refine (pnums_at _ HI5.out HP5.out (Nat.le_refl _) HIB.out hLN30 (by simp)).mono ?_; rintro r w6 ⟨rfl, hp6, hb6⟩; have hs6 := range_of_heap (hb6.heap HT5.out HSB.out HNS.out); have HP6 := Lib.hid hp6; have HB6 := Lib.hid hb6; have HQ6 : Hid (Row w6 a N c q) := HQ5.out.butB hb6 HP5.out.noBytes HQB.out; clear hp6 hb6)
          | (go_at_call 10; refine (ptext_at _ HQ6.out HP6.out HB6.out.size HQB.out hN200 (by rw [List.nil_append]; have := HLL.out; omega)).mono ?_; rintro r w7 ⟨rfl, hp7, hb7⟩; have HB7 : Hid (But w5.heap.size (S + 1) w5.drew w7) := HB6.out.trans hb7; have hs7 := range_of_heap (HB7.out.heap HT5.out HSB.out HNS.out); have HP7 := Lib.hid hp7; clear hp7 hb7)
          | (go_at_call 11; refine (psum_at _ HSL.out HP7.out HB7.out.size (by rw [List.nil_append, List.length_append, List.length_append, HQN.out]; have := HLL.out; have := numB_len (N : Int); omega)).mono ?_; rintro r w8 ⟨rfl, hp8, hb8⟩; have HB8 : Hid (But w5.heap.size (S + 1) w5.drew w8) := HB7.out.trans hb8; have hs8 := range_of_heap (HB8.out.heap HT5.out HSB.out HNS.out); have HP8 := Lib.hid hp8; clear hp8 hb8)
          | (go_at_call 12; refine (bytes_any HP8.out (by rw [List.nil_append, List.length_append, List.length_append, List.length_append, HQN.out, HSL.out]; have := HLL.out; have := numB_len (N : Int); omega)).mono ?_; rintro r w9 ⟨a9, k9, c9, rfl, hr9, hf9, hb9⟩; have hs9 := range_of_heap ((hb9.block S (Nat.lt_of_lt_of_le HSB.out HB8.out.size)).trans (HB8.out.heap HT5.out HSB.out HNS.out)); have HR9 := Lib.hid hr9; have HB9 := Lib.hid hb9; have HF9 := Lib.hid hf9; clear hr9 hf9 hb9)))
      have hwS : w.heap.size ≤ S + 1 := by have := HS.out; omega
      have hww0 : w.heap.size ≤ w0.heap.size := HB0.out.size
      have hwB : w.heap.size ≤ w5.heap.size := Nat.le_trans hww0 hz5
      have hw8 : w5.heap.size ≤ w8.heap.size := HB8.out.size
      have HW9 : Hid (Below w.heap.size w w9) := (((HB0.out.trans (HB5.out.mono hww0)).drew).trans ((HB8.out.mono hwB).below hwS)).trans (HB9.out.mono (Nat.le_trans hwB hw8))
      have HA9 : Hid (Row w9 a9 k9 c9 bytes) := by
        have e : bytes = [] ++ numsB zs ++ (numB (q.length : Nat) ++ q) ++ s := by rw [HBY.out, HQN.out]; simp
        show Row w9 a9 k9 c9 bytes
        rw [e]
        exact HR9.out
      have HW5 : Hid (Row w5.drew a5 (k + k2 + N + 32) c5 bytes) := HWANT.out
      have HWB : Hid (0 < k + k2 + N + 32 → ∀ y, a5 = some y → y.block < w5.heap.size) := by
        intro _ y e
        obtain ⟨b, off, e2, hlt, _⟩ := HWANT.out.2.2.2.2 (by omega)
        rw [e] at e2
        cases e2
        exact hlt
      have HC9 : Hid (Row w9 a5 (k + k2 + N + 32) c5 bytes) := (HW5.out.butB HB8.out HP5.out.noBytes HWB.out).below HB9.out
      have HQ9 : Hid (Row w9 a N c q) := (HQ5.out.butB HB8.out HP5.out.noBytes HQB.out).below HB9.out
      have HT9 : Hid (w9.heap[S]? = some (.cells (cellsOf s).toArray 25 (0, 0))) := (HB9.out.block S (Nat.lt_of_lt_of_le HSB.out hw8)).trans (HB8.out.heap HT5.out HSB.out HNS.out)
      have HI9 : Hid (Ints w9 la LN lc zs) := (HI5.out.butB HB8.out HIB.out).below HB9.out (Nat.le_refl _)
      have hk9 : k9 ≤ 700 := by
        have h1 := HA9.out.1
        have h2 := congrArg List.length HBY.out
        have h3 := numB_len (N : Int)
        have h4 := HLL.out
        rw [List.length_append, List.length_append, List.length_append, HQN.out, HSL.out] at h2
        omega
      clear hs6 hs7 hs8 hs9 hs5 HP6 HB6 HQ6 HP7 HB7 HP8 HB8 HB9 HR9 HF9 HP5 HT5 HI5 HQ5 HIB HQB HWANT HWF HW5 HWB HT3 HB2 HB3 HB4 HOWN2 HOWN3 HOWN4 HOWN HS4 HR2 HBC HK HK3 HK4 HSR0 HI2 HR0 HR1 HI0 HP0 HT0 HB5 HB0
      go_wp2_with fail
      refine (look_any HA9.out (by omega)).mono ?_
      rintro r w10 ⟨yb, rfl, hyb, hy10, hb10⟩
      have HWA : Hid (Below w.heap.size w w10) := HW9.out.trans (hb10.mono HW9.out.size)
      have HAA : Hid (Row w10 a9 k9 c9 bytes) := HA9.out.below hb10
      have HCA : Hid (Row w10 a5 (k + k2 + N + 32) c5 bytes) := HC9.out.below hb10
      have HQA : Hid (Row w10 a N c q) := HQ9.out.below hb10
      have HTA : Hid (w10.heap[S]? = some (.cells (cellsOf s).toArray 25 (0, 0))) := (hb10.block S (lt_of_block HT9.out)).trans HT9.out
      have HIA : Hid (Ints w10 la LN lc zs) := HI9.out.below hb10 (Nat.le_refl _)
      have hyw : w.heap.size ≤ yb := Nat.le_trans HW9.out.size hyb
      have hyS : S ≠ yb := by have := lt_of_block HT9.out; omega
      have HYA : Hid (EyeAt w10 yb (numsB (zs.drop 0) ++ (numB (N : Int) ++ (q ++ s))) 0) := by
        have e : numsB (zs.drop 0) ++ (numB (N : Int) ++ (q ++ s)) = bytes := by rw [HBY.out]; rfl
        show EyeAt w10 yb (numsB (zs.drop 0) ++ (numB (N : Int) ++ (q ++ s))) 0
        rw [e]
        exact hy10
      have hlazb : 0 < LN → ∀ y, la = some y → y.block < w10.heap.size ∧ y.block ≠ yb := fun h0 y e => by have := HLB.out (by omega) y e; have := HWA.out.size; omega
      have HLAZ := Lib.hid hlazb
      clear hb10 hy10 HW9 HA9 HC9 HQ9 HT9 HI9 hlazb
      go_wp2_with fail
      obtain ⟨tail, htail⟩ : ∃ tail, tail = numB (N : Int) ++ (q ++ s) := ⟨_, rfl⟩
      have HTL := Lib.hid htail
      have hya : EyeAt w10 yb (numsB (zs.drop 0) ++ tail) 0 := by rw [htail]; exact HYA.out
      have hlzl : zs.length = LN := HIA.out.1
      have HLZ := Lib.hid hlzl
      have HYB := Lib.hid hya
      clear htail hlzl hya HYA
      go_loopw [12] (fun t wr => ∃ i : Nat, i ≤ LN ∧ t = .int .i64 i ∧ EyeAt wr yb (numsB (zs.drop i) ++ tail) 0 ∧ But w10.heap.size yb w10 wr) (fun t _ => LN - (intOf t).toNat)
      case atStart => exact ⟨0, Nat.zero_le _, rfl, HYB.out, But.refl _ _ _⟩
      case round =>
        obtain ⟨i, hiL, rfl, hy, hb⟩ := hrel
        have HY := Lib.hid hy
        have HB := Lib.hid hb
        clear hy
        by_cases hi : i < LN
        · obtain ⟨ib, io, rfl, hilt, hic⟩ := HIA.out.2.2.2.2 (by omega)
          obtain ⟨g1, g2⟩ := HLAZ.out (by omega) ⟨ib, io, none⟩ rfl
          have hc := (hb.cell (a := ⟨ib, io + i, none⟩) g1 g2).trans (hic i hi)
          have hzl : i < zs.length := by rw [HLZ.out]; exact hi
          have hz63 : zs.getD i 0 ≤ 9223372036854775807 := by
            have e : zs.getD i 0 = zs[i] := by simp [List.getD, hzl]
            rw [e]
            exact HIA.out.2.2.2.1 _ (List.getElem_mem hzl)
          have hds := numsB_drop zs i hzl
          obtain ⟨z, hz⟩ : ∃ z, z = zs.getD i 0 := ⟨_, rfl⟩
          rw [← hz] at hc hz63 hds
          obtain ⟨rest, hrest⟩ : ∃ rest, rest = numsB (zs.drop (i + 1)) ++ tail := ⟨_, rfl⟩
          have hye : EyeAt wr yb (numB z ++ rest) 0 := by
            have e : numsB (zs.drop i) ++ tail = numB z ++ rest := by rw [hds, hrest, List.append_assoc]
            rw [← e]
            exact HY.out
          have HYE := Lib.hid hye
          have hno := numOf_numB z rest hz63
          have HNO := Lib.hid hno
          have HRE := Lib.hid hrest
          clear hic hzl hds hz hrest hye hno hb g1 g2
          by_cases hneg : z < 0
          · have e0 : z.toNat = 0 := by omega
            have HNO0 : Hid (numOf (numB z ++ rest) = (0, (numB z).length, 0)) := by show _ = _; rw [HNO.out, e0]
            clear e0 HNO
            go_wp2_with (go_at_call 14; refine (num_is HYE.out HNO0.out).mono ?_; rintro r w11 ⟨rfl, hy11, hb11⟩; have hy11' : EyeAt w11 yb rest 0 := (by simpa using hy11); have HY11 := Lib.hid hy11'; have HB11 := Lib.hid hb11; clear hy11 hy11' hb11)
            go_roundw
            case rel => exact ⟨i + 1, by omega, by go_num, by rw [← HRE.out]; exact HY11.out, HB.out.trans (HB11.out.mono HB.out.size)⟩
            case measure => simp [intOf]; omega
          · obtain ⟨m, rfl⟩ := Int.eq_ofNat_of_zero_le (show 0 ≤ z by omega)
            have HNO0 : Hid (numOf (numB (m : Int) ++ rest) = (m, (numB (m : Int)).length, 0)) := by show _ = _; rw [HNO.out, Int.toNat_natCast]
            clear HNO hneg
            go_wp2_with (go_at_call 14; refine (num_is HYE.out HNO0.out).mono ?_; rintro r w11 ⟨rfl, hy11, hb11⟩; have hy11' : EyeAt w11 yb rest 0 := (by simpa using hy11); have HY11 := Lib.hid hy11'; have HB11 := Lib.hid hb11; clear hy11 hy11' hb11)
            go_roundw
            case rel => exact ⟨i + 1, by omega, by go_num, by rw [← HRE.out]; exact HY11.out, HB.out.trans (HB11.out.mono HB.out.size)⟩
            case measure => simp [intOf]; omega
        · obtain rfl : i = LN := by omega
          have hdn : zs.drop i = [] := List.drop_eq_nil_of_le (by rw [HLZ.out]; exact Nat.le_refl _)
          have hyt : EyeAt wr.drew yb (numB (q.length : Nat) ++ (q ++ s)) 0 := by
            have e : numB (q.length : Nat) ++ (q ++ s) = numsB (zs.drop i) ++ tail := by rw [hdn, HTL.out, HQN.out]; rfl
            rw [e]
            exact HY.out
          have HYT := Lib.hid hyt
          have hny := HYB.out.noBytes
          have HNY := Lib.hid hny
          have hr1 : Row wr.drew a9 k9 c9 bytes := HAA.out.but hb.drew hny
          have hr2 : Row wr.drew a5 (k + k2 + N + 32) c5 bytes := HCA.out.but hb.drew hny
          have hr3 : Row wr.drew a N c q := HQA.out.but hb.drew hny
          have hr4 : wr.drew.heap[S]? = some (.cells (cellsOf s).toArray 25 (0, 0)) := hb.drew.heap HTA.out (lt_of_block HTA.out) hyS
          have HR1 := Lib.hid hr1
          have HR2 := Lib.hid hr2
          have HR3 := Lib.hid hr3
          have HR4 := Lib.hid hr4
          have HNW : Hid (NoBytes wr.drew yb) := HYT.out.noBytes
          have HBW : Hid (Below w.heap.size w wr.drew) := (HWA.out.trans ((hb.mono HWA.out.size).below hyw)).drew
          obtain ⟨S1, hS1⟩ : ∃ S1 : ByteArray, S1 = ⟨bytes.toArray⟩ := ⟨_, rfl⟩
          obtain ⟨S2, hS2⟩ : ∃ S2 : ByteArray, S2 = ⟨q.toArray⟩ := ⟨_, rfl⟩
          have HS1 := Lib.hid hS1
          have HS2 := Lib.hid hS2
          have hx : ∀ w' : World, Row w' a9 k9 c9 bytes → Row w' a5 (k + k2 + N + 32) c5 bytes → Row w' a N c q → w'.heap[S]? = some (.cells (cellsOf s).toArray 25 (0, 0)) →
              (convert 23 9 (.slice a9 k9 c9)).run Try.prog w' = .ok (.string S1) w' ∧ (convert 23 9 (.slice a5 (k + k2 + N + 32) c5)).run Try.prog w' = .ok (.string S1) w' ∧ (convert 23 9 (.slice a N c)).run Try.prog w' = .ok (.string S2) w' ∧ w'.rangeAt S 0 (cellsOf s) := by
            intro w' h1 h2 h3 h4
            rw [hS1, hS2]
            exact ⟨conv_row h1, conv_row h2, conv_row h3, range_of_heap h4⟩
          have HX := Lib.hid hx
          have hs0 := hx wr.drew hr1 hr2 hr3 hr4
          have heq : ∀ W : World, (binOp .eql 25 (.agg (cellsOf s).toArray) (.agg (cellsOf s).toArray)).run Try.prog W = .ok (.bool true) W := by
            intro W
            have := run_eql_bytes (P := Try.prog) W 25 5 32 Try.underlying25 Try.underlying5 (fun w => by kernel_rfl) s s HSL.out HSL.out
            rw [show (s == s) = true by simp] at this
            exact this
          clear hdn hyt hny hr1 hr2 hr3 hr4 hS1 hS2 hx hb HYB HAA HCA HQA HTA HIA HLAZ HY
          have HQ200 : Hid (q.length ≤ 200) := by show _ ≤ _; rw [HQN.out]; exact hN200
          have hgt : Try.prog.eqGuardType Try.prog.depth 25 = false := by kernel_rfl
          go_upto_region 23 with (fail)
          go_region_held (fun w' => (convert 23 9 (.slice a9 k9 c9)).run Try.prog w' = .ok (.string S1) w' ∧ (convert 23 9 (.slice a5 (k + k2 + N + 32) c5)).run Try.prog w' = .ok (.string S1) w' ∧ (convert 23 9 (.slice a N c)).run Try.prog w' = .ok (.string S2) w' ∧ w'.rangeAt S 0 (cellsOf s))
            (first | exact hs0 | exact hs1 | exact hs2 | exact hs3)
            ((first
              | (go_at_call 15; refine (text_exact _ HYT.out HQ200.out HSL.out).mono ?_; rintro r w12 ⟨a12, k12, c12, rfl, hr12, _, hy12, hb12⟩; have hs1 := HX.out w12 (HR1.out.but hb12 HNW.out) (HR2.out.but hb12 HNW.out) (HR3.out.but hb12 HNW.out) (hb12.heap HR4.out (lt_of_block HR4.out) hyS); have hc12 := conv_row hr12; rw [← HS2.out] at hc12; have HY12 := Lib.hid hy12; have HB12 := Lib.hid hb12; clear hr12 hy12 hb12)
              | (go_at_call 16; refine (sum_exact _ HY12.out HSL.out).mono ?_; rintro r w13 ⟨rfl, hy13, hb13⟩; have HB13 : Hid (But wr.drew.heap.size yb wr.drew w13) := HB12.out.trans (hb13.mono HB12.out.size); have hs2 := HX.out w13 (HR1.out.but HB13.out HNW.out) (HR2.out.but HB13.out HNW.out) (HR3.out.but HB13.out HNW.out) (HB13.out.heap HR4.out (lt_of_block HR4.out) hyS); have HY13 := Lib.hid hy13; clear hy13 hb13)
              | (go_at_call 17; refine (done_all HY13.out).mono ?_; rintro r w' ⟨rfl, rfl⟩)
              | (go_at_call 18; refine (awake_true _).mono ?_; rintro r w14 ⟨rfl, hb14⟩; have hs3 := HX.out w14 ((HR1.out.but HB13.out HNW.out).below hb14) ((HR2.out.but HB13.out HNW.out).below hb14) ((HR3.out.but HB13.out HNW.out).below hb14) ((hb14.block S (lt_of_block (HB13.out.heap HR4.out (lt_of_block HR4.out) hyS))).trans (HB13.out.heap HR4.out (lt_of_block HR4.out) hyS)); have HB14 := Lib.hid hb14; clear hb14)))
          have HW13 : Hid (Below w.heap.size w w13) := HBW.out.trans ((HB13.out.mono HBW.out.size).below hyw)
          go_wp2
          go_ret
          exact ⟨rfl, HW13.out.trans (HB14.out.mono HW13.out.size)⟩
end Go.Proofs.Ytdcieknblahoeaa
