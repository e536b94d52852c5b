/- Covers and marks as plain functions on bytes. No function of the program is named. What the first bytes of a key come to. What turned comes to: a text's cover. What markOf comes to: a text's mark. What Close comes to. What Open comes to. -/
import Derived.Test.YtcmdpmialehjgaaGreatDoorSha
import Derived.Test.YtcmdpmialehjgaaGreatDoorMemory
import Derived.Test.YtcmdpmialehjgaaGreatDoorSteps
import Derived.ArgAppend
namespace Go.Proofs.YtcmdpmialehjgaaGreatDoor
open Go.RowKit

/-- A number in three bytes, the highest first. -/
def three (j : Nat) : List UInt8 := [UInt8.ofNat (j / 65536), UInt8.ofNat (j / 256), UInt8.ofNat j]
/-- The j-th 32 bytes of a key. -/
def keySum (s : List UInt8) (j : Nat) : List UInt8 := sumOf (partsOf 51 [s, three j])
theorem keySum_len (s : List UInt8) (j : Nat) : (keySum s j).length = 32 := sumOf_len _
/-- A byte of a key. -/
def kb (s : List UInt8) (i : Nat) : UInt8 := (keySum s (i / 32)).getD (i % 32) 0
/-- So many bytes of a key. -/
def keyB (s : List UInt8) (n : Nat) : List UInt8 := (List.range n).map (kb s)
theorem keyB_len (s : List UInt8) (n : Nat) : (keyB s n).length = n := by simp [keyB]
theorem keyB_get {s : List UInt8} {n i : Nat} (h : i < n) : (keyB s n).getD i 0 = kb s i := by simp [keyB, List.getD, h]
/-- Bytes, each exclusive-or the key's at its place. -/
def coverB (s t : List UInt8) : List UInt8 := (List.range t.length).map fun i => t.getD i 0 ^^^ kb s i
theorem coverB_len (s t : List UInt8) : (coverB s t).length = t.length := by simp [coverB]
theorem coverB_get {s t : List UInt8} {i : Nat} (h : i < t.length) : (coverB s t).getD i 0 = t.getD i 0 ^^^ kb s i := by simp [coverB, List.getD, h]
/-- A text's mark. -/
def markB (s t : List UInt8) : List UInt8 := (sumOf (partsOf 52 [s, t])).take 16
theorem markB_len (s t : List UInt8) : (markB s t).length = 16 := by
  unfold markB
  rw [List.length_take, sumOf_len]
  rfl
/-- Parts of a sum are few enough. -/
theorem parts2_few (tag : UInt8) {s t : List UInt8} (hs : s.length = 32) (ht : t.length ≤ 1000000) : (partsOf tag [s, t]).length ≤ 1125899906842624 := by
  unfold partsOf partOf
  simp only [List.flatMap_cons, List.flatMap_nil, List.length_cons, List.length_append, four_len, List.length_nil, hs]
  omega
/-- What is known of a block: its first k bytes are the key's. -/
def KeyTo (s : List UInt8) (n k : Nat) (L : List UInt8) : Prop := L.length = n ∧ ∀ i, i < k → i < n → L.getD i 0 = kb s i
theorem KeyTo.all {s L : List UInt8} {n k : Nat} (h : KeyTo s n k L) (hk : n ≤ k) : L = keyB s n :=
  bytes_eq _ _ (by rw [keyB_len, h.1]) (fun i hi => by rw [h.1] at hi; rw [h.2 i (by omega) hi, keyB_get hi])
theorem KeyTo.none (s : List UInt8) (n : Nat) (L : List UInt8) (h : L.length = n) : KeyTo s n 0 L := ⟨h, fun i hi => by omega⟩
theorem KeyTo.next {s L : List UInt8} {n j m : Nat} (h : KeyTo s n (32 * j) L) (hm : m = min 32 (n - 32 * j)) (hj : 32 * j < n) : KeyTo s n (32 * (j + 1)) (splice L (32 * j) ((keySum s j).take m)) := by
  have hl := h.1
  have hsl : ((keySum s j).take m).length = m := by rw [List.length_take, keySum_len]; omega
  refine ⟨?_, fun i hi hin => ?_⟩
  · unfold splice
    rw [List.length_append, List.length_append, List.length_take, List.length_drop, hsl, hl]
    omega
  · unfold splice
    simp only [List.getD]
    by_cases h1 : i < 32 * j
    · rw [← h.2 i h1 hin]
      simp only [List.getD]
      rw [List.getElem?_append_left (by rw [List.length_take, hl]; omega), List.getElem?_take, if_pos h1]
    · have htl : (L.take (32 * j)).length = 32 * j := by rw [List.length_take, hl]; omega
      rw [List.getElem?_append_right (by rw [htl]; omega), htl, List.getElem?_append_left (by rw [hsl]; omega), List.getElem?_take, if_pos (by omega)]
      unfold kb
      rw [show i / 32 = j by omega, show i % 32 = i - 32 * j by omega]
      rfl
end Go.Proofs.YtcmdpmialehjgaaGreatDoor
namespace Go.Proofs.YtcmdpmialehjgaaGreatDoor
open Go.RowKit

/-- A key's bytes under way: the first k of them lie in block g. -/
structure Keying (w0 : World) (s : List UInt8) (n g k : Nat) (W : World) : Prop where
  row : ∃ L, KeyTo s n k L ∧ W.heap[g]? = some (.cells (cellsOf L).toArray 5 (0, 0))
  new : w0.heap.size ≤ g
  below : Below w0.heap.size w0 W
theorem Keying.more {w0 W W' : World} {s : List UInt8} {n g k : Nat} (h : Keying w0 s n g k W) (hb : Below W.heap.size W W') : Keying w0 s n g k W' := by
  obtain ⟨⟨L, h1, h2⟩, h3, h4⟩ := h
  exact ⟨⟨L, h1, keep hb h2⟩, h3, bthen h4 hb⟩
theorem Keying.begun {w0 W : World} {s : List UInt8} {n : Nat} (h : W.ownsRow w0.heap.size 5 1 (.slice (some ⟨w0.heap.size, 0, none⟩) n n) n (madeCells (Value.int .u8 0).cells (n * 1)).toList) (hg : w0.grownBy W none) : Keying w0 s n w0.heap.size 0 W := by
  rcases h.2 with ⟨hv, _⟩ | ⟨g, cap, cur, hv, hB, hh, h1, h2, h3, h4⟩
  · cases hv
  · cases hv
    refine ⟨⟨List.replicate n 0, KeyTo.none s n _ (by simp), ?_⟩, Nat.le_refl _, ⟨hg.os, hg.tape, hg.output, hg.size, fun k hk => hg.block k hk (by simp)⟩⟩
    rw [hh]
    congr 2
    apply Array.toList_inj.1
    rw [List.take_of_length_le (by rw [Array.length_toList, h3]; exact Nat.le_refl _)] at h4
    rw [h4, Nat.mul_one, show (Value.int IntKind.u8 0).cells = #[.int .u8 0] from rfl, toList_madeCells_one]
    simp [cellsOf]
theorem Tryz.zeroSum11 : (Tryz.prog.info? 23).map (fun i => (i.zero, i.size, i.bytes)) = some (some (.agg (cellsOf zero32).toArray), 32, 32) := by kernel_rfl
theorem three_cells {j : Nat} (h : j ≤ 4000) : (cellsOf (three j)).toArray = #[.int .u8 ((j : Int) / 65536), .int .u8 ((j : Int) / 256), .int .u8 ((j : Int) % 256)] := by
  have e0 : ((UInt8.ofNat (j / 65536)).toNat : Int) = (j : Int) / 65536 := by rw [UInt8.toNat_ofNat']; omega
  have e1 : ((UInt8.ofNat (j / 256)).toNat : Int) = (j : Int) / 256 := by rw [UInt8.toNat_ofNat']; omega
  have e2 : ((UInt8.ofNat j).toNat : Int) = (j : Int) % 256 := by rw [UInt8.toNat_ofNat']; omega
  rw [← e0, ← e1, ← e2]
  rfl
/-- A cut of bytes, '[A:]'. -/
theorem run_bcut_from {b off n c A : Nat} (hA : A ≤ n) (hc : A < c) (W : World) : (Instr.sliceAt 26 (.slice (some ⟨b, off, none⟩) n c) (some (.int .i64 (A : Int))) none none).run Tryz.prog W = .ok (.slice (some ⟨b, off + A, none⟩) (n - A) (c - A)) W := by
  have hu : Tryz.prog.underlying 26 = some (.slice (Tryz.prog.elem 26)) := by kernel_rfl
  have hs : (sizeOf (Tryz.prog.elem 26)).run Tryz.prog W = .ok 1 W := by kernel_rfl
  rw [run_sliceAt_slice W _ _ _ _ _ hu, run_slice_l W _ _ n c hu .i64 (A : Int) (by omega) (by omega), hs]
  simp [Result.andThen, sliced, Addr.add, show c ≠ A by omega]
theorem yields_bfrom {ops : Array Oper} {S : World → Prop} {op : Oper} {a : Act} {x lo : Operand} {b off n c A : Nat} (hw : Region.wanted op (yielded ops a.tmps) = true) (ho : op.op = .slice 26 x (some lo) none none) (hx : a.eval x = .slice (some ⟨b, off, none⟩) n c) (hlo : a.eval lo = .int .i64 (A : Int)) (hA : A ≤ n) (hc : A < c) :
    YieldsIf Tryz.prog ops S op (.slice (some ⟨b, off + A, none⟩) (n - A) (c - A)) a :=
  .inl ⟨hw, fun w _ => by
    have h := run_bcut_from (b := b) (off := off) (n := n) hA hc w
    unfold execOp
    simp only [ho, hx, hlo, Option.map_some, Option.map_none, Sem.run_bind, h, Result.andThen_ok, Sem.run_pure]⟩
theorem splice_cells11 (a b : List UInt8) (off : Nat) : splice (cellsOf a) off (cellsOf b) = cellsOf (splice a off b) := by
  simp [splice, cellsOf]
theorem Keying.copied {w0 W W' : World} {s x L : List UInt8} {n g t j m : Nat} (h : Keying w0 s n g t W) (ht : t = 32 * j) (hx : keySum s j = x) (hL : KeyTo s n t L) (hm : m = min 32 (n - t)) (hj : t < n) (hh : W'.heap[g]? = some (.cells (splice (cellsOf L) t (cellsOf (x.take m))).toArray 5 (0, 0))) (hb : But W.heap.size g W W') : Keying w0 s n g (t + 32) W' := by
  subst ht hx
  refine ⟨⟨_, hL.next hm hj, by rw [hh, splice_cells11]⟩, h.new, But.in h.below hb h.new⟩
set_option linter.unusedSimpArgs false in
set_option maxRecDepth 100000 in
set_option maxHeartbeats 6400000 in
theorem veilBytes_any {w : World} {s : List UInt8} {n : Nat} (hs : s.length = 32) (hn : n ≤ 100000) (hk : KsAt w) :
    Calls Tryz.prog 95 #[.agg (cellsOf s).toArray, .int .i64 (n : Int)] w fun e w' => ∃ g, e = .returned (.slice (some ⟨g, 0, none⟩) n n) ∧ w.heap.size ≤ g ∧ w'.heap[g]? = some (.cells (cellsOf (keyB s n)).toArray 5 (0, 0)) ∧ Below w.heap.size w w' := by
  obtain ⟨i0, hi, hz0, hz1, hz2⟩ := info_parts Tryz.info5
  have HI := Lib.hid hi
  have HS := Lib.hid hs
  have HK := Lib.hid hk
  clear hi hs hk
  go_enter Tryz.func95, Tryz.ntmps95
  go_upto_region 1 with (fail)
  have b1 : Below w.heap.size w (w.alloc (.cells (cellsOf s).toArray 23)) := (Below.refl _ _).alloc (Nat.le_refl _) _
  have h1 := heap_alloc_new w (.cells (cellsOf s).toArray 23)
  revert b1 h1
  generalize (w.alloc (.cells (cellsOf s).toArray 23)) = w1
  obtain ⟨q, hq⟩ : ∃ q, q = w.heap.size := ⟨_, rfl⟩
  rw [← hq]
  intro b1 h1
  rw [hq] at b1
  have hlq := lt_of_block h1
  have HB1 := Lib.hid b1
  have HQ1 := Lib.hid h1
  have HK1 := Lib.hid (HK.out.below b1)
  clear b1 h1 hq HK
  go_upto_region 2 with (at_make; refine wpList_make_full _ rfl _ _ 26 rfl w1.heap.size 5 i0 _ 1 Tryz.underlying26 HI.out hz0 hz1 _ _ _ _ n rfl rfl rfl rfl (by rw [hz2]; omega) (by unfold maxLen; omega) (Nat.le_refl _) ?_; intro w2 hown hgrow)
  have HU := Lib.hid (Keying.begun (s := s) hown hgrow)
  clear hown hgrow
  obtain ⟨g, hg⟩ : ∃ g, g = w1.heap.size := ⟨_, rfl⟩
  rw [← hg] at HU ⊢
  have HG := Lib.hid hg
  clear hg hz0 hz1 hz2 HI
  go_wp2_with fail
  go_loopw [6] (fun i wr => ∃ t j : Nat, t = 32 * j ∧ j ≤ 4000 ∧ i = .int .i64 t ∧ Keying w1 s n g t wr) (fun i _ => n + 32 - (intOf i).toNat)
  case atStart => exact ⟨0, 0, rfl, by omega, rfl, HU.out⟩
  case round =>
    obtain ⟨t, j, htj, hj, rfl, hat⟩ := hrel
    have HAT := Lib.hid hat
    have HTJ := Lib.hid htj
    clear hat HU
    by_cases htn : t < n
    · have f1 : (t : Int) < (n : Int) := by omega
      have e1 : (t : Int) / 32 = (j : Int) := by omega
      have f2 : (j : Int) ≤ 4000 := by omega
      clear htj
      go_upto_region 7 with (fail)
      rw [← three_cells hj]
      have b5 : Below wr.heap.size wr (wr.alloc (.cells (cellsOf (three j)).toArray 181)) := (Below.refl _ _).alloc (Nat.le_refl _) _
      have h5 := heap_alloc_new wr (.cells (cellsOf (three j)).toArray 181)
      revert b5 h5
      generalize (wr.alloc (.cells (cellsOf (three j)).toArray 181)) = w5
      obtain ⟨p, hp⟩ : ∃ p, p = wr.heap.size := ⟨_, rfl⟩
      rw [← hp]
      intro b5 h5
      rw [hp] at b5
      clear hp
      have r0 : Row wr (some ⟨q, 0, none⟩) 32 32 s := row_all (keep HAT.out.below HQ1.out) 32 HS.out.symm (by omega)
      have r1 := r0.below b5
      have r2 : Row w5 (some ⟨p, 0, none⟩) 3 3 (three j) := row_all h5 3 rfl (by omega)
      have k5 := (HK1.out.below HAT.out.below).below b5
      obtain ⟨x, hx, hxl, hjoin⟩ : ∃ x, keySum s j = x ∧ x.length = 32 ∧ ∀ (W : World) (gg : Nat), Below w5.heap.size w5 W → W.heap[gg]? = some (.cells #[.slice (some ⟨q, 0, none⟩) 32 32, .slice (some ⟨p, 0, none⟩) 3 3] 26 (0, 0)) →
          Calls Tryz.prog 43 #[.int .u8 51, .slice (some ⟨gg, 0, none⟩) 2 2] W fun e w' => e = .returned (.agg (cellsOf x).toArray) ∧ Below W.heap.size W w' :=
        ⟨_, rfl, keySum_len s j, fun W gg hb hg => join_any 51 51 rfl (rows2_at hg (r1.below hb) (r2.below hb)) (k5.below hb) (parts2_few 51 HS.out (by show 3 ≤ 1000000; omega))⟩
      have HX := Lib.hid hx
      have HXL := Lib.hid hxl
      have HJ := Lib.hid hjoin
      have HA5 := Lib.hid (HAT.out.more b5)
      have SZX : Hid ((Tryz.prog.info? 23).map (·.size) = some (cellsOf x).length) := Lib.hid (by rw [cellsOf_len, hxl]; exact Tryz.size23)
      have ZX : Hid ((cellsOf zero32).length = (cellsOf x).length) := Lib.hid (by rw [cellsOf_len, cellsOf_len, hxl]; rfl)
      clear b5 h5 r0 r1 r2 k5 hx hxl hjoin HAT
      try simp only [Act.put]
      go_cut [9] from 12 to 36 (fun u w' => ∃ p9, u = .pointer (some ⟨p9, 0, none⟩) ∧ w'.heap[p9]? = some (.cells (cellsOf x).toArray 23 (0, 0)) ∧ Below w5.heap.size w5 w')
      case first =>
        refine wp_region_held_drew (S := fun w' => Below w5.heap.size w5 w') (by kernel_rfl) (below_drew (Below.refl _ _)) (fun hHeld => ?_)
        refine tkP 0 rfl rfl ?_
        refine tkP 1 rfl rfl ?_
        refine wpAnyH_ready (rs := [2, 4]) (by kernel_rfl) (by simp) ?_
        refine AllReadyH.cons rfl (fun K hK => ?_) ?_
        · refine step_rows2_gen (d := 30) rfl (by rfl) rfl rfl rfl (fun gg y2 hgg hhg hb => ?_)
          have HGG := Lib.hid hhg
          have HXy2 := Lib.hid hb
          clear hhg hgg hb
          refine hK.out _ _ (by (try dsimp only); exact Below.trans hHeld (HXy2.out.mono (Below.size hHeld))) (fun hHeld => ?_)
          clear hK K
          refine wpAnyH_ready (rs := [3, 4]) (by kernel_rfl) (by simp) ?_
          refine AllReadyH.cons rfl (fun K hK => ?_) ?_
          · have HC3 := Lib.hid (HJ.out _ gg hHeld HGG.out)
            go_simp
            go_wp2_with ((go_at_call 43; (with_reducible refine (HC3.out).mono ?_); rintro e y3 ⟨rfl, hb⟩; have HXy3 := Lib.hid hb; clear hb))
            refine hK.out _ _ (by (try dsimp only); exact Below.trans hHeld (HXy3.out.mono (Below.size hHeld))) (fun hHeld => ?_)
            clear hK K
            refine tkR 4 rfl (fun K hK => ?_)
            refine step_alloc10 (d := 9) rfl (by rfl) 23 rfl (cellsOf zero32).toArray Tryz.zeroSum11 (fun p9 y4 hp9 hh9 hb => ?_)
            have HV9 := Lib.hid hh9
            have HN9 : Hid (w5.heap.size ≤ p9) := Lib.hid (Nat.le_trans (Below.size hHeld) hp9)
            have HXy4 := Lib.hid hb
            clear hh9 hp9 hb
            refine hK.out _ _ (by (try dsimp only); exact Below.trans hHeld (HXy4.out.mono (Below.size hHeld))) (fun hHeld => ?_)
            clear hK K
            refine tkR 5 rfl (fun K hK => ?_)
            refine step_row10 (by rfl) 23 _ _ rfl p9 (cellsOf x) (by rfl) (by rfl) 23 (cellsOf zero32) HV9.out SZX.out ZX.out (cellsOf_one x) (fun y9 hh9 hb => ?_)
            have HX9 := Lib.hid ((hb.mono (Below.size hHeld)).below HN9.out)
            clear hb HV9 HN9
            refine hK.out _ _ (by (try dsimp only); exact Below.trans hHeld HX9.out) (fun hHeld => ?_)
            clear hK K
            refine wpAnyH_done (by kernel_rfl) ?_ _
            have HP9 := Lib.hid hh9
            have HB9 := Lib.hid (show Below w5.heap.size w5 y9 from hHeld)
            clear hh9 hHeld HGG HX9 HXy2 HXy3 HXy4
            go_wp2_with fail
            go_meet
            exact ⟨p9, rfl, HP9.out, HB9.out⟩
          refine AllReadyH.cons rfl (fun K hK => ?_) ?_
          · refine step_alloc10 (d := 9) rfl (by rfl) 23 rfl (cellsOf zero32).toArray Tryz.zeroSum11 (fun p9 y4 hp9 hh9 hb => ?_)
            have HV9 := Lib.hid hh9
            have HN9 : Hid (w5.heap.size ≤ p9) := Lib.hid (Nat.le_trans (Below.size hHeld) hp9)
            have HXy4 := Lib.hid hb
            clear hh9 hp9 hb
            have HGG := Lib.hid (keep HXy4.out HGG.out)
            refine hK.out _ _ (by (try dsimp only); exact Below.trans hHeld (HXy4.out.mono (Below.size hHeld))) (fun hHeld => ?_)
            clear hK K
            refine tkR 3 rfl (fun K hK => ?_)
            have HC3 := Lib.hid (HJ.out _ gg hHeld HGG.out)
            go_simp
            go_wp2_with ((go_at_call 43; (with_reducible refine (HC3.out).mono ?_); rintro e y3 ⟨rfl, hb⟩; have HXy3 := Lib.hid hb; clear hb))
            have HV9 := Lib.hid (keep HXy3.out HV9.out)
            refine hK.out _ _ (by (try dsimp only); exact Below.trans hHeld (HXy3.out.mono (Below.size hHeld))) (fun hHeld => ?_)
            clear hK K
            refine tkR 5 rfl (fun K hK => ?_)
            refine step_row10 (by rfl) 23 _ _ rfl p9 (cellsOf x) (by rfl) (by rfl) 23 (cellsOf zero32) HV9.out SZX.out ZX.out (cellsOf_one x) (fun y9 hh9 hb => ?_)
            have HX9 := Lib.hid ((hb.mono (Below.size hHeld)).below HN9.out)
            clear hb HV9 HN9
            refine hK.out _ _ (by (try dsimp only); exact Below.trans hHeld HX9.out) (fun hHeld => ?_)
            clear hK K
            refine wpAnyH_done (by kernel_rfl) ?_ _
            have HP9 := Lib.hid hh9
            have HB9 := Lib.hid (show Below w5.heap.size w5 y9 from hHeld)
            clear hh9 hHeld HGG HX9 HXy2 HXy3 HXy4
            go_wp2_with fail
            go_meet
            exact ⟨p9, rfl, HP9.out, HB9.out⟩
          exact AllReadyH.nil
        refine AllReadyH.cons rfl (fun K hK => ?_) ?_
        · refine step_alloc10 (d := 9) rfl (by rfl) 23 rfl (cellsOf zero32).toArray Tryz.zeroSum11 (fun p9 y4 hp9 hh9 hb => ?_)
          have HV9 := Lib.hid hh9
          have HN9 : Hid (w5.heap.size ≤ p9) := Lib.hid (Nat.le_trans (Below.size hHeld) hp9)
          have HXy4 := Lib.hid hb
          clear hh9 hp9 hb
          refine hK.out _ _ (by (try dsimp only); exact Below.trans hHeld (HXy4.out.mono (Below.size hHeld))) (fun hHeld => ?_)
          clear hK K
          refine tkR 2 rfl (fun K hK => ?_)
          refine step_rows2_gen (d := 30) rfl (by rfl) rfl rfl rfl (fun gg y2 hgg hhg hb => ?_)
          have HGG := Lib.hid hhg
          have HXy2 := Lib.hid hb
          clear hhg hgg hb
          have HV9 := Lib.hid (keep HXy2.out HV9.out)
          refine hK.out _ _ (by (try dsimp only); exact Below.trans hHeld (HXy2.out.mono (Below.size hHeld))) (fun hHeld => ?_)
          clear hK K
          refine tkR 3 rfl (fun K hK => ?_)
          have HC3 := Lib.hid (HJ.out _ gg hHeld HGG.out)
          go_simp
          go_wp2_with ((go_at_call 43; (with_reducible refine (HC3.out).mono ?_); rintro e y3 ⟨rfl, hb⟩; have HXy3 := Lib.hid hb; clear hb))
          have HV9 := Lib.hid (keep HXy3.out HV9.out)
          refine hK.out _ _ (by (try dsimp only); exact Below.trans hHeld (HXy3.out.mono (Below.size hHeld))) (fun hHeld => ?_)
          clear hK K
          refine tkR 5 rfl (fun K hK => ?_)
          refine step_row10 (by rfl) 23 _ _ rfl p9 (cellsOf x) (by rfl) (by rfl) 23 (cellsOf zero32) HV9.out SZX.out ZX.out (cellsOf_one x) (fun y9 hh9 hb => ?_)
          have HX9 := Lib.hid ((hb.mono (Below.size hHeld)).below HN9.out)
          clear hb HV9 HN9
          refine hK.out _ _ (by (try dsimp only); exact Below.trans hHeld HX9.out) (fun hHeld => ?_)
          clear hK K
          refine wpAnyH_done (by kernel_rfl) ?_ _
          have HP9 := Lib.hid hh9
          have HB9 := Lib.hid (show Below w5.heap.size w5 y9 from hHeld)
          clear hh9 hHeld HGG HX9 HXy2 HXy3 HXy4
          go_wp2_with fail
          go_meet
          exact ⟨p9, rfl, HP9.out, HB9.out⟩
        exact AllReadyH.nil
      case rest =>
        obtain ⟨p9, rfl, hp9, hb9⟩ := hcut
        have hK9 : Keying w1 s n g t wc.drew := (HA5.out.more hb9).more (below_drew (Below.refl _ _))
        obtain ⟨L, hL, hh⟩ := hK9.row
        obtain ⟨m, hm⟩ : ∃ m, m = min 32 (n - t) := ⟨_, rfl⟩
        have hcl : (cellsOf (x.take m)).length = m := by rw [cellsOf_len, List.length_take, HXL.out]; omega
        have HN9 : Hid ((cellsOf (x.take m)).length = Nat.min 32 (n - t)) := Lib.hid (by rw [hcl]; exact hm)
        have HF9 : Hid (0 + t + (cellsOf (x.take m)).length ≤ (cellsOf L).length) := Lib.hid (by rw [hcl, cellsOf_len, hL.1]; omega)
        have HO9 : Hid (∀ v ∈ cellsOf (x.take m), v.oneCell' = true) := Lib.hid (cellsOf_one _)
        have HP0 : Hid (0 < (cellsOf (x.take m)).length → ∃ ad, (some ⟨p9, 0, none⟩ : Option Addr) = some ad ∧ ∀ j v, (cellsOf (x.take m))[j]? = some v → wc.drew.cell? (ad.add j) = some v) := Lib.hid (fun h0 => by rw [hcl] at h0; exact row_copy (Row.take (row_all (w := wc.drew) (show wc.drew.heap[p9]? = _ from hp9) 32 HXL.out.symm (by omega)) (k := m) (by omega)) (by rw [hcl]; exact h0))
        have HKC : Hid (∀ y : World, y.heap[g]? = some (.cells (splice (cellsOf L) (0 + t) (cellsOf (x.take m))).toArray 5 (0, 0)) → But wc.drew.heap.size g wc.drew y → Keying w1 s n g (t + 32) y) := Lib.hid (fun y h1 h2 => hK9.copied HTJ.out HX.out hL hm htn (by rw [h1, Nat.zero_add]) h2)
        have HHG : Hid (wc.drew.heap[g]? = some (.cells (cellsOf L).toArray 5 (0, 0))) := Lib.hid hh
        clear hK9 hL hh hm hcl hp9 hb9 HA5
        go_upto_region 8 with (fail)
        refine wp_region_held_drew (S := fun _ => True) (by kernel_rfl) (True.intro) (fun hHeld => ?_)
        refine tkP 0 rfl rfl ?_
        refine tkP 1 rfl rfl ?_
        refine tkA 2 rfl rfl (yields_bfrom (by rfl) rfl rfl rfl (Nat.le_of_lt htn) htn) ?_
        refine tkP 3 rfl rfl ?_
        refine tkR 4 rfl (fun K hK => ?_)
        refine step_copy_but rfl (.tmp 34) (.tmp 35) 26 26 rfl 5 Tryz.underlying26 Tryz.size5 _ _ (n - t) (n - t) 32 32 rfl rfl g (0 + t) (cellsOf L) 5 HHG.out (cellsOf (x.take m)) HN9.out (fun h0 => ⟨rfl, HP0.out h0⟩) HF9.out HO9.out (fun y10 hh10 hb10 => ?_)
        have HKN := Lib.hid (HKC.out y10 hh10.out hb10)
        clear hh10 hb10
        refine hK.out _ _ (by (try dsimp only); all_goals exact True.intro) (fun hHeld => ?_)
        clear hK K
        refine wpAnyH_done (by kernel_rfl) ?_ _
        clear hHeld
        go_wp2_with fail
        go_roundw
        case rel => exact ⟨t + 32, j + 1, by have := HTJ.out; omega, by omega, by go_num, HKN.out⟩
        case measure => simp [intOf]; omega
    · have f1 : ¬ (t : Int) < (n : Int) := by omega
      have hfin : w.heap.size ≤ g ∧ wr.heap[g]? = some (.cells (cellsOf (keyB s n)).toArray 5 (0, 0)) ∧ Below w.heap.size w wr := by
        obtain ⟨⟨L, h1, h2⟩, h3, h4⟩ := HAT.out
        exact ⟨Nat.le_trans HB1.out.size h3, by rw [h2, h1.all (by omega)], bthen HB1.out h4⟩
      have HFIN := Lib.hid hfin
      clear hfin htj
      go_wp2_with fail
      go_ret
      exact ⟨g, rfl, HFIN.out⟩
end Go.Proofs.YtcmdpmialehjgaaGreatDoor
namespace Go.Proofs.YtcmdpmialehjgaaGreatDoor
open Go.RowKit

theorem bits8_xor (x y : UInt8) : bits .xor .u8 ((x.toNat : Nat) : Int) ((y.toNat : Nat) : Int) = (((x ^^^ y).toNat : Nat) : Int) := by
  have e : ∀ z : UInt8, BitVec.ofInt 8 ((z.toNat : Nat) : Int) = z.toBitVec := fun z => by
    rw [BitVec.ofInt_natCast]
    apply BitVec.eq_of_toNat_eq
    rw [BitVec.toNat_ofNat]
    exact Nat.mod_eq_of_lt z.toBitVec.isLt
  show IntKind.u8.wrap ((BitVec.ofInt 8 ((x.toNat : Nat) : Int) ^^^ BitVec.ofInt 8 ((y.toNat : Nat) : Int)).toNat : Int) = _
  rw [e, e, show (x ^^^ y).toNat = (x.toBitVec ^^^ y.toBitVec).toNat from rfl]
  have h := (x.toBitVec ^^^ y.toBitVec).isLt
  generalize (x.toBitVec ^^^ y.toBitVec).toNat = m at *
  rw [IntKind.wrap_u8']
  omega
/-- A cover under way: its first k bytes lie in block g, behind them the key's. -/
structure Covering (w0 : World) (s t : List UInt8) (n g k : Nat) (W : World) : Prop where
  row : ∃ L, L.length = n ∧ (∀ i, i < n → L.getD i 0 = if i < k then t.getD i 0 ^^^ kb s i else kb s i) ∧ W.heap[g]? = some (.cells (cellsOf L).toArray 5 (0, 0))
  new : w0.heap.size ≤ g
  below : Below w0.heap.size w0 W
theorem Covering.begun {w0 W : World} {s t : List UInt8} {n g : Nat} (hh : W.heap[g]? = some (.cells (cellsOf (keyB s n)).toArray 5 (0, 0))) (h0 : w0.heap.size ≤ g) (hb : Below w0.heap.size w0 W) : Covering w0 s t n g 0 W :=
  ⟨⟨_, keyB_len s n, fun i hi => by rw [keyB_get hi, if_neg (by omega)], hh⟩, h0, hb⟩
theorem Covering.next {w0 W : World} {s t : List UInt8} {n g k : Nat} {z : Int} (h : Covering w0 s t n g k W) (hk : k < n) (hz : (((t.getD k 0 ^^^ kb s k).toNat : Nat) : Int) = z) : Covering w0 s t n g (k + 1) (W.setCell ⟨g, k, none⟩ (.int .u8 z)) := by
  obtain ⟨⟨L, h1, h2, h3⟩, h4, h5⟩ := h
  refine ⟨⟨L.set k (t.getD k 0 ^^^ kb s k), by rw [List.length_set, h1], fun i hi => ?_, ?_⟩, h4, But.in h5 (set_but W g k _) h4⟩
  · by_cases e : i = k
    · subst e
      rw [if_pos (by omega)]
      simp [List.getD, h1, hi]
    · have e2 : (L.set k (t.getD k 0 ^^^ kb s k)).getD i 0 = L.getD i 0 := by
        simp only [List.getD]
        rw [List.getElem?_set_ne (fun h => e h.symm)]
      rw [e2, h2 i hi]
      by_cases e3 : i < k
      · rw [if_pos e3, if_pos (by omega)]
      · rw [if_neg e3, if_neg (by omega)]
  · rw [set_heap h3 k, ← hz]
    simp [cellsOf, List.map_set]
theorem Covering.cell {w0 W : World} {s t : List UInt8} {n g k : Nat} (h : Covering w0 s t n g k W) (hk : k < n) : W.cell? ⟨g, k, none⟩ = some (.int .u8 (((kb s k).toNat : Nat) : Int)) ∧ W.frozen? ⟨g, k, none⟩ = false := by
  obtain ⟨⟨L, h1, h2, h3⟩, _, _⟩ := h
  refine ⟨?_, frozen_of_row _ _ _ _ _ h3⟩
  have e := h2 k hk
  rw [if_neg (by omega)] at e
  rw [cell_of_row _ _ _ _ _ _ h3, List.getElem?_toArray, cellsOf_get (by omega), e]
theorem Covering.done {w0 W : World} {s t : List UInt8} {n g k : Nat} (h : Covering w0 s t n g k W) (hk : n ≤ k) (ht : t.length = n) : W.heap[g]? = some (.cells (cellsOf (coverB s t)).toArray 5 (0, 0)) := by
  obtain ⟨⟨L, h1, h2, h3⟩, _, _⟩ := h
  rw [h3, show L = coverB s t from bytes_eq _ _ (by rw [coverB_len, h1, ht]) (fun i hi => by rw [h1] at hi; rw [h2 i hi, if_pos (by omega), coverB_get (by omega)])]
set_option linter.unusedSimpArgs false in
set_option maxRecDepth 100000 in
set_option maxHeartbeats 6400000 in
theorem veilTurned_any {w : World} {a : Option Addr} {s t : List UInt8} {n c : Nat} (hs : s.length = 32) (ht : Row w a n c t) (hn : n ≤ 100000) (hk : KsAt w) :
    Calls Tryz.prog 67 #[.agg (cellsOf s).toArray, .slice a n c] w fun e w' => ∃ g, e = .returned (.slice (some ⟨g, 0, none⟩) n n) ∧ w.heap.size ≤ g ∧ w'.heap[g]? = some (.cells (cellsOf (coverB s t)).toArray 5 (0, 0)) ∧ Below w.heap.size w w' := by
  have SZS := Lib.hid (size_of hs)
  have HS := Lib.hid hs
  have HK := Lib.hid hk
  have HT := Lib.hid ht
  clear hs hk ht
  go_enter Tryz.func67, Tryz.ntmps67
  go_upto_region 1 with (fail)
  have b1 : Below w.heap.size w (w.alloc (.cells (cellsOf s).toArray 23)) := (Below.refl _ _).alloc (Nat.le_refl _) _
  have h1 := heap_alloc_new w (.cells (cellsOf s).toArray 23)
  revert b1 h1
  generalize (w.alloc (.cells (cellsOf s).toArray 23)) = w1
  obtain ⟨q, hq⟩ : ∃ q, q = w.heap.size := ⟨_, rfl⟩
  rw [← hq]
  intro b1 h1
  rw [hq] at b1
  have HB1 := Lib.hid b1
  have HQ1 := Lib.hid h1
  have HK1 := Lib.hid (HK.out.below b1)
  have HT1 := Lib.hid (HT.out.below b1)
  clear b1 h1 hq HK
  go_upto_region 2 with (first | (refine wpList_load_row rfl 23 _ rfl q rfl 23 (cellsOf s).toArray (0, 0) _ HQ1.out Tryz.underlying23 rfl SZS.out ?_) | (go_at_call 95; (with_reducible refine (veilBytes_any HS.out hn HK1.out).mono ?_); rintro e w2 ⟨g, rfl, hg, hh2, hb2⟩; have HU := Lib.hid (Covering.begun (t := t) hh2 hg hb2); clear hg hh2 hb2) | fail)
  go_wp2_with fail
  go_loopw [14] (fun i wr => ∃ k : Nat, k ≤ n ∧ i = .int .i64 k ∧ Covering w1 s t n g k wr) (fun i _ => n - (intOf i).toNat)
  case atStart => exact ⟨0, Nat.zero_le _, rfl, HU.out⟩
  case round =>
    obtain ⟨k, hkn, rfl, hat⟩ := hrel
    have HAT := Lib.hid hat
    clear hat HU
    by_cases hkl : k < n
    · have f1 : (k : Int) < (n : Int) := by omega
      obtain ⟨b, off, rfl, hlt, hc⟩ := HT1.out.2.2.2.2 (by omega)
      have c0 := (HAT.out.below.cell (p := ⟨b, off + k, none⟩) hlt).trans (hc k hkl)
      obtain ⟨c1, c2⟩ := HAT.out.cell hkl
      obtain ⟨z, hz⟩ : ∃ z : Int, (((t.getD k 0 ^^^ kb s k).toNat : Nat) : Int) = z := ⟨_, rfl⟩
      have hx := bits8_xor (kb s k) (t.getD k 0)
      rw [UInt8.xor_comm, hz] at hx
      have hx0 := UInt8.toNat_lt (t.getD k 0)
      have hx1 := UInt8.toNat_lt (kb s k)
      have HNX := Lib.hid (HAT.out.next hkl hz)
      have HZ := Lib.hid hz
      generalize ((t.getD k 0).toNat : Nat) = x0 at *
      generalize ((kb s k).toNat : Nat) = x1 at *
      clear hc hz
      go_wp2_with fail
      go_roundw
      case rel => exact ⟨k + 1, by omega, by go_num, HNX.out⟩
      case measure => simp [intOf]; omega
    · have f1 : ¬ (k : Int) < (n : Int) := by omega
      have HFIN := Lib.hid (And.intro (Nat.le_trans HB1.out.size HAT.out.new) (And.intro (HAT.out.done (by omega) HT1.out.1) (bthen HB1.out HAT.out.below)))
      go_wp2_with fail
      go_ret
      exact ⟨g, rfl, HFIN.out⟩
end Go.Proofs.YtcmdpmialehjgaaGreatDoor
namespace Go.Proofs.YtcmdpmialehjgaaGreatDoor
open Go.RowKit

def zero16 : List UInt8 := List.replicate 16 0
theorem zero16_is : (cellsOf zero16).toArray = #[.int .u8 0, .int .u8 0, .int .u8 0, .int .u8 0, .int .u8 0, .int .u8 0, .int .u8 0, .int .u8 0, .int .u8 0, .int .u8 0, .int .u8 0, .int .u8 0, .int .u8 0, .int .u8 0, .int .u8 0, .int .u8 0] := rfl
theorem Tryz.size16 : (Tryz.prog.info? 137).map (·.size) = some 16 := by kernel_rfl
theorem size16_of {d : List UInt8} (h : d.length = 16) : (Tryz.prog.info? 137).map (·.size) = some (cellsOf d).toArray.size := by rw [List.size_toArray, cellsOf_len, h]; exact Tryz.size16
theorem zero16_of {d : List UInt8} (h : d.length = 16) : (cellsOf zero16).toArray.size = (cellsOf d).toArray.size := by rw [List.size_toArray, List.size_toArray, cellsOf_len, cellsOf_len, h]; rfl
/-- The array at the front of a slice of 16 bytes. -/
theorem array16 {b off c : Nat} (W : World) : (Instr.arrayAt 137 (.slice (some ⟨b, off, none⟩) 16 c)).run Tryz.prog W = .ok (.pointer (some ⟨b, off, none⟩)) W := by
  simp [Instr.arrayAt, run_underlying Tryz.underlying137]
/-- The first 16 bytes of a sum. -/
theorem range16 {w : World} {b : Nat} {x : List UInt8} {t : TypeId} {fr : Nat × Nat} (h : w.heap[b]? = some (.cells (cellsOf x).toArray t fr)) : w.rangeAt b 0 (cellsOf (x.take 16)) := fun j v hv => by
  have hj : j < 16 := by
    have h1 := (List.getElem?_eq_some_iff.1 hv).1
    rw [cellsOf_len, List.length_take] at h1
    omega
  refine range_of h j v ?_
  rw [← hv]
  simp [cellsOf, hj]
set_option linter.unusedSimpArgs false in
set_option maxRecDepth 100000 in
set_option maxHeartbeats 6400000 in
theorem mark_any {w : World} {a : Option Addr} {s t : List UInt8} {n c : Nat} (hs : s.length = 32) (ht : Row w a n c t) (hn : n ≤ 100000) (hk : KsAt w) :
    Calls Tryz.prog 68 #[.agg (cellsOf s).toArray, .slice a n c] w fun e w' => e = .returned (.agg (cellsOf (markB s t)).toArray) ∧ Below w.heap.size w w' := by
  have hml := markB_len s t
  obtain ⟨x, hx, hxl, hm, hjoin⟩ : ∃ x, sumOf (partsOf 52 [s, t]) = x ∧ x.length = 32 ∧ markB s t = x.take 16 ∧ ∀ (W : World) (gg q : Nat), KsAt W → W.heap[q]? = some (.cells (cellsOf s).toArray 23 (0, 0)) → Row W a n c t → W.heap[gg]? = some (.cells #[.slice (some ⟨q, 0, none⟩) 32 32, .slice a n c] 26 (0, 0)) →
      Calls Tryz.prog 43 #[.int .u8 52, .slice (some ⟨gg, 0, none⟩) 2 2] W fun e w' => e = .returned (.agg (cellsOf x).toArray) ∧ Below W.heap.size W w' :=
    ⟨_, rfl, sumOf_len _, rfl, fun W gg q hW hq hr hg => join_any 52 52 rfl (rows2_at hg (row_all hq 32 hs.symm (by omega)) hr) hW (parts2_few 52 hs (by rw [hr.1]; omega))⟩
  obtain ⟨m, hmm⟩ : ∃ m, m = markB s t := ⟨_, rfl⟩
  rw [← hmm] at hml hm ⊢
  have SZX := Lib.hid (size_of hxl)
  have ZX := Lib.hid (zero_of hxl)
  have SZM := Lib.hid (size16_of hml)
  have ZM := Lib.hid (zero16_of hml)
  have HM := Lib.hid hm
  have HML : Hid ((Tryz.prog.info? 137).map (·.size) = some (cellsOf m).length) := Lib.hid (by rw [cellsOf_len, hml]; exact Tryz.size16)
  have HXL := Lib.hid hxl
  have HJ := Lib.hid hjoin
  have HK := Lib.hid hk
  have HT := Lib.hid ht
  have qa := @array16
  clear hml hx hxl hm hjoin hmm hk ht
  go_enter Tryz.func68, Tryz.ntmps68
  go_upto_region 1 with (fail)
  rw [← zero16_is]
  have b1 : Below w.heap.size w ((w.alloc (.cells (cellsOf s).toArray 23)).alloc (.cells (cellsOf zero16).toArray 137)) := ((Below.refl _ _).alloc (Nat.le_refl _) _).alloc (by simp) _
  have h1 : ((w.alloc (.cells (cellsOf s).toArray 23)).alloc (.cells (cellsOf zero16).toArray 137)).heap[w.heap.size]? = some (.cells (cellsOf s).toArray 23 (0, 0)) := by
    rw [heap_alloc_old _ _ (by simp), heap_alloc_new]
  have h2 : ((w.alloc (.cells (cellsOf s).toArray 23)).alloc (.cells (cellsOf zero16).toArray 137)).heap[w.heap.size + 1]? = some (.cells (cellsOf zero16).toArray 137 (0, 0)) := heap_alloc_at _ _ _ (by simp)
  revert b1 h1 h2
  generalize ((w.alloc (.cells (cellsOf s).toArray 23)).alloc (.cells (cellsOf zero16).toArray 137)) = w1
  obtain ⟨q, hq⟩ : ∃ q, q = w.heap.size := ⟨_, rfl⟩
  rw [← hq]
  intro b1 h1 h2
  rw [hq] at b1
  have hge : w.heap.size ≤ q + 1 := by omega
  have HB1 := Lib.hid b1
  have HQ1 := Lib.hid h1
  have HR1 := Lib.hid h2
  have HK1 := Lib.hid (HK.out.below b1)
  have HT1 := Lib.hid (HT.out.below b1)
  have hlq := lt_of_block h1
  clear b1 h1 h2 hq HK HT
  go_wp2_with fail
  have b2 : Below w1.heap.size w1 (w1.alloc (.cells #[.slice (some ⟨q, 0, none⟩) 32 32, .slice a n c] 26)) := (Below.refl _ _).alloc (Nat.le_refl _) _
  refine (HJ.out _ w1.heap.size q (HK1.out.below b2) (keep b2 HQ1.out) (HT1.out.below b2) (heap_alloc_new _ _)).mono ?_
  rintro e w2 ⟨rfl, hb2⟩
  have b3 := bthen b2 hb2
  have HB2 := Lib.hid (bthen HB1.out b3)
  have HR2 := Lib.hid (keep b3 HR1.out)
  clear b2 hb2 b3
  go_upto_region 2 with (first | (refine wpList_store_row rfl 23 _ _ rfl w2.heap.size (cellsOf x).toArray rfl rfl 23 (cellsOf zero32).toArray (heap_alloc_new _ _) SZX.out ZX.out (all_oneCell_toArray (cellsOf_one x)) ?_) | fail)
  rw [← zero32_is, laySum_is]
  have h5 := laySum_heap w2 x
  have b5 := laySum_self w2 x
  revert h5 b5
  generalize laySum w2 x = w5
  obtain ⟨p, hp⟩ : ∃ p, p = w2.heap.size := ⟨_, rfl⟩
  rw [← hp]
  intro h5 b5
  rw [hp] at b5
  have h6 := range16 h5
  rw [← HM.out] at h6
  have HP5 := Lib.hid h6
  have HR5 := Lib.hid (keep b5 HR2.out)
  have HB5 := Lib.hid (bthen HB2.out b5)
  clear h5 b5 h6 hp
  try simp only [Act.put]
  go_wp2_with (first | (refine wpList_load_mid rfl 137 _ rfl p 0 rfl (cellsOf m) _ HP5.out Tryz.underlying137 rfl HML.out ?_) | (refine wpList_store_row rfl 137 _ _ rfl (q + 1) (cellsOf m).toArray rfl rfl 137 (cellsOf zero16).toArray HR5.out SZM.out ZM.out (all_oneCell_toArray (cellsOf_one m)) ?_) | fail)
  exact bodyPost_ret (results_cell_row rfl _ _ (q + 1) 137 (cellsOf m).toArray (0, 0) _ rfl (setRow_heap w5 (q + 1) _ _ 137 _ HR5.out) Tryz.underlying137 rfl SZM.out) rfl ⟨rfl, But.in HB5.out (but_setRow w5 (q + 1) _) hge⟩
end Go.Proofs.YtcmdpmialehjgaaGreatDoor
namespace Go.Proofs.YtcmdpmialehjgaaGreatDoor
open Go.RowKit

/-- A row that lies in one block from its beginning on. -/
theorem row_block {w : World} {g n : Nat} {l : List UInt8} {t : TypeId} {fr : Nat × Nat} (hg : w.heap[g]? = some (.cells (cellsOf l).toArray t fr)) (hn : l.length = n) (hm : n ≤ 1000000) : Row w (some ⟨g, 0, none⟩) n n l :=
  row_new hn (Nat.le_refl _) (by unfold maxLen; omega) _ t hg (fun j hj => cellsOf_get (by omega))
end Go.Proofs.YtcmdpmialehjgaaGreatDoor
namespace Go.Proofs.YtcmdpmialehjgaaGreatDoor
open Go.RowKit

set_option maxRecDepth 100000 in
theorem run_eq16 (s t : List UInt8) (hs : s.length = 16) (ht : t.length = 16) (W : World) : (Op.equalIn 10000 137 (.agg (cellsOf s).toArray) (.agg (cellsOf t).toArray)).run Tryz.prog W = .ok (decide (s = t)) W := by
  obtain ⟨i0, hi, _⟩ := info_parts Tryz.info5
  have h := run_equalIn_array (P := Tryz.prog) W 9999 (cellsOf s).toArray (cellsOf t).toArray Tryz.underlying137 hi
  rw [Tryz.cells5] at h
  rw [h, run_eqItems_bytes 9998 s t W _ (fun i hi => by rw [List.mem_range] at hi; omega)]
  congr 1
  rw [decide_eq_decide]
  constructor
  · intro h
    exact bytes_eq s t (by omega) (fun i hi => h i (by rw [List.mem_range]; omega))
  · rintro rfl i _
    rfl
theorem no_guard16 : Tryz.prog.eqGuardType Tryz.prog.depth 137 = false := by kernel_rfl
theorem yields_neq16 {ops : Array Oper} {S : World → Prop} {op : Oper} {a : Act} {x y : Operand} {rt : TypeId} {s t : List UInt8} (hw : Region.wanted op (yielded ops a.tmps) = true) (ho : op.op = .binOp .neq 137 x y rt) (hx : a.eval x = .agg (cellsOf s).toArray) (hy : a.eval y = .agg (cellsOf t).toArray) (hs : s.length = 16) (ht : t.length = 16) (b : Bool) (hb : (!decide (s = t)) = b) :
    YieldsIf Tryz.prog ops S op (.bool b) a :=
  .inl ⟨hw, fun w _ => by
    have h : (binOp .neq 137 (.agg (cellsOf s).toArray) (.agg (cellsOf t).toArray)).run Tryz.prog w = .ok (.bool (!decide (s = t))) w := by
      rw [run_neq_struct, run_eq16 s t hs ht]
      rfl
    rw [hb] at h
    have hg : (eqGuard .neq 137 x y (.agg (cellsOf s).toArray) (.agg (cellsOf t).toArray)).run Tryz.prog w = .ok () w := run_eqGuard_agg w .neq 137 x y _ _ no_guard16
    unfold execOp
    simp only [ho, hx, hy, hg, Sem.run_bind, Sem.run_pure, Result.andThen_ok, h]⟩
/-- A cut of bytes, '[A:]', whatever the address. -/
theorem run_bcut_any {a : Option Addr} {n c A : Nat} (hA : A ≤ n) (W : World) : (Instr.sliceAt 26 (.slice a n c) (some (.int .i64 (A : Int))) none none).run Tryz.prog W = .ok (.slice (if c = A then a else a.map (·.add (A * 1))) (n - A) (c - A)) W := by
  have hu : Tryz.prog.underlying 26 = some (.slice (Tryz.prog.elem 26)) := by kernel_rfl
  have hs : (sizeOf (Tryz.prog.elem 26)).run Tryz.prog W = .ok 1 W := by kernel_rfl
  rw [run_sliceAt_slice W _ _ _ _ _ hu, run_slice_l W _ a n c hu .i64 (A : Int) (by omega) (by omega), hs]
  simp [Result.andThen, sliced]
theorem yields_bfrom_any {ops : Array Oper} {S : World → Prop} {op : Oper} {a : Act} {x lo : Operand} {ad : Option Addr} {n c A : Nat} (hw : Region.wanted op (yielded ops a.tmps) = true) (ho : op.op = .slice 26 x (some lo) none none) (hx : a.eval x = .slice ad n c) (hlo : a.eval lo = .int .i64 (A : Int)) (hA : A ≤ n) (v : Value) (hv : .slice (if c = A then ad else ad.map (·.add (A * 1))) (n - A) (c - A) = v) :
    YieldsIf Tryz.prog ops S op v a :=
  .inl ⟨hw, fun w _ => by
    have h := run_bcut_any (a := ad) (n := n) (c := c) hA w
    rw [hv] at h
    unfold execOp
    simp only [ho, hx, hlo, Option.map_some, Option.map_none, Sem.run_bind, h, Result.andThen_ok, Sem.run_pure]⟩
theorem Row.from {w : World} {a : Option Addr} {n c A : Nat} {l : List UInt8} (h : Row w a n c l) (hA : A ≤ n) : Row w (if c = A then a else a.map (·.add (A * 1))) (n - A) (c - A) (l.drop A) := by
  have hnc := h.2.1
  refine h.drop hA (fun e => ?_) (fun hlt b off e => ?_)
  · split at e
    · assumption
    · have : a = none := by cases a with
        | none => rfl
        | some x => cases e
      have := h.2.2.2.1 this
      omega
  · rw [if_neg (by omega), e, Nat.mul_one]
    simp [Addr.add]
theorem row_range {w : World} {b off n c k : Nat} {l : List UInt8} (h : Row w (some ⟨b, off, none⟩) n c l) (hk : k ≤ n) : w.rangeAt b off (cellsOf (l.take k)) := fun j v hv => by
  have hj : j < k := by
    have h1 := (List.getElem?_eq_some_iff.1 hv).1
    rw [cellsOf_len, List.length_take] at h1
    omega
  obtain ⟨b', off', e, _, hc⟩ := h.2.2.2.2 (by omega)
  cases e
  rw [hc j (by omega), ← hv, ← cellsOf_get (by rw [h.1]; omega)]
  simp [cellsOf, hj]
/-- What Open tells of a text that is long enough, and not too long. -/
def OpenIs (w : World) (s l : List UInt8) (n : Nat) (e : Ending) (w' : World) : Prop :=
  Below w.heap.size w w' ∧ ((markB s (coverB s (l.drop 16)) = l.take 16 ∧ ∃ a c, e = .returned (.tuple #[.slice a (n - 16) c, .int .i64 0]) ∧ Row w' a (n - 16) c (coverB s (l.drop 16))) ∨
    (markB s (coverB s (l.drop 16)) ≠ l.take 16 ∧ e = .returned (.tuple #[.slice none 0 0, .int .i64 4])))
set_option linter.unusedSimpArgs false in
set_option maxRecDepth 100000 in
set_option maxHeartbeats 6400000 in
theorem open_short {w : World} {a : Option Addr} {s : List UInt8} {n c : Nat} (hn : n < 16) :
    Calls Tryz.prog 47 #[.agg (cellsOf s).toArray, .slice a n c] w fun e w' => e = .returned (.tuple #[.slice none 0 0, .int .i64 2]) ∧ Below w.heap.size w w' := by
  have f1 : (n : Int) < 16 := by omega
  go_enter Tryz.func47, Tryz.ntmps47
  go_upto_region 1 with (fail)
  have b1 : Below w.heap.size w (w.alloc (.cells (cellsOf s).toArray 23)) := (Below.refl _ _).alloc (Nat.le_refl _) _
  have h1 := heap_alloc_new w (.cells (cellsOf s).toArray 23)
  revert b1 h1
  generalize (w.alloc (.cells (cellsOf s).toArray 23)) = w1
  obtain ⟨q, hq⟩ : ∃ q, q = w.heap.size := ⟨_, rfl⟩
  rw [← hq]
  intro b1 h1
  rw [hq] at b1
  have HB1 := Lib.hid b1
  clear b1 h1 hq
  go_wp2_with fail
  go_ret2
  exact ⟨rfl, HB1.out⟩
set_option linter.unusedSimpArgs false in
set_option maxRecDepth 100000 in
set_option maxHeartbeats 6400000 in
theorem open_any {w : World} {a : Option Addr} {s l : List UInt8} {n c : Nat} (hs : s.length = 32) (hl : Row w a n c l) (hn16 : 16 ≤ n) (hn : n ≤ 65552) (hk : KsAt w) :
    Calls Tryz.prog 47 #[.agg (cellsOf s).toArray, .slice a n c] w fun e w' => OpenIs w s l n e w' := by
  have f1 : ¬ (n : Int) < 16 := by omega
  have f2 : ¬ (65552 : Int) < (n : Int) := by omega
  have hn0 : n - 16 ≤ 100000 := by omega
  obtain ⟨b, off, rfl, hlb, _⟩ := hl.2.2.2.2 (by omega)
  have SZSL : Hid ((Tryz.prog.info? 23).map (·.size) = some (cellsOf s).length) := Lib.hid (by rw [cellsOf_len, hs]; exact Tryz.size23)
  have HS := Lib.hid hs
  have HK := Lib.hid hk
  have HL := Lib.hid hl
  have hcn := hl.2.1
  have f3 : (16 : Int) ≤ (c : Int) := by omega
  have hcm : c ≤ 9223372036854775807 := by have h9 := hl.2.2.1; unfold maxLen at h9; omega
  clear hs hk hl
  go_enter Tryz.func47, Tryz.ntmps47
  go_upto_region 1 with (fail)
  have b1 : Below w.heap.size w (w.alloc (.cells (cellsOf s).toArray 23)) := (Below.refl _ _).alloc (Nat.le_refl _) _
  have h1 := heap_alloc_new w (.cells (cellsOf s).toArray 23)
  revert b1 h1
  generalize (w.alloc (.cells (cellsOf s).toArray 23)) = w1
  obtain ⟨q, hq⟩ : ∃ q, q = w.heap.size := ⟨_, rfl⟩
  rw [← hq]
  intro b1 h1
  rw [hq] at b1
  have HB1 := Lib.hid b1
  have HQ1 := Lib.hid (range_of h1)
  have hlq := lt_of_block h1
  have HK1 := Lib.hid (HK.out.below b1)
  have HL1 := Lib.hid (HL.out.below b1)
  have HD1 := Lib.hid (HL1.out.from hn16)
  have hlb1 : b < w1.heap.size := Nat.lt_of_lt_of_le hlb b1.size
  clear b1 h1 hq HK HL
  obtain ⟨a2, ha2⟩ : ∃ a2, (if c = 16 then some ⟨b, off, none⟩ else (some ⟨b, off, none⟩ : Option Addr).map (·.add (16 * 1))) = a2 := ⟨_, rfl⟩
  rw [ha2] at HD1
  have HA2 : Hid ((.slice (if c = 16 then some ⟨b, off, none⟩ else (some ⟨b, off, none⟩ : Option Addr).map (·.add (16 * 1))) (n - 16) (c - 16) : Value) = .slice a2 (n - 16) (c - 16)) := Lib.hid (by rw [ha2])
  clear ha2
  go_upto_region 5 with (fail)
  refine wp_region_held_drew (S := fun w' => Below w1.heap.size w1 w') (by kernel_rfl) (below_drew (Below.refl _ _)) (fun hHeld => ?_)
  refine tkA 0 rfl rfl (yieldsIf_load_mid (by rfl) _ _ rfl q 0 rfl (cellsOf s) _ (fun w0 hSw => rangeAt_below HQ1.out hlq hSw) Tryz.underlying23 rfl SZSL.out) ?_
  refine tkP 1 rfl rfl ?_
  refine tkA 2 rfl rfl (yields_bfrom_any (A := 16) (by rfl) rfl rfl rfl hn16 _ HA2.out) ?_
  refine tkR 3 rfl (fun K hK => ?_)
  have HC3 := Lib.hid (veilTurned_any HS.out (HD1.out.below hHeld) hn0 (HK1.out.below hHeld))
  go_simp
  go_wp2_with ((go_at_call 67; (with_reducible refine (HC3.out).mono ?_); rintro e y3 ⟨g, rfl, hgg, hhg, hb⟩; have HGG := Lib.hid hhg; have HXy3 := Lib.hid hb; clear hb hhg hgg))
  refine hK.out _ _ (by (try dsimp only); exact Below.trans hHeld (HXy3.out.mono (Below.size hHeld))) (fun hHeld => ?_)
  clear hK K
  refine tkP 4 rfl rfl ?_
  refine wpAnyH_done (by kernel_rfl) ?_ _
  have HB3 := Lib.hid (bthen HB1.out (show Below w1.heap.size w1 y3 from hHeld))
  have b13 : Below w1.heap.size w1 y3 := hHeld
  clear hHeld
  obtain ⟨t, ht⟩ : ∃ t, t = coverB s (l.drop 16) := ⟨_, rfl⟩
  have htl : t.length = n - 16 := by rw [ht, coverB_len, HD1.out.1]
  rw [← ht] at HGG
  obtain ⟨m, hm, hml, hmark⟩ : ∃ m, markB s t = m ∧ m.length = 16 ∧ ∀ W : World, Below y3.heap.size y3 W → Calls Tryz.prog 68 #[.agg (cellsOf s).toArray, .slice (some ⟨g, 0, none⟩) (n - 16) (n - 16)] W fun e w' => e = .returned (.agg (cellsOf m).toArray) ∧ Below W.heap.size W w' :=
    ⟨_, rfl, markB_len s t, fun W hW => mark_any HS.out ((row_block HGG.out htl (by omega)).below hW) hn0 ((HK1.out.below b13).below hW)⟩
  obtain ⟨h, hh⟩ : ∃ h, l.take 16 = h := ⟨_, rfl⟩
  have hhl : h.length = 16 := by rw [← hh, List.length_take, HL1.out.1]; omega
  have hrl := row_range (HL1.out.below b13) hn16
  rw [hh] at hrl
  obtain ⟨z, hz⟩ : ∃ z, decide (m = h) = z := ⟨_, rfl⟩
  have HL3 := Lib.hid hrl
  have hlb3 : b < y3.heap.size := Nat.lt_of_lt_of_le hlb1 b13.size
  have HQ3 := Lib.hid (rangeAt_below HQ1.out hlq b13)
  have hlq3 : q < y3.heap.size := Nat.lt_of_lt_of_le hlq b13.size
  have HR3 : Hid (Row y3 (some ⟨g, 0, none⟩) (n - 16) (n - 16) (coverB s (l.drop 16))) := Lib.hid (by rw [← ht]; exact row_block HGG.out htl (by omega))
  have SZH : Hid ((Tryz.prog.info? 137).map (·.size) = some (cellsOf h).length) := Lib.hid (by rw [cellsOf_len, hhl]; exact Tryz.size16)
  have HMM : Hid (markB s (coverB s (l.drop 16)) = m) := Lib.hid (by rw [← ht]; exact hm)
  have HHE := Lib.hid hh
  have HML := Lib.hid hml
  have HHL := Lib.hid hhl
  have HMK := Lib.hid hmark
  have HZ := Lib.hid hz
  have qa := @array16
  clear ht htl hm hml hmark hh hhl hrl hz b13 HGG HD1 HA2 HQ1 HK1 HL1
  go_upto_region 6 with (fail)
  refine wp_region_held_drew (S := fun w' => Below y3.heap.size y3 w') (by kernel_rfl) (below_drew (Below.refl _ _)) (fun hHeld => ?_)
  refine tkA 0 rfl rfl (yieldsIf_load_mid (by rfl) _ _ rfl q 0 rfl (cellsOf s) _ (fun w0 hSw => rangeAt_below HQ3.out hlq3 hSw) Tryz.underlying23 rfl SZSL.out) ?_
  refine tkP 1 rfl rfl ?_
  refine tkP 3 rfl rfl ?_
  refine tkP 4 rfl rfl ?_
  refine tkP 5 rfl rfl ?_
  refine tkA 6 rfl rfl (yieldsIf_load_mid (by rfl) _ _ rfl b off rfl (cellsOf h) _ (fun w0 hSw => rangeAt_below HL3.out hlb3 hSw) Tryz.underlying137 rfl SZH.out) ?_
  refine tkR 2 rfl (fun K hK => ?_)
  have HC2 := Lib.hid (HMK.out _ hHeld)
  go_simp
  go_wp2_with ((go_at_call 68; (with_reducible refine (HC2.out).mono ?_); rintro e y6 ⟨rfl, hb⟩; have HXy6 := Lib.hid hb; clear hb))
  refine hK.out _ _ (by (try dsimp only); exact Below.trans hHeld (HXy6.out.mono (Below.size hHeld))) (fun hHeld => ?_)
  clear hK K
  refine tkA 7 rfl rfl (yields_neq16 (by rfl) rfl rfl rfl HML.out HHL.out (!z) (by rw [HZ.out])) ?_
  refine wpAnyH_done (by kernel_rfl) ?_ _
  have HB6 := Lib.hid (bthen HB3.out (show Below y3.heap.size y3 y6 from hHeld))
  have HR6 := Lib.hid (HR3.out.below (show Below y3.heap.size y3 y6 from hHeld))
  clear hHeld
  cases z
  · go_wp2_with fail
    go_ret2
    exact ⟨HB6.out, .inr ⟨by rw [HMM.out, HHE.out]; exact of_decide_eq_false HZ.out, rfl⟩⟩
  · go_wp2_with fail
    go_ret2
    exact ⟨HB6.out, .inl ⟨by rw [HMM.out, HHE.out]; exact of_decide_eq_true HZ.out, _, _, rfl, HR6.out⟩⟩
end Go.Proofs.YtcmdpmialehjgaaGreatDoor
