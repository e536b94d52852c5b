/- What mix comes to: a block makes eight words of eight words. -/
import Derived.Test.YtjmdkgjfcfnbiaaDoorHash
import Derived.Outline
import Derived.BigRegion
namespace Go.Proofs.YtjmdkgjfcfnbiaaDoor
open Go.RowKit

theorem num_not (x : BitVec 32) : bits .xor .u32 4294967295 (num x) = num (~~~x) := by
  have e : (4294967295 : Int) = num 4294967295 := rfl
  rw [e, bits_xor]
  congr 1
theorem turned_int (x : BitVec 32) (i j k : Int) (h : 0 < i ∧ i < 32 ∧ 0 < j ∧ j < 32 ∧ 0 < k ∧ k < 32) (w : World) : Calls Tryd.prog 27 #[.int .u32 (num x), .int .i64 i, .int .i64 j, .int .i64 k] w fun e w' => e = .returned (.int .u32 (num (turn3 x i.toNat j.toNat k.toNat))) ∧ w = w' := by
  obtain ⟨a, rfl⟩ := Int.eq_ofNat_of_zero_le (show 0 ≤ i by omega)
  obtain ⟨b, rfl⟩ := Int.eq_ofNat_of_zero_le (show 0 ≤ j by omega)
  obtain ⟨c, rfl⟩ := Int.eq_ofNat_of_zero_le (show 0 ≤ k by omega)
  exact turned_any x a b c (by omega) (by omega) (by omega) (by omega) (by omega) (by omega) w
/-- The heap as it is, but for the blocks that the call made: what holds before the rounds. -/
def MixAt (w : World) (hb wb : Nat) (ws ss : List (BitVec 32)) (bs : List UInt8) (m : Nat) (W : World) : Prop :=
  HashAt W hb ws bs m ∧ W.heap[wb]? = some (.cells (wordsOf ss).toArray 58 (0, 0)) ∧ wb ≠ hb ∧ KsAt W ∧ But w.heap.size hb w W
theorem MixAt.drew {w W : World} {hb wb m : Nat} {ws ss : List (BitVec 32)} {bs : List UInt8} (h : MixAt w hb wb ws ss bs m W) (n : Nat) : MixAt w hb wb ws ss bs m (W.drewN n) :=
  ⟨h.1, h.2.1, h.2.2.1, h.2.2.2.1, h.2.2.2.2.trans (But.of (below_drewN (Below.refl _ _) n))⟩

set_option maxRecDepth 100000 in
set_option maxHeartbeats 1600000 in
theorem mix_any {w : World} {hb c m : Nat} {a : Option Addr} {v : Eight} {bs q : List UInt8} (h : HashAt w hb v.list bs m) (hq : Row w a 64 c q) (hk : KsAt w) :
    Calls Tryd.prog 25 #[.pointer (some ⟨hb, 0, none⟩), .slice a 64 c] w fun e w' => e = .returned (.tuple #[]) ∧ HashAt w' hb (compress v q).list bs m ∧ But w.heap.size hb w w' := by
  have H := Lib.hid h
  have HQ := Lib.hid hq
  have HK := Lib.hid hk
  clear h hq hk
  go_enter Tryd.func25, Tryd.ntmps25
  go_wp2_with fail
  refine (spread_any HQ.out).mono ?_
  rintro e w1 ⟨rfl, hb1⟩
  have HB1 := Lib.hid hb1
  clear hb1
  have hall : (wordsOf (sched q 64)).toArray.all (·.oneCell') = true := by
    rw [List.all_toArray]
    exact List.all_eq_true.2 (wordsOf_one _)
  have hlen : (wordsOf (sched q 64)).toArray.size = 64 := by rw [List.size_toArray, wordsOf_len, sched_len]
  have hsz : (Tryd.prog.info? 58).map (·.size) = some (wordsOf (sched q 64)).toArray.size := by rw [hlen]; exact Tryd.size58
  have hzl : (zerosW 64).toArray.size = (wordsOf (sched q 64)).toArray.size := by rw [hlen]; rfl
  have HALL := Lib.hid hall
  have HSZ := Lib.hid hsz
  have HZL := Lib.hid hzl
  clear hall hlen hsz hzl
  go_wp2_with (refine wpList_store_row rfl 58 _ _ rfl w1.heap.size (wordsOf (sched q 64)).toArray rfl rfl 58 (zerosW 64).toArray (heap_alloc_new _ _) HSZ.out HZL.out HALL.out ?_)
  rw [← zerosW_is]
  have hw : MixAt w hb w1.heap.size v.list (sched q 64) bs m ((w1.alloc (.cells (zerosW 64).toArray 58)).setRow w1.heap.size (wordsOf (sched q 64)).toArray) := by
    have b1 : Below w1.heap.size w1 (w1.alloc (.cells (zerosW 64).toArray 58)) := (Below.refl _ _).alloc (Nat.le_refl _) _
    have b2 : Below w1.heap.size w1 ((w1.alloc (.cells (zerosW 64).toArray 58)).setRow w1.heap.size (wordsOf (sched q 64)).toArray) := b1.trans (((but_setRow _ w1.heap.size _).mono b1.size).below (Nat.le_refl _))
    have h1 := H.out.below HB1.out
    exact ⟨h1.below b2, setRow_heap _ _ _ _ _ _ (heap_alloc_new _ _), by have := h1.lt; omega, (HK.out.below HB1.out).below b2, (But.of HB1.out).trans (But.of (b2.mono HB1.out.size))⟩
  have hsz1 := HB1.out.size
  have hlt := H.out.lt
  revert hw
  generalize ((w1.alloc (.cells (zerosW 64).toArray 58)).setRow w1.heap.size (wordsOf (sched q 64)).toArray) = W
  obtain ⟨wb, hwb⟩ : ∃ wb, wb = w1.heap.size := ⟨_, rfl⟩
  rw [← hwb]
  intro hw
  have HW := Lib.hid hw
  have HH := Lib.hid hw.1
  have c0 := hw.1.word (i := 0) (by decide)
  have c1 := hw.1.word (i := 1) (by decide)
  have c2 := hw.1.word (i := 2) (by decide)
  have c3 := hw.1.word (i := 3) (by decide)
  have c4 := hw.1.word (i := 4) (by decide)
  have c5 := hw.1.word (i := 5) (by decide)
  have c6 := hw.1.word (i := 6) (by decide)
  have c7 := hw.1.word (i := 7) (by decide)
  obtain ⟨v0, v1, v2, v3, v4, v5, v6, v7⟩ := v
  simp only [Eight.list, List.getD_cons_zero, List.getD_cons_succ] at c0 c1 c2 c3 c4 c5 c6 c7
  clear hw hwb HALL HSZ HZL HB1 H HK HQ hsz1 hlt
  simp only [Act.put]
  go_quiet (fail)
  clear c0 c1 c2 c3
  go_wp2_with fail
  go_quiet (fail)
  clear c4 c5 c6 c7
  go_wp2_with fail
  obtain ⟨vv, hvv⟩ : ∃ vv : Eight, vv = ⟨v0, v1, v2, v3, v4, v5, v6, v7⟩ := ⟨_, rfl⟩
  have HV := Lib.hid hvv
  clear hvv
  go_loopw [5, 6, 7, 8, 9, 10, 11, 12, 62] (fun s5 s6 s7 s8 s9 s10 s11 s12 i wr => ∃ (k : Nat) (r : Eight), k ≤ 64 ∧ i = .int .i64 k ∧ Hid (r = rounds (sched q 64) vv k) ∧ s5 = .int .u32 (num r.a) ∧ s6 = .int .u32 (num r.b) ∧ s7 = .int .u32 (num r.c) ∧ s8 = .int .u32 (num r.d) ∧ s9 = .int .u32 (num r.e) ∧ s10 = .int .u32 (num r.f) ∧ s11 = .int .u32 (num r.g) ∧ s12 = .int .u32 (num r.h) ∧ MixAt w hb wb vv.list (sched q 64) bs m wr)
    (fun _ _ _ _ _ _ _ _ i _ => 64 - (intOf i).toNat)
  case atStart => exact ⟨0, _, Nat.zero_le _, rfl, Lib.hid HV.out.symm, rfl, rfl, rfl, rfl, rfl, rfl, rfl, rfl, by rw [HV.out]; exact (HW.out.drew _).drew _⟩
  case round =>
    obtain ⟨k, ⟨a, b, c', d, e, f, g, h⟩, hk, rfl, HR, rfl, rfl, rfl, rfl, rfl, rfl, rfl, rfl, hat⟩ := hrel
    have HAT := Lib.hid hat
    by_cases hlt : k < 64
    · have ck := hat.2.2.2.1 k hlt
      have cw : wr.cell? ⟨wb, k, none⟩ = some (.int .u32 (num ((sched q 64).getD k 0))) := by
        rw [cell_of_row wr wb k _ _ _ hat.2.1]
        simpa using wordsOf_get (l := sched q 64) (j := k) (by rw [sched_len]; exact hlt)
      obtain ⟨x, hx⟩ : ∃ x, x = ks.getD k 0 := ⟨_, rfl⟩
      obtain ⟨y, hy⟩ : ∃ y, y = (sched q 64).getD k 0 := ⟨_, rfl⟩
      rw [← hx] at ck
      rw [← hy] at cw
      have HX := Lib.hid hx
      have HY := Lib.hid hy
      have p0 : (k : Int) < 64 := by omega
      have q0 : 0 ≤ (k : Int) := by omega
      have b1 := bits_and e f
      have b2 := num_not e
      have b3 := bits_and (~~~e) g
      have b2' : bits .xor .u32 IntKind.u32.max (num e) = num (~~~e) := num_not e
      obtain ⟨ch, hch⟩ : ∃ ch, ch = choice e f g := ⟨_, rfl⟩
      have b4 : bits .xor .u32 (num (e &&& f)) (num (~~~e &&& g)) = num ch := by rw [bits_xor, hch]; rfl
      have m1 := bits_and a b
      have m2 := bits_and a c'
      have m3 := bits_and b c'
      have m4 := bits_xor (a &&& b) (a &&& c')
      obtain ⟨mj, hmj⟩ : ∃ mj, mj = major a b c' := ⟨_, rfl⟩
      have m5 : bits .xor .u32 (num ((a &&& b) ^^^ (a &&& c'))) (num (b &&& c')) = num mj := by rw [bits_xor, hmj]; rfl
      obtain ⟨T, hT⟩ : ∃ T, T = tee ⟨a, b, c', d, e, f, g, h⟩ x y := ⟨_, rfl⟩
      obtain ⟨U, hU⟩ : ∃ U, U = you ⟨a, b, c', d, e, f, g, h⟩ := ⟨_, rfl⟩
      have a1 := wrap_add h (turn3 e 6 11 25)
      have a2 := wrap_add (h + turn3 e 6 11 25) ch
      have a3 := wrap_add (h + turn3 e 6 11 25 + ch) x
      have a4 : IntKind.u32.wrap (num (h + turn3 e 6 11 25 + ch + x) + num y) = num T := by rw [wrap_add, hT, hch]; rfl
      have a5 : IntKind.u32.wrap (num (turn3 a 2 13 22) + num mj) = num U := by rw [wrap_add, hU, hmj]; rfl
      have a5' : (num (turn3 a 2 13 22) + num mj) % 4294967296 = num U := by rw [mod_add, hU, hmj]; rfl
      have a6 := wrap_add T U
      have a6' := mod_add T U
      have a7 := wrap_add d T
      have a7' := mod_add d T
      have hnext : round ⟨a, b, c', d, e, f, g, h⟩ x y = ⟨T + U, a, b, c', d + T, e, f, g⟩ := by rw [hT, hU]; rfl
      have HN := Lib.hid hnext
      clear hx hy hat hch hmj hT hU hnext
      go_wp2_with fail
      go_quiet ((go_at_call 27; exact quiet_eq (turned_int _ _ _ _ (by decide) _)))
      go_wp2_with (go_at_call 27; refine (turned_int _ _ _ _ (by decide) _).mono ?_; rintro e w' ⟨rfl, rfl⟩)
      go_roundw
      case rel => exact ⟨k + 1, ⟨T + U, a, b, c', d + T, e, f, g⟩, by omega, by go_num, Lib.hid (by rw [← HN.out, HX.out, HY.out]; show _ = round (rounds _ _ k) _ _; rw [← HR.out]), rfl, rfl, rfl, rfl, rfl, rfl, rfl, rfl, HAT.out.drew _⟩
      case measure => simp [intOf]; omega
    · have hk64 : k = 64 := by omega
      have hr := HR.out
      rw [hk64] at hr
      obtain ⟨V, hV⟩ : ∃ V : Eight, V = ⟨a, b, c', d, e, f, g, h⟩ := ⟨_, rfl⟩
      rw [← hV] at hr
      have HR64 := Lib.hid hr
      have hix : ∀ j : Nat, j < 8 → ∀ W' : World, (Instr.index 42 (.agg #[.int .u32 (num a), .int .u32 (num b), .int .u32 (num c'), .int .u32 (num d), .int .u32 (num e), .int .u32 (num f), .int .u32 (num g), .int .u32 (num h)]) (.int .i64 (j : Int))).run Tryd.prog W' = .ok (.int .u32 (num (V.list.getD j 0))) W' := fun j hj W' => by
        rw [hV]
        rcases (show j = 0 ∨ j = 1 ∨ j = 2 ∨ j = 3 ∨ j = 4 ∨ j = 5 ∨ j = 6 ∨ j = 7 by omega) with rfl | rfl | rfl | rfl | rfl | rfl | rfl | rfl <;> rfl
      have HIX := Lib.hid hix
      clear hat hk64 hr hV hix
      go_wp2_with fail
      go_loopw [124] (fun i wx => ∃ j : Nat, j ≤ 8 ∧ i = .int .i64 j ∧ HashAt wx hb (addUp vv.list V.list j) bs m ∧ But w.heap.size hb w wx) (fun i _ => 8 - (intOf i).toNat)
      case atStart => exact ⟨0, Nat.zero_le _, rfl, by rw [addUp_none]; exact HAT.out.1, HAT.out.2.2.2.2⟩
      case round =>
        obtain ⟨j, hj, rfl, hh, hbut⟩ := hrel
        have HH2 := Lib.hid hh
        have HB2 := Lib.hid hbut
        by_cases hlt8 : j < 8
        · have cj := hh.word hlt8
          rw [addUp_get _ _ _ rfl rfl hlt8] at cj
          have fj := hh.free j
          have hset := addUp_set vv.list V.list j rfl rfl hlt8
          have hij := HIX.out j hlt8
          obtain ⟨x, hx⟩ : ∃ x, x = vv.list.getD j 0 := ⟨_, rfl⟩
          obtain ⟨y, hy⟩ : ∃ y, y = V.list.getD j 0 := ⟨_, rfl⟩
          rw [← hx] at cj hset
          rw [← hy] at hij hset
          have HSET := Lib.hid hset
          have p0 : (j : Int) < 8 := by omega
          have q0 : 0 ≤ (j : Int) := by omega
          have a1 := wrap_add x y
          have a1' := mod_add x y
          clear hh hbut hset hx hy
          go_wp2_with fail
          go_region
          all_goals
            go_wp2_with fail
            go_roundw
            case rel =>
              refine ⟨j + 1, by omega, by go_num, ?_, ?_⟩
              · rw [← HSET.out]
                exact HashAt.setWord (w := wr.drewN _) HH2.out hlt8 _
              · exact (HB2.out.trans (But.of (below_drewN (Below.refl _ _) 1))).setCell _ (.inl rfl) _
            case measure => simp [intOf]; omega
        · have hj8 : j = 8 := by omega
          have hfin := HH2.out
          rw [hj8, addUp_all, HR64.out, HV.out] at hfin
          have HF := Lib.hid hfin
          clear hh hbut hfin hj8
          go_wp2_with fail
          go_end0
          exact ⟨rfl, HF.out, HB2.out⟩
end Go.Proofs.YtjmdkgjfcfnbiaaDoor
