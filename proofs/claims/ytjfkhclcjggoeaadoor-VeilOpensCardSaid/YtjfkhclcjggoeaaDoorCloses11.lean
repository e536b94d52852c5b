/- The walk of VeilCloses. -/
import Derived.Test.YtjfkhclcjggoeaaDoorVeilCover
import Derived.Test.YtjfkhclcjggoeaaDoorAwake11
import Derived.Test.YtjfkhclcjggoeaaDoorCut
import Derived.Test.YtjfkhclcjggoeaaDoorMemory
namespace Go.Proofs.YtjfkhclcjggoeaaDoor
open Go.RowKit

/-- What Open tells of what Close told. -/
theorem open_closed {w : World} {a : Option Addr} {s t : List UInt8} {n c : Nat} (hs : s.length = 32) (ht : t.length = n) (hl : Row w a (16 + n) c (closeB s t)) (hn : n ≤ 65536) (hk : KsAt w) :
    Calls Tryd.prog 10 #[.agg (cellsOf s).toArray, .slice a (16 + n) c] w fun e w' => ∃ a2 c2, e = .returned (.tuple #[.slice a2 n c2, .int .i64 0]) ∧ Row w' a2 n c2 t ∧ Below w.heap.size w w' := by
  refine (open_any hs hl (by omega) (by omega) hk).mono ?_
  rintro e w' ⟨hb, h⟩
  have e1 : coverB s ((closeB s t).drop 16) = t := by rw [closeB_drop, coverB_back]
  have e2 : 16 + n - 16 = n := by omega
  rw [e1, e2, closeB_take] at h
  rcases h with ⟨_, a2, c2, h1, h2⟩ | ⟨h1, _⟩
  · exact ⟨a2, c2, h1, h2, hb⟩
  · exact absurd rfl h1
theorem own_zero11 {w : World} {B : Nat} (hB : B ≤ w.heap.size) : Own (w.alloc (.cells #[] 5)) B (.slice (some ⟨w.heap.size, 0, none⟩) 0 0) [] := World.ownsRow_made w #[] 0 hB (Nat.zero_le _) (by simp)
set_option linter.unusedSimpArgs false in
set_option maxRecDepth 100000 in
set_option maxHeartbeats 6400000 in
theorem closesLaw_walk {w : World} {a : Option Addr} {N c : Nat} {s l : List UInt8} (hs : s.length = 32) (hl : Row w a N c l) (hk : KsAt w) :
    Calls Tryd.prog 3 #[.agg (cellsOf s).toArray, .slice a N c] w fun e w' => e = .returned (.bool true) ∧ Below w.heap.size w w' := by
  obtain ⟨i0, hi, hz0, hz1, hz2⟩ := info_parts Tryd.info5
  have HI := Lib.hid hi
  have SZS := Lib.hid (size_of hs)
  have HS := Lib.hid hs
  have HK := Lib.hid hk
  have HL := Lib.hid hl
  clear hi hs hk hl
  go_enter Tryd.func3, Tryd.ntmps3
  go_upto_region 1 with (fail)
  have b1 : Below w.heap.size w (w.alloc (.cells (cellsOf s).toArray 23)) := (Below.refl _ _).alloc (Nat.le_refl _) _
  have h1 := heap_alloc_new w (.cells (cellsOf s).toArray 23)
  revert b1 h1
  generalize (w.alloc (.cells (cellsOf s).toArray 23)) = w1
  obtain ⟨q, hq⟩ : ∃ q, q = w.heap.size := ⟨_, rfl⟩
  rw [← hq]
  intro b1 h1
  rw [hq] at b1
  have HB1 := Lib.hid b1
  have HQ1 := Lib.hid h1
  have HK1 := Lib.hid (HK.out.below b1)
  have HL1 := Lib.hid (HL.out.below b1)
  clear b1 h1 hq HK HL
  go_upto_region 2 with (first | (go_at_call 6; (with_reducible refine (cut_any HL1.out).mono ?_); rintro e w' ⟨rfl, hr, rfl⟩; have HR1 := Lib.hid hr; clear hr) | fail)
  obtain ⟨n, hn⟩ : ∃ n, n = min N 200 := ⟨_, rfl⟩
  obtain ⟨t, ht⟩ : ∃ t, t = l.take 200 := ⟨_, rfl⟩
  rw [← hn, ← ht] at HR1
  rw [← hn]
  have hn200 : n ≤ 200 := by omega
  clear hn ht HL1
  have htl : t.length = n := HR1.out.1
  obtain ⟨x, hx, hxl, hjoin⟩ : ∃ x, x.take 16 = markB s t ∧ x.length = 32 ∧ ∀ (W : World) (gg : Nat), KsAt W → W.heap[q]? = some (.cells (cellsOf s).toArray 23 (0, 0)) → Row W a n c t → W.heap[gg]? = some (.cells #[.slice (some ⟨q, 0, none⟩) 32 32, .slice a n c] 24 (0, 0)) →
      Calls Tryd.prog 7 #[.int .u8 52, .slice (some ⟨gg, 0, none⟩) 2 2] W fun e w' => e = .returned (.agg (cellsOf x).toArray) ∧ Below W.heap.size W w' :=
    ⟨_, rfl, sumOf_len _, fun W gg hW hq hr hg => join_any 52 52 rfl (rows2_at hg (row_all hq 32 HS.out.symm (by omega)) hr) hW (parts2_few 52 HS.out (by omega))⟩
  obtain ⟨C, hC⟩ : ∃ C, C = closeB s t := ⟨_, rfl⟩
  have hCx : x.take 16 ++ coverB s t = C := by rw [hC, hx]; rfl
  have hclose : ∀ W : World, KsAt W → Row W a n c t → Calls Tryd.prog 9 #[.agg (cellsOf s).toArray, .slice a n c] W fun e w' => ∃ a' c', e = .returned (.tuple #[.slice a' (16 + n) c', .int .i64 0]) ∧ Row w' a' (16 + n) c' C ∧ Below W.heap.size W w' := fun W hW hr => by rw [hC]; exact close_any HS.out hr (by omega) hW
  have hopen : ∀ (W : World) (a' : Option Addr) (c' : Nat), KsAt W → Row W a' (16 + n) c' C → Calls Tryd.prog 10 #[.agg (cellsOf s).toArray, .slice a' (16 + n) c'] W fun e w' => ∃ a2 c2, e = .returned (.tuple #[.slice a2 n c2, .int .i64 0]) ∧ Row w' a2 n c2 t ∧ Below W.heap.size W w' := fun W a' c' hW hr => open_closed HS.out htl (by rw [← hC]; exact hr) (by omega) hW
  have hcov : ∀ W : World, KsAt W → Row W a n c t → Calls Tryd.prog 8 #[.agg (cellsOf s).toArray, .slice a n c] W fun e w' => ∃ a' c', e = .returned (.slice a' n c') ∧ Row w' a' n c' (coverB s t) ∧ Below W.heap.size W w' := fun W hW hr => cover_law HS.out hr hn200 hW
  obtain ⟨V, hV⟩ : ∃ V, V = coverB s t := ⟨_, rfl⟩
  rw [← hV] at hCx hcov
  have hxt : (x.take 16).length = 16 := by rw [List.length_take, hxl]; rfl
  have SZX := Lib.hid (size_of hxl)
  have ZX := Lib.hid (zero_of hxl)
  have HXL := Lib.hid hxl
  have HXT := Lib.hid hxt
  have HJ := Lib.hid hjoin
  have HCX := Lib.hid hCx
  have HCL := Lib.hid hclose
  have HOP := Lib.hid hopen
  have HCO := Lib.hid hcov
  clear htl hx hxl hxt hjoin hC hCx hclose hopen hcov hV
  go_wp2_with fail
  have b2 : Below w1.heap.size w1 (w1.alloc (.cells #[.slice (some ⟨q, 0, none⟩) 32 32, .slice a n c] 24)) := (Below.refl _ _).alloc (Nat.le_refl _) _
  refine (HJ.out _ w1.heap.size (HK1.out.below b2) (keep b2 HQ1.out) (HR1.out.below b2) (heap_alloc_new _ _)).mono ?_
  rintro e w2 ⟨rfl, hb2⟩
  have HB2 := Lib.hid (bthen b2 hb2)
  clear b2 hb2
  go_upto_region 3 with (first | (refine wpList_store_row rfl 23 _ _ rfl w2.heap.size (cellsOf x).toArray rfl rfl 23 (cellsOf zero32).toArray (heap_alloc_new _ _) SZX.out ZX.out (all_oneCell_toArray (cellsOf_one x)) ?_) | fail)
  rw [← zero32_is, laySum_is]
  have h5 := laySum_heap w2 x
  have b5 := laySum_self w2 x
  revert h5 b5
  generalize laySum w2 x = w5
  obtain ⟨p, hp⟩ : ∃ p, p = w2.heap.size := ⟨_, rfl⟩
  rw [← hp]
  intro h5 b5
  rw [hp] at b5
  have HX5 : Hid (Row w5 (some ⟨p, 0, none⟩) 16 32 (x.take 16)) := Lib.hid ((row_all h5 32 HXL.out.symm (by omega)).take (by omega))
  have HB5 := Lib.hid (bthen HB2.out b5)
  clear h5 b5 hp HB2
  try simp only [Act.put]
  have b6 : Below w5.heap.size w5 (w5.alloc (.cells #[] 5)) := (Below.refl _ _).alloc (Nat.le_refl _) _
  have HU6 : Hid (Under w5 (.slice (some ⟨w5.heap.size, 0, none⟩) 0 0) [] (w5.alloc (.cells #[] 5))) := Lib.hid ⟨own_zero11 (Nat.le_refl _), b6⟩
  have HX6 := Lib.hid (HX5.out.below b6)
  clear b6 HX5
  go_upto_region 4 with (first | (at_builtin; refine wpList_append_row _ rfl _ _ 24 rfl w5.heap.size i0 Tryd.underlying24 HI.out hz0 hz1 hz2 _ [] 0 rfl rfl HU6.out.own (some ⟨p, 0, none⟩) 16 32 (x.take 16) rfl HX6.out (by omega) HU6.out.below.size ?_; intro a7 c7 w7 ho7 hg7; have HU7 := Lib.hid (Under.grown HU6.out ho7 hg7); clear ho7 hg7) | fail)
  have b7 := bthen HB5.out HU7.out.below
  have HB7 := Lib.hid b7
  have HQ7 := Lib.hid (keep b7 HQ1.out)
  have HK7 := Lib.hid (HK1.out.below b7)
  have HR7 := Lib.hid (HR1.out.below b7)
  clear b7 HX6 HU6 HJ
  go_upto_region 5 with (first | (refine wpList_load_row rfl 23 _ rfl q rfl 23 (cellsOf s).toArray (0, 0) _ HQ7.out Tryd.underlying23 rfl SZS.out ?_) | (go_at_call 8; (with_reducible refine (HCO.out _ HK7.out HR7.out).mono ?_); rintro e w8 ⟨a8, c8, rfl, hr8, hb8⟩; have HV8 := Lib.hid hr8; have HB8 := Lib.hid hb8; have HU8 := Lib.hid (HU7.out.more hb8); clear hr8 hb8) | (at_builtin; refine wpList_append_row _ rfl _ _ 24 rfl w5.heap.size i0 Tryd.underlying24 HI.out hz0 hz1 hz2 _ (x.take 16) 16 HXT.out rfl HU8.out.own a8 n c8 V rfl HV8.out (by omega) HU8.out.below.size ?_; intro a9 c9 w9 ho9 hg9; have HU9 := Lib.hid (Under.grown HU8.out ho9 hg9); clear ho9 hg9) | fail)
  have b9 := bthen HB5.out HU9.out.below
  have HB9 := Lib.hid b9
  have HQ9 := Lib.hid (keep b9 HQ1.out)
  have HK9 := Lib.hid (HK1.out.below b9)
  have HR9 := Lib.hid (HR1.out.below b9)
  have hw9 : Row w9 a9 (16 + n) c9 C := by rw [← HCX.out]; exact HU9.out.row
  have HW9 := Lib.hid hw9
  clear b9 hw9 HU9 HU8 HU7 HB8 HV8 HB7 HQ7 HK7 HR7 HB5 HCX
  go_upto_region 6 with (first | (refine wpList_load_row rfl 23 _ rfl q rfl 23 (cellsOf s).toArray (0, 0) _ HQ9.out Tryd.underlying23 rfl SZS.out ?_) | (go_at_call 9; (with_reducible refine (HCL.out _ HK9.out HR9.out).mono ?_); rintro e w10 ⟨a10, c10, rfl, hr10, hb10⟩; have HC10 := Lib.hid hr10; have HB10 := Lib.hid hb10; clear hr10 hb10) | fail)
  have HQ10 := Lib.hid (keep HB10.out HQ9.out)
  have HK10 := Lib.hid (HK9.out.below HB10.out)
  have HR10 := Lib.hid (HR9.out.below HB10.out)
  have HW10 := Lib.hid (HW9.out.below HB10.out)
  have HT10 := Lib.hid (bthen HB9.out HB10.out)
  clear HQ9 HK9 HR9 HW9 HB9 HB10
  go_upto_region 7 with (first | (refine wpList_load_row rfl 23 _ rfl q rfl 23 (cellsOf s).toArray (0, 0) _ HQ10.out Tryd.underlying23 rfl SZS.out ?_) | (go_at_call 10; (with_reducible refine (HOP.out _ _ _ HK10.out HC10.out).mono ?_); rintro e w11 ⟨a11, c11, rfl, hr11, hb11⟩; have HO11 := Lib.hid hr11; have HB11 := Lib.hid hb11; clear hr11 hb11) | fail)
  have v1 := conv_row (HC10.out.below HB11.out)
  have v2 := conv_row (HW10.out.below HB11.out)
  have v3 := conv_row HO11.out
  have v4 := conv_row (HR10.out.below HB11.out)
  have HB := Lib.hid (bthen HB1.out (bthen HT10.out HB11.out))
  have HK11 := Lib.hid (HK10.out.below HB11.out)
  obtain ⟨bc, hbc⟩ : ∃ bc : ByteArray, bc = ⟨C.toArray⟩ := ⟨_, rfl⟩
  obtain ⟨bt, hbt⟩ : ∃ bt : ByteArray, bt = ⟨t.toArray⟩ := ⟨_, rfl⟩
  rw [← hbc] at v1 v2
  rw [← hbt] at v3 v4
  clear hbc hbt HC10 HW10 HO11 HR10 HT10 HB11 HQ10 HK10 HCL HOP HCO HS
  go_wp2_with (first | (go_at_call 11; (with_reducible refine (awake11_any HK11.out).mono ?_); rintro e w12 ⟨rfl, hb12⟩; have HB12 := Lib.hid hb12; clear hb12) | fail)
  go_ret
  exact ⟨rfl, bthen HB.out HB12.out⟩
end Go.Proofs.YtjfkhclcjggoeaaDoor
