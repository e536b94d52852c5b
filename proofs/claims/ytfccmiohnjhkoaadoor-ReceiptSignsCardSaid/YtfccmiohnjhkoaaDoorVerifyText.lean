/- What many.Verify tells of any text, and a signature that a key made. -/
import Derived.Test.YtfccmiohnjhkoaaDoorMany
namespace Go.Proofs.YtfccmiohnjhkoaaDoor
open Go.RowKit

/-- What Verify tells of a text t, of a signature that was made of l by leaf i of the key of seed s, under r. -/
def verdict (r t s : List UInt8) (n i : Nat) (l : List UInt8) : Bool := decide (ascend pairSum 12 (leafSum (backOf t (sigOf (leafSeed s i) l))) i n (pathOf pairSum i ((leafKeys s n).map leafSum)) = some r)
theorem verdict_own (s : List UInt8) (n i : Nat) (l : List UInt8) (hi : i < n) (hn : n ≤ 64) : verdict (rootSum (leafKeys s n)) l s n i l = true := by
  unfold verdict
  rw [back_sig]
  have e := path_leads (leafKeys s n) i (by rw [leafKeys_len]; exact hi) (by rw [leafKeys_len]; omega)
  rw [leafKeys_get s n i hi, leafKeys_len] at e
  rw [show keyOf (leafSeed s i) = leafKey s i from rfl, e]
  exact decide_eq_true rfl
set_option linter.unusedSimpArgs false in
set_option maxRecDepth 100000 in
set_option maxHeartbeats 3200000 in
theorem verify5_text {w : World} {a b : Option Addr} {m c m' c' i n : Nat} {s l R t : List UInt8} (hi : i < n) (hn : n ≤ 64) (hRl : R.length = 32) (ht : Row w a m c t) (hm : m ≤ 1000000) (hr : Row w b m' c' (sig5 s n i l)) (hk : KsAt w) :
    Calls Tryd.prog 12 #[.agg (cellsOf R).toArray, .slice a m c, .slice b m' c'] w fun e w' => e = .returned (.bool (verdict R t s n i l)) ∧ Below w.heap.size w w' := by
  obtain ⟨D, hD⟩ : ∃ D, verdict R t s n i l = D := ⟨_, rfl⟩
  obtain ⟨Kf, hKl, P, O, hread, hback, hcheck⟩ : ∃ Kf : List UInt8, Kf.length = 32 ∧ ∃ (P : List (List UInt8)) (O : List UInt8), (∀ W : World, Row W b m' c' (sig5 s n i l) → Calls Tryd.prog 22 #[.slice b m' c'] W fun e w' => ReadIs W i n P O e w') ∧
      (∀ (W : World) (ab : Option Addr) (cb : Nat), Row W a m c t → Row W ab 4096 cb O → KsAt W → Calls Tryd.prog 23 #[.slice a m c, .slice ab 4096 cb] W fun e w' => e = .returned (.tuple #[.agg (cellsOf Kf).toArray, .int .i64 0]) ∧ Below W.heap.size W w') ∧
      (∀ (W : World) (ap : Option Addr) (cp : Nat), Sums W ap P.length cp P → KsAt W → Calls Tryd.prog 24 #[.agg (cellsOf R).toArray, .agg (cellsOf Kf).toArray, .int .i64 (i : Int), .int .i64 (n : Int), .slice ap P.length cp] W fun e w' => e = .returned (.bool D) ∧ Below W.heap.size W w') := by
    refine ⟨backOf t (sigOf (leafSeed s i) l), backOf_len _ _, _, _, fun W h => sig5_read hi hn h, fun W ab cb h1 h2 hW => back_in h1 hm h2 hW, fun W ap cp h1 hW => ?_⟩
    have h := check_in (r := R) (s := backOf t (sigOf (leafSeed s i) l)) i n hi (by omega) hRl (backOf_len _ _) h1 hW
    rw [← hD]
    exact h
  rw [hD]
  obtain ⟨M, hM⟩ : ∃ M, M = P.length := ⟨_, rfl⟩
  rw [← hM] at hcheck
  have SZR := Lib.hid (size_of hRl)
  have SZK := Lib.hid (size_of hKl)
  have HZK := Lib.hid (zero_of hKl)
  have HRD := Lib.hid hread
  have HBK := Lib.hid hback
  have HCK := Lib.hid hcheck
  have HM := Lib.hid hM
  have HT := Lib.hid ht
  have HS := Lib.hid hr
  have HK := Lib.hid hk
  clear hread hback hcheck hr ht hk hM hRl hKl hi hn hm hD
  go_enter Tryd.func12, Tryd.ntmps12
  go_upto_region 1 with (fail)
  have b1 : Below w.heap.size w (w.alloc (.cells (cellsOf R).toArray 23)) := (Below.refl _ _).alloc (Nat.le_refl _) _
  have h1 : (w.alloc (.cells (cellsOf R).toArray 23)).heap[w.heap.size]? = some (.cells (cellsOf R).toArray 23 (0, 0)) := heap_alloc_new _ _
  revert b1 h1
  generalize (w.alloc (.cells (cellsOf R).toArray 23)) = w1
  obtain ⟨g, hg⟩ : ∃ g, g = w.heap.size := ⟨_, rfl⟩
  rw [← hg]
  intro b1 h1
  rw [hg] at b1
  have HB1 := Lib.hid b1
  have H1 := Lib.hid h1
  clear b1 h1 hg
  go_wp2_with fail
  refine (HRD.out _ (HS.out.below HB1.out)).mono ?_
  rintro e w2 ⟨ap, ab, cp, cb, rfl, hsp, hsr, hb2⟩
  rw [← HM.out] at hsp
  rw [← HM.out]
  have HB2 := Lib.hid (HB1.out.trans (hb2.mono HB1.out.size))
  have H2 := Lib.hid ((hb2.block _ (lt_of_block H1.out)).trans H1.out)
  have HSP := Lib.hid hsp
  have HSR := Lib.hid hsr
  clear hb2 hsp hsr
  go_upto_region 2 with (refine wpList_store_row rfl 56 _ _ rfl w2.heap.size #[.int .i64 (i : Int), .int .i64 (n : Int), .slice ap M cp, .slice ab 4096 cb] rfl rfl 56 _ (heap_alloc_new _ _) (by kernel_rfl) rfl (four_all rfl rfl rfl rfl) ?_)
  have h3 := setRow_heap (w2.alloc (.cells #[.int .i64 0, .int .i64 0, .slice none 0 0, .slice none 0 0] 56)) w2.heap.size _ #[.int .i64 (i : Int), .int .i64 (n : Int), .slice ap M cp, .slice ab 4096 cb] 56 _ (heap_alloc_new _ _)
  have b3 := laid_below w2 #[.int .i64 0, .int .i64 0, .slice none 0 0, .slice none 0 0] #[.int .i64 (i : Int), .int .i64 (n : Int), .slice ap M cp, .slice ab 4096 cb] 56
  revert h3 b3
  generalize ((w2.alloc (.cells #[.int .i64 0, .int .i64 0, .slice none 0 0, .slice none 0 0] 56)).setRow w2.heap.size #[.int .i64 (i : Int), .int .i64 (n : Int), .slice ap M cp, .slice ab 4096 cb]) = w3
  obtain ⟨p, hp⟩ : ∃ p, p = w2.heap.size := ⟨_, rfl⟩
  rw [← hp]
  intro h3 b3
  rw [hp] at b3
  have h4 := (b3.block _ (lt_of_block H2.out)).trans H2.out
  have HB3 := Lib.hid (HB2.out.trans (b3.mono HB2.out.size))
  have HSP3 := Lib.hid (HSP.out.below b3)
  have HSR3 := Lib.hid (HSR.out.below b3)
  have H4 := Lib.hid h4
  have H3 := Lib.hid h3
  have hlt3 := lt_of_block h3
  have c3 : w3.cell? ⟨p, 3, none⟩ = some (.slice ab 4096 cb) := four_cell 3 h3
  clear h3 b3 h4 hp
  go_wp2_with fail
  refine (HBK.out _ ab cb (HT.out.below HB3.out) HSR3.out (HK.out.below HB3.out)).mono ?_
  rintro e w4 ⟨rfl, hb4⟩
  have HB4 := Lib.hid (HB3.out.trans (hb4.mono HB3.out.size))
  have HSP4 := Lib.hid (HSP3.out.below hb4)
  have HS4 := Lib.hid ((hb4.block _ hlt3).trans H3.out)
  have HR4 := Lib.hid ((hb4.block _ (lt_of_block H4.out)).trans H4.out)
  clear hb4 c3
  go_upto_region 5 with (refine wpList_store_row rfl 23 _ _ rfl w4.heap.size (cellsOf Kf).toArray rfl rfl 23 (cellsOf zero32).toArray (heap_alloc_new _ _) SZK.out HZK.out (all_oneCell_toArray (cellsOf_one Kf)) ?_)
  rw [← zero32_is, laySum_is]
  have h5 := laySum_heap w4 Kf
  have b5 := laySum_self w4 Kf
  have h6 := (b5.block _ (lt_of_block HS4.out)).trans HS4.out
  have h7 := (b5.block _ (lt_of_block HR4.out)).trans HR4.out
  revert h5 b5 h6 h7
  generalize laySum w4 Kf = w5
  intro h5 b5 h6 h7
  have HB5 := Lib.hid (HB4.out.trans (b5.mono HB4.out.size))
  have HSP5 := Lib.hid (HSP4.out.below b5)
  have H5 := Lib.hid h5
  have H7 := Lib.hid h7
  have c0 : w5.cell? ⟨p, 0, none⟩ = some (.int .i64 (i : Int)) := four_cell 0 h6
  have c1 : w5.cell? ⟨p, 1, none⟩ = some (.int .i64 (n : Int)) := four_cell 1 h6
  have c2 : w5.cell? ⟨p, 2, none⟩ = some (.slice ap M cp) := four_cell 2 h6
  clear h5 b5 h6 h7
  generalize w4.heap.size = q at *
  try simp only [Act.put]
  go_wp2_with (first | (refine wpList_load_wanted (by rfl) 23 _ rfl q rfl 23 (cellsOf Kf).toArray (0, 0) _ H5.out Tryd.underlying23 rfl SZK.out ?_) | (refine wpList_load_wanted (by rfl) 23 _ rfl g rfl 23 (cellsOf R).toArray (0, 0) _ H7.out Tryd.underlying23 rfl SZR.out ?_) | fail)
  refine (HCK.out _ ap cp HSP5.out (HK.out.below HB5.out)).mono ?_
  rintro e w6 ⟨rfl, hb6⟩
  have HB6 := Lib.hid (HB5.out.trans (hb6.mono HB5.out.size))
  clear hb6
  go_wp2_with fail
  go_ret
  exact ⟨rfl, HB6.out⟩
end Go.Proofs.YtfccmiohnjhkoaaDoor
