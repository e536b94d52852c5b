/- What 'Root' comes to: the sum of a list. -/
import Derived.Test.YtmbfpopfabjodaaDoorAbove
namespace Go.Proofs.YtmbfpopfabjodaaDoor
open Go.RowKit

theorem top_up {l : List (List UInt8)} (h : 0 < l.length) : top pairSum (up pairSum l) = top pairSum l := by
  have e1 := tier_top pairSum l h (l.length + 1) (Nat.le_of_lt (Nat.lt_trans Nat.lt_two_pow_self (by rw [Nat.pow_succ]; have := Nat.two_pow_pos l.length; omega)))
  have e2 := tier_top pairSum (up pairSum l) (by rw [up_len]; omega) l.length (by rw [up_len]; have := Nat.lt_two_pow_self (n := l.length); omega)
  have e3 : tier pairSum (l.length + 1) l = tier pairSum l.length (up pairSum l) := rfl
  rw [e3, e2] at e1
  simpa using e1
theorem half_lt {i n : Nat} (h : i < n) (h1 : ¬ n ≤ 1) : i / 2 < (n + 1) / 2 ∧ (n + 1) / 2 < n := by omega
def lenV : Value → Nat
  | .slice _ n _ => n
  | _ => 0
/-- A row under way up. -/
def RowUp (w1 : World) (T : List UInt8) (v : Value) (wr : World) : Prop := ∃ (k : Nat) (a' : Option Addr) (row : List (List UInt8)), v = .slice a' k k ∧ Sums wr a' k k row ∧ 0 < k ∧ k ≤ 100000 ∧ top pairSum row = T ∧ Below w1.heap.size w1 wr
theorem rootSum_len (l : List (List UInt8)) : (rootSum l).length = 32 := by
  unfold rootSum
  by_cases h0 : l.isEmpty
  · rw [if_pos h0]; exact sumOf_len _
  · rw [if_neg h0]
    refine top_len _ (fun e => h0 (by cases l with
      | nil => rfl
      | cons a l => cases e)) (fun s hs => ?_)
    obtain ⟨t, _, rfl⟩ := List.mem_map.1 hs
    exact leafSum_len t
set_option maxRecDepth 100000 in
set_option maxHeartbeats 1600000 in
theorem root_none {w : World} {a : Option Addr} {c : Nat} (hk : KsAt w) : Calls Tryd.prog 8 #[.slice a 0 c] w fun e w' => e = .returned (.agg (cellsOf (rootSum [])).toArray) ∧ Below w.heap.size w w' := by
  obtain ⟨r, hr, hrl, hj⟩ : ∃ r, rootSum [] = r ∧ r.length = 32 ∧ ∀ W : World, KsAt W → Calls Tryd.prog 21 #[.int .u8 3, .slice none 0 0] W fun e w' => e = .returned (.agg (cellsOf r).toArray) ∧ Below W.heap.size W w' := ⟨_, rfl, sumOf_len _, fun W hW => join_any 3 3 rfl (Rows2.nil W) hW (by decide)⟩
  rw [hr]
  have HK := Lib.hid hk
  have HJ := Lib.hid hj
  have szr : (Tryd.prog.info? 24).map (·.size) = some (cellsOf r).toArray.size := by rw [List.size_toArray, cellsOf_len, hrl]; exact Tryd.size24
  have hz : (cellsOf zero32).toArray.size = (cellsOf r).toArray.size := by rw [List.size_toArray, List.size_toArray, cellsOf_len, cellsOf_len, hrl]; rfl
  have SZR := Lib.hid szr
  have HZ := Lib.hid hz
  clear hk hr hrl hj szr hz
  go_enter Tryd.func8, Tryd.ntmps8
  go_wp2_with fail
  rw [← zero32_is]
  have b1 : Below w.heap.size w (w.alloc (.cells (cellsOf zero32).toArray 24)) := (Below.refl _ _).alloc (Nat.le_refl _) _
  refine (HJ.out _ (HK.out.below b1)).mono ?_
  rintro e w5 ⟨rfl, hb5⟩
  have HB := Lib.hid (b1.trans (hb5.mono b1.size))
  have HT := Lib.hid ((hb5.block w.heap.size (by simp)).trans (heap_alloc_new _ _))
  clear b1 hb5
  go_wp2_with (refine wpList_store_row rfl 24 _ _ rfl w.heap.size (cellsOf r).toArray rfl rfl 24 (cellsOf zero32).toArray HT.out SZR.out HZ.out (all_oneCell_toArray (cellsOf_one r)) ?_)
  refine bodyPost_ret (results_cell_row rfl _ _ w.heap.size 24 (cellsOf r).toArray (0, 0) _ rfl (setRow_heap w5 w.heap.size _ _ 24 _ HT.out) Tryd.underlying24 rfl SZR.out) rfl ⟨rfl, ?_⟩
  exact HB.out.trans (((but_setRow _ w.heap.size _).mono HB.out.size).below (Nat.le_refl _))
set_option maxRecDepth 100000 in
set_option maxHeartbeats 1600000 in
theorem root_some {w : World} {a : Option Addr} {n c : Nat} {ls : List (List UInt8)} (h : Sums w a n c ls) (hk : KsAt w) (h0 : 0 < n) (hn : n ≤ 100000) :
    Calls Tryd.prog 8 #[.slice a n c] w fun e w' => e = .returned (.agg (cellsOf (top pairSum (ls.map leafSum))).toArray) ∧ Below w.heap.size w w' := by
  obtain ⟨T, hT⟩ : ∃ T, T = top pairSum (ls.map leafSum) := ⟨_, rfl⟩
  rw [← hT]
  have H := Lib.hid h
  have HK := Lib.hid hk
  have HTT := Lib.hid hT
  clear h hk hT
  go_enter Tryd.func8, Tryd.ntmps8
  go_wp2_with fail
  rw [← zero32_is]
  have b1 : Below w.heap.size w (w.alloc (.cells (cellsOf zero32).toArray 24)) := (Below.refl _ _).alloc (Nat.le_refl _) _
  have h1 : (w.alloc (.cells (cellsOf zero32).toArray 24)).heap[w.heap.size]? = some (.cells (cellsOf zero32).toArray 24 (0, 0)) := heap_alloc_new _ _
  revert b1 h1
  generalize (w.alloc (.cells (cellsOf zero32).toArray 24)) = w1
  obtain ⟨g, hg⟩ : ∃ g, g = w.heap.size := ⟨_, rfl⟩
  rw [← hg]
  intro b1 h1
  rw [hg] at b1
  have HG := Lib.hid hg
  have HB1 := Lib.hid b1
  have H1 := Lib.hid h1
  clear b1 h1 hg
  refine (lowest_any (H.out.below HB1.out) (HK.out.below HB1.out) hn).mono ?_
  rintro e w2 ⟨rfl, hs2, hb2⟩
  have hru : RowUp w1 T (.slice (some ⟨w1.heap.size, 0, none⟩) n n) w2 := ⟨n, _, _, rfl, hs2, h0, hn, HTT.out.symm, hb2⟩
  have HRU := Lib.hid hru
  clear hs2 hb2 hru
  go_wp2_with fail
  go_loopw [3] (fun v wr => RowUp w1 T v wr) (fun v _ => lenV v)
  case atStart => exact HRU.out
  case round =>
    obtain ⟨k, a', row, rfl, hs, hk0, hkn, hT, hb⟩ := hrel
    have HS := Lib.hid hs
    have HT := Lib.hid hT
    have HB := Lib.hid hb
    clear hs hT hb HRU
    by_cases hk1 : 1 < k
    · have hr := (above_any HS.out ((HK.out.below HB1.out).below HB.out) hkn)
      have HR := Lib.hid hr
      clear hr
      have hki : (1 : Int) < (k : Int) := by omega
      go_wp2_with fail
      refine HR.out.mono ?_
      rintro e w3 ⟨rfl, hs3, hb3⟩
      have hru : RowUp w1 T (.slice (some ⟨wr.heap.size, 0, none⟩) ((k + 1) / 2) ((k + 1) / 2)) w3 := ⟨_, _, _, rfl, hs3, by omega, by omega, by rw [top_up (by rw [HS.out.len]; exact hk0)]; exact HT.out, HB.out.trans (hb3.mono HB.out.size)⟩
      have HRU := Lib.hid hru
      clear hs3 hb3 hru
      go_wp2_with fail
      go_roundw
      case rel => exact HRU.out
      case measure => simp [lenV]; omega
    · have hk2 : k = 1 := by omega
      subst hk2
      obtain ⟨b, off, rfl, hlt, hcells⟩ := HS.out.2.2.2.2.2 (by omega)
      have hr := hcells 0 (by omega)
      have hl := HS.out.each (j := 0) (by omega)
      have hTr : row.getD 0 [] = T := by
        obtain ⟨x, hx⟩ := List.length_eq_one_iff.1 HS.out.len
        rw [← HT.out, hx]
        rfl
      rw [hTr] at hr hl
      have szr : (Tryd.prog.info? 24).map (·.size) = some (cellsOf T).length := by rw [cellsOf_len, hl]; exact Tryd.size24
      have hz : (cellsOf zero32).toArray.size = (cellsOf T).toArray.size := by rw [List.size_toArray, List.size_toArray, cellsOf_len, cellsOf_len, hl]; rfl
      have HT1 := Lib.hid ((HB.out.block _ (lt_of_block H1.out)).trans H1.out)
      rw [Nat.zero_mul, Nat.add_zero] at hr
      have HR := Lib.hid hr
      have SZR := Lib.hid szr
      have HZ := Lib.hid hz
      clear hcells hr hl hTr szr hz
      go_wp2_with (first | (refine wpList_load_mid rfl 24 _ rfl b off rfl (cellsOf T) _ HR.out Tryd.underlying24 rfl SZR.out ?_) | (refine wpList_store_row rfl 24 _ _ rfl g (cellsOf T).toArray rfl rfl 24 (cellsOf zero32).toArray HT1.out SZR.out HZ.out (all_oneCell_toArray (cellsOf_one T)) ?_))
      refine bodyPost_ret (results_cell_row rfl _ _ g 24 (cellsOf T).toArray (0, 0) _ rfl (setRow_heap wr g _ _ 24 _ HT1.out) Tryd.underlying24 rfl SZR.out) rfl ⟨rfl, ?_⟩
      have b7 : Below w.heap.size w wr := HB1.out.trans (HB.out.mono HB1.out.size)
      exact b7.trans (((but_setRow _ g _).mono b7.size).below (by rw [HG.out]; exact Nat.le_refl _))
theorem root_any {w : World} {a : Option Addr} {n c : Nat} {ls : List (List UInt8)} (h : Sums w a n c ls) (hk : KsAt w) (hn : n ≤ 100000) :
    Calls Tryd.prog 8 #[.slice a n c] w fun e w' => e = .returned (.agg (cellsOf (rootSum ls)).toArray) ∧ Below w.heap.size w w' := by
  by_cases h0 : n = 0
  · subst h0
    obtain rfl : ls = [] := List.eq_nil_of_length_eq_zero h.len
    exact root_none hk
  · have e : rootSum ls = top pairSum (ls.map leafSum) := by
      unfold rootSum
      rw [if_neg]
      intro h1
      have := h.len
      rw [List.isEmpty_iff] at h1
      subst h1
      exact h0 this.symm
    rw [e]
    exact root_some h hk (by omega) hn
end Go.Proofs.YtmbfpopfabjodaaDoor
