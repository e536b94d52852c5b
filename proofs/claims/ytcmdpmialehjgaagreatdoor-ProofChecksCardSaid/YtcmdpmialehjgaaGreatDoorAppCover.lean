/- What package appoint's Cover and Uncover come to. -/
import Derived.Test.YtcmdpmialehjgaaGreatDoorAppSums
import Derived.Test.YtcmdpmialehjgaaGreatDoorTx
import Derived.Test.YtcmdpmialehjgaaGreatDoorTxGets
import Derived.Test.YtcmdpmialehjgaaGreatDoorVeil
import Derived.Test.YtcmdpmialehjgaaGreatDoorSteps
import Derived.Test.YtcmdpmialehjgaaGreatDoorCommit
namespace Go.Proofs.YtcmdpmialehjgaaGreatDoor
open Go.RowKit

/-- The key of a commitment's sum. -/
def appKey (s : List UInt8) : List UInt8 := sumOf (partsOf 72 [s])
theorem appKey_len (s : List UInt8) : (appKey s).length = 32 := sumOf_len _
theorem build_none16 (w : World) : (Instr.build 56 ([] : List (Nat × Value)).toArray).run Tryz.prog w = .ok (.agg noTx.cells.toArray) w := by kernel_rfl
/-- What Uncover tells of bytes under a key. -/
def UncIs (w0 : World) (k l : List UInt8) (n : Nat) (e : Ending) (w' : World) : Prop :=
  Below w0.heap.size w0 w' ∧ ((n < 16 ∧ e = .returned (.tuple #[.agg noTx.cells.toArray, .int .i64 2])) ∨
    (16 ≤ n ∧ markB k (coverB k (l.drop 16)) ≠ l.take 16 ∧ e = .returned (.tuple #[.agg noTx.cells.toArray, .int .i64 4])) ∨
    (16 ≤ n ∧ markB k (coverB k (l.drop 16)) = l.take 16 ∧ ∃ (x : PTx) (E : Int), e = .returned (.tuple #[.agg x.cells.toArray, .int .i64 E]) ∧ TxIn w' x ∧ (E = 0 → txOk x = true ∧ txB x = coverB k (l.drop 16)) ∧ (E ≠ 0 → x = noTx ∧ ∀ t : PTx, Lens t → txOk t = true → txB t ≠ coverB k (l.drop 16)) ∧ E = txE (coverB k (l.drop 16))))
set_option linter.unusedSimpArgs false in
set_option maxRecDepth 100000 in
set_option maxHeartbeats 6400000 in
theorem uncover_any {w : World} {s l : List UInt8} {a : Option Addr} {n c : Nat} (hs : s.length = 32) (h : Row w a n c l) (hn : n ≤ 65552) (hk : KsAt w) :
    Calls Tryz.prog 35 #[.agg (cellsOf s).toArray, .slice a n c] w (UncIs w (appKey s) l n) := by
  obtain ⟨K, hK⟩ : ∃ K, appKey s = K := ⟨_, rfl⟩
  have hKl : K.length = 32 := by rw [← hK]; exact appKey_len s
  have HKO : Hid (∀ W : World, Below w.heap.size w W → Calls Tryz.prog 48 #[.agg (cellsOf s).toArray] W fun e w' => e = .returned (.agg (cellsOf K).toArray) ∧ Below W.heap.size W w') := Lib.hid fun W hW => by rw [← hK]; exact appkey_any hs (hk.below hW)
  rw [hK]
  have HKL := Lib.hid hKl
  have SZS := Lib.hid (size_of hs)
  have HK := Lib.hid hk
  have H := Lib.hid h
  have HN := Lib.hid hn
  have SZ0 : Hid ((Tryz.prog.info? 56).map (·.size) = some noTx.cells.length) := Lib.hid (tx_size zero32_len)
  clear hs h hn hk hK hKl
  go_enter Tryz.func35, Tryz.ntmps35
  go_upto_region 1 with (first | (refine wpList_new rfl 56 rfl noTx.cells.toArray Tryz.zeroTx14 ?_; intro r w1 hr hh hb; go_frame) | fail)
  have b0 : Below w.heap.size w (w.alloc (.cells (cellsOf s).toArray 23)) := (Below.refl _ _).alloc (Nat.le_refl _) _
  have h1 := keep hb (heap_alloc_new w (.cells (cellsOf s).toArray 23))
  have hr' : w.heap.size ≤ r := Nat.le_trans b0.size hr
  have HB1 := Lib.hid (bthen b0 hb)
  obtain ⟨g, hg⟩ : ∃ g, g = w.heap.size := ⟨_, rfl⟩
  rw [← hg] at h1 ⊢
  have H1 := Lib.hid h1
  have HR := Lib.hid hh
  have HNR : Hid (w.heap.size ≤ r) := Lib.hid hr'
  clear b0 h1 hr' hg hr hh hb
  by_cases h16 : n < 16
  · go_wp2_with (first | (refine wpList_load_row rfl 23 _ rfl g rfl 23 (cellsOf s).toArray (0, 0) _ H1.out Tryz.underlying23 rfl SZS.out ?_) | (go_at_call 48; (with_reducible refine (HKO.out _ HB1.out).mono ?_); rintro e w2 ⟨rfl, hb⟩; have HB2 := Lib.hid (bthen HB1.out hb); have HR2 := Lib.hid (keep hb HR.out); have HOP := Lib.hid (open_short (w := w2) (a := a) (s := K) (c := c) h16); clear hb) | (go_at_call 47; (with_reducible refine (HOP.out).mono ?_); rintro e w3 ⟨rfl, hb⟩; have HB3 := Lib.hid (bthen HB2.out hb); have HR3 := Lib.hid (keep hb HR2.out); clear hb) | (refine wpList_build10 rfl rfl (vs := []) rfl build_none16 ?_; go_frame) | (refine wpList_row10 rfl 56 _ _ rfl r noTx.cells rfl rfl 56 noTx.cells HR3.out SZ0.out rfl (PTx.one _) ?_; intro w9 hh9 hb9) | fail)
    refine bodyPost_ret (results_cell_then rfl _ _ r 56 noTx.cells.toArray (0, 0) _ (.int .i64 2) rfl rfl hh9 Tryz.underlying56 rfl (by rw [List.size_toArray]; exact SZ0.out)) rfl ?_
    exact ⟨But.in HB3.out hb9 HNR.out, .inl ⟨h16, rfl⟩⟩
  · have h16b : 16 ≤ n := by omega
    by_cases hm : markB K (coverB K (l.drop 16)) = l.take 16
    · go_upto_region 2 with (first | (refine wpList_load_row rfl 23 _ rfl g rfl 23 (cellsOf s).toArray (0, 0) _ H1.out Tryz.underlying23 rfl SZS.out ?_) | (go_at_call 48; (with_reducible refine (HKO.out _ HB1.out).mono ?_); rintro e w2 ⟨rfl, hb⟩; have HB2 := Lib.hid (bthen HB1.out hb); have HR2 := Lib.hid (keep hb HR.out); have HOP : Hid (Calls Tryz.prog 47 #[.agg (cellsOf K).toArray, .slice a n c] w2 fun e w' => ∃ a2 c2, e = .returned (.tuple #[.slice a2 (n - 16) c2, .int .i64 0]) ∧ Row w' a2 (n - 16) c2 (coverB K (l.drop 16)) ∧ Below w2.heap.size w2 w') := Lib.hid ((open_any HKL.out (H.out.below HB2.out) h16b HN.out (HK.out.below HB2.out)).mono fun e w5 h5 => by rcases h5.2 with ⟨_, a2, c2, h6, h7⟩ | ⟨h6, _⟩; exact ⟨a2, c2, h6, h7, h5.1⟩; exact absurd hm h6); clear hb) | (go_at_call 47; (with_reducible refine (HOP.out).mono ?_); rintro e w3 ⟨a2, c2, rfl, hrow, hb⟩; have HB3 := Lib.hid (bthen HB2.out hb); have HR3 := Lib.hid (keep hb HR2.out); have HRD := Lib.hid (txReadE_any hrow (by have h9 := HN.out; omega)); clear hrow; clear hb) | fail)
      go_wp2_with (first | (go_at_call 49; (with_reducible refine (HRD.out).mono ?_); rintro e w4 ⟨x, E, rfl, hx, hb, q1, q2, q3, q4⟩; have HB4 := Lib.hid (bthen HB3.out hb); have HR4 := Lib.hid (keep hb HR3.out); have HX := Lib.hid q4; have SZX := Lib.hid (tx_size hx.op.root); have ZX : Hid (noTx.cells.length = x.cells.length) := Lib.hid (by rw [PTx.len hx.op.root]; rfl); have Q1 := Lib.hid q1; have Q2 := Lib.hid q2; have Q3 := Lib.hid q3; clear hx hb q1 q2 q3 q4) | (refine wpList_row10 rfl 56 _ _ rfl r x.cells rfl rfl 56 noTx.cells HR4.out SZX.out ZX.out (PTx.one _) ?_; intro w9 hh9 hb9) | fail)
      refine bodyPost_ret (results_cell_then rfl _ _ r 56 x.cells.toArray (0, 0) _ (.int .i64 E) rfl rfl hh9 Tryz.underlying56 rfl (by rw [List.size_toArray]; exact SZX.out)) rfl ?_
      exact ⟨But.in HB4.out hb9 HNR.out, .inr (.inr ⟨h16b, hm, x, E, rfl, (HX.out.put hb9 HR4.out (by decide) (by decide) (by decide) (by decide) (by decide) (by decide)).in, Q1.out, Q2.out, Q3.out⟩)⟩
    · go_wp2_with (first | (refine wpList_load_row rfl 23 _ rfl g rfl 23 (cellsOf s).toArray (0, 0) _ H1.out Tryz.underlying23 rfl SZS.out ?_) | (go_at_call 48; (with_reducible refine (HKO.out _ HB1.out).mono ?_); rintro e w2 ⟨rfl, hb⟩; have HB2 := Lib.hid (bthen HB1.out hb); have HR2 := Lib.hid (keep hb HR.out); have HOP : Hid (Calls Tryz.prog 47 #[.agg (cellsOf K).toArray, .slice a n c] w2 fun e w' => e = .returned (.tuple #[.slice none 0 0, .int .i64 4]) ∧ Below w2.heap.size w2 w') := Lib.hid ((open_any HKL.out (H.out.below HB2.out) h16b HN.out (HK.out.below HB2.out)).mono fun e w5 h5 => by rcases h5.2 with ⟨h6, _⟩ | ⟨_, h6⟩; exact absurd h6 hm; exact ⟨h6, h5.1⟩); clear hb) | (go_at_call 47; (with_reducible refine (HOP.out).mono ?_); rintro e w3 ⟨rfl, hb⟩; have HB3 := Lib.hid (bthen HB2.out hb); have HR3 := Lib.hid (keep hb HR2.out); clear hb) | (refine wpList_build10 rfl rfl (vs := []) rfl build_none16 ?_; go_frame) | (refine wpList_row10 rfl 56 _ _ rfl r noTx.cells rfl rfl 56 noTx.cells HR3.out SZ0.out rfl (PTx.one _) ?_; intro w9 hh9 hb9) | fail)
      refine bodyPost_ret (results_cell_then rfl _ _ r 56 noTx.cells.toArray (0, 0) _ (.int .i64 4) rfl rfl hh9 Tryz.underlying56 rfl (by rw [List.size_toArray]; exact SZ0.out)) rfl ?_
      exact ⟨But.in HB3.out hb9 HNR.out, .inr (.inl ⟨h16b, hm, rfl⟩)⟩
end Go.Proofs.YtcmdpmialehjgaaGreatDoor
