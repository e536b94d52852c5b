/- Law 9's example. -/
import Derived.Test.YtdeilkpcmgcbaaaLawSt9
import Derived.Test.YtdeilkpcmgcbaaaLock
namespace Go.Proofs.Ytdeilkpcmgcbaaa
open Go.RowKit Go.Maps

theorem run_build_ref0 (w : World) : (Instr.build 32 #[]).run Try.prog w = .ok (.agg (refCells zero32 0).toArray) w := by
  kernel_rfl
theorem wpList_build0 {P : Program} {ops : Array Oper} {rest : List Oper} {o : Oper} {A : Act} {w : World} {Q : Exit → Act → World → Prop} {t : TypeId} {r : Value} (hgd : o.guard = none) (ho : o.op = .build t #[]) (hf : ∀ w, (Instr.build t #[]).run P w = .ok r w)
    (h : wpList P ops Q rest (A.put o.dst r) w) : wpList P ops Q (o :: rest) A w := by
  refine wpList_plain hgd fun K' hK => ?_
  unfold Oper.wp execOp
  simp only [ho, List.map_toArray, List.map_nil, Sem.run_bind, hf w, Result.andThen_ok, Sem.run_pure]
  exact hK _ _ h
theorem take_one {w : World} {pv : Value} {b N : Nat} {r : PRow} (h : ViewAt w pv b N [r]) :
    Calls Try.prog 14 #[pv, .agg (refCells r.tx r.place).toArray] w fun e w' => ∃ a n c, e = .returned (.tuple #[.agg #[.int .i64 r.out.m, .slice a n c, .int .i64 r.height], .int .i64 0]) ∧ ViewAt w' pv b N [] ∧ But w.heap.size b w w' := by
  refine (take_row (k := 0) h (by simp)).mono ?_
  rintro e w4 ⟨v, rfl, ⟨a, n, c, ys, rfl, _⟩, hv, hb⟩
  exact ⟨a, n, c, rfl, hv, hb⟩
theorem one_ok (b : Option Addr) : outOk 5 [⟨b, 1, 1, [1], zero32, 0, 0⟩] = true := by rfl
set_option linter.unusedSimpArgs false in
set_option maxRecDepth 100000 in
set_option maxHeartbeats 25600000 in
theorem awake9_any (w : World) : Calls Try.prog 10 #[] w fun e w' => e = .returned (.bool true) ∧ Below w.heap.size w w' := by
  have HNEW := Lib.hid (new_any w)
  go_enter Try.func10, Try.ntmps10
  go_upto_region 4 with (go_big_may; first
    | (go_at_call 6; refine HNEW.out.mono ?_; rintro e w1 ⟨vb, rfl, hv1, hlt1, hb1⟩; have HV1 := Lib.hid hv1; have HB1 := Lib.hid hb1; clear hv1 hb1 hlt1 HNEW)
    | (refine wpList_build0 rfl rfl run_build_ref0 ?_)
    | (go_at_call 17; refine (to_any 1 5 w1 (by constructor <;> decide)).mono ?_; rintro e w2 ⟨a2, k2, rfl, hw2, hb2⟩; have HW2 := Lib.hid hw2; have HB2 := Lib.hid (HB1.out.trans (hb2.mono HB1.out.size)); have HV2 := Lib.hid (HV1.out.below hb2); clear hw2 hb2)
    | (go_at_call 16; refine (put_ok HV2.out (by omega) zero32_len (by constructor <;> decide) (fun r hr => by cases hr) HW2.out (one_ok k2) (by decide) (by decide)).mono ?_; rintro e w3 ⟨rfl, hv3, hb3⟩; have HV3 := Lib.hid hv3; have HB3 := Lib.hid (HB2.out.trans (hb3.below9 (Nat.le_refl _) HB2.out.size)); clear hv3 hb3)
    | (go_at_call 14; refine (take_one (r := ⟨zero32, 0, ⟨5, a2, 1, 1, [⟨k2, 1, 1, [1], zero32, 0, 0⟩]⟩, 3⟩) HV3.out).mono ?_; rintro e w4 ⟨a7, n7, c7, rfl, hv4, hb4⟩; dsimp only; have HV4 := Lib.hid hv4; have HB4 := Lib.hid (HB3.out.trans (hb4.below9 (Nat.le_refl _) HB3.out.size)); clear hv4 hb4)
    | (refine wpList_store_row rfl 41 _ _ rfl w4.heap.size #[.int .i64 5, .slice a7 n7 c7, .int .i64 3] rfl rfl 41 #[.int .i64 0, .slice none 0 0, .int .i64 0] (heap_alloc_new _ _) (coin_size9 5 3 a7 n7 c7) rfl (coin_one9 5 3 a7 n7 c7) ?_)
    | fail)
  rw [layCoin_is]
  have b5 := layCoin_below (Below.refl w4.heap.size w4) (Nat.le_refl _) 5 a7 n7 c7 3
  revert b5
  generalize layCoin w4 5 a7 n7 c7 3 = w5
  intro b5
  have HV5 := Lib.hid (HV4.out.below b5)
  have HB5 := Lib.hid (HB4.out.trans (b5.mono HB4.out.size))
  clear b5 HV1 HV2 HV3 HV4 HW2 HB1 HB2 HB3 HB4
  try simp only [Act.put]
  obtain ⟨F5, HMO, HF5⟩ := HV5.out.mapOr
  have HNO := Lib.hid (HF5.1 zero32 0 (fun r hr => by cases hr))
  have HMO := Lib.hid HMO
  clear HF5
  go_upto_region 5 with (go_big_may; first
    | (refine wpList_build0 rfl rfl run_build_ref0 ?_)
    | (go_at_call 14; refine (take_no HV5.out.hasIt HMO.out zero32_len (by constructor <;> decide) HNO.out).mono ?_; rintro e w6 ⟨rfl, hb6⟩; have HV6 := Lib.hid (HV5.out.below hb6); have HB6 := Lib.hid (HB5.out.trans (hb6.mono HB5.out.size)); clear hb6; unfold coinV)
    | (refine wpList_store_row rfl 41 _ _ rfl w6.heap.size #[.int .i64 0, .slice none 0 0, .int .i64 0] rfl rfl 41 #[.int .i64 0, .slice none 0 0, .int .i64 0] (heap_alloc_new _ _) (coin_size9 0 0 none 0 0) rfl (coin_one9 0 0 none 0 0) ?_)
    | fail)
  rw [layCoin_is]
  have b7 := layCoin_below (Below.refl w6.heap.size w6) (Nat.le_refl _) 0 none 0 0 0
  revert b7
  generalize layCoin w6 0 none 0 0 0 = w7
  intro b7
  have HV7 := Lib.hid (HV6.out.below b7)
  have HB7 := Lib.hid (HB6.out.trans (b7.mono HB6.out.size))
  clear b7 HV5 HV6 HB5 HB6 HNO HMO
  try simp only [Act.put]
  go_wp2_with (first
    | (go_at_call 18; refine (len_any HV7.out).mono ?_; rintro e w8 ⟨rfl, rfl⟩)
    | fail)
  go_ret
  exact ⟨rfl, HB7.out⟩
end Go.Proofs.Ytdeilkpcmgcbaaa
