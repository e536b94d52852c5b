/- The statement's own example (law 17), over the contracts of Put and Get. -/
import Derived.Test.YtcmdpmialehjgaaGreatDoorBytes17
import Derived.Test.YtcmdpmialehjgaaGreatDoorPrfTower
namespace Go.Proofs.YtcmdpmialehjgaaGreatDoor
open Go.RowKit

theorem build_sum17 (w : World) : (Instr.build 23 ([] : List (Nat × Value)).toArray).run Tryz.prog w = .ok (.agg (cellsOf zero32).toArray) w := by kernel_rfl
theorem build_chan17 (w : World) : (Instr.build 49 ([] : List (Nat × Value)).toArray).run Tryz.prog w = .ok (.agg noChan.cells.toArray) w := by kernel_rfl
theorem noPrf_len : (prfB noPrf).length ≤ 200 := by
  have h9 := prfB_len (x := noPrf) noRec_in rfl
  have h8 : noPrf.sig.length = 0 := rfl
  have h7 : noPrf.blob.length = 0 := rfl
  omega
theorem noPrf_put : putE noPrf = 0 := by
  unfold putE
  rw [if_pos (show (recOk noPrf.r && (decide (noPrf.sn ≤ 65536) && decide (noPrf.bn ≤ 65536))) = true by decide), if_pos (by have h9 := noPrf_len; omega)]
set_option linter.unusedSimpArgs false in
set_option maxRecDepth 100000 in
set_option maxHeartbeats 6400000 in
theorem awake17 {w : World}
    (hput : ∀ (W : World) (x : PPrf), PrfIn W x → Calls Tryz.prog 7 #[.agg x.cells.toArray] W (PutOut W x))
    (hget : ∀ (W : World) (a : Option Addr) (n c : Nat) (b : List UInt8), Row W a n c b → n ≤ 1000000 → Calls Tryz.prog 13 #[.slice a n c] W (PrfOut W b)) :
    Calls Tryz.prog 6 #[] w fun e w' => e = .returned (.bool true) ∧ Below w.heap.size w w' := by
  obtain ⟨PB, hPB⟩ : ∃ b, prfB noPrf = b := ⟨_, rfl⟩
  have hE : prfE PB = 0 := by
    have h9 := prf_back (x := noPrf) noRec_in rfl noRec_ok (by decide) (by decide) (by have h8 := noPrf_len; omega)
    rw [hPB] at h9
    exact h9.1
  have HPL : Hid (PB.length ≤ 1000000) := Lib.hid (by have h9 := noPrf_len; rw [hPB] at h9; omega)
  have HPQ : Hid (∀ W : World, Calls Tryz.prog 7 #[.agg noPrf.cells.toArray] W fun e w' => ∃ (a : Option Addr) (n c : Nat), e = .returned (.tuple #[.slice a n c, .int .i64 0]) ∧ Row w' a n c PB ∧ Below W.heap.size W w') := Lib.hid fun W => by
    refine (hput W noPrf (noPrf_in W)).mono fun e w' h9 => ?_
    unfold PutOut at h9
    rw [noPrf_put, if_pos rfl, hPB] at h9
    exact h9
  have HGQ : Hid (∀ (W : World) (a : Option Addr) (n c : Nat), Row W a n c PB → Calls Tryz.prog 13 #[.slice a n c] W fun e w' => ∃ x : PPrf, e = .returned (.tuple #[.agg x.cells.toArray, .int .i64 0]) ∧ PrfIn w' x ∧ Below W.heap.size W w') := Lib.hid fun W a n c hr => by
    refine (hget W a n c PB hr (by have h9 := hr.1; have h8 := HPL.out; omega)).mono fun e w' h9 => ?_
    obtain ⟨sa, sn, sc, ba, bn, bc, h1, h2, h3⟩ := h9
    rw [hE] at h1
    exact ⟨_, h1, h2, h3⟩
  have HCK := Lib.hid (fun (W : World) => check_tower (w := W) (p := noPrf) (tower := 1) (height := 9) (c := noChan) (root := zero32) (f := noFacts) (noPrf_in W) noChan_in rfl (by decide))
  clear hput hget hPB hE
  go_enter Tryz.func6, Tryz.ntmps6
  go_upto_region 2 with (first | (refine wpList_build10 rfl rfl (vs := []) (by rfl) build_prf0 ?_; go_frame) | (go_at_call 7; (with_reducible refine (HPQ.out _).mono ?_); rintro e w1 ⟨a1, n1, c1, rfl, hr, hb⟩; have HB1 := Lib.hid hb; have HR1 := Lib.hid hr; clear hr hb) | fail)
  go_upto_region 3 with (first | (go_at_call 13; (with_reducible refine (HGQ.out _ _ _ _ HR1.out).mono ?_); rintro e w2 ⟨x, rfl, hx, hb⟩; have HB2 := Lib.hid (bthen HB1.out hb); have XL := Lib.hid (PPrf.len hx.r hx.commit); clear hx hb) | (refine wpList_var rfl rfl 28 rfl _ _ rfl noPrf.cells.toArray Tryz.infoPrf rfl x.cells (fun _ => rfl) (fun _ => rfl) XL.out (PPrf.one _) ?_; intro q w3 hq hh hb; go_frame; have HB3 := Lib.hid (bthen HB2.out hb); clear hq hh hb) | fail)
  go_wp2_with (first | (refine wpList_build_wanted (by rfl) rfl (vs := []) (by rfl) build_prf0 ?_) | (refine wpList_build_wanted (by rfl) rfl (vs := []) (by rfl) build_chan17 ?_) | (refine wpList_build_wanted (by rfl) rfl (vs := []) (by rfl) build_sum17 ?_) | (refine wpList_build_wanted (by rfl) rfl (vs := []) (by rfl) build_facts0 ?_) | (go_at_call 15; (with_reducible refine (HCK.out _).mono ?_); rintro e w4 ⟨rfl, hb⟩; have HB4 := Lib.hid (bthen HB3.out hb); clear hb) | fail)
  go_ret
  exact ⟨rfl, HB4.out⟩
end Go.Proofs.YtcmdpmialehjgaaGreatDoor
