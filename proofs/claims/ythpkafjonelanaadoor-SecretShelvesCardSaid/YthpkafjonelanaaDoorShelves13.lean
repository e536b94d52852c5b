/- SecretShelves, walked. -/
import Derived.Test.YthpkafjonelanaaDoorLoop13
namespace Go.Proofs.YthpkafjonelanaaDoor
open Go.RowKit

set_option linter.unusedSimpArgs false in
set_option maxRecDepth 100000 in
set_option maxHeartbeats 6400000 in
theorem shelves13_walk {w : World} {a : Option Addr} {n c : Nat} {xs : List POp13} {at_ z : Int} (h : SliceOf opK13 w a n c xs) (hk : KsAt w) :
    Calls Tryd.prog 4 #[.slice a n c, .int .i64 at_, .int .i64 z] w fun e w' => e = .returned (.bool true) ∧ Below w.heap.size w w' := by
  have HAW : Hid (∀ W : World, KsAt W → Calls Tryd.prog 6 #[] W fun e w' => e = .returned (.bool true) ∧ Below W.heap.size W w') := Lib.hid fun W hW => awake13_any hW
  have HA := Lib.hid h
  have HK := Lib.hid hk
  have hn63 := h.len63
  clear h hk
  go_enter Tryd.func4, Tryd.ntmps4
  go_wp2_with fail
  have HL0 := Lib.hid (LoopAt.begun (w := w))
  revert HL0
  generalize ((w.alloc (.cells #[.pointer none, .int .i64 0] 34)).alloc (.cells #[.pointer none, .int .i64 0] 34)) = w2
  obtain ⟨ps, hps⟩ : ∃ ps, ps = w.heap.size := ⟨_, rfl⟩
  rw [← hps]
  obtain ⟨kc, hkc⟩ : ∃ kc, kc = ps + 1 := ⟨_, rfl⟩
  rw [← hkc]
  intro HL0
  clear hps hkc
  go_loopw [8, 10, 11] (fun v s i wr => ∃ (j : Nat) (sz : Int) (ls : List (List UInt8)), j ≤ n ∧ j ≤ 40 ∧ ls.length ≤ j ∧ i = .int .i64 j ∧ s = .int .i64 sz ∧ LoopAt w wr ps kc ls v sz) (fun _ _ i _ => n - (intOf i).toNat)
  case atStart => exact ⟨0, 0, [], Nat.zero_le _, Nat.zero_le _, Nat.le_refl _, rfl, rfl, HL0.out⟩
  case round =>
    obtain ⟨j, sz, ls, hjn, hj40, hlj, rfl, rfl, T, q, hat⟩ := hrel
    obtain ⟨a8, c8, rfl, _⟩ := hat.own.shape
    obtain ⟨m, hm⟩ : ∃ m, ls.length = m := ⟨_, rfl⟩
    have HM := Lib.hid hm
    rw [hm] at hat hlj ⊢
    have HL := Lib.hid hat
    clear hat HL0
    by_cases hjlt : j < n ∧ j < 40
    · have f1 : (j : Int) < (n : Int) := by omega
      have f2 : (j : Int) < 40 := by omega
      go_upto_if 37 with (fail)
      go_cut [10] from 25 to 71 (fun u w' => ∃ (sz' : Int) (q' : Value), u = .int .i64 sz' ∧ LoopIn w w' ps kc T q' ls ls (.slice a8 m c8) sz')
      case first =>
        by_cases hat : (j : Int) = at_
        · have hb1 : ((j : Int) == at_) = true := by simp [hat]
          clear hat
          have HCL := Lib.hid (clone_one13 HL.out.shelf (by rw [HM.out]; omega))
          rw [HM.out] at HCL
          go_upto_region 9 with (go_big_may; first | (go_at_call 11; (with_reducible refine (HCL.out).mono ?_); rintro e w3 ⟨qp, rfl, hb⟩; have HL3 := Lib.hid (HL.out.more hb); clear hb) | (refine wpList_row10 rfl 34 _ _ rfl kc [.pointer qp, .int .i64 (m : Int)] rfl rfl 34 [q, .int .i64 sz] HL3.out.clone (by kernel_rfl) rfl (by simp [Value.oneCell']) ?_; intro w4 hh hb; have HL4 := Lib.hid (HL3.out.cloned hh hb); clear hh hb) | fail)
          go_wp2_with fail
          go_meet
          exact ⟨_, _, rfl, HL4.out⟩
        · have hb1 : ((j : Int) == at_) = false := by simp [hat]
          clear hat
          go_wp2_with fail
          go_meet
          exact ⟨_, _, rfl, HL.out⟩
      case rest =>
        obtain ⟨sz', q', rfl, hl2⟩ := hcut
        have HL2 := Lib.hid hl2
        clear hl2 HL
        obtain ⟨b, off, rfl, hlb, hcells⟩ := HA.out.2.2.2.2.2 (by omega)
        have hc0 := hcells j hjlt.1
        have hoi := HA.out.get hjlt.1
        obtain ⟨o, ho⟩ : ∃ o : POp13, o = xs.getD j opK13.dflt := ⟨_, rfl⟩
        rw [← ho] at hc0 hoi
        obtain ⟨x, hx⟩ : ∃ x, x = o.x := ⟨_, rfl⟩
        obtain ⟨h0, hh0⟩ : ∃ h0, h0 = o.h := ⟨_, rfl⟩
        have hxl : x.length = 32 := by rw [hx]; exact hoi.x
        have hhl : h0.length = 32 := by rw [hh0]; exact hoi.h
        obtain ⟨s, hs, hsl, hjoin⟩ : ∃ s, shownSum x = s ∧ s.length = 32 ∧ ∀ (W : World) (p gg : Nat), KsAt W → W.heap[p]? = some (.cells o.cells.toArray 38 (0, 0)) → W.heap[gg]? = some (.cells #[.slice (some ⟨p, 0, none⟩) 32 32] 26 (0, 0)) → Calls Tryd.prog 7 #[.int .u8 31, .slice (some ⟨gg, 0, none⟩) 1 1] W fun e w' => e = .returned (.agg (cellsOf s).toArray) ∧ Below W.heap.size W w' :=
          ⟨_, rfl, shownSum_len x, fun W p gg hW hp hg => join_any 31 31 rfl (rows2_one hg (by rw [hx]; exact op13_row hoi hp)) hW (one_part hxl 31)⟩
        have HOI := Lib.hid hoi
        have HX := Lib.hid hx
        have HH0 := Lib.hid hh0
        have HS := Lib.hid hs
        have HSL := Lib.hid hsl
        have HXL := Lib.hid hxl
        have HHL := Lib.hid hhl
        have HJ := Lib.hid hjoin
        have HRO := Lib.hid (rangeAt_below hc0 hlb HL2.out.below)
        have SZO := Lib.hid (op13_size hoi)
        have OL := Lib.hid (POp13.len hoi)
        have CS : Hid ((cellsOf s).length = 32) := Lib.hid (by rw [cellsOf_len, hsl])
        have CH : Hid ((cellsOf h0).length = 32) := Lib.hid (by rw [cellsOf_len, hhl])
        have SZX := Lib.hid (sumLen13 hxl)
        have SZS := Lib.hid (sumLen13 hsl)
        have SZH := Lib.hid (sumLen13 hhl)
        have AZS := Lib.hid (size_of hsl)
        have AZH := Lib.hid (size_of hhl)
        have HTL := Lib.hid HL2.out.shelf.lt
        clear hcells hc0 hoi ho hx hh0 hxl hhl hs hsl hjoin
        go_upto_region 11 with (go_big_may; first | (refine wpList_load_mid rfl 38 _ rfl b (off + j * 65) rfl o.cells _ HRO.out Tryd.underlying38 rfl SZO.out ?_) | (refine wpList_var rfl rfl 38 rfl _ _ rfl noOp13.cells.toArray Tryd.zeroOp13 rfl o.cells (fun _ => rfl) (fun _ => rfl) OL.out o.one ?_; intro p12 w4 hq hh hb; go_frame; have HP12 := Lib.hid hh; have HN12 := Lib.hid hq; have HL4 := Lib.hid (HL2.out.more hb); have hbx := hb; clear hq hh hb) | fail)
        have HB4 := Lib.hid hbx
        clear hbx
        go_wp2_with fail
        have b6 : Below w4.heap.size w4 (w4.alloc (.cells #[.slice (some ⟨p12, 0, none⟩) 32 32] 26)) := (Below.refl _ _).alloc (Nat.le_refl _) _
        have HJC := Lib.hid (HJ.out _ p12 w4.heap.size (HK.out.below (bthen HL4.out.below b6)) (keep b6 HP12.out) (heap_alloc_new _ _))
        refine HJC.out.mono ?_
        rintro e w5 ⟨rfl, hb5⟩
        have HB5 := Lib.hid (bthen HB4.out (bthen b6 hb5))
        have HP5 := Lib.hid (keep (bthen b6 hb5) HP12.out)
        clear b6 hb5 HJ HJC HL4 HP12 HB4 HRO
        go_upto_region 12 with (go_big_may; first | (refine wpList_var rfl rfl 23 rfl _ _ rfl (cellsOf zero32).toArray sum_zero rfl (cellsOf s) (fun _ => rfl) (fun _ => rfl) CS.out (cellsOf_one s) ?_; intro p13 w6 hq hh hb; go_frame; have HP13 := Lib.hid hh; have HB6 := Lib.hid (bthen HB5.out hb); have HP6 := Lib.hid (keep hb HP5.out); have HN13 := Lib.hid (Nat.le_trans HB5.out.size hq); clear hq hh hb) | fail)
        have HRH : Hid (w6.rangeAt p12 32 (cellsOf h0)) := Lib.hid (by have h9 := op13_h HOI.out (range_of HP6.out); rw [Nat.zero_add, ← HH0.out] at h9; exact h9)
        go_upto_region 13 with (go_big_may; first | (refine wpList_load_mid rfl 23 _ rfl p12 32 rfl (cellsOf h0) _ HRH.out Tryd.underlying23 rfl SZH.out ?_) | (refine wpList_var rfl rfl 23 rfl _ _ rfl (cellsOf zero32).toArray sum_zero rfl (cellsOf h0) (fun _ => rfl) (fun _ => rfl) CH.out (cellsOf_one h0) ?_; intro p14 w7 hq hh hb; go_frame; have HP14 := Lib.hid hh; have HB7 := Lib.hid (bthen HB6.out hb); have HP7 := Lib.hid (keep hb HP6.out); have HP137 := Lib.hid (keep hb HP13.out); have HN14 := Lib.hid (Nat.le_trans HB6.out.size hq); have H124 : Hid (p12 ≠ p14) := Lib.hid (by have := lt_of_block HP6.out; omega); have H134 : Hid (p13 ≠ p14) := Lib.hid (by have := lt_of_block HP13.out; omega); clear hq hh hb) | fail)
        have c64 : w7.cell? ⟨p12, 64, none⟩ = some (.bool o.own) := by
          have h9 := op13_own HOI.out (range_of HP7.out)
          rw [Nat.zero_add] at h9
          exact h9
        have hx7 := op13_x (range_of HP7.out)
        rw [← HX.out] at hx7
        have HX7 := Lib.hid hx7
        obtain ⟨B, hB⟩ : ∃ B, o.own = B := ⟨_, rfl⟩
        rw [hB] at c64
        have HNT : Hid (∀ k, wc.heap.size ≤ k → ¬ T k) := Lib.hid (fun k hk hT => absurd (HTL.out k hT).2 (Nat.not_lt_of_le hk))
        clear hx7 hB HB5 HB6 HP5 HP6 HP13 HRH HTL
        cases B
        · go_upto_region 15 with (fail)
          have HB8 := HB7
          have HP128 := HP7
          have HP138 := HP137
          have HP148 := HP14
          by_cases heq : h0 = s
          · subst heq
            have HL8 := Lib.hid (HL2.out.more HB8.out)
            have hx8 := op13_x (range_of HP128.out)
            rw [← HX.out] at hx8
            have HX8 := Lib.hid hx8
            have HPG := Lib.hid (put_one13 HL8.out.shelf (by rw [HM.out]; omega) HXL.out HS.out (HK.out.below HL8.out.below) HL8.out.below.size)
            have q1 : ∀ W : World, (Op.equalIn 10000 23 (.agg (cellsOf h0).toArray) (.agg (cellsOf h0).toArray)).run Tryd.prog W = .ok true W := fun W => by rw [run_eqSums _ _ HSL.out HSL.out W]; simp
            clear hx8 c64
            go_upto_region 16 with (go_big_may; first | (refine wpList_load_mid rfl 23 _ rfl p12 0 rfl (cellsOf x) _ HX8.out Tryd.underlying23 rfl SZX.out ?_) | (refine wpList_load_row rfl 23 _ rfl p14 rfl 23 (cellsOf h0).toArray (0, 0) _ HP148.out Tryd.underlying23 rfl AZH.out ?_) | (go_at_call 12; (with_reducible refine (HPG.out).mono ?_); rintro e w9 ⟨rfl, T', hS, hT, hbar⟩; have HL9 := Lib.hid (HL8.out.put hS hT hbar); have HP129 := Lib.hid (hbar.keep HP128.out (HNT.out p12 HN12.out)); have HP139 := Lib.hid (hbar.keep HP138.out (HNT.out p13 HN13.out)); have HP149 := Lib.hid (hbar.keep HP148.out (HNT.out p14 HN14.out)); clear hS hT hbar) | fail)
            have hx9 := op13_x (range_of HP129.out)
            rw [← HX.out] at hx9
            have HX9 := Lib.hid hx9
            clear hx9 HX8 HL8 HPG
            go_upto_region 19 with (go_big_may; first | (refine wpList_load_row rfl 23 _ rfl p14 rfl 23 (cellsOf h0).toArray (0, 0) _ HP149.out Tryd.underlying23 rfl AZH.out ?_) | (refine wpList_load_row rfl 23 _ rfl p13 rfl 23 (cellsOf h0).toArray (0, 0) _ HP139.out Tryd.underlying23 rfl AZH.out ?_) | fail)
            go_upto_region 20 with (go_big_may; first | (refine wpList_load_mid rfl 23 _ rfl p12 0 rfl (cellsOf x) _ HX9.out Tryd.underlying23 rfl SZX.out ?_) | (refine wpList_one13 rfl _ rfl rfl HXL.out ?_; intro p w10 hp hl hb; go_frame; have HLT := Lib.hid hl; have HL10 := Lib.hid (HL9.out.more hb); clear hp hl hb) | (at_builtin; refine wpList_append_at13 rfl _ _ rfl rfl w.heap.size (.slice a8 m c8) ls m HM.out rfl HL10.out.own ⟨p, 0, none⟩ 1 1 [x] rfl HLT.out (by omega) HL10.out.below.size ?_; intro a11 c11 w11 ho hg hv; have HL11 := Lib.hid (HL10.out.app ho hg hv); clear ho hg hv) | fail)
            go_wp2_with fail
            go_roundw
            case rel => exact ⟨j + 1, sz', ls ++ [x], by omega, by omega, by rw [List.length_append, HM.out]; simp; omega, by go_num, rfl, ⟨_, _, HL11.out⟩⟩
            case measure => simp [intOf]; omega
          · have HNE : Hid (shownSum x ≠ h0) := Lib.hid (by rw [HS.out]; exact fun e => heq e.symm)
            have HL8 := Lib.hid (HL2.out.more HB8.out)
            have hx8 := op13_x (range_of HP128.out)
            rw [← HX.out] at hx8
            have HX8 := Lib.hid hx8
            have HPG := Lib.hid (put_bad13 (ps := ps) HXL.out HHL.out HNE.out (HK.out.below HL8.out.below))
            have q1 : ∀ W : World, (Op.equalIn 10000 23 (.agg (cellsOf h0).toArray) (.agg (cellsOf s).toArray)).run Tryd.prog W = .ok false W := fun W => by rw [run_eqSums _ _ HHL.out HSL.out W]; simp [heq]
            clear hx8 c64 heq
            go_upto_region 16 with (go_big_may; first | (refine wpList_load_mid rfl 23 _ rfl p12 0 rfl (cellsOf x) _ HX8.out Tryd.underlying23 rfl SZX.out ?_) | (refine wpList_load_row rfl 23 _ rfl p14 rfl 23 (cellsOf h0).toArray (0, 0) _ HP148.out Tryd.underlying23 rfl AZH.out ?_) | (go_at_call 12; (with_reducible refine (HPG.out).mono ?_); rintro e w9 ⟨rfl, hb⟩; have HL9 := Lib.hid (HL8.out.more hb); have HP139 := Lib.hid (keep hb HP138.out); have HP149 := Lib.hid (keep hb HP148.out); clear hb) | fail)
            clear HX8 HL8 HPG
            go_upto_region 17 with (go_big_may; first | (refine wpList_load_row rfl 23 _ rfl p14 rfl 23 (cellsOf h0).toArray (0, 0) _ HP149.out Tryd.underlying23 rfl AZH.out ?_) | (refine wpList_load_row rfl 23 _ rfl p13 rfl 23 (cellsOf s).toArray (0, 0) _ HP139.out Tryd.underlying23 rfl AZS.out ?_) | fail)
            go_wp2_with fail
            go_roundw
            case rel => exact ⟨j + 1, sz', ls, by omega, by omega, by rw [HM.out]; omega, by go_num, rfl, ⟨_, _, HL9.out⟩⟩
            case measure => simp [intOf]; omega
        · go_upto_region 15 with (go_big_may; first | (refine wpList_load_row rfl 23 _ rfl p13 rfl 23 (cellsOf s).toArray (0, 0) _ HP137.out Tryd.underlying23 rfl AZS.out ?_) | (refine wpList_row10 rfl 23 _ _ rfl p14 (cellsOf s) rfl rfl 23 (cellsOf h0) HP14.out SZS.out (by rw [CH.out, CS.out]) (cellsOf_one s) ?_; intro w8 hh8 hb8) | fail)
          have HP148 := Lib.hid hh8
          have HB8 := Lib.hid (But.in HB7.out hb8 HN14.out)
          have HP128 := Lib.hid ((hb8.block p12 (lt_of_block HP7.out) H124.out).trans HP7.out)
          have HP138 := Lib.hid ((hb8.block p13 (lt_of_block HP137.out) H134.out).trans HP137.out)
          clear hh8 hb8
          have HL8 := Lib.hid (HL2.out.more HB8.out)
          have hx8 := op13_x (range_of HP128.out)
          rw [← HX.out] at hx8
          have HX8 := Lib.hid hx8
          have HPG := Lib.hid (put_one13 HL8.out.shelf (by rw [HM.out]; omega) HXL.out HS.out (HK.out.below HL8.out.below) HL8.out.below.size)
          have q1 : ∀ W : World, (Op.equalIn 10000 23 (.agg (cellsOf s).toArray) (.agg (cellsOf s).toArray)).run Tryd.prog W = .ok true W := fun W => by rw [run_eqSums _ _ HSL.out HSL.out W]; simp
          clear hx8 c64
          go_upto_region 16 with (go_big_may; first | (refine wpList_load_mid rfl 23 _ rfl p12 0 rfl (cellsOf x) _ HX8.out Tryd.underlying23 rfl SZX.out ?_) | (refine wpList_load_row rfl 23 _ rfl p14 rfl 23 (cellsOf s).toArray (0, 0) _ HP148.out Tryd.underlying23 rfl AZS.out ?_) | (go_at_call 12; (with_reducible refine (HPG.out).mono ?_); rintro e w9 ⟨rfl, T', hS, hT, hbar⟩; have HL9 := Lib.hid (HL8.out.put hS hT hbar); have HP129 := Lib.hid (hbar.keep HP128.out (HNT.out p12 HN12.out)); have HP139 := Lib.hid (hbar.keep HP138.out (HNT.out p13 HN13.out)); have HP149 := Lib.hid (hbar.keep HP148.out (HNT.out p14 HN14.out)); clear hS hT hbar) | fail)
          have hx9 := op13_x (range_of HP129.out)
          rw [← HX.out] at hx9
          have HX9 := Lib.hid hx9
          clear hx9 HX8 HL8 HPG
          go_upto_region 19 with (go_big_may; first | (refine wpList_load_row rfl 23 _ rfl p14 rfl 23 (cellsOf s).toArray (0, 0) _ HP149.out Tryd.underlying23 rfl AZS.out ?_) | (refine wpList_load_row rfl 23 _ rfl p13 rfl 23 (cellsOf s).toArray (0, 0) _ HP139.out Tryd.underlying23 rfl AZS.out ?_) | fail)
          go_upto_region 20 with (go_big_may; first | (refine wpList_load_mid rfl 23 _ rfl p12 0 rfl (cellsOf x) _ HX9.out Tryd.underlying23 rfl SZX.out ?_) | (refine wpList_one13 rfl _ rfl rfl HXL.out ?_; intro p w10 hp hl hb; go_frame; have HLT := Lib.hid hl; have HL10 := Lib.hid (HL9.out.more hb); clear hp hl hb) | (at_builtin; refine wpList_append_at13 rfl _ _ rfl rfl w.heap.size (.slice a8 m c8) ls m HM.out rfl HL10.out.own ⟨p, 0, none⟩ 1 1 [x] rfl HLT.out (by omega) HL10.out.below.size ?_; intro a11 c11 w11 ho hg hv; have HL11 := Lib.hid (HL10.out.app ho hg hv); clear ho hg hv) | fail)
          go_wp2_with fail
          go_roundw
          case rel => exact ⟨j + 1, sz', ls ++ [x], by omega, by omega, by rw [List.length_append, HM.out]; simp; omega, by go_num, rfl, ⟨_, _, HL11.out⟩⟩
          case measure => simp [intOf]; omega
    · have hex : (j < n ∧ ¬ j < 40) ∨ ¬ j < n := by omega
      clear hjlt
      rcases hex with ⟨hx1, hx2⟩ | hx1
      · have f1 : (j : Int) < (n : Int) := by omega
        have f2 : ¬ (j : Int) < 40 := by omega
        have HALL := Lib.hid (all_one13 HL.out.shelf (by rw [HM.out]; omega))
        rw [HM.out] at HALL
        have hlen1 := fun (W : World) (hW : Below wr.heap.size wr W) => len_one13 (HL.out.shelf.below hW)
        rw [HM.out] at hlen1
        have HLEN1 := Lib.hid hlen1
        have HLEN2 := Lib.hid (fun (W : World) (hW : Below wr.heap.size wr W) => len_at13 (keep hW HL.out.clone))
        clear hlen1
        go_upto_region 25 with (go_big_may; first | (go_at_call 13; (with_reducible refine (HALL.out).mono ?_); rintro e w3 ⟨a16, c16, rfl, ho, hb⟩; have HO16 := Lib.hid ho; have HB3 := Lib.hid hb; have HLA1 := Lib.hid (HLEN1.out _ hb); have HLA2 := Lib.hid (HLEN2.out _ hb); clear ho hb) | (go_at_call 14; (with_reducible refine (HLA1.out).mono ?_); rintro e w4 ⟨rfl, rfl⟩) | (go_at_call 14; (with_reducible refine (HLA2.out).mono ?_); rintro e w4 ⟨rfl, rfl⟩) | fail)
        have HBS := Lib.hid (bthen HL.out.below HB3.out)
        go_wp2_with fail
        go_loopw [17] (fun i wr2 => ∃ k : Nat, k ≤ m ∧ i = .int .i64 k ∧ Below w3.heap.size w3 wr2) (fun i _ => m - (intOf i).toNat)
        case atStart => exact ⟨0, Nat.zero_le _, rfl, Below.refl _ _⟩
        case round =>
          obtain ⟨k, hkm, rfl, hb2⟩ := hrel
          have HB2 := Lib.hid hb2
          clear hb2
          by_cases hklt : k < m
          · have g1 : (k : Int) < (m : Int) := by omega
            obtain ⟨y, hy⟩ : ∃ y, y = ls.getD k [] := ⟨_, rfl⟩
            have hne : ls ≠ [] := fun e => by have h9 := HM.out; rw [e] at h9; simp at h9; omega
            obtain ⟨ga, rfl, _, hga⟩ := HO16.out.full hne
            obtain ⟨gl, rfl, _, hgl⟩ := HL.out.own.full hne
            have hsa := HO16.out.sums
            have hsl := HL.out.own.sums
            have hyl := hsa.each hklt
            rw [← hy] at hyl
            obtain ⟨_, _, e1, _, hca⟩ := hsa.2.2.2.2.2 (by omega)
            cases e1
            obtain ⟨_, _, e2, _, hcl⟩ := hsl.2.2.2.2.2 (by omega)
            cases e2
            have hra := hca k hklt
            have hrl := hcl k hklt
            rw [← hy, Nat.zero_add] at hra hrl
            have HRA0 := Lib.hid (rangeAt_below hra hga HB2.out)
            have HRL0 := Lib.hid (rangeAt_below (rangeAt_below hrl hgl HB3.out) (Nat.lt_of_lt_of_le hgl HB3.out.size) HB2.out)
            have HLA0 := Lib.hid (Nat.lt_of_lt_of_le hga HB2.out.size)
            have HLG0 := Lib.hid (Nat.lt_of_lt_of_le hgl (Nat.le_trans HB3.out.size HB2.out.size))
            have HG0 := Lib.hid (get_one13 (i := k) (HL.out.shelf.below (bthen HB3.out HB2.out)) (by rw [HM.out]; exact hklt))
            rw [← hy] at HG0
            have HYL := Lib.hid hyl
            have SZY := Lib.hid (sumLen13 hyl)
            have CY : Hid ((cellsOf y).length = 32) := Lib.hid (by rw [cellsOf_len, hyl])
            clear hy hne hga hgl hsa hsl hyl hca hcl hra hrl
            go_upto_region 29 with (go_big_may; first | (go_at_call 15; (with_reducible refine (HG0.out).mono ?_); rintro e w4 ⟨rfl, hb⟩; have HB4 := Lib.hid hb; clear hb) | (refine wpList_var rfl rfl 23 rfl _ _ rfl (cellsOf zero32).toArray sum_zero rfl (cellsOf y) (fun _ => rfl) (fun _ => rfl) CY.out (cellsOf_one y) ?_; intro p18 w5 hq hh hb; go_frame; have HP18 := Lib.hid hh; have HB45 := Lib.hid (bthen HB4.out hb); clear hq hh hb) | fail)
            have HB5 := Lib.hid (bthen HB2.out HB45.out)
            have HRA := Lib.hid (rangeAt_below HRA0.out HLA0.out HB45.out)
            have HRL := Lib.hid (rangeAt_below HRL0.out HLG0.out HB45.out)
            have HLA := Lib.hid (Nat.lt_of_lt_of_le HLA0.out HB45.out.size)
            have HLG := Lib.hid (Nat.lt_of_lt_of_le HLG0.out HB45.out.size)
            clear HG0 HRA0 HRL0 HLA0 HLG0
            refine wp_region_held_drew (S := fun w' => Below w5.heap.size w5 w') (by kernel_rfl) (below_drew (Below.refl _ _)) (fun hHeld => ?_)
            refine take_at (i := 0) (v := ?_) rfl rfl (by kernel_rfl) (by kernel_rfl) (by kernel_rfl) (fun _ _ _ h => h) (Or.inl ⟨by rfl, ?_⟩) (by assumption) ?_
            rotate_left
            · intro w0 hSw; (try dsimp only at hSw); first | (go_simp; done) | (go_simp; with_reducible rfl)
            simp only [List.setIfInBounds_toArray, List.set_cons_zero, List.set_cons_succ]
            refine take_at (i := 1) (v := ?_) rfl rfl (by kernel_rfl) (by kernel_rfl) (by kernel_rfl) (fun _ _ _ h => h) (Or.inl ⟨by rfl, ?_⟩) (by assumption) ?_
            rotate_left
            · intro w0 hSw; (try dsimp only at hSw); first | (go_simp; done) | (go_simp; with_reducible rfl)
            simp only [List.setIfInBounds_toArray, List.set_cons_zero, List.set_cons_succ]
            refine take_at (i := 2) (v := ?_) rfl rfl (by kernel_rfl) (by kernel_rfl) (by kernel_rfl) (fun _ _ _ h => h) (Or.inl ⟨by rfl, ?_⟩) (by assumption) ?_
            rotate_left
            · intro w0 hSw; (try dsimp only at hSw); first | (go_simp; done) | (go_simp; with_reducible rfl)
            simp only [List.setIfInBounds_toArray, List.set_cons_zero, List.set_cons_succ]
            refine take_at (i := 3) rfl rfl (by kernel_rfl) (by kernel_rfl) (by kernel_rfl) (fun _ _ _ h => h) (yieldsIf_load_mid (by rfl) _ _ rfl ga (k * 32) rfl (cellsOf y) _ (fun w0 hSw => rangeAt_below HRA.out HLA.out hSw) Tryd.underlying23 rfl SZY.out) (by assumption) ?_
            simp only [List.setIfInBounds_toArray, List.set_cons_zero, List.set_cons_succ]
            refine take_at (i := 4) (v := ?_) rfl rfl (by kernel_rfl) (by kernel_rfl) (by kernel_rfl) (fun _ _ _ h => h) (Or.inl ⟨by rfl, ?_⟩) (by assumption) ?_
            rotate_left
            · intro w0 hSw; (try dsimp only at hSw); first | (go_simp; done) | (go_simp; with_reducible rfl)
            simp only [List.setIfInBounds_toArray, List.set_cons_zero, List.set_cons_succ]
            refine take_at (i := 5) (v := ?_) rfl rfl (by kernel_rfl) (by kernel_rfl) (by kernel_rfl) (fun _ _ _ h => h) (Or.inl ⟨by rfl, ?_⟩) (by assumption) ?_
            rotate_left
            · intro w0 hSw; (try dsimp only at hSw); first | (go_simp; done) | (go_simp; with_reducible rfl)
            simp only [List.setIfInBounds_toArray, List.set_cons_zero, List.set_cons_succ]
            refine take_at (i := 6) (v := ?_) rfl rfl (by kernel_rfl) (by kernel_rfl) (by kernel_rfl) (fun _ _ _ h => h) (Or.inl ⟨by rfl, ?_⟩) (by assumption) ?_
            rotate_left
            · intro w0 hSw; (try dsimp only at hSw); first | (go_simp; done) | (go_simp; with_reducible rfl)
            simp only [List.setIfInBounds_toArray, List.set_cons_zero, List.set_cons_succ]
            refine take_at (i := 7) rfl rfl (by kernel_rfl) (by kernel_rfl) (by kernel_rfl) (fun _ _ _ h => h) (yieldsIf_load_mid (by rfl) _ _ rfl gl (k * 32) rfl (cellsOf y) _ (fun w0 hSw => rangeAt_below HRL.out HLG.out hSw) Tryd.underlying23 rfl SZY.out) (by assumption) ?_
            simp only [List.setIfInBounds_toArray, List.set_cons_zero, List.set_cons_succ]
            refine take_at (i := 8) rfl rfl (by kernel_rfl) (by kernel_rfl) (by kernel_rfl) (fun _ _ _ h => h) (yields_neq (by rfl) rfl rfl rfl HYL.out HYL.out false (by simp)) (by assumption) ?_
            simp only [List.setIfInBounds_toArray, List.set_cons_zero, List.set_cons_succ]
            refine take_at (i := 9) (v := ?_) rfl rfl (by kernel_rfl) (by kernel_rfl) (by kernel_rfl) (fun _ _ _ h => h) (Or.inl ⟨by rfl, ?_⟩) (by assumption) ?_
            rotate_left
            · intro w0 hSw; (try dsimp only at hSw); first | (go_simp; done) | (go_simp; with_reducible rfl)
            simp only [List.setIfInBounds_toArray, List.set_cons_zero, List.set_cons_succ]
            refine take_at (i := 10) rfl rfl (by kernel_rfl) (by kernel_rfl) (by kernel_rfl) (fun _ _ _ h => h) (yieldsIf_load_mid (by rfl) _ _ rfl p18 0 rfl (cellsOf y) _ (fun w0 hSw => range_of (keep hSw HP18.out)) Tryd.underlying23 rfl SZY.out) (by assumption) ?_
            simp only [List.setIfInBounds_toArray, List.set_cons_zero, List.set_cons_succ]
            refine take_at (i := 11) (v := ?_) rfl rfl (by kernel_rfl) (by kernel_rfl) (by kernel_rfl) (fun _ _ _ h => h) (Or.inl ⟨by rfl, ?_⟩) (by assumption) ?_
            rotate_left
            · intro w0 hSw; (try dsimp only at hSw); first | (go_simp; done) | (go_simp; with_reducible rfl)
            simp only [List.setIfInBounds_toArray, List.set_cons_zero, List.set_cons_succ]
            refine take_at (i := 12) (v := ?_) rfl rfl (by kernel_rfl) (by kernel_rfl) (by kernel_rfl) (fun _ _ _ h => h) (Or.inl ⟨by rfl, ?_⟩) (by assumption) ?_
            rotate_left
            · intro w0 hSw; (try dsimp only at hSw); first | (go_simp; done) | (go_simp; with_reducible rfl)
            simp only [List.setIfInBounds_toArray, List.set_cons_zero, List.set_cons_succ]
            refine take_at (i := 13) (v := ?_) rfl rfl (by kernel_rfl) (by kernel_rfl) (by kernel_rfl) (fun _ _ _ h => h) (Or.inl ⟨by rfl, ?_⟩) (by assumption) ?_
            rotate_left
            · intro w0 hSw; (try dsimp only at hSw); first | (go_simp; done) | (go_simp; with_reducible rfl)
            simp only [List.setIfInBounds_toArray, List.set_cons_zero, List.set_cons_succ]
            refine take_at (i := 14) rfl rfl (by kernel_rfl) (by kernel_rfl) (by kernel_rfl) (fun _ _ _ h => h) (yieldsIf_load_mid (by rfl) _ _ rfl gl (k * 32) rfl (cellsOf y) _ (fun w0 hSw => rangeAt_below HRL.out HLG.out hSw) Tryd.underlying23 rfl SZY.out) (by assumption) ?_
            simp only [List.setIfInBounds_toArray, List.set_cons_zero, List.set_cons_succ]
            refine take_at (i := 15) rfl rfl (by kernel_rfl) (by kernel_rfl) (by kernel_rfl) (fun _ _ _ h => h) (yields_neq (by rfl) rfl rfl rfl HYL.out HYL.out false (by simp)) (by assumption) ?_
            simp only [List.setIfInBounds_toArray, List.set_cons_zero, List.set_cons_succ]
            refine take_at (i := 16) (v := ?_) rfl rfl (by kernel_rfl) (by kernel_rfl) (by kernel_rfl) (fun _ _ _ h => h) (Or.inl ⟨by rfl, ?_⟩) (by assumption) ?_
            rotate_left
            · intro w0 hSw; (try dsimp only at hSw); first | (go_simp; done) | (go_simp; with_reducible rfl)
            simp only [List.setIfInBounds_toArray, List.set_cons_zero, List.set_cons_succ]
            refine take_at (i := 17) (v := ?_) rfl rfl (by kernel_rfl) (by kernel_rfl) (by kernel_rfl) (fun _ _ _ h => h) (Or.inl ⟨by rfl, ?_⟩) (by assumption) ?_
            rotate_left
            · intro w0 hSw; (try dsimp only at hSw); first | (go_simp; done) | (go_simp; with_reducible rfl)
            simp only [List.setIfInBounds_toArray, List.set_cons_zero, List.set_cons_succ]
            refine take_at (i := 18) (v := ?_) rfl rfl (by kernel_rfl) (by kernel_rfl) (by kernel_rfl) (fun _ _ _ h => h) (Or.inl ⟨by rfl, ?_⟩) (by assumption) ?_
            rotate_left
            · intro w0 hSw; (try dsimp only at hSw); first | (go_simp; done) | (go_simp; with_reducible rfl)
            simp only [List.setIfInBounds_toArray, List.set_cons_zero, List.set_cons_succ]
            refine take_at (i := 19) (v := ?_) rfl rfl (by kernel_rfl) (by kernel_rfl) (by kernel_rfl) (fun _ _ _ h => h) (Or.inl ⟨by rfl, ?_⟩) (by assumption) ?_
            rotate_left
            · intro w0 hSw; (try dsimp only at hSw); first | (go_simp; done) | (go_simp; with_reducible rfl)
            simp only [List.setIfInBounds_toArray, List.set_cons_zero, List.set_cons_succ]
            refine take_at (i := 20) (v := ?_) rfl rfl (by kernel_rfl) (by kernel_rfl) (by kernel_rfl) (fun _ _ _ h => h) (Or.inl ⟨by rfl, ?_⟩) (by assumption) ?_
            rotate_left
            · intro w0 hSw; (try dsimp only at hSw); first | (go_simp; done) | (go_simp; with_reducible rfl)
            simp only [List.setIfInBounds_toArray, List.set_cons_zero, List.set_cons_succ]
            refine wpAnyH_done (by kernel_rfl) ?_ _
            have HFIN := Lib.hid (bthen HB5.out (show Below w5.heap.size w5 w5.drew from hHeld))
            clear hHeld
            go_wp2_with fail
            go_roundw
            case rel => exact ⟨k + 1, by omega, by go_num, HFIN.out⟩
            case measure => simp [intOf]; omega
          · have g1 : ¬ (k : Int) < (m : Int) := by omega
            have hgt := get_any13 (z := z) (HL.out.shelf.below (bthen HB3.out HB2.out)) HL.out.own.2
            rw [HM.out] at hgt
            by_cases hz0 : z < 0
            · have hst : hasState z m = false := by simp [hasState]; omega
              rw [hst] at hgt
              have HGT := Lib.hid hgt
              clear hst hgt
              go_upto_region 32 with (go_big_may; first | (go_at_call 15; (with_reducible refine (HGT.out).mono ?_); rintro e w6 ⟨y, hyl, rfl, hb⟩; have CY : Hid ((cellsOf y).length = 32) := Lib.hid (by rw [cellsOf_len, hyl]); have HB6 := Lib.hid hb; clear hyl hb) | (refine wpList_var rfl rfl 23 rfl _ _ rfl (cellsOf zero32).toArray sum_zero rfl (cellsOf y) (fun _ => rfl) (fun _ => rfl) CY.out (cellsOf_one y) ?_; intro p20 w7 hq hh hb; go_frame; have HB7 := Lib.hid (bthen HB6.out hb); clear hq hh hb) | fail)
              have HWC := Lib.hid (HAW.out _ (HK.out.below (bthen (bthen HBS.out HB2.out) HB7.out)))
              go_wp2_with (first | (go_at_call 6; (with_reducible refine (HWC.out).mono ?_); rintro e w8 ⟨rfl, hb⟩; have HB8 := Lib.hid (bthen HB7.out hb); clear hb) | fail)
              go_ret
              exact ⟨rfl, bthen (bthen HBS.out HB2.out) HB8.out⟩
            · by_cases hz1 : z < (m : Int)
              · have z0 : (0 : Int) ≤ z := by omega
                have hst : hasState z m = true := by simp [hasState]; omega
                rw [hst] at hgt
                have HGT := Lib.hid hgt
                clear hst hgt
                go_upto_region 32 with (go_big_may; first | (go_at_call 15; (with_reducible refine (HGT.out).mono ?_); rintro e w6 ⟨y, hyl, rfl, hb⟩; have CY : Hid ((cellsOf y).length = 32) := Lib.hid (by rw [cellsOf_len, hyl]); have HB6 := Lib.hid hb; clear hyl hb) | (refine wpList_var rfl rfl 23 rfl _ _ rfl (cellsOf zero32).toArray sum_zero rfl (cellsOf y) (fun _ => rfl) (fun _ => rfl) CY.out (cellsOf_one y) ?_; intro p20 w7 hq hh hb; go_frame; have HB7 := Lib.hid (bthen HB6.out hb); clear hq hh hb) | fail)
                have HWC := Lib.hid (HAW.out _ (HK.out.below (bthen (bthen HBS.out HB2.out) HB7.out)))
                go_wp2_with (first | (go_at_call 6; (with_reducible refine (HWC.out).mono ?_); rintro e w8 ⟨rfl, hb⟩; have HB8 := Lib.hid (bthen HB7.out hb); clear hb) | fail)
                go_ret
                exact ⟨rfl, bthen (bthen HBS.out HB2.out) HB8.out⟩
              · have z0 : (0 : Int) ≤ z := by omega
                have zd : decide (z < (m : Int)) = false := by simp; omega
                have hst : hasState z m = false := by simp [hasState]; omega
                rw [hst] at hgt
                have HGT := Lib.hid hgt
                clear hst hgt
                go_upto_region 32 with (go_big_may; first | (go_at_call 15; (with_reducible refine (HGT.out).mono ?_); rintro e w6 ⟨y, hyl, rfl, hb⟩; have CY : Hid ((cellsOf y).length = 32) := Lib.hid (by rw [cellsOf_len, hyl]); have HB6 := Lib.hid hb; clear hyl hb) | (refine wpList_var rfl rfl 23 rfl _ _ rfl (cellsOf zero32).toArray sum_zero rfl (cellsOf y) (fun _ => rfl) (fun _ => rfl) CY.out (cellsOf_one y) ?_; intro p20 w7 hq hh hb; go_frame; have HB7 := Lib.hid (bthen HB6.out hb); clear hq hh hb) | fail)
                have HWC := Lib.hid (HAW.out _ (HK.out.below (bthen (bthen HBS.out HB2.out) HB7.out)))
                go_wp2_with (first | (go_at_call 6; (with_reducible refine (HWC.out).mono ?_); rintro e w8 ⟨rfl, hb⟩; have HB8 := Lib.hid (bthen HB7.out hb); clear hb) | fail)
                go_ret
                exact ⟨rfl, bthen (bthen HBS.out HB2.out) HB8.out⟩
      · have f1 : ¬ (j : Int) < (n : Int) := by omega
        have HALL := Lib.hid (all_one13 HL.out.shelf (by rw [HM.out]; omega))
        rw [HM.out] at HALL
        have hlen1 := fun (W : World) (hW : Below wr.heap.size wr W) => len_one13 (HL.out.shelf.below hW)
        rw [HM.out] at hlen1
        have HLEN1 := Lib.hid hlen1
        have HLEN2 := Lib.hid (fun (W : World) (hW : Below wr.heap.size wr W) => len_at13 (keep hW HL.out.clone))
        clear hlen1
        go_upto_region 25 with (go_big_may; first | (go_at_call 13; (with_reducible refine (HALL.out).mono ?_); rintro e w3 ⟨a16, c16, rfl, ho, hb⟩; have HO16 := Lib.hid ho; have HB3 := Lib.hid hb; have HLA1 := Lib.hid (HLEN1.out _ hb); have HLA2 := Lib.hid (HLEN2.out _ hb); clear ho hb) | (go_at_call 14; (with_reducible refine (HLA1.out).mono ?_); rintro e w4 ⟨rfl, rfl⟩) | (go_at_call 14; (with_reducible refine (HLA2.out).mono ?_); rintro e w4 ⟨rfl, rfl⟩) | fail)
        have HBS := Lib.hid (bthen HL.out.below HB3.out)
        go_wp2_with fail
        go_loopw [17] (fun i wr2 => ∃ k : Nat, k ≤ m ∧ i = .int .i64 k ∧ Below w3.heap.size w3 wr2) (fun i _ => m - (intOf i).toNat)
        case atStart => exact ⟨0, Nat.zero_le _, rfl, Below.refl _ _⟩
        case round =>
          obtain ⟨k, hkm, rfl, hb2⟩ := hrel
          have HB2 := Lib.hid hb2
          clear hb2
          by_cases hklt : k < m
          · have g1 : (k : Int) < (m : Int) := by omega
            obtain ⟨y, hy⟩ : ∃ y, y = ls.getD k [] := ⟨_, rfl⟩
            have hne : ls ≠ [] := fun e => by have h9 := HM.out; rw [e] at h9; simp at h9; omega
            obtain ⟨ga, rfl, _, hga⟩ := HO16.out.full hne
            obtain ⟨gl, rfl, _, hgl⟩ := HL.out.own.full hne
            have hsa := HO16.out.sums
            have hsl := HL.out.own.sums
            have hyl := hsa.each hklt
            rw [← hy] at hyl
            obtain ⟨_, _, e1, _, hca⟩ := hsa.2.2.2.2.2 (by omega)
            cases e1
            obtain ⟨_, _, e2, _, hcl⟩ := hsl.2.2.2.2.2 (by omega)
            cases e2
            have hra := hca k hklt
            have hrl := hcl k hklt
            rw [← hy, Nat.zero_add] at hra hrl
            have HRA0 := Lib.hid (rangeAt_below hra hga HB2.out)
            have HRL0 := Lib.hid (rangeAt_below (rangeAt_below hrl hgl HB3.out) (Nat.lt_of_lt_of_le hgl HB3.out.size) HB2.out)
            have HLA0 := Lib.hid (Nat.lt_of_lt_of_le hga HB2.out.size)
            have HLG0 := Lib.hid (Nat.lt_of_lt_of_le hgl (Nat.le_trans HB3.out.size HB2.out.size))
            have HG0 := Lib.hid (get_one13 (i := k) (HL.out.shelf.below (bthen HB3.out HB2.out)) (by rw [HM.out]; exact hklt))
            rw [← hy] at HG0
            have HYL := Lib.hid hyl
            have SZY := Lib.hid (sumLen13 hyl)
            have CY : Hid ((cellsOf y).length = 32) := Lib.hid (by rw [cellsOf_len, hyl])
            clear hy hne hga hgl hsa hsl hyl hca hcl hra hrl
            go_upto_region 29 with (go_big_may; first | (go_at_call 15; (with_reducible refine (HG0.out).mono ?_); rintro e w4 ⟨rfl, hb⟩; have HB4 := Lib.hid hb; clear hb) | (refine wpList_var rfl rfl 23 rfl _ _ rfl (cellsOf zero32).toArray sum_zero rfl (cellsOf y) (fun _ => rfl) (fun _ => rfl) CY.out (cellsOf_one y) ?_; intro p18 w5 hq hh hb; go_frame; have HP18 := Lib.hid hh; have HB45 := Lib.hid (bthen HB4.out hb); clear hq hh hb) | fail)
            have HB5 := Lib.hid (bthen HB2.out HB45.out)
            have HRA := Lib.hid (rangeAt_below HRA0.out HLA0.out HB45.out)
            have HRL := Lib.hid (rangeAt_below HRL0.out HLG0.out HB45.out)
            have HLA := Lib.hid (Nat.lt_of_lt_of_le HLA0.out HB45.out.size)
            have HLG := Lib.hid (Nat.lt_of_lt_of_le HLG0.out HB45.out.size)
            clear HG0 HRA0 HRL0 HLA0 HLG0
            refine wp_region_held_drew (S := fun w' => Below w5.heap.size w5 w') (by kernel_rfl) (below_drew (Below.refl _ _)) (fun hHeld => ?_)
            refine take_at (i := 0) (v := ?_) rfl rfl (by kernel_rfl) (by kernel_rfl) (by kernel_rfl) (fun _ _ _ h => h) (Or.inl ⟨by rfl, ?_⟩) (by assumption) ?_
            rotate_left
            · intro w0 hSw; (try dsimp only at hSw); first | (go_simp; done) | (go_simp; with_reducible rfl)
            simp only [List.setIfInBounds_toArray, List.set_cons_zero, List.set_cons_succ]
            refine take_at (i := 1) (v := ?_) rfl rfl (by kernel_rfl) (by kernel_rfl) (by kernel_rfl) (fun _ _ _ h => h) (Or.inl ⟨by rfl, ?_⟩) (by assumption) ?_
            rotate_left
            · intro w0 hSw; (try dsimp only at hSw); first | (go_simp; done) | (go_simp; with_reducible rfl)
            simp only [List.setIfInBounds_toArray, List.set_cons_zero, List.set_cons_succ]
            refine take_at (i := 2) (v := ?_) rfl rfl (by kernel_rfl) (by kernel_rfl) (by kernel_rfl) (fun _ _ _ h => h) (Or.inl ⟨by rfl, ?_⟩) (by assumption) ?_
            rotate_left
            · intro w0 hSw; (try dsimp only at hSw); first | (go_simp; done) | (go_simp; with_reducible rfl)
            simp only [List.setIfInBounds_toArray, List.set_cons_zero, List.set_cons_succ]
            refine take_at (i := 3) rfl rfl (by kernel_rfl) (by kernel_rfl) (by kernel_rfl) (fun _ _ _ h => h) (yieldsIf_load_mid (by rfl) _ _ rfl ga (k * 32) rfl (cellsOf y) _ (fun w0 hSw => rangeAt_below HRA.out HLA.out hSw) Tryd.underlying23 rfl SZY.out) (by assumption) ?_
            simp only [List.setIfInBounds_toArray, List.set_cons_zero, List.set_cons_succ]
            refine take_at (i := 4) (v := ?_) rfl rfl (by kernel_rfl) (by kernel_rfl) (by kernel_rfl) (fun _ _ _ h => h) (Or.inl ⟨by rfl, ?_⟩) (by assumption) ?_
            rotate_left
            · intro w0 hSw; (try dsimp only at hSw); first | (go_simp; done) | (go_simp; with_reducible rfl)
            simp only [List.setIfInBounds_toArray, List.set_cons_zero, List.set_cons_succ]
            refine take_at (i := 5) (v := ?_) rfl rfl (by kernel_rfl) (by kernel_rfl) (by kernel_rfl) (fun _ _ _ h => h) (Or.inl ⟨by rfl, ?_⟩) (by assumption) ?_
            rotate_left
            · intro w0 hSw; (try dsimp only at hSw); first | (go_simp; done) | (go_simp; with_reducible rfl)
            simp only [List.setIfInBounds_toArray, List.set_cons_zero, List.set_cons_succ]
            refine take_at (i := 6) (v := ?_) rfl rfl (by kernel_rfl) (by kernel_rfl) (by kernel_rfl) (fun _ _ _ h => h) (Or.inl ⟨by rfl, ?_⟩) (by assumption) ?_
            rotate_left
            · intro w0 hSw; (try dsimp only at hSw); first | (go_simp; done) | (go_simp; with_reducible rfl)
            simp only [List.setIfInBounds_toArray, List.set_cons_zero, List.set_cons_succ]
            refine take_at (i := 7) rfl rfl (by kernel_rfl) (by kernel_rfl) (by kernel_rfl) (fun _ _ _ h => h) (yieldsIf_load_mid (by rfl) _ _ rfl gl (k * 32) rfl (cellsOf y) _ (fun w0 hSw => rangeAt_below HRL.out HLG.out hSw) Tryd.underlying23 rfl SZY.out) (by assumption) ?_
            simp only [List.setIfInBounds_toArray, List.set_cons_zero, List.set_cons_succ]
            refine take_at (i := 8) rfl rfl (by kernel_rfl) (by kernel_rfl) (by kernel_rfl) (fun _ _ _ h => h) (yields_neq (by rfl) rfl rfl rfl HYL.out HYL.out false (by simp)) (by assumption) ?_
            simp only [List.setIfInBounds_toArray, List.set_cons_zero, List.set_cons_succ]
            refine take_at (i := 9) (v := ?_) rfl rfl (by kernel_rfl) (by kernel_rfl) (by kernel_rfl) (fun _ _ _ h => h) (Or.inl ⟨by rfl, ?_⟩) (by assumption) ?_
            rotate_left
            · intro w0 hSw; (try dsimp only at hSw); first | (go_simp; done) | (go_simp; with_reducible rfl)
            simp only [List.setIfInBounds_toArray, List.set_cons_zero, List.set_cons_succ]
            refine take_at (i := 10) rfl rfl (by kernel_rfl) (by kernel_rfl) (by kernel_rfl) (fun _ _ _ h => h) (yieldsIf_load_mid (by rfl) _ _ rfl p18 0 rfl (cellsOf y) _ (fun w0 hSw => range_of (keep hSw HP18.out)) Tryd.underlying23 rfl SZY.out) (by assumption) ?_
            simp only [List.setIfInBounds_toArray, List.set_cons_zero, List.set_cons_succ]
            refine take_at (i := 11) (v := ?_) rfl rfl (by kernel_rfl) (by kernel_rfl) (by kernel_rfl) (fun _ _ _ h => h) (Or.inl ⟨by rfl, ?_⟩) (by assumption) ?_
            rotate_left
            · intro w0 hSw; (try dsimp only at hSw); first | (go_simp; done) | (go_simp; with_reducible rfl)
            simp only [List.setIfInBounds_toArray, List.set_cons_zero, List.set_cons_succ]
            refine take_at (i := 12) (v := ?_) rfl rfl (by kernel_rfl) (by kernel_rfl) (by kernel_rfl) (fun _ _ _ h => h) (Or.inl ⟨by rfl, ?_⟩) (by assumption) ?_
            rotate_left
            · intro w0 hSw; (try dsimp only at hSw); first | (go_simp; done) | (go_simp; with_reducible rfl)
            simp only [List.setIfInBounds_toArray, List.set_cons_zero, List.set_cons_succ]
            refine take_at (i := 13) (v := ?_) rfl rfl (by kernel_rfl) (by kernel_rfl) (by kernel_rfl) (fun _ _ _ h => h) (Or.inl ⟨by rfl, ?_⟩) (by assumption) ?_
            rotate_left
            · intro w0 hSw; (try dsimp only at hSw); first | (go_simp; done) | (go_simp; with_reducible rfl)
            simp only [List.setIfInBounds_toArray, List.set_cons_zero, List.set_cons_succ]
            refine take_at (i := 14) rfl rfl (by kernel_rfl) (by kernel_rfl) (by kernel_rfl) (fun _ _ _ h => h) (yieldsIf_load_mid (by rfl) _ _ rfl gl (k * 32) rfl (cellsOf y) _ (fun w0 hSw => rangeAt_below HRL.out HLG.out hSw) Tryd.underlying23 rfl SZY.out) (by assumption) ?_
            simp only [List.setIfInBounds_toArray, List.set_cons_zero, List.set_cons_succ]
            refine take_at (i := 15) rfl rfl (by kernel_rfl) (by kernel_rfl) (by kernel_rfl) (fun _ _ _ h => h) (yields_neq (by rfl) rfl rfl rfl HYL.out HYL.out false (by simp)) (by assumption) ?_
            simp only [List.setIfInBounds_toArray, List.set_cons_zero, List.set_cons_succ]
            refine take_at (i := 16) (v := ?_) rfl rfl (by kernel_rfl) (by kernel_rfl) (by kernel_rfl) (fun _ _ _ h => h) (Or.inl ⟨by rfl, ?_⟩) (by assumption) ?_
            rotate_left
            · intro w0 hSw; (try dsimp only at hSw); first | (go_simp; done) | (go_simp; with_reducible rfl)
            simp only [List.setIfInBounds_toArray, List.set_cons_zero, List.set_cons_succ]
            refine take_at (i := 17) (v := ?_) rfl rfl (by kernel_rfl) (by kernel_rfl) (by kernel_rfl) (fun _ _ _ h => h) (Or.inl ⟨by rfl, ?_⟩) (by assumption) ?_
            rotate_left
            · intro w0 hSw; (try dsimp only at hSw); first | (go_simp; done) | (go_simp; with_reducible rfl)
            simp only [List.setIfInBounds_toArray, List.set_cons_zero, List.set_cons_succ]
            refine take_at (i := 18) (v := ?_) rfl rfl (by kernel_rfl) (by kernel_rfl) (by kernel_rfl) (fun _ _ _ h => h) (Or.inl ⟨by rfl, ?_⟩) (by assumption) ?_
            rotate_left
            · intro w0 hSw; (try dsimp only at hSw); first | (go_simp; done) | (go_simp; with_reducible rfl)
            simp only [List.setIfInBounds_toArray, List.set_cons_zero, List.set_cons_succ]
            refine take_at (i := 19) (v := ?_) rfl rfl (by kernel_rfl) (by kernel_rfl) (by kernel_rfl) (fun _ _ _ h => h) (Or.inl ⟨by rfl, ?_⟩) (by assumption) ?_
            rotate_left
            · intro w0 hSw; (try dsimp only at hSw); first | (go_simp; done) | (go_simp; with_reducible rfl)
            simp only [List.setIfInBounds_toArray, List.set_cons_zero, List.set_cons_succ]
            refine take_at (i := 20) (v := ?_) rfl rfl (by kernel_rfl) (by kernel_rfl) (by kernel_rfl) (fun _ _ _ h => h) (Or.inl ⟨by rfl, ?_⟩) (by assumption) ?_
            rotate_left
            · intro w0 hSw; (try dsimp only at hSw); first | (go_simp; done) | (go_simp; with_reducible rfl)
            simp only [List.setIfInBounds_toArray, List.set_cons_zero, List.set_cons_succ]
            refine wpAnyH_done (by kernel_rfl) ?_ _
            have HFIN := Lib.hid (bthen HB5.out (show Below w5.heap.size w5 w5.drew from hHeld))
            clear hHeld
            go_wp2_with fail
            go_roundw
            case rel => exact ⟨k + 1, by omega, by go_num, HFIN.out⟩
            case measure => simp [intOf]; omega
          · have g1 : ¬ (k : Int) < (m : Int) := by omega
            have hgt := get_any13 (z := z) (HL.out.shelf.below (bthen HB3.out HB2.out)) HL.out.own.2
            rw [HM.out] at hgt
            by_cases hz0 : z < 0
            · have hst : hasState z m = false := by simp [hasState]; omega
              rw [hst] at hgt
              have HGT := Lib.hid hgt
              clear hst hgt
              go_upto_region 32 with (go_big_may; first | (go_at_call 15; (with_reducible refine (HGT.out).mono ?_); rintro e w6 ⟨y, hyl, rfl, hb⟩; have CY : Hid ((cellsOf y).length = 32) := Lib.hid (by rw [cellsOf_len, hyl]); have HB6 := Lib.hid hb; clear hyl hb) | (refine wpList_var rfl rfl 23 rfl _ _ rfl (cellsOf zero32).toArray sum_zero rfl (cellsOf y) (fun _ => rfl) (fun _ => rfl) CY.out (cellsOf_one y) ?_; intro p20 w7 hq hh hb; go_frame; have HB7 := Lib.hid (bthen HB6.out hb); clear hq hh hb) | fail)
              have HWC := Lib.hid (HAW.out _ (HK.out.below (bthen (bthen HBS.out HB2.out) HB7.out)))
              go_wp2_with (first | (go_at_call 6; (with_reducible refine (HWC.out).mono ?_); rintro e w8 ⟨rfl, hb⟩; have HB8 := Lib.hid (bthen HB7.out hb); clear hb) | fail)
              go_ret
              exact ⟨rfl, bthen (bthen HBS.out HB2.out) HB8.out⟩
            · by_cases hz1 : z < (m : Int)
              · have z0 : (0 : Int) ≤ z := by omega
                have hst : hasState z m = true := by simp [hasState]; omega
                rw [hst] at hgt
                have HGT := Lib.hid hgt
                clear hst hgt
                go_upto_region 32 with (go_big_may; first | (go_at_call 15; (with_reducible refine (HGT.out).mono ?_); rintro e w6 ⟨y, hyl, rfl, hb⟩; have CY : Hid ((cellsOf y).length = 32) := Lib.hid (by rw [cellsOf_len, hyl]); have HB6 := Lib.hid hb; clear hyl hb) | (refine wpList_var rfl rfl 23 rfl _ _ rfl (cellsOf zero32).toArray sum_zero rfl (cellsOf y) (fun _ => rfl) (fun _ => rfl) CY.out (cellsOf_one y) ?_; intro p20 w7 hq hh hb; go_frame; have HB7 := Lib.hid (bthen HB6.out hb); clear hq hh hb) | fail)
                have HWC := Lib.hid (HAW.out _ (HK.out.below (bthen (bthen HBS.out HB2.out) HB7.out)))
                go_wp2_with (first | (go_at_call 6; (with_reducible refine (HWC.out).mono ?_); rintro e w8 ⟨rfl, hb⟩; have HB8 := Lib.hid (bthen HB7.out hb); clear hb) | fail)
                go_ret
                exact ⟨rfl, bthen (bthen HBS.out HB2.out) HB8.out⟩
              · have z0 : (0 : Int) ≤ z := by omega
                have zd : decide (z < (m : Int)) = false := by simp; omega
                have hst : hasState z m = false := by simp [hasState]; omega
                rw [hst] at hgt
                have HGT := Lib.hid hgt
                clear hst hgt
                go_upto_region 32 with (go_big_may; first | (go_at_call 15; (with_reducible refine (HGT.out).mono ?_); rintro e w6 ⟨y, hyl, rfl, hb⟩; have CY : Hid ((cellsOf y).length = 32) := Lib.hid (by rw [cellsOf_len, hyl]); have HB6 := Lib.hid hb; clear hyl hb) | (refine wpList_var rfl rfl 23 rfl _ _ rfl (cellsOf zero32).toArray sum_zero rfl (cellsOf y) (fun _ => rfl) (fun _ => rfl) CY.out (cellsOf_one y) ?_; intro p20 w7 hq hh hb; go_frame; have HB7 := Lib.hid (bthen HB6.out hb); clear hq hh hb) | fail)
                have HWC := Lib.hid (HAW.out _ (HK.out.below (bthen (bthen HBS.out HB2.out) HB7.out)))
                go_wp2_with (first | (go_at_call 6; (with_reducible refine (HWC.out).mono ?_); rintro e w8 ⟨rfl, hb⟩; have HB8 := Lib.hid (bthen HB7.out hb); clear hb) | fail)
                go_ret
                exact ⟨rfl, bthen (bthen HBS.out HB2.out) HB8.out⟩
end Go.Proofs.YthpkafjonelanaaDoor
