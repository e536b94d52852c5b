/- view.Of: the amounts that are a key's alone, in order. -/
import Derived.Test.YtdeilkpcmgcbaaaViewClone
namespace Go.Proofs.Ytdeilkpcmgcbaaa
open Go.RowKit Go.Maps

/-- What is a key's alone, behind a sum: what would come to more than may be is left out. -/
def ownFrom (key : Int) (s : Int) : List PRow → Int
  | [] => s
  | r :: l => ownFrom key (if soleW key r.out.ws = true ∧ s + r.out.m ≤ 1125899906842624 then s + r.out.m else s) l
theorem soleW_strip (key : Int) (xs : List PWay) : soleW key (xs.map PWay.strip) = soleW key xs := by
  match xs with
  | [] => rfl
  | [x] => rfl
  | x :: y :: l => rfl
set_option linter.unusedSimpArgs false in
set_option maxRecDepth 100000 in
set_option maxHeartbeats 25600000 in
theorem of_any {w : World} {pv : Value} {b N : Nat} {rows : List PRow} {key : Int} (h : ViewAt w pv b N rows) (hkey : Fits key) :
    Calls Try.prog 13 #[pv, .int .i64 key] w fun e w' => e = .returned (.int .i64 (ownFrom key 0 rows)) ∧ Below w.heap.size w w' := by
  obtain ⟨F, hmo, hF⟩ := h.mapOr
  obtain ⟨vb, hpv, _⟩ := h.has
  have HPL := Lib.hid (places_any h.hasIt hmo)
  have HPR : Hid (∀ ss : List RefD, SortedKeys F ss → ss.length = rows.length ∧ ∀ j (h1 : j < ss.length) (h2 : j < rows.length), ss[j].tx = rows[j].tx ∧ ss[j].place = rows[j].place) := Lib.hid (fun ss hs => places_rows hF h.rising h.ok hs)
  subst hpv
  obtain ⟨len, hlen⟩ : ∃ l, l = rows.length := ⟨_, rfl⟩
  obtain ⟨R, hR⟩ : ∃ R, R = ownFrom key 0 rows := ⟨_, rfl⟩
  have HV := Lib.hid h
  have HLEN := Lib.hid hlen
  have HR := Lib.hid hR
  have HKF := Lib.hid hkey
  rw [← hR]
  clear h hmo hF hlen hR hkey
  go_enter Try.func13, Try.ntmps13
  go_upto_region 3 with (first | (go_at_call 27; refine HPL.out.mono ?_; rintro e w3 ⟨v3, ss, rfl, hk3, ho3, hb3⟩; obtain ⟨hssl, hssg⟩ := HPR.out ss hk3; rw [← HLEN.out] at hssl; obtain ⟨as9, cs, rfl, _⟩ := ho3.shape; rw [hssl] at ho3 ⊢; have HSS := Lib.hid (ho3.slice (fun x _ => trivial)); have HB3 := Lib.hid hb3; have HSG := Lib.hid hssg; have HSL := Lib.hid hssl; clear hk3 ho3 hb3 hssg hssl HPL HPR) | fail)
  have hc63 : (cs : Int) ≤ 9223372036854775807 := by have h2 := HSS.out.2.2.1; unfold maxLen at h2; omega
  have hlc : (len : Int) ≤ (cs : Int) := by have h2 := HSS.out.2.1; omega
  go_loopw [5, 14] (fun v i wr => ∃ (j : Nat) (Q : Int), j ≤ len ∧ i = .int .i64 j ∧ v = .int .i64 Q ∧ 0 ≤ Q ∧ Q ≤ 1125899906842624 ∧ R = ownFrom key Q (rows.drop j) ∧ Below w3.heap.size w3 wr) (fun _ i _ => len - (intOf i).toNat)
  case atStart => exact ⟨0, 0, Nat.zero_le _, rfl, rfl, Int.le_refl _, by omega, HR.out, Below.refl _ _⟩
  case round =>
    obtain ⟨j, Q, hj, rfl, rfl, q0, q1, hrj, hbr⟩ := hrel
    have HRJ := Lib.hid hrj
    have HBR := Lib.hid hbr
    clear hrj hbr
    by_cases hjn : j < len
    · have f1 : (j : Int) < (len : Int) := by omega
      have f0 : (0 : Int) ≤ (j : Int) := by omega
      have ft : ((j : Int)).toNat = j := by omega
      have hVr := (HV.out.below HB3.out).below (HBR.out.mono (Nat.le_refl _))
      have hSr := HSS.out.below HBR.out
      obtain ⟨b1, o1, e1, hltb, hcc⟩ := hSr.2.2.2.2.2 (by omega)
      have hrx : wr.rangeAt b1 (o1 + j * 33) (ss.getD j noRef).cells := hcc j hjn
      have hjr : j < rows.length := by rw [← HLEN.out]; exact hjn
      have hjs : j < ss.length := by rw [HSL.out]; exact hjn
      obtain ⟨ht1, ht2⟩ := HSG.out j hjs hjr
      have hmem : rows[j] ∈ rows := List.getElem_mem hjr
      have hok := hVr.ok _ hmem
      have hgd : ss.getD j noRef = ss[j] := by rw [List.getD_eq_getElem?_getD, List.getElem?_eq_getElem hjs]; rfl
      obtain ⟨F2, hm2, hF2⟩ := hVr.map
      obtain ⟨u2, hu2, a2, n2, c2, ys2, rfl, hw2, _, hst2⟩ := hF2.2 _ hmem
      obtain ⟨vb2, hvb2, hvh2⟩ := hVr.has
      cases hvb2
      rw [hgd] at hrx
      revert hrx ht1 ht2
      generalize ss[j] = x
      intro hrx ht1 ht2
      obtain ⟨sb, hsb⟩ : ∃ sb, soleW key ys2 = sb := ⟨_, rfl⟩
      have HSX : Hid (∀ W : World, Below wr.heap.size wr W → Calls Try.prog 11 #[.agg #[.int .i64 rows[j].out.m, .slice a2 n2 c2], .int .i64 key] W fun e w' => e = .returned (.bool sb) ∧ Below W.heap.size W w') := Lib.hid (fun W hW => by
        rw [← hsb]
        exact lockSole_any (hw2.below hW) HKF.out)
      have hsr : soleW key rows[j].out.ws = sb := by rw [← soleW_strip, ← hst2, soleW_strip, hsb]
      have hdr : ownFrom key Q (rows.drop j) = ownFrom key (if sb = true ∧ Q + rows[j].out.m ≤ 1125899906842624 then Q + rows[j].out.m else Q) (rows.drop (j + 1)) := by
        rw [List.drop_eq_getElem_cons hjr, ownFrom, hsr]
      have HRK : Hid ((sb = false → R = ownFrom key Q (rows.drop (j + 1))) ∧ (sb = true → 1125899906842624 < Q + rows[j].out.m → R = ownFrom key Q (rows.drop (j + 1))) ∧ (sb = true → ¬ 1125899906842624 < Q + rows[j].out.m → R = ownFrom key (Q + rows[j].out.m) (rows.drop (j + 1)))) := Lib.hid ⟨fun e => by
        rw [HRJ.out, hdr, if_neg (by rw [e]; simp)], fun e h9 => by
        rw [HRJ.out, hdr, if_neg (by omega)], fun e h9 => by
        rw [HRJ.out, hdr, if_pos ⟨e, by omega⟩]⟩
      obtain ⟨hm0, hm1⟩ := rowOk_amount hok
      rw [← ht1, ← ht2] at hu2
      revert HSX HRK hu2 hm0 hm1
      generalize rows[j].out.m = m
      generalize rows[j].height = ht
      intro hu2 HSX HRK hm0 hm1
      have HMF : Hid (Fits m) := Lib.hid (by constructor <;> omega)
      have HQF : Hid (Fits Q) := Lib.hid (by constructor <;> omega)
      have RX := Lib.hid hrx
      have HUF := Lib.hid hu2
      have HMR := Lib.hid hm2
      have HVH := Lib.hid hvh2
      have SX : Hid ((Try.prog.info? 32).map (·.size) = some x.cells.length) := Lib.hid (by rw [x.len]; exact Try.sizeRef)
      subst e1
      clear hVr hSr hcc hrx hok hgd hm2 hF2 hu2 hw2 hst2 hvh2 hmem hjr hjs ht1 ht2 hltb hsb hsr hdr HRJ
      go_upto_region 5 with (first
        | (refine wpList_load_mid rfl 32 _ rfl b1 (o1 + j * 33) rfl x.cells _ RX.out Try.underlying32 rfl SX.out ?_)
        | (refine wpList_layRef rfl _ _ rfl wr x rfl rfl rfl ?_)
        | fail)
      have h5 := layRef_heap wr x
      have hwk : Below wr.heap.size wr (layRef wr x) := ⟨rfl, rfl, rfl, by rw [layRef_size]; omega, fun k hk => layRef_old wr x hk⟩
      have hlt : wr.heap.size < (layRef wr x).heap.size := by rw [layRef_size]; omega
      revert h5 hwk hlt
      generalize layRef wr x = w5
      obtain ⟨g5, hg5⟩ : ∃ g, g = wr.heap.size := ⟨_, rfl⟩
      rw [← hg5]
      intro h5 hwk hlt
      rw [hg5] at hwk
      have hvb5 := (hwk.block _ (lt_of_block HVH.out)).trans HVH.out
      have HM5 := Lib.hid (MapRef.below HMR.out hwk)
      have CV : Hid (∀ W : World, Below w5.heap.size w5 W → W.cell? ⟨vb, 0, none⟩ = some (.map (some b))) := Lib.hid (fun W hW => cell_of_row W vb 0 _ _ _ ((hW.block _ (lt_of_block hvb5)).trans hvb5))
      have RG : Hid (∀ W : World, Below w5.heap.size w5 W → W.rangeAt g5 0 x.cells) := Lib.hid (fun W hW => range_of ((hW.block _ (lt_of_block h5)).trans h5))
      have HL : Hid (∀ W : World, Below w5.heap.size w5 W → (Instr.lookup 49 (.map (some b)) (.agg (refCells x.tx x.place).toArray) false).run Try.prog W = .ok (.agg #[.int .i64 m, .slice a2 n2 c2, .int .i64 ht]) W) := Lib.hid (fun W hW => by
        have h7 := (MapRef.below HM5.out hW).get Try.underlying49 (z := .agg #[.int .i64 0, .slice none 0 0, .int .i64 0]) (Try.zeroValue41 W) x.hs x.hp
        rw [HUF.out] at h7
        exact h7)
      have HB5 : Hid (Below w3.heap.size w3 w5) := Lib.hid (HBR.out.trans (hwk.mono HBR.out.size))
      have HWK := Lib.hid hwk
      clear h5 hwk hlt hvb5 hg5 HVH HMR HM5 HUF RX
      refine wp_region_held_drew (S := fun w' => Below w5.heap.size w5 w') (by kernel_rfl) (below_drew (Below.refl _ _)) (fun hHeld => ?_)
      refine take_at (i := 0) (v := ?_) rfl rfl (by kernel_rfl) (by kernel_rfl) (by kernel_rfl) (fun _ _ _ h => h) (Or.inl ⟨by rfl, ?_⟩) (by assumption) ?_
      rotate_left
      · intro w0 hSw; (try dsimp only at hSw); first | (go_simp; done) | (go_simp; with_reducible rfl)
      simp only [List.setIfInBounds_toArray, List.set_cons_zero, List.set_cons_succ]
      refine take_at (i := 1) (v := ?_) rfl rfl (by kernel_rfl) (by kernel_rfl) (by kernel_rfl) (fun _ _ _ h => h) (Or.inl ⟨by rfl, ?_⟩) (by assumption) ?_
      rotate_left
      · intro w0 hSw; (try dsimp only at hSw); first | (go_simp; done) | (go_simp; with_reducible rfl)
      simp only [List.setIfInBounds_toArray, List.set_cons_zero, List.set_cons_succ]
      refine take_at (i := 2) (v := ?_) rfl rfl (by kernel_rfl) (by kernel_rfl) (by kernel_rfl) (fun _ _ _ h => h) (Or.inl ⟨by rfl, ?_⟩) (by assumption) ?_
      rotate_left
      · intro w0 hSw; (try dsimp only at hSw); first | (go_simp; done) | (go_simp; with_reducible rfl)
      simp only [List.setIfInBounds_toArray, List.set_cons_zero, List.set_cons_succ]
      refine take_at (i := 3) rfl rfl (by kernel_rfl) (by kernel_rfl) (by kernel_rfl) (fun _ _ _ h => h) (yields_cell (b := vb) (o := 0) (by rfl) rfl rfl (fun w0 hSw => CV.out w0 hSw) (fun w0 => Try.isAgg49 w0)) (by assumption) ?_
      simp only [List.setIfInBounds_toArray, List.set_cons_zero, List.set_cons_succ]
      refine take_at (i := 4) rfl rfl (by kernel_rfl) (by kernel_rfl) (by kernel_rfl) (fun _ _ _ h => h) (yieldsIf_load_mid (by rfl) _ _ rfl g5 0 rfl x.cells _ (fun w0 hSw => RG.out w0 hSw) Try.underlying32 rfl SX.out) (by assumption) ?_
      simp only [List.setIfInBounds_toArray, List.set_cons_zero, List.set_cons_succ]
      refine take_at (i := 5) rfl rfl (by kernel_rfl) (by kernel_rfl) (by kernel_rfl) (fun _ _ _ h => h) (yields_lookup (by rfl) rfl rfl rfl (fun w0 hSw => HL.out w0 hSw)) (by assumption) ?_
      simp only [List.setIfInBounds_toArray, List.set_cons_zero, List.set_cons_succ]
      refine wpAnyH_ready (rs := [6]) (by kernel_rfl) (by simp) ?_
      refine AllReadyH.cons rfl (fun K hK => ?_) ?_
      · refine step_alloc9 rfl (by rfl) 41 rfl #[.int .i64 0, .slice none 0 0, .int .i64 0] Try.zeroCoin ?_
        refine hK.out _ _ (by (try dsimp only); exact hHeld.alloc hHeld.size _) (fun hHeld => ?_)
        clear hK K
        refine wpAnyH_ready (rs := [7]) (by kernel_rfl) (by simp) ?_
        refine AllReadyH.cons rfl (fun K hK => ?_) ?_
        · refine step_store_row9 (by rfl) 41 _ _ rfl w5.drew.heap.size #[.int .i64 m, .slice a2 n2 c2, .int .i64 ht] (by rfl) (by rfl) 41 #[.int .i64 0, .slice none 0 0, .int .i64 0] (heap_alloc_new _ _) (coin_size9 m ht a2 n2 c2) rfl (coin_one9 m ht a2 n2 c2) ?_
          refine hK.out _ _ (by (try dsimp only); exact layCoin_below (below_drew (Below.refl w5.heap.size w5)) (Nat.le_refl _) m a2 n2 c2 ht) (fun hHeld => ?_)
          clear hK K
          refine wpAnyH_done (by kernel_rfl) ?_ _
          rw [layCoin_is]
          have h8 := layCoin_heap w5.drew m a2 n2 c2 ht
          have b8 := layCoin_below (below_drew (Below.refl w5.heap.size w5)) (Nat.le_refl _) m a2 n2 c2 ht
          have hlt8 := lt_of_block h8
          revert h8 b8 hlt8
          generalize layCoin w5.drew m a2 n2 c2 ht = w8
          have e8 : w5.drew.heap.size = w5.heap.size := rfl
          rw [e8]
          obtain ⟨g8, hg8⟩ : ∃ g, g = w5.heap.size := ⟨_, rfl⟩
          rw [← hg8]
          intro h8 b8 hlt8
          rw [hg8] at b8
          have HB8 : Hid (Below w3.heap.size w3 w8) := Lib.hid (HB5.out.trans (b8.mono HB5.out.size))
          have HR8 : Hid (w8.rangeAt g8 0 [.int .i64 m, .slice a2 n2 c2]) := Lib.hid (fun j v hv => by
            rw [Nat.zero_add, cell_of_row w8 g8 _ _ _ _ h8]
            match j, hv with
            | 0, hv => exact hv
            | 1, hv => exact hv)
          have c80 := cell_of_row w8 g8 0 _ _ _ h8
          have HSO := Lib.hid (HSX.out w8 (HWK.out.trans (b8.mono HWK.out.size)))
          have HAD : Hid (∀ W : World, Below w8.heap.size w8 W → Calls Try.prog 26 #[.slice (some ⟨W.heap.size, 0, none⟩) 2 2] (W.alloc (.cells #[.int .i64 Q, .int .i64 m] 2)) fun e w' => e = .returned (.tuple #[.int .i64 (addFrom 0 [Q, m]).1, .int .i64 (addFrom 0 [Q, m]).2]) ∧ Below W.heap.size W w') := Lib.hid (fun W hW => by
            refine (add_any (numbers_two (heap_alloc_new W (.cells #[.int .i64 Q, .int .i64 m] 2)) HQF.out HMF.out)).mono ?_
            rintro e w' ⟨rfl, hb⟩
            exact ⟨rfl, ((Below.refl _ _).alloc (Nat.le_refl _) _).trans (hb.mono (by simp))⟩)
          clear h8 b8 hg8 HWK HSX
          try simp only [Act.put]
          cases sb with
          | false =>
            have hR9 := HRK.out.1 rfl
            have HR9 := Lib.hid hR9
            clear HRK hR9 HAD
            go_wp2_with (first
              | (refine wpList_load_mid rfl 28 _ rfl g8 0 rfl [.int .i64 m, .slice a2 n2 c2] _ HR8.out Try.underlying28 rfl (by kernel_rfl) ?_)
              | (go_at_call 11; refine HSO.out.mono ?_; rintro e x1 ⟨rfl, hb1⟩; have HB1 := Lib.hid hb1; have c81 := (hb1.cell (p := ⟨g8, 0, none⟩) hlt8).trans c80; clear hb1)
              | (go_at_call 26; refine (HAD.out _ HB1.out).mono ?_; rintro e x2 ⟨rfl, hb2⟩; have HB2 := Lib.hid hb2; clear hb2)
              | fail)
            go_roundw
            case rel => exact ⟨j + 1, Q, by omega, by go_num, rfl, q0, q1, HR9.out, HB8.out.trans (HB1.out.mono HB8.out.size)⟩
            case measure => simp [intOf]; omega
          | true =>
            by_cases hov : 1125899906842624 < Q + m
            · have hR9 := HRK.out.2.1 rfl hov
              have HR9 := Lib.hid hR9
              rw [addFrom_more q0 q1 (by omega), addFrom_over hm0 hm1 (by omega)] at HAD
              clear HRK hR9 hov
              go_wp2_with (first
                | (refine wpList_load_mid rfl 28 _ rfl g8 0 rfl [.int .i64 m, .slice a2 n2 c2] _ HR8.out Try.underlying28 rfl (by kernel_rfl) ?_)
                | (go_at_call 11; refine HSO.out.mono ?_; rintro e x1 ⟨rfl, hb1⟩; have HB1 := Lib.hid hb1; have c81 := (hb1.cell (p := ⟨g8, 0, none⟩) hlt8).trans c80; clear hb1)
                | (go_at_call 26; refine (HAD.out _ HB1.out).mono ?_; rintro e x2 ⟨rfl, hb2⟩; have HB2 := Lib.hid hb2; clear hb2)
                | fail)
              go_roundw
              case rel => exact ⟨j + 1, Q, by omega, by go_num, rfl, q0, q1, HR9.out, HB8.out.trans ((HB1.out.trans (HB2.out.mono HB1.out.size)).mono HB8.out.size)⟩
              case measure => simp [intOf]; omega
            · have hR9 := HRK.out.2.2 rfl hov
              have HR9 := Lib.hid hR9
              have hqm : 0 + Q + m = Q + m := by omega
              rw [addFrom_more q0 q1 (by omega), addFrom_more hm0 hm1 (by omega), hqm] at HAD
              have hnil : addFrom (Q + m) [] = (Q + m, 0) := rfl
              rw [hnil] at HAD
              have q2 : 0 ≤ Q + m := by omega
              have q3 : Q + m ≤ 1125899906842624 := by omega
              clear HRK hR9 hov hqm hnil
              go_wp2_with (first
                | (refine wpList_load_mid rfl 28 _ rfl g8 0 rfl [.int .i64 m, .slice a2 n2 c2] _ HR8.out Try.underlying28 rfl (by kernel_rfl) ?_)
                | (go_at_call 11; refine HSO.out.mono ?_; rintro e x1 ⟨rfl, hb1⟩; have HB1 := Lib.hid hb1; have c81 := (hb1.cell (p := ⟨g8, 0, none⟩) hlt8).trans c80; clear hb1)
                | (go_at_call 26; refine (HAD.out _ HB1.out).mono ?_; rintro e x2 ⟨rfl, hb2⟩; have HB2 := Lib.hid hb2; clear hb2)
                | fail)
              go_roundw
              case rel => exact ⟨j + 1, Q + m, by omega, by go_num, rfl, q2, q3, HR9.out, HB8.out.trans ((HB1.out.trans (HB2.out.mono HB1.out.size)).mono HB8.out.size)⟩
              case measure => simp [intOf]; omega
        exact AllReadyH.nil
      exact AllReadyH.nil
    · obtain rfl : j = len := by omega
      have f1 : ¬ ((j : Int) < (j : Int)) := by omega
      have hR9 : R = Q := by rw [HRJ.out, HLEN.out, List.drop_length]; rfl
      subst hR9
      clear hjn hj hlc HRJ HR
      go_wp2_with fail
      go_ret
      exact ⟨rfl, HB3.out.trans (HBR.out.mono HB3.out.size)⟩
end Go.Proofs.Ytdeilkpcmgcbaaa
