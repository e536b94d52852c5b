/- Law 9: ViewPlays. -/
import Derived.Test.YtdeilkpcmgcbaaaStep9
import Derived.Test.YtdeilkpcmgcbaaaAwake9
import Derived.Test.YtdeilkpcmgcbaaaViewClone
import Derived.Test.YtdeilkpcmgcbaaaAlike9
namespace Go.Proofs.Ytdeilkpcmgcbaaa
open Go.RowKit Go.Maps

/-- The other view, if there is one, and the rows that it had. -/
def OtherAt (w0 w : World) (b : Nat) (ov wv : Value) : Prop := ov = .pointer none ∨ ∃ (g b2 N2 : Nat) (rs2 : List PRow), ov = .pointer (some ⟨g, 0, none⟩) ∧ ViewAt w ov b2 N2 rs2 ∧ ListAt w0 w wv rs2 ∧ b2 ≠ b
theorem OtherAt.but {w0 w w' : World} {b : Nat} {ov wv : Value} (h : OtherAt w0 w b ov wv) (hb : But w.heap.size b w w') (hm : ∃ es cl, w.heap[b]? = some (.map es cl)) (h0 : Below w0.heap.size w0 w') : OtherAt w0 w' b ov wv := by
  rcases h with h | ⟨g, b2, N2, rs2, h1, h2, h3, h4⟩
  · exact .inl h
  · obtain ⟨es, cl, hmap⟩ := hm
    exact .inr ⟨g, b2, N2, rs2, h1, h2.but hb (noWays_map hmap) (fun cs fr e => by rw [hmap] at e; cases e) h4, h3.but hb (fun cs fr e => by rw [hmap] at e; cases e) h0, h4⟩
/-- A call of a script, where it lies. -/
theorem call_ways {w : World} {b o : Nat} {x : PCall} (ht : x.row.tx.length = 32) (h : w.rangeAt b o x.cells) : w.cell? ⟨b, o + 35, none⟩ = some (.slice x.row.out.a x.row.out.n x.row.out.c) := by
  have h1 := row_out ht (call_row h)
  have h2 := h1 1 (.slice x.row.out.a x.row.out.n x.row.out.c) rfl
  have e : o + 1 + 33 + 1 = o + 35 := by omega
  rw [e] at h2
  exact h2
set_option linter.unusedSimpArgs false in
set_option maxRecDepth 100000 in
set_option maxHeartbeats 25600000 in
theorem plays9_walk {w0 : World} {a : Option Addr} {n c : Nat} {os : List PCall} {at9 : Int} (h : SliceOf callK w0 a n c os) :
    Calls Try.prog 3 #[.slice a n c, .int .i64 at9] w0 fun e w' => e = .returned (.bool true) ∧ Below w0.heap.size w0 w' := by
  have hn63 := h.len63
  have hnc : (n : Int) ≤ (c : Int) := by have h2 := h.2.1; omega
  have hc63 : (c : Int) ≤ 9223372036854775807 := by have h2 := h.2.2.1; unfold maxLen at h2; omega
  have HNEW := Lib.hid (new_any w0)
  have HS := Lib.hid h
  clear h
  go_enter Try.func3, Try.ntmps3
  go_wp2_with (first
    | (go_at_call 6; refine HNEW.out.mono ?_; rintro e w1 ⟨vb, rfl, hv1, _, hb1⟩; have HV1 := Lib.hid hv1; have HB1 := Lib.hid hb1; clear hv1 hb1 HNEW)
    | fail)
  obtain ⟨b, hb⟩ : ∃ b, b = w0.heap.size := ⟨_, rfl⟩
  have HB := Lib.hid hb
  have hL1 : LSt w0 w1 (.pointer (some ⟨vb, 0, none⟩)) b 0 (.slice none 0 0) [] := ⟨by rw [hb]; exact HV1.out, ListAt.nil _ _, HB1.out, by omega⟩
  have HL1 := Lib.hid hL1
  clear hb hL1 HV1 HB1
  go_loopw [6, 7, 8, 9] (fun lv ov wv i wr => ∃ (j N : Nat) (rs : List PRow), j ≤ n ∧ j ≤ 40 ∧ i = .int .i64 j ∧ LSt w0 wr (.pointer (some ⟨vb, 0, none⟩)) b N lv rs ∧ N ≤ j ∧ OtherAt w0 wr b ov wv) (fun _ _ _ i _ => n - (intOf i).toNat)
  case atStart => exact ⟨0, 0, [], Nat.zero_le _, by omega, rfl, HL1.out, by omega, .inl rfl⟩
  case round =>
    obtain ⟨j, N, rs, hj, hj40, rfl, hL, hNj, hOt⟩ := hrel
    have HL := Lib.hid hL
    have HOt := Lib.hid hOt
    have HMP := Lib.hid hL.view.isMap
    clear hL hOt
    by_cases hjn : j < n ∧ j < 40
    · have f1 : (j : Int) < (n : Int) := by omega
      have f4 : (j : Int) < 40 := by omega
      have f0 : (0 : Int) ≤ (j : Int) := by omega
      have ft : ((j : Int)).toNat = j := by omega
      have hN1 : N + 1 ≤ 100 := by omega
      obtain ⟨b2, o2, e2, hlt2, hc2⟩ := HS.out.2.2.2.2.2 (by omega)
      have rx : w0.rangeAt b2 (o2 + j * 37) (os.getD j noCall).cells := hc2 j hjn.1
      have ix : CallIn w0 (os.getD j noCall) := HS.out.get hjn.1
      revert rx ix
      generalize os.getD j noCall = o
      intro rx ix
      subst e2
      have RX : Hid (∀ W : World, Below w0.heap.size w0 W → W.rangeAt b2 (o2 + j * 37) o.cells) := Lib.hid (fun W hW => rangeAt_below rx hlt2 hW)
      have cw : wr.cell? ⟨b2, o2 + j * 37 + 35, none⟩ = some (.slice o.row.out.a o.row.out.n o.row.out.c) := call_ways ix.row.tx (RX.out wr HL.out.below)
      have hsz63 : (o.row.out.n : Int) ≤ 9223372036854775807 := by have h2 := ix.row.out.ws.2.1; have h3 := ix.row.out.ws.2.2.1; unfold maxLen at h3; omega
      have SX := Lib.hid (call_size ix.row.tx)
      have HIX := Lib.hid ix
      clear rx ix hc2 hlt2
      by_cases hbig : (o.row.out.n : Int) > 20
      · go_wp2_with fail
        go_roundw
        case rel => exact ⟨j + 1, N, rs, by omega, by omega, by go_num, HL.out, by omega, HOt.out⟩
        case measure => simp [intOf]; omega
      · have HBW : Hid (wr.heap.size ≠ b) := Lib.hid (by
          obtain ⟨es, cl, hm⟩ := HMP.out
          have h9 := lt_of_block hm
          omega)
        by_cases hat : (j : Int) = at9
        · subst hat
          go_wp2_with (first
            | (go_at_call 7; refine (viewClone_any HL.out.view).mono ?_; rintro e wc ⟨g2, rfl, hv2, hb2⟩; have HLc := Lib.hid (HL.out.after hb2); have HOc : Hid (OtherAt w0 wc b (.pointer (some ⟨g2, 0, none⟩)) u6) := Lib.hid (.inr ⟨g2, wr.heap.size, N, rs, rfl, hv2, HLc.out.list, HBW.out⟩); clear hv2 hb2)
            | (refine wpList_load_mid rfl 34 _ rfl b2 (o2 + j * 37) rfl o.cells _ (RX.out wc HLc.out.below) Try.underlying34 rfl SX.out ?_)
            | (go_at_call 8; refine (step_law HLc.out hN1 HIX.out).mono ?_; rintro e ws ⟨a5, c5, rs5, N5, rfl, hL5, hN5, hb5⟩; have HL5 := Lib.hid hL5; have HO5 := Lib.hid (HOc.out.but hb5 HLc.out.view.isMap hL5.below); clear hL5 hb5)
            | (go_at_call 9; refine (alike_law HL5.out.view HL5.out.list).mono ?_; rintro e w6 ⟨rfl, hb6⟩; have HL6 := Lib.hid (HL5.out.after hb6); have HO6 := Lib.hid (HO5.out.but (But.of hb6) HL5.out.view.isMap HL6.out.below); clear hb6)
            | fail)
          go_roundw
          case rel => exact ⟨j + 1, N5, rs5, by omega, by omega, by go_num, HL6.out, by omega, HO6.out⟩
          case measure => simp [intOf]; omega
        · have fa : ¬ ((j : Int) = at9) := hat
          go_wp2_with (first
            | (refine wpList_load_mid rfl 34 _ rfl b2 (o2 + j * 37) rfl o.cells _ (RX.out wr HL.out.below) Try.underlying34 rfl SX.out ?_)
            | (go_at_call 8; refine (step_law HL.out hN1 HIX.out).mono ?_; rintro e ws ⟨a5, c5, rs5, N5, rfl, hL5, hN5, hb5⟩; have HL5 := Lib.hid hL5; have HO5 := Lib.hid (HOt.out.but hb5 HL.out.view.isMap hL5.below); clear hL5 hb5)
            | (go_at_call 9; refine (alike_law HL5.out.view HL5.out.list).mono ?_; rintro e w6 ⟨rfl, hb6⟩; have HL6 := Lib.hid (HL5.out.after hb6); have HO6 := Lib.hid (HO5.out.but (But.of hb6) HL5.out.view.isMap HL6.out.below); clear hb6)
            | fail)
          go_roundw
          case rel => exact ⟨j + 1, N5, rs5, by omega, by omega, by go_num, HL6.out, by omega, HO6.out⟩
          case measure => simp [intOf]; omega
    · by_cases hj1 : j < n
      · have f1 : (j : Int) < (n : Int) := by omega
        have f4 : ¬ ((j : Int) < 40) := by omega
        clear hjn hj1 hj hj40
        · skip
          rcases HOt.out with rfl | ⟨g3, b3, N3, rs3, rfl, hv3, hl3, _⟩
          · go_wp2_with (first
              | (go_at_call 10; refine (awake9_any wr).mono ?_; rintro e w8 ⟨rfl, hb8⟩; have HB8 := Lib.hid hb8; clear hb8)
              | fail)
            go_ret
            exact ⟨rfl, HL.out.below.trans (HB8.out.mono HL.out.below.size)⟩
          · have HA := Lib.hid (alike_law hv3 hl3)
            clear hv3 hl3
            go_wp2_with (first
              | (go_at_call 9; refine HA.out.mono ?_; rintro e w7 ⟨rfl, hb7⟩; have HB7 := Lib.hid (HL.out.below.trans (hb7.mono HL.out.below.size)); clear hb7)
              | (go_at_call 10; refine (awake9_any w7).mono ?_; rintro e w8 ⟨rfl, hb8⟩; have HB8 := Lib.hid hb8; clear hb8)
              | fail)
            go_ret
            exact ⟨rfl, HB7.out.trans (HB8.out.mono HB7.out.size)⟩
      · have f1 : ¬ ((j : Int) < (n : Int)) := by omega
        clear hjn hj1 hj hj40
        · skip
          rcases HOt.out with rfl | ⟨g3, b3, N3, rs3, rfl, hv3, hl3, _⟩
          · go_wp2_with (first
              | (go_at_call 10; refine (awake9_any wr).mono ?_; rintro e w8 ⟨rfl, hb8⟩; have HB8 := Lib.hid hb8; clear hb8)
              | fail)
            go_ret
            exact ⟨rfl, HL.out.below.trans (HB8.out.mono HL.out.below.size)⟩
          · have HA := Lib.hid (alike_law hv3 hl3)
            clear hv3 hl3
            go_wp2_with (first
              | (go_at_call 9; refine HA.out.mono ?_; rintro e w7 ⟨rfl, hb7⟩; have HB7 := Lib.hid (HL.out.below.trans (hb7.mono HL.out.below.size)); clear hb7)
              | (go_at_call 10; refine (awake9_any w7).mono ?_; rintro e w8 ⟨rfl, hb8⟩; have HB8 := Lib.hid hb8; clear hb8)
              | fail)
            go_ret
            exact ⟨rfl, HB7.out.trans (HB8.out.mono HB7.out.size)⟩
end Go.Proofs.Ytdeilkpcmgcbaaa
