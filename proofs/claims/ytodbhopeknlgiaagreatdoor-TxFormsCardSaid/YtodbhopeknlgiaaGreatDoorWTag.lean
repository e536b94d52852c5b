/- What Raw and Text tell lies in a new block of bytes; and a text as a plain function of what is left and the error. -/
import Derived.Test.YtodbhopeknlgiaaGreatDoorRows
import Derived.Test.YtodbhopeknlgiaaGreatDoorMemory
import Derived.Test.YtodbhopeknlgiaaGreatDoorWire
import Derived.WalkKit
import Derived.WalkSpells
import Derived.WalkLawsBesides
import Derived.BigQuiet
import Derived.Deep.QuietTactic
import Derived.Laws.CopyOwn
import Derived.Test.YtodbhopeknlgiaaGreatDoorLock
namespace Go.Proofs.YtodbhopeknlgiaaGreatDoor
open Go.RowKit

/-- A slice of the call's own is told, with l1, in a block of bytes; the eye has l2 left. -/
def TellsT (yb : Nat) (l1 l2 : List UInt8) (e : Int) (w : World) (r : Ending) (w' : World) : Prop :=
  ∃ a n c, r = .returned (.slice a n c) ∧ Row w' a n c l1 ∧ (∀ x, a = some x → w.heap.size ≤ x.block) ∧ EyeAt w' yb l2 e ∧ But w.heap.size yb w w' ∧ Tag w' a n
set_option maxHeartbeats 400000 in
theorem raw_good_t {yb n : Nat} {l : List UInt8} {w : World} (h : EyeAt w yb l 0) (hn : n ≤ l.length) (hm : l.length ≤ 140737488355328) : Calls Tryz.prog 90 #[.pointer (some ⟨yb, 0, none⟩), .int .i64 n] w fun r w' =>
    r = .returned (.slice (some ⟨w.heap.size, 0, none⟩) n n) ∧ Row w' (some ⟨w.heap.size, 0, none⟩) n n (l.take n) ∧ EyeAt w' yb (l.drop n) 0 ∧ But w.heap.size yb w w' ∧ Tag w' (some ⟨w.heap.size, 0, none⟩) n := by
  have H := Lib.hid h
  have hlt := h.lt
  obtain ⟨a, N, c, hh, hrow, htag⟩ := h
  have hln : l.length = N := hrow.1
  have hnc : N ≤ c := hrow.2.1
  have hcm : c ≤ 9223372036854775807 := by have := hrow.2.2.1; unfold maxLen at this; omega
  have HROW := Lib.hid hrow
  have HTAG := Lib.hid htag
  clear htag
  have HH := Lib.hid hh
  have c0 := two_cell0 hh
  have f0 := two_free0 hh
  have hnN : n ≤ N := by omega
  have hn63 : n ≤ 140737488355328 := by omega
  have HL := Lib.hid hln
  clear hh hrow hln hn hm
  obtain ⟨i0, hi, hz0, hz1, hz2⟩ := info_parts Tryz.info5
  go_enter Tryz.func90, Tryz.ntmps90
  have hneg : decide ((n : Int) < 0) = false := by simp
  have hle : decide (N < n) = false := by simp; omega
  obtain ⟨cs, hcs⟩ : ∃ cs, cs = cellsOf (l.take n) := ⟨_, rfl⟩
  have hcl : cs.length = n := by rw [hcs, cellsOf, List.length_map, List.length_take]; have := HL.out; omega
  have h1c : ∀ v ∈ cs, v.oneCell' = true := by rw [hcs]; exact cellsOf_one _
  have HCL := Lib.hid hcl
  have HCS := Lib.hid hcs
  have H1C := Lib.hid h1c
  clear hcl hcs h1c
  go_wp2_with (first
    | (go_at_call 66; refine (err_at H.out).mono ?_; rintro r w' ⟨rfl, rfl⟩)
    | (at_make; refine wpList_make_full _ rfl (.tmp 22) (.tmp 22) 26 rfl w.heap.size 5 i0 (.int .u8 0) 1 Tryz.underlying26 hi hz0 hz1 .i64 .i64 _ _ n rfl rfl rfl rfl ?_ ?_ ?_ ?_))
  · rw [hz2]; omega
  · unfold maxLen; omega
  · exact Nat.le_refl _
  · intro w1 hown hgrow
    obtain ⟨cur, hcur, hcurl, _⟩ := own_full hown
    have hb1 : Below w.heap.size w w1 := (Below.refl _ _).grown hgrow (Nat.le_refl _) (fun k h => by cases h)
    have c1 : w1.cell? ⟨yb, 0, none⟩ = some (.slice a N c) := (hb1.cell (p := ⟨yb, 0, none⟩) hlt).trans c0
    have HCUR := Lib.hid hcur
    have HCURL := Lib.hid hcurl
    clear hown hgrow hcur hcurl
    go_wp2_with (with_reducible refine wpList_copy_splice rfl (.tmp 24) (.tmp 28) 26 26 rfl 5 Tryz.underlying26 Tryz.size5 _ _ n n N c rfl rfl w.heap.size 0 cur 5 HCUR.out cs ?_ ?_ ?_ ?_ w.heap.size w hb1 (Nat.le_refl _) ?_)
    · rw [HCL.out]; show n = min N n; omega
    · intro h0
      rw [HCL.out] at h0
      obtain ⟨b, off, rfl, hlt', hcell⟩ := HROW.out.2.2.2.2 (by omega)
      refine ⟨_, rfl, fun j v hj => ?_⟩
      have hjn : j < n := by
        have := (List.getElem?_eq_some_iff.1 hj).1
        rw [HCL.out] at this
        exact this
      rw [HCS.out, cellsOf_get (by rw [List.length_take, HL.out]; omega)] at hj
      have e1 : (⟨b, off, none⟩ : Addr).add j = ⟨b, off + j, none⟩ := by simp [Addr.add]
      rw [e1, hb1.cell (p := ⟨b, off + j, none⟩) hlt', hcell j (by omega), ← hj]
      simp [List.getD, hjn]
    · rw [HCL.out, HCURL.out]; omega
    · exact H1C.out
    · intro w2 hh2 hb2
      have c2 : w2.cell? ⟨yb, 0, none⟩ = some (.slice a N c) := (hb2.cell (p := ⟨yb, 0, none⟩) hlt).trans c0
      have f2 : w2.frozen? ⟨yb, 0, none⟩ = false := (hb2.frozen (p := ⟨yb, 0, none⟩) hlt).trans f0
      have HY : Hid (w2.heap[yb]? = some (.cells #[.slice a N c, .int .i64 0] 117 (0, 0))) := (hb2.block _ hlt).trans HH.out
      have HR2 : Hid (Row w2 a N c l) := HROW.out.below hb2
      have HT2 : Hid (Tag w2 a N) := HTAG.out.below hb2
      have HRES : Hid (Row w2 (some ⟨w.heap.size, 0, none⟩) n n (l.take n)) := by
        refine row_new (by rw [List.length_take, HL.out]; omega) (Nat.le_refl _) (by unfold maxLen; omega) _ 5 hh2.out (fun j hj => ?_)
        have hs : splice cur 0 cs = cs := by
          have e1 := HCL.out
          have e2 := HCURL.out
          simp [splice]; omega
        rw [hs, HCS.out]
        exact cellsOf_get (by rw [List.length_take, HL.out]; omega)
      have hz2' : w.heap.size ≤ w2.heap.size := hb2.size
      have HTG : Hid (∀ v : Value, Tag (w2.setCell ⟨yb, 0, none⟩ v) (some ⟨w.heap.size, 0, none⟩) n) := Lib.hid (fun v _ => ⟨w.heap.size, 0, _, _, rfl, ((But.refl w2.heap.size yb w2).setCell ⟨yb, 0, none⟩ (.inl rfl) v).heap hh2.out (lt_of_block hh2.out) (by omega)⟩)
      clear c1 c0 f0
      have HB2 := Lib.hid hb2
      have HB1 := Lib.hid hb1
      clear hb1 hb2
      have hyn : NoBytes w2 yb := noBytes_two HY.out (fun _ h => by cases h) (fun _ h => by cases h)
      have HN := Lib.hid hyn
      clear hyn
      by_cases hcn : c = n
      · subst hcn
        obtain rfl : N = c := by omega
        go_wp2
        go_ret
        exact ⟨rfl, HRES.out.butN ((But.refl _ yb _).setCell _ (.inl rfl) _) HN.out, EyeAt.setLeft HY.out (by simpa using HR2.out.drop (k := N) (a' := a) (Nat.le_refl _) (fun _ => rfl) (fun h => by omega)) (Tag.zero _ _), (But.of HB2.out).setCell ⟨yb, 0, none⟩ (.inl rfl) _, HTG.out _⟩
      · by_cases hN0 : N = 0
        · subst hN0
          obtain rfl : n = 0 := by omega
          go_wp2
          go_ret
          refine ⟨rfl, HRES.out.butN ((But.refl _ yb _).setCell _ (.inl rfl) _) HN.out, ?_, (But.of HB2.out).setCell ⟨yb, 0, none⟩ (.inl rfl) _, HTG.out _⟩
          have e0 : List.drop 0 l = l := rfl
          rw [e0]
          exact EyeAt.setLeft HY.out (by simpa using HR2.out) (Tag.zero _ _)
        · obtain ⟨b, off, rfl, _, _⟩ := HROW.out.2.2.2.2 (by omega)
          go_wp2
          go_ret
          exact ⟨rfl, HRES.out.butN ((But.refl _ yb _).setCell _ (.inl rfl) _) HN.out, EyeAt.setLeft HY.out (HR2.out.drop (k := n) hnN (fun e => by cases e) (fun _ b' off' e => by cases e; rfl)) (HT2.out.drop (k := n) (fun _ b' off' e => by cases e; rfl)), (But.of HB2.out).setCell ⟨yb, 0, none⟩ (.inl rfl) _, HTG.out _⟩
theorem raw_first_t {yb : Nat} {l : List UInt8} {w : World} (n : Int) (h : EyeAt w yb l 0) (hm : l.length ≤ 140737488355328) :
    Calls Tryz.prog 90 #[.pointer (some ⟨yb, 0, none⟩), .int .i64 n] w (TellsT yb (rawOf l n).1 (rawOf l n).2.1 (rawOf l n).2.2 w) := by
  by_cases hb : n < 0 ∨ (l.length : Int) < n
  · have hr : rawOf l n = ([], l, 2) := by unfold rawOf; rw [if_pos hb]
    rw [hr]
    exact (raw_bad n hb h).mono fun r w' ⟨h1, h2, h3⟩ => ⟨none, 0, 0, h1, Row.nil w', fun x e => (by cases e), h2, h3, Tag.zero _ _⟩
  · have hr : rawOf l n = (l.take n.toNat, l.drop n.toNat, 0) := by unfold rawOf; rw [if_neg hb]
    rw [hr]
    obtain ⟨m, rfl⟩ := Int.eq_ofNat_of_zero_le (show 0 ≤ n by omega)
    rw [Int.toNat_natCast]
    exact (raw_good_t h (by omega) hm).mono fun r w' ⟨h1, h2, h3, h4, h5⟩ => ⟨_, _, _, h1, h2, fun x e => (by cases e; exact Nat.le_refl _), h3, h4, h5⟩

theorem text_first_t {yb : Nat} {l : List UInt8} {w : World} (m : Int) (h : EyeAt w yb l 0) (hm : l.length ≤ 140737488355328) :
    Calls Tryz.prog 68 #[.pointer (some ⟨yb, 0, none⟩), .int .i64 m] w (TellsT yb (textOf l m).1 (textOf l m).2.1 (textOf l m).2.2 w) := by
  have H := Lib.hid h
  clear h
  by_cases he : (uptoOf l m).2.2 = 0
  · have ht : textOf l m = rawOf (l.drop (uptoOf l m).2.1) (uptoOf l m).1 := by unfold textOf; rw [if_pos he]
    rw [ht]
    have HE := Lib.hid he
    clear he ht
    go_enter Tryz.func68, Tryz.ntmps68
    have HM : Hid ((l.drop (uptoOf l m).2.1).length ≤ 140737488355328) := by show _ ≤ _; rw [List.length_drop]; omega
    go_wp2_with (first | (go_at_call 38; refine (upto_first m H.out).mono ?_; rintro r w1 ⟨rfl, he1, hb1⟩; rw [HE.out] at he1; have HE1 := Lib.hid he1; clear he1; have HB1 := Lib.hid hb1; clear hb1; clear hm) | (go_at_call 90; refine (raw_first_t _ HE1.out HM.out).mono ?_; rintro r w2 ⟨a, n, c, rfl, hrow, hfr, heye, hbut, htag⟩; have HT : Hid (TellsT yb (rawOf (l.drop (uptoOf l m).2.1) (uptoOf l m).1).1 (rawOf (l.drop (uptoOf l m).2.1) (uptoOf l m).1).2.1 (rawOf (l.drop (uptoOf l m).2.1) (uptoOf l m).1).2.2 w1 (.returned (.slice a n c)) w2) := ⟨a, n, c, rfl, hrow, hfr, heye, hbut, htag⟩; clear hrow hfr heye hbut htag))
    go_ret
    obtain ⟨a', n', c', he', hrow, hfr, heye, hbut, htag⟩ := HT.out
    cases he'
    exact ⟨_, _, _, rfl, hrow, fun x hx => Nat.le_trans HB1.out.size (hfr x hx), heye, HB1.out.trans (hbut.mono HB1.out.size), htag⟩
  · have ht : textOf l m = ([], l.drop (uptoOf l m).2.1, (uptoOf l m).2.2) := by unfold textOf; rw [if_neg he]
    rw [ht]
    have HE := Lib.hid he
    clear he ht
    go_enter Tryz.func68, Tryz.ntmps68
    go_wp2_with (first | (go_at_call 38; refine (upto_first m H.out).mono ?_; rintro r w1 ⟨rfl, he1, hb1⟩; have HE1 := Lib.hid he1; clear he1; have HB1 := Lib.hid hb1; clear hb1; clear hm) | (go_at_call 90; refine (raw_later _ _ HE.out HE1.out).mono ?_; rintro r w2 ⟨rfl, rfl⟩))
    go_ret
    exact ⟨_, _, _, rfl, Row.nil _, (fun x hx => by cases hx), HE1.out, HB1.out, Tag.zero _ _⟩

/-- A text of at most m bytes is read; s: what is left, and the error. -/
def textR (s : List UInt8 × Int) (m : Int) : List UInt8 × (List UInt8 × Int) := if s.2 = 0 then ((textOf s.1 m).1, ((textOf s.1 m).2.1, (textOf s.1 m).2.2)) else ([], s)
theorem textR_bad {s : List UInt8 × Int} (m : Int) (h : s.2 ≠ 0) : textR s m = ([], s) := by unfold textR; rw [if_neg h]
/-- It is a number, and so many bytes. -/
theorem textR_is (s : List UInt8 × Int) (m : Int) : (upR s m).2.2 = 0 ∧ textR s m = rawOf (upR s m).2.1 (upR s m).1 ∨ (upR s m).2.2 ≠ 0 ∧ textR s m = ([], (upR s m).2) := by
  by_cases h0 : s.2 = 0
  · unfold textR upR
    rw [if_pos h0, if_pos h0]
    dsimp only
    by_cases h1 : (uptoOf s.1 m).2.2 = 0
    · exact .inl ⟨h1, by unfold textOf; rw [if_pos h1]⟩
    · exact .inr ⟨h1, by unfold textOf; rw [if_neg h1]⟩
  · rw [textR_bad m h0, upR_bad m h0]
    exact .inr ⟨h0, rfl⟩
theorem textR_ok {s : List UInt8 × Int} {m : Int} (hm : 0 ≤ m) (h : (textR s m).2.2 = 0) : s.2 = 0 ∧ s.1 = numB ((textR s m).1.length : Nat) ++ ((textR s m).1 ++ (textR s m).2.1) := by
  rcases textR_is s m with ⟨h1, h2⟩ | ⟨h1, h2⟩
  · obtain ⟨h3, h4⟩ := upR_ok h1
    have hr := upR_range s hm
    rw [h2] at h ⊢
    refine ⟨h3, ?_⟩
    unfold rawOf at h ⊢
    by_cases hb : (upR s m).1 < 0 ∨ ((upR s m).2.1.length : Int) < (upR s m).1
    · rw [if_pos hb] at h
      exact absurd h (show ¬ (2 : Int) = 0 by decide)
    · rw [if_neg hb]
      dsimp only
      have hl : (((upR s m).2.1.take (upR s m).1.toNat).length : Int) = (upR s m).1 := by rw [List.length_take]; omega
      rw [hl, List.take_append_drop]
      exact h4
  · rw [h2] at h
    exact absurd h h1
theorem textR_len {s : List UInt8 × Int} {m : Int} (hm : 0 ≤ m) : ((textR s m).1.length : Int) ≤ m := by
  rcases textR_is s m with ⟨_, h2⟩ | ⟨_, h2⟩
  · have hr := upR_range s hm
    rw [h2]
    unfold rawOf
    split
    · exact hm
    · show (((upR s m).2.1.take (upR s m).1.toNat).length : Int) ≤ m
      rw [List.length_take]
      omega
  · rw [h2]
    exact hm
theorem textR_put {q : List UInt8} {m : Int} (t : List UInt8) (h1 : (q.length : Int) ≤ m) (h2 : (q.length : Int) ≤ 9223372036854775807) : textR (numB (q.length : Nat) ++ (q ++ t), 0) m = (q, (t, 0)) := by
  have hu := upR_put (z := (q.length : Nat)) (m := m) (q ++ t) (by omega) h1 h2
  rcases textR_is (numB (q.length : Nat) ++ (q ++ t), 0) m with ⟨_, h4⟩ | ⟨h3, h4⟩
  · rw [h4, hu]
    unfold rawOf
    rw [if_neg (by simp only [List.length_append]; omega)]
    simp
  · rw [hu] at h3
    exact absurd rfl h3
theorem textR_le {s : List UInt8 × Int} {m : Int} : (textR s m).2.1.length ≤ s.1.length := by
  rcases textR_is s m with ⟨_, h2⟩ | ⟨_, h2⟩
  · have h3 := upR_le s m
    rw [h2]
    unfold rawOf
    split
    · exact h3
    · show ((upR s m).2.1.drop _).length ≤ _
      rw [List.length_drop]
      omega
  · rw [h2]
    exact upR_le s m
theorem text_st {yb : Nat} {s : List UInt8 × Int} (w : World) (m : Int) (h : EyeAt w yb s.1 s.2) (hm : s.1.length ≤ 140737488355328) :
    Calls Tryz.prog 68 #[.pointer (some ⟨yb, 0, none⟩), .int .i64 m] w (TellsT yb (textR s m).1 (textR s m).2.1 (textR s m).2.2 w) := by
  by_cases h0 : s.2 = 0
  · unfold textR
    rw [if_pos h0]
    rw [h0] at h
    exact text_first_t m h hm
  · rw [textR_bad m h0]
    exact (text_later s.2 m h0 h).mono fun _ _ ⟨e1, e2⟩ => ⟨none, 0, 0, e1, Row.nil _, (fun x e => by cases e), by rw [← e2]; exact h, by rw [← e2]; exact But.refl _ _ _, Tag.zero _ _⟩
end Go.Proofs.YtodbhopeknlgiaaGreatDoor
