/- What the functions of the eye come to, one contract each (the program's functions 13 to 23, 26). -/
import Derived.Test.YtdcieknblahoeaaRows
import Derived.Test.YtdcieknblahoeaaHeap
import Derived.WalkKit
import Derived.WalkSpells
import Derived.WalkLawsBesides
import Derived.BigQuiet
import Derived.Deep.QuietTactic
import Derived.Laws.CopyOwn
namespace Go.Proofs.Ytdcieknblahoeaa
open Go.RowKit

theorem ret_three {a b c a' b' c' : Int} (h1 : a = a') (h2 : b = b') (h3 : c = c') : Ending.returned (.tuple #[.int .i64 a, .int .i64 b, .int .i64 c]) = .returned (.tuple #[.int .i64 a', .int .i64 b', .int .i64 c']) := by rw [h1, h2, h3]

set_option maxRecDepth 100000 in
set_option maxHeartbeats 400000 in
theorem number_some (b off n c : Nat) (l : List UInt8) (w : World) (hl : l.length = n) (hn : 0 < n) (hc : n ≤ 9223372036854775807)
    (hcell : ∀ j, j < n → w.cell? ⟨b, off + j, none⟩ = some (.int .u8 (((l.getD j 0).toNat : Nat) : Int))) :
    Calls Try.prog 26 #[.slice (some ⟨b, off, none⟩) n c] w fun e w' => e = .returned (.tuple #[.int .i64 (numOf l).1, .int .i64 (numOf l).2.1, .int .i64 (numOf l).2.2]) ∧ w = w' := by
  go_enter Try.func26, Try.ntmps26
  go_wp2
  go_loop [2, 6] (fun s i => ∃ k : Nat, k ≤ 9 ∧ k ≤ n ∧ (∀ j, j < k → 128 ≤ (l.getD j 0).toNat) ∧ i = .int .i64 k ∧ s = .int .i64 (val l k)) (fun _ i => 9 - (intOf i).toNat)
  case atStart => exact ⟨0, by omega, by omega, fun j h => by omega, rfl, rfl⟩
  case round =>
    obtain ⟨k, hk9, hkn, hall, rfl, rfl⟩ := hrel
    have hcell1 : k < n → w.cell? ⟨b, off + k, none⟩ = some (.int .u8 (((l.getD k 0).toNat : Nat) : Int)) := fun h => hcell k h
    have HALL := Lib.hid hall
    have HCELL := Lib.hid hcell
    have HL := Lib.hid hl
    clear hall hcell hl
    by_cases h1 : k < 9
    · by_cases h2 : k < n
      · have hcc := hcell1 h2
        clear hcell1
        obtain ⟨c0, hc0⟩ : ∃ c0 : Nat, c0 = (l.getD k 0).toNat := ⟨_, rfl⟩
        have hlt : c0 < 256 := by rw [hc0]; exact UInt8.toNat_lt _
        rw [← hc0] at hcc
        have HC0 := Lib.hid hc0
        clear hc0
        have hbool : ((k : Int) == (n : Int)) = false := by simp; omega
        go_wp2
        · go_round
          case rel =>
            have h128 : 128 ≤ c0 := by have : (128 : Int) ≤ (c0 : Int) := by assumption
                                       omega
            refine ⟨k + 1, by omega, by omega, fun j hj => ?_, by go_num, by rw [val_wrap l k c0 h1 HC0.out]⟩
            by_cases e : j = k
            · subst e; rw [← HC0.out]; exact h128
            · exact HALL.out j (by omega)
          case measure => simp [intOf]; omega
        · go_ret3
          have hr := num_form l k (by rw [HL.out]; exact h2) h1 HALL.out (by rw [← HC0.out]; omega) (by omega)
          exact ⟨by rw [hr]; rfl, rfl⟩
        · go_ret3
          have hr := num_good l k (by rw [HL.out]; exact h2) h1 HALL.out (by rw [← HC0.out]; omega) (by omega)
          exact ⟨ret_three (by rw [hr, val_wrap0 l k c0 h1 HC0.out (by assumption)]) (by rw [hr]; simp) (by rw [hr]; rfl), rfl⟩
        · go_ret3
          have hr := num_good l k (by rw [HL.out]; exact h2) h1 HALL.out (by rw [← HC0.out]; omega) (by rw [← HC0.out]; omega)
          exact ⟨ret_three (by rw [hr, val_wrap l k c0 h1 HC0.out]) (by rw [hr]; simp) (by rw [hr]; rfl), rfl⟩
      · obtain rfl : k = n := by omega
        have hr := Lib.hid (num_none l k HL.out.symm h1 HALL.out)
        clear hcell1
        go_wp2
        go_ret3
        exact ⟨by rw [hr.out]; rfl, rfl⟩
    · obtain rfl : k = 9 := by omega
      have hr := Lib.hid (num_nine l (by rw [HL.out]; exact hkn) HALL.out)
      clear hcell1
      go_wp2
      go_ret3
      exact ⟨by rw [hr.out]; rfl, rfl⟩
theorem number_none (a : Option Addr) (c : Nat) (w : World) :
    Calls Try.prog 26 #[.slice a 0 c] w fun e w' => e = .returned (.tuple #[.int .i64 0, .int .i64 0, .int .i64 2]) ∧ w = w' := by
  go_enter Try.func26, Try.ntmps26
  go_wp2
  refine wp_loop_rounds 1 ?_
  rw [rounds_succ]
  go_wp2
  go_ret3
  exact ⟨rfl, rfl⟩
theorem number_any (a : Option Addr) (n c : Nat) (l : List UInt8) (w : World) (h : Row w a n c l) :
    Calls Try.prog 26 #[.slice a n c] w fun e w' => e = .returned (.tuple #[.int .i64 (numOf l).1, .int .i64 (numOf l).2.1, .int .i64 (numOf l).2.2]) ∧ w = w' := by
  obtain ⟨hl, hnc, hcm, hnil, hsome⟩ := h
  by_cases h0 : 0 < n
  · obtain ⟨b, off, rfl, _, hcell⟩ := hsome h0
    exact number_some b off n c l w hl h0 (by unfold maxLen at hcm; omega) hcell
  · obtain rfl : n = 0 := by omega
    have hr := num_none l 0 hl.symm (by omega) (fun j h => by omega)
    rw [hr]
    exact number_none a c w

/-! ### The error -/
theorem err_nil (w : World) : Calls Try.prog 20 #[.pointer none] w fun e w' => e = .returned (.int .i64 1) ∧ w = w' := by
  go_enter Try.func20, Try.ntmps20
  go_wp2
  go_ret
  exact ⟨rfl, rfl⟩
theorem err_at {yb : Nat} {l : List UInt8} {e : Int} {w : World} (h : EyeAt w yb l e) : Calls Try.prog 20 #[.pointer (some ⟨yb, 0, none⟩)] w fun r w' => r = .returned (.int .i64 e) ∧ w = w' := by
  obtain ⟨a, n, c, h1, _⟩ := h
  have c1 := two_cell1 h1
  clear h1
  go_enter Try.func20, Try.ntmps20
  go_wp2
  go_ret
  exact ⟨rfl, rfl⟩
theorem fail_nil (e : Int) (w : World) : Calls Try.prog 23 #[.pointer none, .int .i64 e] w fun r w' => r = .returned (.tuple #[]) ∧ w = w' := by
  go_enter Try.func23, Try.ntmps23
  go_wp2
  go_end0
  exact ⟨rfl, rfl⟩
theorem fail_first {yb : Nat} {l : List UInt8} {w : World} (e' : Int) (h : EyeAt w yb l 0) : Calls Try.prog 23 #[.pointer (some ⟨yb, 0, none⟩), .int .i64 e'] w fun r w' => r = .returned (.tuple #[]) ∧ EyeAt w' yb l e' ∧ But w.heap.size yb w w' := by
  have hs := h.setErr e'
  obtain ⟨a, n, c, h1, _⟩ := h
  have c1 := two_cell1 h1
  have f1 := two_free1 h1
  clear h1
  have HS := Lib.hid hs
  clear hs
  go_enter Try.func23, Try.ntmps23
  go_wp2
  go_end0
  exact ⟨rfl, HS.out, (But.refl _ yb _).setCell _ (.inl rfl) _⟩
theorem fail_later {yb : Nat} {l : List UInt8} {w : World} (e e' : Int) (he : e ≠ 0) (h : EyeAt w yb l e) : Calls Try.prog 23 #[.pointer (some ⟨yb, 0, none⟩), .int .i64 e'] w fun r w' => r = .returned (.tuple #[]) ∧ w = w' := by
  obtain ⟨a, n, c, h1, _⟩ := h
  have c1 := two_cell1 h1
  have he' : (e == 0) = false := by simpa using he
  clear h1 he
  go_enter Try.func23, Try.ntmps23
  go_wp2
  go_end0
  exact ⟨rfl, rfl⟩

/-! ### A number -/
theorem num_nil (w : World) : Calls Try.prog 14 #[.pointer none] w fun e w' => e = .returned (.int .i64 0) ∧ w = w' := by
  go_enter Try.func14, Try.ntmps14
  go_wp2_with (go_at_call 20; refine (err_nil _).mono ?_; rintro e w' ⟨rfl, rfl⟩)
  go_ret
  exact ⟨rfl, rfl⟩
theorem num_later {yb : Nat} {l : List UInt8} {w : World} (e : Int) (he : e ≠ 0) (h : EyeAt w yb l e) : Calls Try.prog 14 #[.pointer (some ⟨yb, 0, none⟩)] w fun r w' => r = .returned (.int .i64 0) ∧ w = w' := by
  have he' : (e == 0) = false := by simpa using he
  have he'' : (e != 0) = true := by simpa using he
  have H := Lib.hid h
  clear h he
  go_enter Try.func14, Try.ntmps14
  go_wp2_with (go_at_call 20; refine (err_at H.out).mono ?_; rintro r w' ⟨rfl, rfl⟩)
  go_ret
  exact ⟨rfl, rfl⟩
theorem number_is (a : Option Addr) (n c : Nat) (l : List UInt8) (w : World) (h : Row w a n c l) (v k x : Nat) (hv : numOf l = (v, k, x)) :
    Calls Try.prog 26 #[.slice a n c] w fun e w' => e = .returned (.tuple #[.int .i64 v, .int .i64 k, .int .i64 x]) ∧ w = w' := by
  have := number_any a n c l w h
  rw [hv] at this
  exact this
set_option maxHeartbeats 400000 in
theorem num_first {yb : Nat} {l : List UInt8} {w : World} (h : EyeAt w yb l 0) : Calls Try.prog 14 #[.pointer (some ⟨yb, 0, none⟩)] w fun r w' =>
    r = .returned (.int .i64 (numOf l).1) ∧ EyeAt w' yb (l.drop (numOf l).2.1) (numOf l).2.2 ∧ But w.heap.size yb w w' := by
  obtain ⟨v, k, x, hv, h1, h2, h3, h4, h5⟩ := num_facts l
  rw [hv]
  show Calls Try.prog 14 #[.pointer (some ⟨yb, 0, none⟩)] w fun r w' => r = .returned (.int .i64 (v : Nat)) ∧ EyeAt w' yb (l.drop k) (x : Nat) ∧ But w.heap.size yb w w'
  have H := Lib.hid h
  obtain ⟨a, n, c, hh, hrow, htag⟩ := h
  have hln : l.length = n := hrow.1
  have hnc : n ≤ c := hrow.2.1
  have hcm : c ≤ maxLen := hrow.2.2.1
  unfold maxLen at hcm
  have HROW := Lib.hid hrow
  have HTAG := Lib.hid htag
  clear htag
  have HH := Lib.hid hh
  have c0 := two_cell0 hh
  have f0 := two_free0 hh
  have hkn : k ≤ n := by omega
  have HV := Lib.hid hv
  clear hh hrow hv
  by_cases hx : x = 0
  · subst hx
    have HL := Lib.hid hln
    have hkp : 0 < k := h3 rfl
    clear h3 h4 h5 h2 hln
    by_cases hck : c = k
    · subst hck
      obtain rfl : n = c := by omega
      go_enter Try.func14, Try.ntmps14
      go_wp2_with (first | (go_at_call 20; refine (err_at H.out).mono ?_; rintro r w' ⟨rfl, rfl⟩) | (go_at_call 26; refine (number_is _ _ _ l _ HROW.out _ _ _ HV.out).mono ?_; rintro r w' ⟨rfl, rfl⟩))
      go_ret
      exact ⟨rfl, EyeAt.setLeft HH.out (by simpa using HROW.out.drop (k := n) (a' := a) (Nat.le_refl _) (fun _ => rfl) (fun h => by omega)) (Tag.zero _ _), (But.refl _ yb _).setCell _ (.inl rfl) _⟩
    · have hnp : 0 < n := by omega
      obtain ⟨b, off, rfl, _, _⟩ := HROW.out.2.2.2.2 hnp
      go_enter Try.func14, Try.ntmps14
      go_wp2_with (first | (go_at_call 20; refine (err_at H.out).mono ?_; rintro r w' ⟨rfl, rfl⟩) | (go_at_call 26; refine (number_is _ _ _ l _ HROW.out _ _ _ HV.out).mono ?_; rintro r w' ⟨rfl, rfl⟩))
      go_ret
      exact ⟨rfl, EyeAt.setLeft HH.out (HROW.out.drop (k := k) hkn (fun e => by cases e) (fun _ b' off' e => by cases e; rfl)) (HTAG.out.drop (k := k) (fun _ b' off' e => by cases e; rfl)), (But.refl _ yb _).setCell _ (.inl rfl) _⟩
  · obtain ⟨rfl, rfl⟩ := h4 hx
    have hx1 : ((x : Int) == 0) = false := by simpa using hx
    have hx2 : ((x : Int) != 0) = true := by simpa using hx
    clear h3 h4 h2 hx hln h1
    go_enter Try.func14, Try.ntmps14
    go_wp2_with (first | (go_at_call 20; refine (err_at H.out).mono ?_; rintro r w' ⟨rfl, rfl⟩) | (go_at_call 26; refine (number_is _ _ _ l _ HROW.out _ _ _ HV.out).mono ?_; rintro r w' ⟨rfl, rfl⟩) | (go_at_call 23; refine (fail_first _ H.out).mono ?_; rintro r w' ⟨rfl, he, hb⟩; have HE := Lib.hid he; clear he; have HB := Lib.hid hb; clear hb))
    go_ret
    exact ⟨rfl, HE.out, HB.out⟩

/-! ### So many bytes -/
theorem Try.info5 : (Try.prog.info? 5).map (fun i => (i.zero, i.size, i.bytes)) = some (some (.int .u8 0), 1, 1) := by kernel_rfl
theorem Try.size5 : (Try.prog.info? 5).map (·.size) = some 1 := by kernel_rfl

theorem own_full {w : World} {B g n : Nat} {xs : List Value} (h : w.ownsRow B 5 1 (.slice (some ⟨g, 0, none⟩) n n) n xs) : ∃ cur : List Value, w.heap[g]? = some (.cells cur.toArray 5 (0, 0)) ∧ cur.length = n ∧ B ≤ g := by
  obtain ⟨_, h⟩ := h
  rcases h with ⟨h, _⟩ | ⟨g', cap, cur, h, hB, hh, _, _, hs, _⟩
  · cases h
  · cases h
    exact ⟨cur.toList, by simpa using hh, by simpa using hs, hB⟩

/-- The cells of bytes. -/
def cellsOf (l : List UInt8) : List Value := l.map fun b => .int .u8 ((b.toNat : Nat) : Int)

theorem cellsOf_one (l : List UInt8) : ∀ v ∈ cellsOf l, v.oneCell' = true := by
  intro v hv
  obtain ⟨b, _, rfl⟩ := List.mem_map.1 hv
  rfl
theorem cellsOf_get {l : List UInt8} {j : Nat} (hj : j < l.length) : (cellsOf l)[j]? = some (.int .u8 (((l.getD j 0).toNat : Nat) : Int)) := by
  simp [cellsOf, List.getD, hj]

set_option maxHeartbeats 400000 in
theorem raw_good {yb n : Nat} {l : List UInt8} {w : World} (h : EyeAt w yb l 0) (hn : n ≤ l.length) (hm : l.length ≤ 140737488355328) : Calls Try.prog 21 #[.pointer (some ⟨yb, 0, none⟩), .int .i64 n] w fun r w' =>
    r = .returned (.slice (some ⟨w.heap.size, 0, none⟩) n n) ∧ Row w' (some ⟨w.heap.size, 0, none⟩) n n (l.take n) ∧ EyeAt w' yb (l.drop n) 0 ∧ But w.heap.size yb w w' := by
  have H := Lib.hid h
  have hlt := h.lt
  obtain ⟨a, N, c, hh, hrow, htag⟩ := h
  have hln : l.length = N := hrow.1
  have hnc : N ≤ c := hrow.2.1
  have hcm : c ≤ 9223372036854775807 := by have := hrow.2.2.1; unfold maxLen at this; omega
  have HROW := Lib.hid hrow
  have HTAG := Lib.hid htag
  clear htag
  have HH := Lib.hid hh
  have c0 := two_cell0 hh
  have f0 := two_free0 hh
  have hnN : n ≤ N := by omega
  have hn63 : n ≤ 140737488355328 := by omega
  have HL := Lib.hid hln
  clear hh hrow hln hn hm
  obtain ⟨i0, hi, hz0, hz1, hz2⟩ := info_parts Try.info5
  go_enter Try.func21, Try.ntmps21
  have hneg : decide ((n : Int) < 0) = false := by simp
  have hle : decide (N < n) = false := by simp; omega
  obtain ⟨cs, hcs⟩ : ∃ cs, cs = cellsOf (l.take n) := ⟨_, rfl⟩
  have hcl : cs.length = n := by rw [hcs, cellsOf, List.length_map, List.length_take]; have := HL.out; omega
  have h1c : ∀ v ∈ cs, v.oneCell' = true := by rw [hcs]; exact cellsOf_one _
  have HCL := Lib.hid hcl
  have HCS := Lib.hid hcs
  have H1C := Lib.hid h1c
  clear hcl hcs h1c
  go_wp2_with (first
    | (go_at_call 20; refine (err_at H.out).mono ?_; rintro r w' ⟨rfl, rfl⟩)
    | (at_make; refine wpList_make_full _ rfl (.tmp 22) (.tmp 22) 23 rfl w.heap.size 5 i0 (.int .u8 0) 1 Try.underlying23 hi hz0 hz1 .i64 .i64 _ _ n rfl rfl rfl rfl ?_ ?_ ?_ ?_))
  · rw [hz2]; omega
  · unfold maxLen; omega
  · exact Nat.le_refl _
  · intro w1 hown hgrow
    obtain ⟨cur, hcur, hcurl, _⟩ := own_full hown
    have hb1 : Below w.heap.size w w1 := (Below.refl _ _).grown hgrow (Nat.le_refl _) (fun k h => by cases h)
    have c1 : w1.cell? ⟨yb, 0, none⟩ = some (.slice a N c) := (hb1.cell (p := ⟨yb, 0, none⟩) hlt).trans c0
    have HCUR := Lib.hid hcur
    have HCURL := Lib.hid hcurl
    clear hown hgrow hcur hcurl
    go_wp2_with (with_reducible refine wpList_copy_splice rfl (.tmp 24) (.tmp 28) 23 23 rfl 5 Try.underlying23 Try.size5 _ _ n n N c rfl rfl w.heap.size 0 cur 5 HCUR.out cs ?_ ?_ ?_ ?_ w.heap.size w hb1 (Nat.le_refl _) ?_)
    · rw [HCL.out]; show n = min N n; omega
    · intro h0
      rw [HCL.out] at h0
      obtain ⟨b, off, rfl, hlt', hcell⟩ := HROW.out.2.2.2.2 (by omega)
      refine ⟨_, rfl, fun j v hj => ?_⟩
      have hjn : j < n := by
        have := (List.getElem?_eq_some_iff.1 hj).1
        rw [HCL.out] at this
        exact this
      rw [HCS.out, cellsOf_get (by rw [List.length_take, HL.out]; omega)] at hj
      have e1 : (⟨b, off, none⟩ : Addr).add j = ⟨b, off + j, none⟩ := by simp [Addr.add]
      rw [e1, hb1.cell (p := ⟨b, off + j, none⟩) hlt', hcell j (by omega), ← hj]
      simp [List.getD, hjn]
    · rw [HCL.out, HCURL.out]; omega
    · exact H1C.out
    · intro w2 hh2 hb2
      have c2 : w2.cell? ⟨yb, 0, none⟩ = some (.slice a N c) := (hb2.cell (p := ⟨yb, 0, none⟩) hlt).trans c0
      have f2 : w2.frozen? ⟨yb, 0, none⟩ = false := (hb2.frozen (p := ⟨yb, 0, none⟩) hlt).trans f0
      have HY : Hid (w2.heap[yb]? = some (.cells #[.slice a N c, .int .i64 0] 57 (0, 0))) := (hb2.block _ hlt).trans HH.out
      have HR2 : Hid (Row w2 a N c l) := HROW.out.below hb2
      have HT2 : Hid (Tag w2 a N) := HTAG.out.below hb2
      have HRES : Hid (Row w2 (some ⟨w.heap.size, 0, none⟩) n n (l.take n)) := by
        refine row_new (by rw [List.length_take, HL.out]; omega) (Nat.le_refl _) (by unfold maxLen; omega) _ 5 hh2.out (fun j hj => ?_)
        have hs : splice cur 0 cs = cs := by
          have e1 := HCL.out
          have e2 := HCURL.out
          simp [splice]; omega
        rw [hs, HCS.out]
        exact cellsOf_get (by rw [List.length_take, HL.out]; omega)
      have hz2' : w.heap.size ≤ w2.heap.size := hb2.size
      clear c1 c0 f0
      have HB2 := Lib.hid hb2
      have HB1 := Lib.hid hb1
      clear hb1 hb2
      have hyn : NoBytes w2 yb := noBytes_two HY.out (fun _ h => by cases h) (fun _ h => by cases h)
      have HN := Lib.hid hyn
      clear hyn
      by_cases hcn : c = n
      · subst hcn
        obtain rfl : N = c := by omega
        go_wp2
        go_ret
        exact ⟨rfl, HRES.out.but ((But.refl _ yb _).setCell _ (.inl rfl) _) HN.out, EyeAt.setLeft HY.out (by simpa using HR2.out.drop (k := N) (a' := a) (Nat.le_refl _) (fun _ => rfl) (fun h => by omega)) (Tag.zero _ _), (But.of HB2.out).setCell ⟨yb, 0, none⟩ (.inl rfl) _⟩
      · by_cases hN0 : N = 0
        · subst hN0
          obtain rfl : n = 0 := by omega
          go_wp2
          go_ret
          refine ⟨rfl, HRES.out.but ((But.refl _ yb _).setCell _ (.inl rfl) _) HN.out, ?_, (But.of HB2.out).setCell ⟨yb, 0, none⟩ (.inl rfl) _⟩
          have e0 : List.drop 0 l = l := rfl
          rw [e0]
          exact EyeAt.setLeft HY.out (by simpa using HR2.out) (Tag.zero _ _)
        · obtain ⟨b, off, rfl, _, _⟩ := HROW.out.2.2.2.2 (by omega)
          go_wp2
          go_ret
          exact ⟨rfl, HRES.out.but ((But.refl _ yb _).setCell _ (.inl rfl) _) HN.out, EyeAt.setLeft HY.out (HR2.out.drop (k := n) hnN (fun e => by cases e) (fun _ b' off' e => by cases e; rfl)) (HT2.out.drop (k := n) (fun _ b' off' e => by cases e; rfl)), (But.of HB2.out).setCell ⟨yb, 0, none⟩ (.inl rfl) _⟩
theorem raw_nil (n : Int) (w : World) : Calls Try.prog 21 #[.pointer none, .int .i64 n] w fun r w' => r = .returned (.slice none 0 0) ∧ w = w' := by
  go_enter Try.func21, Try.ntmps21
  go_wp2_with (go_at_call 20; refine (err_nil _).mono ?_; rintro r w' ⟨rfl, rfl⟩)
  go_ret
  exact ⟨rfl, rfl⟩
theorem raw_later {yb : Nat} {l : List UInt8} {w : World} (e n : Int) (he : e ≠ 0) (h : EyeAt w yb l e) : Calls Try.prog 21 #[.pointer (some ⟨yb, 0, none⟩), .int .i64 n] w fun r w' => r = .returned (.slice none 0 0) ∧ w = w' := by
  have he' : (e == 0) = false := by simpa using he
  have he'' : (e != 0) = true := by simpa using he
  have H := Lib.hid h
  clear h he
  go_enter Try.func21, Try.ntmps21
  go_wp2_with (go_at_call 20; refine (err_at H.out).mono ?_; rintro r w' ⟨rfl, rfl⟩)
  go_ret
  exact ⟨rfl, rfl⟩
theorem raw_bad {yb : Nat} {l : List UInt8} {w : World} (n : Int) (hn : n < 0 ∨ (l.length : Int) < n) (h : EyeAt w yb l 0) : Calls Try.prog 21 #[.pointer (some ⟨yb, 0, none⟩), .int .i64 n] w fun r w' =>
    r = .returned (.slice none 0 0) ∧ EyeAt w' yb l 2 ∧ But w.heap.size yb w w' := by
  have H := Lib.hid h
  obtain ⟨a, N, c, hh, hrow, htag⟩ := h
  have hln : l.length = N := hrow.1
  have c0 := two_cell0 hh
  clear hh hrow
  by_cases hneg : n < 0
  · have hd : decide (n < 0) = true := by simpa using hneg
    clear hn hln hneg
    go_enter Try.func21, Try.ntmps21
    go_wp2_with (first | (go_at_call 20; refine (err_at H.out).mono ?_; rintro r w' ⟨rfl, rfl⟩) | (go_at_call 23; refine (fail_first _ H.out).mono ?_; rintro r w' ⟨rfl, he, hb⟩; have HE := Lib.hid he; clear he; have HB := Lib.hid hb; clear hb))
    go_ret
    exact ⟨rfl, HE.out, HB.out⟩
  · have hd : decide (n < 0) = false := by simpa using hneg
    have hd2 : decide ((N : Int) < n) = true := by simp; omega
    clear hn hln hneg
    go_enter Try.func21, Try.ntmps21
    go_wp2_with (first | (go_at_call 20; refine (err_at H.out).mono ?_; rintro r w' ⟨rfl, rfl⟩) | (go_at_call 23; refine (fail_first _ H.out).mono ?_; rintro r w' ⟨rfl, he, hb⟩; have HE := Lib.hid he; clear he; have HB := Lib.hid hb; clear hb))
    go_ret
    exact ⟨rfl, HE.out, HB.out⟩

/-! ### A number that is at most another one -/
theorem upto_nil (m : Int) (w : World) : Calls Try.prog 19 #[.pointer none, .int .i64 m] w fun r w' => r = .returned (.int .i64 0) ∧ w = w' := by
  by_cases hm : m < 0
  all_goals
    go_enter Try.func19, Try.ntmps19
    go_wp2_with (first | (go_at_call 14; refine (num_nil _).mono ?_; rintro r w' ⟨rfl, rfl⟩) | (go_at_call 20; refine (err_nil _).mono ?_; rintro r w' ⟨rfl, rfl⟩) | (go_at_call 23; refine (fail_nil _ _).mono ?_; rintro r w' ⟨rfl, rfl⟩))
    go_ret
    exact ⟨rfl, rfl⟩
theorem upto_later {yb : Nat} {l : List UInt8} {w : World} (e m : Int) (he : e ≠ 0) (h : EyeAt w yb l e) : Calls Try.prog 19 #[.pointer (some ⟨yb, 0, none⟩), .int .i64 m] w fun r w' => r = .returned (.int .i64 0) ∧ w = w' := by
  have he'' : (e != 0) = true := by simpa using he
  have H := Lib.hid h
  have HE := Lib.hid he
  clear h he
  by_cases hm : m < 0
  all_goals
    go_enter Try.func19, Try.ntmps19
    go_wp2_with (first | (go_at_call 14; refine (num_later e HE.out H.out).mono ?_; rintro r w' ⟨rfl, rfl⟩) | (go_at_call 20; refine (err_at H.out).mono ?_; rintro r w' ⟨rfl, rfl⟩) | (go_at_call 23; refine (fail_later e _ HE.out H.out).mono ?_; rintro r w' ⟨rfl, rfl⟩))
    go_ret
    exact ⟨rfl, rfl⟩
theorem num_is {yb : Nat} {l : List UInt8} {w : World} (h : EyeAt w yb l 0) {v k x : Nat} (hv : numOf l = (v, k, x)) : Calls Try.prog 14 #[.pointer (some ⟨yb, 0, none⟩)] w fun r w' =>
    r = .returned (.int .i64 v) ∧ EyeAt w' yb (l.drop k) x ∧ But w.heap.size yb w w' := by
  have := num_first h
  rw [hv] at this
  exact this
/-- What Upto tells of bytes: the number, how many of them are read, the error. -/
def uptoOf (l : List UInt8) (m : Int) : Int × Nat × Int :=
  if (numOf l).2.2 ≠ 0 then (0, 0, (numOf l).2.2) else if m < (numOf l).1 then (0, (numOf l).2.1, 5) else ((numOf l).1, (numOf l).2.1, 0)
theorem upto_first {yb : Nat} {l : List UInt8} {w : World} (m : Int) (h : EyeAt w yb l 0) : Calls Try.prog 19 #[.pointer (some ⟨yb, 0, none⟩), .int .i64 m] w fun r w' =>
    r = .returned (.int .i64 (uptoOf l m).1) ∧ EyeAt w' yb (l.drop (uptoOf l m).2.1) (uptoOf l m).2.2 ∧ But w.heap.size yb w w' := by
  obtain ⟨v, k, x, hv, h1, h2, h3, h4, h5⟩ := num_facts l
  have HV := Lib.hid hv
  have H := Lib.hid h
  have hyb := h.noBytes
  have hlt := h.lt
  by_cases hx : x = 0
  · subst hx
    by_cases hm : m < (v : Int)
    · have hu : uptoOf l m = (0, k, 5) := by unfold uptoOf; rw [hv]; simp [hm]
      rw [hu]
      clear hu hv h h2 h3 h4 h5
      go_enter Try.func19, Try.ntmps19
      go_wp2_with (first | (go_at_call 14; refine (num_is H.out HV.out).mono ?_; rintro r w1 ⟨rfl, he1, hb1⟩; have HE1 := Lib.hid he1; clear he1; have HB1 := Lib.hid hb1; clear hb1) | (go_at_call 23; refine (fail_first _ HE1.out).mono ?_; rintro r w2 ⟨rfl, he2, hb2⟩; have HE2 := Lib.hid he2; clear he2; have HB2 := Lib.hid hb2; clear hb2) | (go_at_call 20; refine (err_at HE2.out).mono ?_; rintro r w' ⟨rfl, rfl⟩))
      go_ret
      exact ⟨rfl, HE2.out, HB1.out.trans (HB2.out.mono HB1.out.size)⟩
    · have hu : uptoOf l m = ((v : Int), k, 0) := by unfold uptoOf; rw [hv]; simp [hm]
      rw [hu]
      clear hu hv h h2 h3 h4 h5
      go_enter Try.func19, Try.ntmps19
      go_wp2_with (first | (go_at_call 14; refine (num_is H.out HV.out).mono ?_; rintro r w1 ⟨rfl, he1, hb1⟩; have HE1 := Lib.hid he1; clear he1; have HB1 := Lib.hid hb1; clear hb1) | (go_at_call 20; refine (err_at HE1.out).mono ?_; rintro r w' ⟨rfl, rfl⟩))
      go_ret
      exact ⟨rfl, HE1.out, HB1.out⟩
  · have hu : uptoOf l m = (0, 0, (x : Int)) := by unfold uptoOf; rw [hv]; simp [hx]
    rw [hu]
    obtain ⟨rfl, rfl⟩ := h4 hx
    have hx2 : ((x : Int) != 0) = true := by simpa using hx
    have HX : Hid ((x : Int) ≠ 0) := by show (x : Int) ≠ 0; omega
    clear hu hv h h1 h2 h3 h4 h5 hx
    by_cases hm : m < 0
    · go_enter Try.func19, Try.ntmps19
      go_wp2_with (first | (go_at_call 14; refine (num_is H.out HV.out).mono ?_; rintro r w1 ⟨rfl, he1, hb1⟩; have HE1 := Lib.hid he1; clear he1; have HB1 := Lib.hid hb1; clear hb1) | (go_at_call 23; refine (fail_later _ _ HX.out HE1.out).mono ?_; rintro r w2 ⟨rfl, rfl⟩) | (go_at_call 20; refine (err_at HE1.out).mono ?_; rintro r w' ⟨rfl, rfl⟩))
      go_ret
      exact ⟨rfl, HE1.out, HB1.out⟩
    · go_enter Try.func19, Try.ntmps19
      go_wp2_with (first | (go_at_call 14; refine (num_is H.out HV.out).mono ?_; rintro r w1 ⟨rfl, he1, hb1⟩; have HE1 := Lib.hid he1; clear he1; have HB1 := Lib.hid hb1; clear hb1) | (go_at_call 20; refine (err_at HE1.out).mono ?_; rintro r w' ⟨rfl, rfl⟩))
      go_ret
      exact ⟨rfl, HE1.out, HB1.out⟩
/-- What Raw tells of bytes: those that are read, those that are left, the error. -/
def rawOf (l : List UInt8) (n : Int) : List UInt8 × List UInt8 × Int := if n < 0 ∨ (l.length : Int) < n then ([], l, 2) else (l.take n.toNat, l.drop n.toNat, 0)
/-- A slice of the call's own is told, with l1; the eye has l2 left. -/
def Tells (yb : Nat) (l1 l2 : List UInt8) (e : Int) (w : World) (r : Ending) (w' : World) : Prop :=
  ∃ a n c, r = .returned (.slice a n c) ∧ Row w' a n c l1 ∧ (∀ x, a = some x → w.heap.size ≤ x.block) ∧ EyeAt w' yb l2 e ∧ But w.heap.size yb w w'
theorem raw_first {yb : Nat} {l : List UInt8} {w : World} (n : Int) (h : EyeAt w yb l 0) (hm : l.length ≤ 140737488355328) :
    Calls Try.prog 21 #[.pointer (some ⟨yb, 0, none⟩), .int .i64 n] w (Tells yb (rawOf l n).1 (rawOf l n).2.1 (rawOf l n).2.2 w) := by
  by_cases hb : n < 0 ∨ (l.length : Int) < n
  · have hr : rawOf l n = ([], l, 2) := by unfold rawOf; rw [if_pos hb]
    rw [hr]
    exact (raw_bad n hb h).mono fun r w' ⟨h1, h2, h3⟩ => ⟨none, 0, 0, h1, Row.nil w', fun x e => (by cases e), h2, h3⟩
  · have hr : rawOf l n = (l.take n.toNat, l.drop n.toNat, 0) := by unfold rawOf; rw [if_neg hb]
    rw [hr]
    obtain ⟨m, rfl⟩ := Int.eq_ofNat_of_zero_le (show 0 ≤ n by omega)
    rw [Int.toNat_natCast]
    exact (raw_good h (by omega) hm).mono fun r w' ⟨h1, h2, h3, h4⟩ => ⟨_, _, _, h1, h2, fun x e => (by cases e; exact Nat.le_refl _), h3, h4⟩

/-! ### A text -/
theorem text_nil (n : Int) (w : World) : Calls Try.prog 15 #[.pointer none, .int .i64 n] w fun r w' => r = .returned (.slice none 0 0) ∧ w = w' := by
  go_enter Try.func15, Try.ntmps15
  go_wp2_with (first | (go_at_call 19; refine (upto_nil _ _).mono ?_; rintro r w' ⟨rfl, rfl⟩) | (go_at_call 21; refine (raw_nil _ _).mono ?_; rintro r w' ⟨rfl, rfl⟩))
  go_ret
  exact ⟨rfl, rfl⟩
theorem text_later {yb : Nat} {l : List UInt8} {w : World} (e n : Int) (he : e ≠ 0) (h : EyeAt w yb l e) : Calls Try.prog 15 #[.pointer (some ⟨yb, 0, none⟩), .int .i64 n] w fun r w' => r = .returned (.slice none 0 0) ∧ w = w' := by
  have HE := Lib.hid he
  have H := Lib.hid h
  clear he h
  go_enter Try.func15, Try.ntmps15
  go_wp2_with (first | (go_at_call 19; refine (upto_later e _ HE.out H.out).mono ?_; rintro r w' ⟨rfl, rfl⟩) | (go_at_call 21; refine (raw_later e _ HE.out H.out).mono ?_; rintro r w' ⟨rfl, rfl⟩))
  go_ret
  exact ⟨rfl, rfl⟩
/-- What Text tells of bytes. -/
def textOf (l : List UInt8) (m : Int) : List UInt8 × List UInt8 × Int :=
  if (uptoOf l m).2.2 = 0 then rawOf (l.drop (uptoOf l m).2.1) (uptoOf l m).1 else ([], l.drop (uptoOf l m).2.1, (uptoOf l m).2.2)
theorem text_first {yb : Nat} {l : List UInt8} {w : World} (m : Int) (h : EyeAt w yb l 0) (hm : l.length ≤ 140737488355328) :
    Calls Try.prog 15 #[.pointer (some ⟨yb, 0, none⟩), .int .i64 m] w (Tells yb (textOf l m).1 (textOf l m).2.1 (textOf l m).2.2 w) := by
  have H := Lib.hid h
  clear h
  by_cases he : (uptoOf l m).2.2 = 0
  · have ht : textOf l m = rawOf (l.drop (uptoOf l m).2.1) (uptoOf l m).1 := by unfold textOf; rw [if_pos he]
    rw [ht]
    have HE := Lib.hid he
    clear he ht
    go_enter Try.func15, Try.ntmps15
    have HM : Hid ((l.drop (uptoOf l m).2.1).length ≤ 140737488355328) := by show _ ≤ _; rw [List.length_drop]; omega
    go_wp2_with (first | (go_at_call 19; refine (upto_first m H.out).mono ?_; rintro r w1 ⟨rfl, he1, hb1⟩; rw [HE.out] at he1; have HE1 := Lib.hid he1; clear he1; have HB1 := Lib.hid hb1; clear hb1; clear hm) | (go_at_call 21; refine (raw_first _ HE1.out HM.out).mono ?_; rintro r w2 ⟨a, n, c, rfl, hrow, hfr, heye, hbut⟩; have HT : Hid (Tells yb (rawOf (l.drop (uptoOf l m).2.1) (uptoOf l m).1).1 (rawOf (l.drop (uptoOf l m).2.1) (uptoOf l m).1).2.1 (rawOf (l.drop (uptoOf l m).2.1) (uptoOf l m).1).2.2 w1 (.returned (.slice a n c)) w2) := ⟨a, n, c, rfl, hrow, hfr, heye, hbut⟩; clear hrow hfr heye hbut))
    go_ret
    obtain ⟨a', n', c', he', hrow, hfr, heye, hbut⟩ := HT.out
    cases he'
    exact ⟨_, _, _, rfl, hrow, fun x hx => Nat.le_trans HB1.out.size (hfr x hx), heye, HB1.out.trans (hbut.mono HB1.out.size)⟩
  · have ht : textOf l m = ([], l.drop (uptoOf l m).2.1, (uptoOf l m).2.2) := by unfold textOf; rw [if_neg he]
    rw [ht]
    have HE := Lib.hid he
    clear he ht
    go_enter Try.func15, Try.ntmps15
    go_wp2_with (first | (go_at_call 19; refine (upto_first m H.out).mono ?_; rintro r w1 ⟨rfl, he1, hb1⟩; have HE1 := Lib.hid he1; clear he1; have HB1 := Lib.hid hb1; clear hb1; clear hm) | (go_at_call 21; refine (raw_later _ _ HE.out HE1.out).mono ?_; rintro r w2 ⟨rfl, rfl⟩))
    go_ret
    exact ⟨_, _, _, rfl, Row.nil _, (fun x hx => by cases hx), HE1.out, HB1.out⟩

/-! ### The end -/
theorem done_nil (w : World) : Calls Try.prog 17 #[.pointer none] w fun r w' => r = .returned (.int .i64 1) ∧ w = w' := by
  go_enter Try.func17, Try.ntmps17
  go_wp2_with (go_at_call 20; refine (err_nil _).mono ?_; rintro r w' ⟨rfl, rfl⟩)
  go_ret
  exact ⟨rfl, rfl⟩
theorem done_later {yb : Nat} {l : List UInt8} {w : World} (e : Int) (he : e ≠ 0) (h : EyeAt w yb l e) : Calls Try.prog 17 #[.pointer (some ⟨yb, 0, none⟩)] w fun r w' => r = .returned (.int .i64 e) ∧ w = w' := by
  have HE := Lib.hid he
  have H := Lib.hid h
  obtain ⟨a, N, c, hh, hrow, htag⟩ := h
  have c0 := two_cell0 hh
  clear he hh hrow
  by_cases hN : 0 < N
  · have hd : decide (0 < N) = true := by simpa using hN
    go_enter Try.func17, Try.ntmps17
    go_wp2_with (first | (go_at_call 23; refine (fail_later e _ HE.out H.out).mono ?_; rintro r w' ⟨rfl, rfl⟩) | (go_at_call 20; refine (err_at H.out).mono ?_; rintro r w' ⟨rfl, rfl⟩))
    go_ret
    exact ⟨rfl, rfl⟩
  · obtain rfl : N = 0 := by omega
    go_enter Try.func17, Try.ntmps17
    go_wp2_with (first | (go_at_call 23; refine (fail_later e _ HE.out H.out).mono ?_; rintro r w' ⟨rfl, rfl⟩) | (go_at_call 20; refine (err_at H.out).mono ?_; rintro r w' ⟨rfl, rfl⟩))
    go_ret
    exact ⟨rfl, rfl⟩
theorem done_all {yb : Nat} {w : World} (h : EyeAt w yb [] 0) : Calls Try.prog 17 #[.pointer (some ⟨yb, 0, none⟩)] w fun r w' => r = .returned (.int .i64 0) ∧ w = w' := by
  have H := Lib.hid h
  obtain ⟨a, N, c, hh, hrow, htag⟩ := h
  have hl := hrow.1
  have c0 := two_cell0 hh
  obtain rfl : N = 0 := by simpa using hl.symm
  clear hh hrow hl
  go_enter Try.func17, Try.ntmps17
  go_wp2_with (go_at_call 20; refine (err_at H.out).mono ?_; rintro r w' ⟨rfl, rfl⟩)
  go_ret
  exact ⟨rfl, rfl⟩
theorem done_left {yb : Nat} {l : List UInt8} {w : World} (hl : l ≠ []) (h : EyeAt w yb l 0) : Calls Try.prog 17 #[.pointer (some ⟨yb, 0, none⟩)] w fun r w' => r = .returned (.int .i64 3) ∧ EyeAt w' yb l 3 ∧ But w.heap.size yb w w' := by
  have H := Lib.hid h
  obtain ⟨a, N, c, hh, hrow, htag⟩ := h
  have hln := hrow.1
  have c0 := two_cell0 hh
  have hN : 0 < N := by
    cases l with
    | nil => exact absurd rfl hl
    | cons x l => simp at hln; omega
  have hd : decide (0 < N) = true := by simpa using hN
  clear hh hrow hln hl
  go_enter Try.func17, Try.ntmps17
  go_wp2_with (first | (go_at_call 23; refine (fail_first _ H.out).mono ?_; rintro r w1 ⟨rfl, he1, hb1⟩; have HE1 := Lib.hid he1; clear he1; have HB1 := Lib.hid hb1; clear hb1) | (go_at_call 20; refine (err_at HE1.out).mono ?_; rintro r w' ⟨rfl, rfl⟩))
  go_ret
  exact ⟨rfl, HE1.out, HB1.out⟩
/-! ### An eye at the front of bytes -/
set_option maxHeartbeats 400000 in
theorem look_any {a : Option Addr} {n c : Nat} {l : List UInt8} {w : World} (h : Row w a n c l) (hm : n ≤ 140737488355328) :
    Calls Try.prog 13 #[.slice a n c] w fun r w' => ∃ yb, r = .returned (.pointer (some ⟨yb, 0, none⟩)) ∧ w.heap.size ≤ yb ∧ EyeAt w' yb l 0 ∧ Below w.heap.size w w' := by
  have hln : l.length = n := h.1
  have HROW := Lib.hid h
  have HL := Lib.hid hln
  clear h hln
  obtain ⟨i0, hi, hz0, hz1, hz2⟩ := info_parts Try.info5
  obtain ⟨cs, hcs⟩ : ∃ cs, cs = cellsOf l := ⟨_, rfl⟩
  have hcl : cs.length = n := by rw [hcs, cellsOf, List.length_map]; exact HL.out
  have h1c : ∀ v ∈ cs, v.oneCell' = true := by rw [hcs]; exact cellsOf_one _
  have HCL := Lib.hid hcl
  have HCS := Lib.hid hcs
  have H1C := Lib.hid h1c
  clear hcl hcs h1c
  go_enter Try.func13, Try.ntmps13
  go_wp2_with (at_make; refine wpList_make_full _ rfl (.tmp 5) (.tmp 5) 23 rfl w.heap.size 5 i0 (.int .u8 0) 1 Try.underlying23 hi hz0 hz1 .i64 .i64 _ _ n rfl rfl rfl rfl ?_ ?_ ?_ ?_)
  · rw [hz2]; omega
  · unfold maxLen; omega
  · exact Nat.le_refl _
  · intro w1 hown hgrow
    obtain ⟨cur, hcur, hcurl, _⟩ := own_full hown
    have hb1 : Below w.heap.size w w1 := (Below.refl _ _).grown hgrow (Nat.le_refl _) (fun k h => by cases h)
    have HCUR := Lib.hid hcur
    have HCURL := Lib.hid hcurl
    clear hown hgrow hcur hcurl
    go_wp2_with (with_reducible refine wpList_copy_splice rfl (.tmp 7) (.tmp 8) 23 23 rfl 5 Try.underlying23 Try.size5 _ _ n n n c rfl rfl w.heap.size 0 cur 5 HCUR.out cs ?_ ?_ ?_ ?_ w.heap.size w hb1 (Nat.le_refl _) ?_)
    · rw [HCL.out]; show n = min n n; omega
    · intro h0
      rw [HCL.out] at h0
      obtain ⟨b, off, rfl, hlt', hcell⟩ := HROW.out.2.2.2.2 (by omega)
      refine ⟨_, rfl, fun j v hj => ?_⟩
      have hjn : j < n := by
        have := (List.getElem?_eq_some_iff.1 hj).1
        rw [HCL.out] at this
        exact this
      rw [HCS.out, cellsOf_get (by rw [HL.out]; omega)] at hj
      have e1 : (⟨b, off, none⟩ : Addr).add j = ⟨b, off + j, none⟩ := by simp [Addr.add]
      rw [e1, hb1.cell (p := ⟨b, off + j, none⟩) hlt', hcell j (by omega), ← hj]
    · rw [HCL.out, HCURL.out]; omega
    · exact H1C.out
    · intro w2 hh2 hb2
      have HRES : Hid (Row w2 (some ⟨w.heap.size, 0, none⟩) n n l) := by
        refine row_new HL.out (Nat.le_refl _) (by unfold maxLen; omega) _ 5 hh2.out (fun j hj => ?_)
        have hs : splice cur 0 cs = cs := by
          have e1 := HCL.out
          have e2 := HCURL.out
          simp [splice]; omega
        rw [hs, HCS.out]
        exact cellsOf_get (by rw [HL.out]; omega)
      have HTG : Hid (Tag w2 (some ⟨w.heap.size, 0, none⟩) n) := fun _ => ⟨_, _, _, _, rfl, hh2.out⟩
      have HB2 := Lib.hid hb2
      have HB1 := Lib.hid hb1
      clear hb1 hb2
      go_wp2
      go_ret
      exact ⟨_, rfl, HB2.out.size, ⟨_, _, _, heap_alloc_new w2 _, HRES.out.below ((Below.refl _ _).alloc (Nat.le_refl _) _), HTG.out.below ((Below.refl _ _).alloc (Nat.le_refl _) _)⟩, HB2.out.alloc HB2.out.size _⟩

/-! ### The law's own 'cut' -/
theorem cut_short {a : Option Addr} {n c : Nat} {w : World} (hn : n ≤ 200) : Calls Try.prog 7 #[.slice a n c] w fun r w' => r = .returned (.slice a n c) ∧ w = w' := by
  go_enter Try.func7, Try.ntmps7
  go_wp2
  go_ret
  exact ⟨rfl, rfl⟩
theorem cut_long {a : Option Addr} {n c : Nat} {w : World} (hn : 200 < n) (hnc : n ≤ c) (hc : c ≤ 9223372036854775807) : Calls Try.prog 7 #[.slice a n c] w fun r w' => r = .returned (.slice a 200 c) ∧ w = w' := by
  go_enter Try.func7, Try.ntmps7
  go_wp2
  go_ret
  exact ⟨rfl, rfl⟩
theorem cut_any {a : Option Addr} {n c : Nat} {l : List UInt8} {w : World} (h : Row w a n c l) : Calls Try.prog 7 #[.slice a n c] w fun r w' => r = .returned (.slice a (min n 200) c) ∧ Row w a (min n 200) c (l.take 200) ∧ w = w' := by
  by_cases hn : n ≤ 200
  · have e : min n 200 = n := by omega
    have e2 : l.take 200 = l := List.take_of_length_le (by rw [h.1]; exact hn)
    rw [e, e2]
    exact (cut_short hn).mono fun r w' ⟨h1, h2⟩ => ⟨h1, h, h2⟩
  · have e : min n 200 = 200 := by omega
    rw [e]
    exact (cut_long (by omega) h.2.1 (by have := h.2.2.1; unfold maxLen at this; omega)).mono fun r w' ⟨h1, h2⟩ => ⟨h1, h.take (by omega), h2⟩
end Go.Proofs.Ytdcieknblahoeaa
